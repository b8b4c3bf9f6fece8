/- The walk of TypesFlow. -/
import Derived.Test.YtahcgnmhhgcfmaaDoorCKProgW
import Derived.Test.YtahcgnmhhgcfmaaDoorCPlain
import Derived.Test.YtahcgnmhhgcfmaaDoorCVTypes
namespace Go.Proofs.YtahcgnmhhgcfmaaDoor
open Go.RowKit

theorem programS_fits (l : List Rw) (most : Nat) (hm : most ≤ 900) : ∀ x ∈ programS l most, x.length ≤ 1000000 ∧ ∀ y ∈ x, insFit y := fun x hx => by
  have key : ∀ k, (behS most (third l k)).length ≤ 1000000 ∧ ∀ y ∈ behS most (third l k), insFit y := fun k => by
    refine ⟨?_, fun y hy => ?_⟩
    · have := (code_inv most (third l k)).2
      simp [behS]
      omega
    · simp only [behS, List.mem_append, List.mem_singleton] at hy
      rcases hy with hy | rfl
      · exact insFit_of (code_bd _ _ y hy)
      · exact insFit_of done_bd
  simp only [programS, List.mem_cons, List.not_mem_nil, or_false] at hx
  rcases hx with rfl | rfl | rfl
  · exact key 0
  · exact key 1
  · exact key 2

theorem program_prog {w : World} {ao : Option Addr} {l : List Rw} {most : Nat} (hm : most ≤ 900) (h : KindsAt w ao (programS l most)) : ∃ A C, ProgAt w ao 3 A (lenOf (programS l most)) C (xOf (programS l most)) ∧ (ckS 3 (lenOf (programS l most)) (xOf (programS l most))) = (0, 0, 0) ∧ progFault 3 (lenOf (programS l most)) (xOf (programS l most)) = 0 := by
  obtain ⟨A, C, hP⟩ := prog_of h (by simp [programS]) (programS_fits l most hm)
  have hc : ckS 3 (lenOf (programS l most)) (xOf (programS l most)) = (0, 0, 0) := program_ok l most
  exact ⟨A, C, hP, hc, (ver_of (by rw [hc])).1⟩

theorem RfAt.reg {w : World} {base g cap L : Nat} {st : List Pt} {rows : List Value} (h : RfAt w base g cap L st rows) {i : Nat} {k : List Int} (hp : st[i]? = some (some k)) (hl : k.length = 8) :
    ∃ b o rc, w.cell? ⟨g, i, none⟩ = some (.slice (some ⟨b, o, none⟩) 8 rc) ∧ ∀ q : Nat, q < 8 → w.cell? ⟨b, o + q, none⟩ = some (.int .i64 (vAt k q)) := by
  obtain ⟨ra, rc, hc, hv⟩ := h.cell hp
  simp only [Option.getD_some, hl] at hc hv
  have at_ : ∀ q : Nat, q < 8 → k[q]? = some (vAt k q) := fun q hq => by
    have : q < k.length := by omega
    simp [vAt, List.getElem?_eq_getElem this]
  obtain ⟨b, o, rfl, _⟩ := hv 0 _ (at_ 0 (by omega))
  refine ⟨b, o, rc, hc, fun q hq => ?_⟩
  obtain ⟨b', o', e, hc'⟩ := hv q _ (at_ q hq)
  simp only [Option.some.injEq, Addr.mk.injEq, and_true] at e
  obtain ⟨rfl, rfl⟩ := e
  exact hc'

theorem flow_jz2 {x : Nat → Nat → Int} {L : Nat} {st : List Pt} (hx : RowOk L x) (hst : st = flowS x L) {i : Nat} (hi : i < L) {k : List Int} (hp : st[i]? = some (some k)) (h5 : x i 0 = 5) :
    ∃ (n2 : Nat) (k1 k2 : List Int), (i : Int) + x i 3 = n2 ∧ i + 1 < L ∧ n2 < L ∧ st[i + 1]? = some (some k1) ∧ st[n2]? = some (some k2) ∧ k1.length = 8 ∧ k2.length = 8 ∧
      (∀ r : Nat, r < 8 → vJoin (vAt k r) (vAt k1 r) = vAt k1 r) ∧ (∀ r : Nat, r < 8 → vJoin (vAt k r) (vAt k2 r) = vAt k2 r) := by
  subst hst
  have hk : vPt (flowS x L) i = some k := by simp [vPt, hp]
  have get : ∀ {n : Nat} {q : List Int}, n < L → vPt (flowS x L) n = some q → (flowS x L)[n]? = some (some q) := fun {n q} hn h => by
    have hl : n < (flowS x L).length := by rw [(flowS_good x L).1]; exact hn
    simp only [vPt, List.getElem?_eq_getElem hl, Option.getD_some] at h
    rw [List.getElem?_eq_getElem hl, h]
  obtain ⟨b1, k1, e1, l1, j1⟩ := flow_jz hx hi h5 hk (Or.inl rfl)
  obtain ⟨b2, k2, e2, l2, j2⟩ := flow_jz hx hi h5 hk (Or.inr rfl)
  have c1 : ((i : Int) + 1).toNat = i + 1 := by omega
  rw [c1] at e1
  exact ⟨((i : Int) + x i 3).toNat, k1, k2, by omega, by omega, by omega, get (by omega) e1, get (by omega) e2, l1, l2, j1, j2⟩

set_option maxRecDepth 100000 in
set_option maxHeartbeats 2000000 in
theorem typesFlow_walk (ra : Option Addr) (rc : Nat) (l : List Rw) (w : World) (hT : TabAt 0 w) (h : RawsAt w ra l) (hl : 32 * l.length ≤ 140737488351232) :
    Calls Tryd.prog 5 #[.slice ra l.length rc] w fun e w' => e = .returned (.bool true) ∧ Below w.heap.size w w' := by
  go_enter Tryd.func5, Tryd.ntmps5
  go_wp2_with fail
  refine (kprogram_any l ra rc 14 _ h (by omega) (by omega) hT).mono ?_
  rintro e w1 ⟨ao, cap, rfl, hb1, hK⟩
  go_wp2_with fail
  obtain ⟨N1, k2, b2, s2⟩ := boxes1 w1 (Obj.cells #[.slice ao 3 cap] 26)
  obtain ⟨A, C, hP, hck, hpf⟩ := program_prog (by omega) (hK.keeps k2)
  have hTW := (hT.keeps (Keeps.below hb1)).keeps k2
  have hbW := hb1.trans (b2.mono hb1.size)
  clear hK k2 b2 s2 h hl
  generalize lenOf (programS l 14) = L at *
  generalize xOf (programS l 14) = X at *
  generalize w1.alloc (Obj.cells #[.slice ao 3 cap] 26) = W at *
  have n1 := vCell_blk N1 0
  simp at n1
  go_loopg [23] 3 (fun gg s23 wr => ∃ r : Nat, r ≤ 3 ∧ gg = 3 - r ∧ s23 = .int .i64 r ∧ Below W.heap.size W wr)
  case atStart => exact ⟨0, by omega, rfl, rfl, Below.refl _ _⟩
  case round =>
    obtain ⟨r, hr, rfl, rfl, hb⟩ := hrel
    have hPr := hP.keeps (Keeps.below hb)
    have hTr := hTW.keeps (Keeps.below hb)
    have m1 := Keeps.below hb _ _ n1
    by_cases hr3 : r < 3
    · have hrz : (r : Int) < 3 := by omega
      obtain ⟨bo, oo, hao, hca⟩ := hPr.outer r hr3
      subst hao
      have hx := rowV_ok hpf hr3
      have hrow := hPr.rows r hr3
      go_wp2_with fail
      refine (types_ok _ 3 cap A L C X r _ hTr hPr hpf hr3).mono ?_
      rintro e w2 ⟨g, vc, rfl, hb2, rows, hRf⟩
      obtain ⟨Lr, hLr⟩ : ∃ Lr, Lr = L r := ⟨_, rfl⟩
      obtain ⟨x, hxe⟩ : ∃ x, x = X r := ⟨_, rfl⟩
      rw [← hLr] at hRf hrow hx hca ⊢
      rw [← hxe] at hRf hrow hx
      have hrow2 := hrow.keeps (Keeps.below hb2)
      have hb3 := hb.trans (hb2.mono hb.size)
      obtain ⟨st, hst⟩ : ∃ st, st = flowS x Lr := ⟨_, rfl⟩
      rw [← hst] at hRf
      have HST : Aside (st = flowS x Lr) := hst
      have hgd : VGood Lr st := by rw [hst]; exact flowS_good _ _
      have hL1 := hx.len
      obtain ⟨k0, hk0, hk08, _⟩ := (flowS_is x Lr).begins (by omega)
      rw [← hst] at hk0
      have hs0 : st[0]? = some (some k0) := by
        have : 0 < st.length := by rw [hgd.1]; omega
        simp [vPt, List.getElem?_eq_getElem this] at hk0
        rw [List.getElem?_eq_getElem this, hk0]
      obtain ⟨ra0, rc0, hc0, _⟩ := hRf.cell hs0
      simp [hk08] at hc0
      clear hst hPr hTr hca hrow hb hb2 m1 hk0 hLr hxe
      generalize A r = Ar at hrow2 ⊢
      generalize C r = Cr
      go_wp2_with fail
      go_loopg [52] Lr (fun gg s52 wq => ∃ i : Nat, i ≤ Lr ∧ gg = Lr - i ∧ s52 = .int .i64 i ∧ Below w2.heap.size w2 wq)
      case atStart => exact ⟨0, by omega, rfl, rfl, Below.refl _ _⟩
      case round =>
        obtain ⟨i, hi, rfl, rfl, hbq⟩ := hrel
        by_cases hiL : i < Lr
        · have hiz : (i : Int) < (Lr : Int) := by omega
          have hRq := hRf.below hbq
          have hrq := hrow2.keeps (Keeps.below hbq)
          obtain ⟨w3, hw3⟩ : ∃ w3, w3 = wr := ⟨_, rfl⟩
          subst hw3
          obtain ⟨rb, ro, hra, hcx⟩ := hrq i hiL
          subst hra
          have i0 := hcx 0 (by omega)
          have i1 := hcx 1 (by omega)
          have i2 := hcx 2 (by omega)
          have i3 := hcx 3 (by omega)
          obtain ⟨p, hp⟩ : ∃ p, st[i]? = some p := ⟨_, List.getElem?_eq_getElem (by rw [hgd.1]; exact hiL)⟩
          obtain ⟨rai, rci, hci, hvi⟩ := hRq.cell hp
          obtain ⟨B1, k3, b3, s3⟩ := boxes1 w3 (Obj.cells #[.int .i64 (x i 0), .int .i64 (x i 1), .int .i64 (x i 2), .int .i64 (x i 3)] 40)
          have hci3 := k3 _ _ hci
          have hbX := hbq.trans (b3.mono hbq.size)
          have x0 := vCell_blk B1 0
          have x3 := vCell_blk B1 3
          simp at x0 x3
          simp only [Nat.add_zero] at i0
          cases p with
          | none =>
            simp at hci hci3
            go_wp2_with fail
            go_roundg (Lr - (i + 1))
            case measure => go_light; omega
            case rel => go_light; exact ⟨i + 1, by omega, rfl, by go_num, hbX⟩
          | some k =>
            have hk8 : k.length = 8 := hgd.2 k (List.mem_of_getElem? hp)
            have J : Aside (x i 0 = 5 → _) := fun h5 => flow_jz2 hx HST.out hiL hp h5
            have hRX := hRq.below b3
            simp [hk8] at hci hci3
            clear hcx hrq
            generalize x i 0 = o at *
            generalize x i 1 = o1 at *
            generalize x i 2 = o2 at *
            generalize x i 3 = D at *
            by_cases h5 : o = 5
            · subst h5
              obtain ⟨n2, k1, k2, hn2, hi1, hn2L, p1, p2, l1, l2, j1, j2⟩ := J.out rfl
              clear J
              go_wp2_with fail
              have c3 : (w3.alloc (Obj.cells #[.int .i64 5, .int .i64 o1, .int .i64 o2, .int .i64 D] 40)).cell? ⟨w3.heap.size, 3, none⟩ = some (.int .i64 D) := by simp
              clear i0 i1 i2 i3 hci hci3 hvi B1 k3 b3 s3 x0 x3 hRq hrow2 hbq
              generalize w3.alloc (Obj.cells #[.int .i64 5, .int .i64 o1, .int .i64 o2, .int .i64 D] 40) = wX at *
              have hD : -1000 ≤ D ∧ D ≤ 1000 := by omega
              go_loopg [68] 8 (fun gg s68 wq => ∃ q : Nat, q ≤ 8 ∧ gg = 8 - q ∧ s68 = .int .i64 q ∧ Below wX.heap.size wX wq)
              case atStart => exact ⟨0, by omega, rfl, rfl, Below.refl _ _⟩
              case round =>
                obtain ⟨q, hq, rfl, rfl, hbr⟩ := hrel
                by_cases hq8 : q < 8
                · have hqz : (q : Int) < 8 := by omega
                  have c3r := Keeps.below hbr _ _ c3
                  have hRr := (hRX.below hbr).below (below_box wr (Obj.cells #[.int .i64 ((i : Int) + 1), .int .i64 n2] 3))
                  have hbr2 := hbr.alloc hbr.size (Obj.cells #[.int .i64 ((i : Int) + 1), .int .i64 n2] 3)
                  go_wp2_with fail
                  have d0 : (wr.alloc (Obj.cells #[.int .i64 ((i : Int) + 1), .int .i64 n2] 3)).cell? ⟨wr.heap.size, 0, none⟩ = some (.int .i64 ((i : Int) + 1)) := by simp
                  have d1 : (wr.alloc (Obj.cells #[.int .i64 ((i : Int) + 1), .int .i64 n2] 3)).cell? ⟨wr.heap.size, 1, none⟩ = some (.int .i64 n2) := by simp
                  clear c3 c3r hRX hD
                  obtain ⟨wY, hwY⟩ : ∃ wY, wY = wr := ⟨_, rfl⟩
                  subst hwY
                  generalize wY.alloc (Obj.cells #[.int .i64 ((i : Int) + 1), .int .i64 n2] 3) = WB at *
                  go_loopg [79] 2 (fun gg s79 wq => ∃ j : Nat, j ≤ 2 ∧ gg = 2 - j ∧ s79 = .int .i64 j ∧ Below WB.heap.size WB wq)
                  case atStart => exact ⟨0, by omega, rfl, rfl, Below.refl _ _⟩
                  case round =>
                    obtain ⟨j, hj, rfl, rfl, hbj⟩ := hrel
                    by_cases hj2 : j < 2
                    · have hjz : (j : Int) < 2 := by omega
                      have hRj := hRr.below hbj
                      have HN : ∃ (n : Nat) (kn : List Int), WB.cell? ⟨wY.heap.size, j, none⟩ = some (.int .i64 n) ∧ n < Lr ∧ st[n]? = some (some kn) ∧ kn.length = 8 ∧ vJoin (vAt k q) (vAt kn q) = vAt kn q := by
                        rcases (by omega : j = 0 ∨ j = 1) with rfl | rfl
                        · exact ⟨i + 1, k1, by rw [d0]; simp, hi1, p1, l1, j1 q hq8⟩
                        · exact ⟨n2, k2, d1, hn2L, p2, l2, j2 q hq8⟩
                      obtain ⟨n, kn, dn, hnL, pn, ln, jn⟩ := HN
                      have dn' := Keeps.below hbj _ _ dn
                      obtain ⟨ba, oa, ca, a1, a2⟩ := hRj.reg hp hk8
                      obtain ⟨bb, ob, cb, b1, b2⟩ := hRj.reg pn ln
                      have a3 := a2 q hq8
                      have b3 := b2 q hq8
                      have hnz : (n : Int) < (Lr : Int) := by omega
                      clear a2 b2 dn pn ln p1 p2 l1 l2 j1 j2 hn2 hi1 hn2L d0 d1 hRr hRj
                      generalize vAt k q = va at *
                      generalize vAt kn q = vb at *
                      go_wp2_with fail
                      go_quiet (first | (go_at_call 20; refine Calls.quiet_of_same (join_any va vb _)))
                      rw [jn]
                      go_wp2_with fail
                      go_roundg (2 - (j + 1))
                      case measure => go_light; omega
                      case rel => go_light; exact ⟨j + 1, by omega, rfl, by go_num, below_drewN hbj _⟩
                    · obtain rfl : j = 2 := by omega
                      go_wp2_with fail
                      go_roundg (8 - (q + 1))
                      case measure => go_light; omega
                      case rel => go_light; exact ⟨q + 1, by omega, rfl, by go_num, hbr2.trans (hbj.mono hbr2.size)⟩
                · obtain rfl : q = 8 := by omega
                  go_wp2_with fail
                  go_roundg (Lr - (i + 1))
                  case measure => go_light; omega
                  case rel => go_light; exact ⟨i + 1, by omega, rfl, by go_num, hbX.trans (hbr.mono hbX.size)⟩
            · have h5b : (o != 5) = true := by simp [h5]
              clear J
              go_wp2_with fail
              go_roundg (Lr - (i + 1))
              case measure => go_light; omega
              case rel => go_light; exact ⟨i + 1, by omega, rfl, by go_num, hbX⟩
        · obtain rfl : i = Lr := by omega
          go_wp2_with fail
          go_roundg (3 - (r + 1))
          case measure => go_light; omega
          case rel => go_light; exact ⟨r + 1, by omega, rfl, by go_num, hb3.trans (hbq.mono hb3.size)⟩
    · obtain rfl : r = 3 := by omega
      have hty : tyErr 3 L X 3 = 6 := by simp [tyErr, hpf]
      go_wp2_with fail
      refine (types_bad ao 3 cap A L C X 3 _ hTr hPr (by rw [hty]; decide)).mono ?_
      rintro e w2 ⟨rfl, hb2⟩
      rw [hty]
      have hb3 := hb.trans (hb2.mono hb.size)
      have m2 := Keeps.below hb2 _ _ m1
      have hP2 := hPr.keeps (Keeps.below hb2)
      have hT2 := hTr.keeps (Keeps.below hb2)
      clear hb2 hb m1 hTr hPr
      go_wp2_with fail
      refine (vcheck_any ao 3 cap A L C X _ hT2 hP2).mono ?_
      rintro e w3 ⟨rfl, hb4⟩
      rw [hck]
      have hb5 := hb3.trans (hb4.mono hb3.size)
      clear hb4
      go_wp2_with fail
      go_ret
      exact ⟨ret_bool (by simp), hbW.trans (hb5.mono hbW.size)⟩

end Go.Proofs.YtahcgnmhhgcfmaaDoor
