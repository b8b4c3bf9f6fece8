/- The reference's flowOf: the rounds over a behavior. -/
import Derived.Test.YtahcgnmhhgcfmaaDoorCRWays
import Derived.Test.YtahcgnmhhgcfmaaDoorCPlain
import Derived.Test.YtahcgnmhhgcfmaaDoorCVGoes
import Derived.Deep.DeepCutAuto
import Derived.Deep.QuietTactic
import Derived.BigQuiet
namespace Go.Proofs.YtahcgnmhhgcfmaaDoor
open Go.RowKit

/-- What is known at each instruction, a list a row; nothing at all: it was never come to. -/
structure RfAt (w : World) (base g cap L : Nat) (st : List Pt) (rows : List Value) : Prop where
  own : w.ownsRow base 48 1 (.slice (some ⟨g, 0, none⟩) L cap) L rows
  row : ∀ (i : Nat) p, st[i]? = some p → ∃ ra rc, rows[i]? = some (.slice ra (p.getD []).length rc) ∧ VInts w ra (p.getD []) ∧ (∀ b o, ra = some ⟨b, o, none⟩ → b ≠ g)

theorem RfAt.lt {w : World} {base g cap L : Nat} {st : List Pt} {rows : List Value} (h : RfAt w base g cap L st rows) : base ≤ g ∧ g < w.heap.size := World.ownsRow.lt h.own g rfl

theorem RfAt.below {w w' : World} {base g cap L : Nat} {st : List Pt} {rows : List Value} (h : RfAt w base g cap L st rows) (hb : Below w.heap.size w w') : RfAt w' base g cap L st rows where
  own := World.ownsRow.kept h.own (row := none) ⟨hb.os, hb.tape, hb.output, hb.size, fun j hj _ => hb.block j hj⟩ (Or.inr (by simp [Value.ownBlock]))
  row := fun i p hp => by
    obtain ⟨ra, rc, h1, h2, h3⟩ := h.row i p hp
    exact ⟨ra, rc, h1, h2.other (fun b o _ hlt => hb.block _ hlt), h3⟩

theorem RfAt.cell {w : World} {base g cap L : Nat} {st : List Pt} {rows : List Value} (h : RfAt w base g cap L st rows) {i : Nat} {p : Pt} (hp : st[i]? = some p) : ∃ ra rc, w.cell? ⟨g, i, none⟩ = some (.slice ra (p.getD []).length rc) ∧ VInts w ra (p.getD []) := by
  obtain ⟨ra, rc, h1, h2, _⟩ := h.row i p hp
  exact ⟨ra, rc, ownsRow_at h.own rfl h1, h2⟩

/-- A list is stored. -/
theorem RfAt.put {w : World} {base g cap L : Nat} {st : List Pt} {rows : List Value} (h : RfAt w base g cap L st rows) (hl : st.length = L) {t : Nat} (ht : t < L) {k : List Int} {va : Option Addr} {vc : Nat} (hV : VInts w va k) (hg : ∀ b o, va = some ⟨b, o, none⟩ → b ≠ g) :
    RfAt (w.setCell ⟨g, t, none⟩ (.slice va k.length vc)) base g cap L (st.set t (some k)) (rows.set t (.slice va k.length vc)) where
  own := by
    have hlen : rows.length = L := by have := h.own.1; omega
    exact ownsRow_putAt h.own rfl t [.slice va k.length vc] (by simp; omega)
  row := fun i p hp => by
    have hlen : rows.length = L := by have := h.own.1; omega
    have oth : ∀ {ra : Option Addr} {l : List Int}, VInts w ra l → (∀ b o, ra = some ⟨b, o, none⟩ → b ≠ g) → VInts (w.setCell ⟨g, t, none⟩ (.slice va k.length vc)) ra l := fun hv hn => hv.other (fun b o e _ => Deep.blk_setCell_other w ⟨g, t, none⟩ _ b (hn b o e))
    rw [List.getElem?_set] at hp ⊢
    by_cases e : t = i
    · subst e
      rw [if_pos rfl, if_pos (by omega)] at hp
      rw [if_pos rfl, if_pos (by omega)]
      simp only [Option.some.injEq] at hp
      subst hp
      exact ⟨va, vc, rfl, oth hV hg, hg⟩
    · rw [if_neg e] at hp ⊢
      obtain ⟨ra, rc, h1, h2, h3⟩ := h.row i p hp
      exact ⟨ra, rc, h1, oth h2 h3, h3⟩

/-- The first r registers are joined, the others are 0 yet. -/
def kZ (p on : List Int) : Nat → List Int
  | 0 => [0, 0, 0, 0, 0, 0, 0, 0]
  | r + 1 => vPut (kZ p on r) r (vJoin (vAt p r) (vAt on r))

theorem kZ_len (p on : List Int) : ∀ r, (kZ p on r).length = 8
  | 0 => rfl
  | r + 1 => by rw [kZ, vPut_length]; exact kZ_len p on r

theorem kZ_at (p on : List Int) : ∀ r : Nat, r ≤ 8 → ∀ i : Nat, i < r → vAt (kZ p on r) i = vJoin (vAt p i) (vAt on i)
  | 0, _, i, hi => by omega
  | r + 1, hr, i, hi => by
    rw [kZ, vAt_put (kZ_len p on r) (by omega)]
    by_cases e : i = r
    · subst e; rw [if_pos rfl]
    · rw [if_neg e]; exact kZ_at p on r (by omega) i (by omega)

theorem kZ_all {p on : List Int} (hp : p.length = 8) (ho : on.length = 8) : kZ p on 8 = List.zipWith vJoin p on := by
  refine vAt_ext (kZ_len p on 8) (by simp [hp, ho]) fun i hi => ?_
  rw [kZ_at p on 8 (by omega) i hi]
  unfold vAt
  simp only [Int.toNat_natCast, List.getElem?_zipWith]
  rw [List.getElem?_eq_getElem (by omega), List.getElem?_eq_getElem (by omega)]
  rfl

theorem vInts_regs {w : World} {B : Nat} {k : List Int} {t : TypeId} (h : w.heap[B]? = some (.cells (regA k) t (0, 0))) (hk : k.length = 8) : VInts w (some ⟨B, 0, none⟩) k := fun i z hz => by
  have hi : i < 8 := by rw [← hk]; exact (List.getElem?_eq_some_iff.1 hz).1
  refine ⟨B, 0, rfl, ?_⟩
  rw [Nat.zero_add, reg_at h hi]
  have := vAt_some hk hi
  rw [hz] at this
  simp only [Option.some.injEq] at this
  rw [this]

theorem Tryd.infoS : (Tryd.prog.info? 48).map (fun i => (i.zero, i.size, i.bytes)) = some (some (.slice none 0 0), 1, 24) := by kernel_rfl

set_option maxRecDepth 100000 in
set_option maxHeartbeats 2000000 in
theorem flowOf_any (ao : Option Addr) (L rc : Nat) (x : Nat → Nat → Int) (w : World) (hrow : RowAt w ao L x) (hx : RowOk L x) :
    Calls Tryd.prog 52 #[.slice ao L rc] w fun e w' => ∃ g cap, e = .returned (.slice (some ⟨g, 0, none⟩) L cap) ∧ Below w.heap.size w w' ∧ ∃ rows, RfAt w' w.heap.size g cap L (flowS x L) rows := by
  have hL := hx.len
  have hmk := run_make_wide (P := Tryd.prog) 1 42 48 _ 24 Tryd.underlying42 Tryd.infoS .i64 .i64 L (by omega) (by omega)
  have hown := ownsRow_made (f := fun u : Value => [u]) (fun _ => rfl) (by decide) #[.slice none 0 0] (.slice none 0 0) rfl w w.heap.size L 48 (Nat.le_refl _) (by unfold maxLen; omega)
  have b1 := below_box w (.cells (madeCells #[.slice none 0 0] (L * 1)) 48)
  go_enter Tryd.func52, Tryd.ntmps52
  go_upto_region 2 with fail
  rw [Nat.mul_one] at hown b1
  obtain ⟨g, hg⟩ : ∃ g, g = w.heap.size := ⟨_, rfl⟩
  have hgw : w.heap.size ≤ g := by omega
  have hR0 : RfAt (w.alloc (Obj.cells (madeCells #[Value.slice none 0 0] L) 48)) w.heap.size g L L (List.replicate L none) (List.replicate L (.slice none 0 0)) := by
    refine ⟨?_, fun i p hp => ?_⟩
    · rw [hg]
      have e : (List.replicate L (Value.slice none 0 0)).flatMap (fun u : Value => [u]) = List.replicate L (.slice none 0 0) := by simp
      rw [e] at hown
      exact hown
    · rw [List.getElem?_replicate] at hp ⊢
      split at hp
      · rename_i hi
        simp only [Option.some.injEq] at hp
        subst hp
        rw [if_pos hi]
        exact ⟨none, 0, rfl, fun i z hz => by simp at hz, fun b o h => by cases h⟩
      · cases hp
  rw [← hg]
  clear hmk hown hg
  generalize w.alloc (Obj.cells (madeCells #[Value.slice none 0 0] L) 48) = W at *
  obtain ⟨ra0, rc0, c0, _⟩ := hR0.cell (i := 0) (p := none) (by rw [List.getElem?_replicate, if_pos (by omega)])
  have hgl := hR0.lt.2
  have hfz : ∀ j, W.frozen? ⟨g, j, none⟩ = false := fun j => ownsRow_frozenAt hR0.own rfl j
  have hLz : (0 : Int) < (L : Int) := by omega
  obtain ⟨I1, k1, bb1, s1⟩ := boxes1 W (Obj.cells (regA [3, 3, 0, 0, 0, 0, 0, 0]) 3)
  have hR1 := (hR0.below bb1).put (by simp) (t := 0) (by omega) (k := [3, 3, 0, 0, 0, 0, 0, 0]) (va := some ⟨W.heap.size, 0, none⟩) (vc := 8) (vInts_regs I1 rfl) (fun b o h => by simp at h; omega)
  have HR1 : Aside (RfAt ((W.alloc (Obj.cells (regA [3, 3, 0, 0, 0, 0, 0, 0]) 3)).setCell ⟨g, 0, none⟩ (.slice (some ⟨W.heap.size, 0, none⟩) 8 8)) w.heap.size g L L (vStart L) ((List.replicate L (.slice none 0 0)).set 0 (.slice (some ⟨W.heap.size, 0, none⟩) 8 8)) ∧ Below w.heap.size w ((W.alloc (Obj.cells (regA [3, 3, 0, 0, 0, 0, 0, 0]) 3)).setCell ⟨g, 0, none⟩ (.slice (some ⟨W.heap.size, 0, none⟩) 8 8))) :=
    ⟨hR1, (b1.trans (bb1.mono b1.size)).setCell (by show w.heap.size ≤ g; exact hgw) _⟩
  clear hR0 hR1 I1 k1 bb1 s1 b1
  have hcomm : (W.alloc (Obj.cells (regA [3, 3, 0, 0, 0, 0, 0, 0]) 3)).setCell ⟨g, 0, none⟩ (.slice (some ⟨W.heap.size, 0, none⟩) 8 8) = (W.setCell ⟨g, 0, none⟩ (.slice (some ⟨W.heap.size, 0, none⟩) 8 8)).alloc (Obj.cells (regA [3, 3, 0, 0, 0, 0, 0, 0]) 3) := World.setCell_alloc_past _ _ _ _ hgl
  rw [hcomm] at HR1
  clear hcomm
  go_upto_region 4 with fail
  change Code.wp _ _ _ _ ((W.setCell ⟨g, 0, none⟩ (.slice (some ⟨W.heap.size, 0, none⟩) 8 8)).alloc (Obj.cells (regA [3, 3, 0, 0, 0, 0, 0, 0]) 3))
  obtain ⟨hR1, hb1⟩ := HR1.out
  clear HR1 c0 hgl hfz
  generalize (W.setCell ⟨g, 0, none⟩ (.slice (some ⟨W.heap.size, 0, none⟩) 8 8)).alloc (Obj.cells (regA [3, 3, 0, 0, 0, 0, 0, 0]) 3) = W1 at *
  go_loopg [4] (vMu (vStart L) + 1) (fun g' s4 wr => ∃ (n : Nat) (ch : Bool) (rows : List Value), g' = (if ch then vMu (vIter x L n (vStart L)) + 1 else 0) ∧ s4 = .bool ch ∧ RfAt wr w.heap.size g L L (vIter x L n (vStart L)) rows ∧ Below w.heap.size w wr ∧ Aside (ch = false → vRound x L (vIter x L n (vStart L)) = vIter x L n (vStart L)))
  case atStart => exact ⟨0, true, _, rfl, rfl, hR1, hb1, fun h => by cases h⟩
  case round =>
    clear hR1 hb1
    obtain ⟨n, ch, rows, hgh, rfl, hR, hb, hfix⟩ := hrel
    have hgd := good_iterS (x := x) n (vgood_start L)
    obtain ⟨st, hst⟩ : ∃ st, st = vIter x L n (vStart L) := ⟨_, rfl⟩
    have HST : Aside (st = vIter x L n (vStart L)) := hst
    rw [← hst] at hR hgd hfix hgh
    clear hst
    have HGH := show Aside _ from hgh
    clear hgh
    cases ch with
    | false =>
      have HF : Aside (flowS x L = st) := (show IsFlow x L st from ⟨⟨n, HST.out⟩, hfix.out rfl⟩).eq.symm
      go_wp2
      go_ret
      exact ⟨g, L, rfl, hb, rows, by rw [HF.out]; exact hR⟩
    | true =>
      have mu := vTurns_mu hgd x
      go_wp2_with fail
      go_loopg [4, 5] L (fun g' s4 s5 wr => ∃ (i : Nat) (ch : Bool), i ≤ L ∧ g' = L - i ∧ s5 = .int .i64 i ∧ s4 = .bool ch ∧ Below w.heap.size w wr ∧ Aside (ch = decide (vTurns x st i ≠ st)) ∧ ∃ rows, RfAt wr w.heap.size g L L (vTurns x st i) rows)
      case atStart => exact ⟨0, false, Nat.zero_le _, rfl, rfl, rfl, hb, by show false = decide (vTurns x st 0 ≠ st); simp [vTurns], rows, hR⟩
      case round =>
        clear hR hb
        obtain ⟨i, ch, hi, rfl, rfl, rfl, hb, HCH, rows, hR⟩ := hrel
        by_cases hiL : i < L
        · have hiz : (i : Int) < (L : Int) := by omega
          have hi0 : (0 : Int) ≤ (i : Int) := Int.natCast_nonneg _
          obtain ⟨b, o, rfl, hc⟩ := (hrow.keeps (Keeps.below hb)) i hiL
          have a0 : wr.cell? ⟨b, o + i * 4, none⟩ = some (.int .i64 (x i 0)) := by simpa using hc 0 (by omega)
          have a1 := hc 1 (by omega)
          have a2 := hc 2 (by omega)
          have a3 := hc 3 (by omega)
          have ha01 := hx.a i hiL
          have hb01 := hx.b i hiL
          have hbo := hx.op i hiL
          have hn60 := hx.n i hiL
          have hgo := hx.goes i hiL
          generalize e0 : x i 0 = op at a0 hbo hn60 hgo
          generalize e1 : x i 1 = av at a1 ha01
          generalize e2 : x i 2 = bv at a2 hb01
          generalize e3 : x i 3 = nn at a3 hn60 hgo
          obtain ⟨ra, rfl⟩ := Int.eq_ofNat_of_zero_le ha01.1
          obtain ⟨rb, rfl⟩ := Int.eq_ofNat_of_zero_le hb01.1
          have E0 : Aside (x i 0 = op ∧ x i 1 = (ra : Int) ∧ x i 2 = (rb : Int) ∧ x i 3 = nn) := ⟨e0, e1, e2, e3⟩
          clear e0 e1 e2 e3
          have hra8 : ra < 8 := by omega
          have hrb8 : rb < 8 := by omega
          clear ha01 hb01
          have hgi := hgd.turns x i
          obtain ⟨cur, hcur⟩ : ∃ cur, cur = vTurns x st i := ⟨_, rfl⟩
          have HCUR : Aside (cur = vTurns x st i) := hcur
          rw [← hcur] at hR hgi HCH
          clear hcur hc
          obtain ⟨p, hp⟩ : ∃ p, cur[i]? = some p := ⟨cur[i]'(by rw [hgi.1]; exact hiL), List.getElem?_eq_getElem _⟩
          obtain ⟨pa, pcap, pc, hpV⟩ := hR.cell hp
          have hgl := hR.lt.2
          cases p with
          | none =>
            have hnx : Aside (vTurns x st (i + 1) = cur) := by
              show vTurns x st (i + 1) = cur
              rw [vTurns_succ, ← HCUR.out]
              unfold vTurn vPt
              rw [hp]; rfl
            simp only [Option.getD_none, List.length_nil] at pc
            go_wp2
            go_roundg (L - (i + 1))
            case measure => go_light; omega
            case rel =>
              go_light
              refine ⟨i + 1, ch, by omega, rfl, by go_num, rfl, hb, ?_, rows, ?_⟩
              · show ch = _
                rw [hnx.out]; exact HCH.out
              · rw [hnx.out]; exact hR
          | some k =>
            have hk8 : k.length = 8 := hgi.2 k (List.mem_of_getElem? hp)
            simp only [Option.getD_some] at pc hpV
            rw [hk8] at pc
            have hblt := World.block_lt_of_cell? _ _ a0
            obtain ⟨on, hon⟩ : ∃ on, on = vBehind op ra rb k := ⟨_, rfl⟩
            have ho8 : on.length = 8 := by rw [hon, vBehind_length]; exact hk8
            have HON : Aside (on = vBehind op ra rb k) := hon
            clear hon
            go_upto_region 10 with fail
            go_cut [6] (fun s6 wc => ∃ (va : Option Addr) (vc : Nat), s6 = .slice va 8 vc ∧ Below wr.heap.size wr wc ∧ VInts wc va on ∧ (∀ b o, va = some ⟨b, o, none⟩ → wr.heap.size ≤ b))
            case first =>
              refine wp_region_need (fun j => true) (fun w' => w'.cell? ⟨g, i, none⟩ = some (.slice pa 8 pcap) ∧ w'.cell? ⟨b, o + i * 4, none⟩ = some (.int .i64 op) ∧ w'.cell? ⟨b, o + i * 4 + 1, none⟩ = some (.int .i64 (ra : Int)) ∧ w'.cell? ⟨b, o + i * 4 + 2, none⟩ = some (.int .i64 (rb : Int)) ∧ w'.cell? ⟨b, o + i * 4 + 3, none⟩ = some (.int .i64 nn)) (by kernel_rfl) ⟨pc, a0, a1, a2, a3⟩ (fun hS => ?_)
              refine wpAnyN_take (i := 0) (v := ?v1) rfl (by kernel_rfl) (by kernel_rfl) (by kernel_rfl) (by kernel_rfl) (fun _ _ _ h => h) (by rfl) ?hy1 hS ?rest1
              case hy1 => (intro wy hSy; (try dsimp only at hSy); go_simp; try (with_reducible rfl))
              simp only [Act.put, List.getElem_toArray, List.getElem_cons_zero, List.setIfInBounds_toArray, List.set_cons_zero, List.set_cons_succ]
              refine wpAnyN_take (i := 1) (v := ?v2) rfl (by kernel_rfl) (by kernel_rfl) (by kernel_rfl) (by kernel_rfl) (fun _ _ _ h => h) (by rfl) ?hy2 hS ?rest2
              case hy2 => (intro wy hSy; (try dsimp only at hSy); go_simp; try (with_reducible rfl))
              simp only [Act.put, List.getElem_toArray, List.getElem_cons_zero, List.getElem_cons_succ, List.setIfInBounds_toArray, List.set_cons_zero, List.set_cons_succ]
              refine wpAnyN_take (i := 2) (v := ?v3) rfl (by kernel_rfl) (by kernel_rfl) (by kernel_rfl) (by kernel_rfl) (fun _ _ _ h => h) (by rfl) ?hy3 hS ?rest3
              case hy3 => (intro wy hSy; (try dsimp only at hSy); go_simp; try (with_reducible rfl))
              simp only [Act.put, List.getElem_toArray, List.getElem_cons_zero, List.getElem_cons_succ, List.setIfInBounds_toArray, List.set_cons_zero, List.set_cons_succ]
              refine wpAnyN_take (i := 3) (v := ?v4) rfl (by kernel_rfl) (by kernel_rfl) (by kernel_rfl) (by kernel_rfl) (fun _ _ _ h => h) (by rfl) ?hy4 hS ?rest4
              case hy4 => (intro wy hSy; (try dsimp only at hSy); go_simp; try (with_reducible rfl))
              simp only [Act.put, List.getElem_toArray, List.getElem_cons_zero, List.getElem_cons_succ, List.setIfInBounds_toArray, List.set_cons_zero, List.set_cons_succ]
              refine wpAnyN_take (i := 4) (v := ?v5) rfl (by kernel_rfl) (by kernel_rfl) (by kernel_rfl) (by kernel_rfl) (fun _ _ _ h => h) (by rfl) ?hy5 hS ?rest5
              case hy5 => (intro wy hSy; (try dsimp only at hSy); go_simp; try (with_reducible rfl))
              simp only [Act.put, List.getElem_toArray, List.getElem_cons_zero, List.getElem_cons_succ, List.setIfInBounds_toArray, List.set_cons_zero, List.set_cons_succ]
              refine wpAnyN_take (i := 5) (v := ?v6) rfl (by kernel_rfl) (by kernel_rfl) (by kernel_rfl) (by kernel_rfl) (fun _ _ _ h => h) (by rfl) ?hy6 hS ?rest6
              case hy6 => (intro wy hSy; (try dsimp only at hSy); go_simp; try (with_reducible rfl))
              simp only [Act.put, List.getElem_toArray, List.getElem_cons_zero, List.getElem_cons_succ, List.setIfInBounds_toArray, List.set_cons_zero, List.set_cons_succ]
              refine wpAnyN_take (i := 6) (v := ?v7) rfl (by kernel_rfl) (by kernel_rfl) (by kernel_rfl) (by kernel_rfl) (fun _ _ _ h => h) (by rfl) ?hy7 hS ?rest7
              case hy7 => (intro wy hSy; (try dsimp only at hSy); go_simp; try (with_reducible rfl))
              simp only [Act.put, List.getElem_toArray, List.getElem_cons_zero, List.getElem_cons_succ, List.setIfInBounds_toArray, List.set_cons_zero, List.set_cons_succ]
              refine wpAnyN_take (i := 7) (v := ?v8) rfl (by kernel_rfl) (by kernel_rfl) (by kernel_rfl) (by kernel_rfl) (fun _ _ _ h => h) (by rfl) ?hy8 hS ?rest8
              case hy8 => (intro wy hSy; (try dsimp only at hSy); go_simp; try (with_reducible rfl))
              simp only [Act.put, List.getElem_toArray, List.getElem_cons_zero, List.getElem_cons_succ, List.setIfInBounds_toArray, List.set_cons_zero, List.set_cons_succ]
              refine wpAnyN_one (i := 8) (by kernel_rfl) rfl (fun K hK => ?_)
              simp only [List.getElem_toArray, List.getElem_cons_zero, List.getElem_cons_succ]
              go_simp
              have hla := laterOf_any op nn ra rb k pa pcap wr.drew hbo (hpV.other (fun _ _ _ _ => rfl)) hk8 hra8 hrb8
              rw [← HON.out] at hla
              refine hla.mono ?_
              clear hla
              rintro e w5 ⟨va, vc, rfl, hO5, hb5⟩
              have hb6 : Below wr.heap.size wr w5 := (Below.refl _ _).drew.trans hb5
              have kk := Keeps.below hb6
              have hS5 := (⟨kk _ _ pc, kk _ _ a0, kk _ _ a1, kk _ _ a2, kk _ _ a3⟩ : w5.cell? ⟨g, i, none⟩ = some (.slice pa 8 pcap) ∧ w5.cell? ⟨b, o + i * 4, none⟩ = some (.int .i64 op) ∧ w5.cell? ⟨b, o + i * 4 + 1, none⟩ = some (.int .i64 (ra : Int)) ∧ w5.cell? ⟨b, o + i * 4 + 2, none⟩ = some (.int .i64 (rb : Int)) ∧ w5.cell? ⟨b, o + i * 4 + 3, none⟩ = some (.int .i64 nn))
              have hv5 : VInts w5 va on := seqI_to (SeqOwn.at fI_len hO5)
              have hfr5 : ∀ b o, va = some ⟨b, o, none⟩ → wr.heap.size ≤ b := fun b o e => by subst e; exact (SeqOwn.lt hO5).1
              refine hK.out _ _ (fun _ => hS5) ?_
              clear hK
              replace hS := hS5
              try simp only [Act.put, List.getElem_toArray, List.getElem_cons_zero, List.getElem_cons_succ, List.setIfInBounds_toArray, List.set_cons_zero, List.set_cons_succ]
              refine wpAnyN_take (i := 9) (v := ?v9) rfl (by kernel_rfl) (by kernel_rfl) (by kernel_rfl) (by kernel_rfl) (fun _ _ _ h => h) (by rfl) ?hy9 hS ?rest9
              case hy9 => (intro wy hSy; (try dsimp only at hSy); go_simp; try (with_reducible rfl))
              simp only [Act.put, List.getElem_toArray, List.getElem_cons_zero, List.getElem_cons_succ, List.setIfInBounds_toArray, List.set_cons_zero, List.set_cons_succ]
              refine wpAnyN_done (by kernel_rfl) ?_ _
              refine NoPanic.normal ?_
              go_wp2_with fail
              go_meet
              case rel => exact ⟨va, vc, rfl, hb6, hv5, hfr5⟩
            case rest =>
              obtain ⟨va, vc, rfl, hbW, hvo, hvf⟩ := hcut
              have hR2 := hR.below hbW
              have hb2 := hb.trans (hbW.mono hb.size)
              have kW := Keeps.below hbW
              replace a0 := kW _ _ a0
              replace a1 := kW _ _ a1
              replace a2 := kW _ _ a2
              replace a3 := kW _ _ a3
              have hsW := hbW.size
              have hvg : ∀ b o, va = some ⟨b, o, none⟩ → b ≠ g := fun b o e => by have := hvf b o e; omega
              clear hR hb kW hbW hpV pc
              go_wp2_with fail
              refine (waysOn_any op ra rb nn i _ (by omega) (fun h => by have := hn60 h; omega)).mono ?_
              rintro e w3 ⟨ga, gc, rfl, hV, hb3, hfr⟩
              obtain ⟨tos, htos⟩ : ∃ tos, tos = vGoes op nn i := ⟨_, rfl⟩
              rw [← htos] at hV hgo ⊢
              have HT : Aside (tos = vGoes op nn i) := htos
              clear htos
              have hR3 := hR2.below hb3
              have hb4 := hb2.trans (hb3.mono hb2.size)
              have hvo3 := hvo.other (w' := w3) (fun b o _ hlt => hb3.block _ hlt)
              have hs3 := hb3.size
              have hfr2 : ∀ b o, ga = some ⟨b, o, none⟩ → b ≠ g := fun b o e => by have := hfr b o e; omega
              have hT2 : tos.length ≤ 2 := by
                rw [HT.out]
                unfold vGoes
                repeat' split
                all_goals simp
              obtain ⟨T, hT⟩ : ∃ T, T = tos.length := ⟨_, rfl⟩
              have HTL : Aside (T = tos.length) := hT
              rw [← hT] at hT2 ⊢
              clear hT hR2 hb2 hb3 a0 a1 a2 a3 hvo hblt hfr
              go_wp2_with fail
              go_loopg [4, 8] T (fun g' s4 s8 wi => ∃ (j : Nat) (cj : Bool), j ≤ T ∧ g' = T - j ∧ s8 = .int .i64 j ∧ s4 = .bool cj ∧ Below w.heap.size w wi ∧ VInts wi ga tos ∧ VInts wi va on ∧ Aside (cj = decide ((tos.take j).foldl (vTo on) cur ≠ st)) ∧ ∃ rows, RfAt wi w.heap.size g L L ((tos.take j).foldl (vTo on) cur) rows)
              case atStart => exact ⟨0, ch, Nat.zero_le _, rfl, rfl, rfl, hb4, hV, hvo3, HCH, rows, hR3⟩
              case round =>
                clear hR3 hb4 hvo3 hV hs3
                obtain ⟨j, cj, hj, rfl, rfl, rfl, hb, hV, hvo, HCJ, rows, hR⟩ := hrel
                by_cases hjT : j < T
                · have hjz : (j : Int) < (T : Int) := by omega
                  have hj0 : (0 : Int) ≤ (j : Int) := Int.natCast_nonneg _
                  obtain ⟨z, hz⟩ : ∃ z, tos[j]? = some z := ⟨tos[j]'(by rw [← HTL.out]; exact hjT), List.getElem?_eq_getElem _⟩
                  obtain ⟨zb, zo, rfl, hzc⟩ := hV j z hz
                  have hz01 := hgo z (List.mem_of_getElem? hz)
                  have hgz := hfr2 zb zo rfl
                  obtain ⟨t, rfl⟩ := Int.eq_ofNat_of_zero_le hz01.1
                  have htL : t < L := by omega
                  have htz : (t : Int) < (L : Int) := hz01.2
                  have ht0 : (0 : Int) ≤ (t : Int) := Int.natCast_nonneg _
                  have HTK : Aside (tos.take (j + 1) = tos.take j ++ [(t : Int)]) := by show tos.take (j + 1) = _; rw [List.take_add_one, hz]; rfl
                  clear hz
                  obtain ⟨cu, hcu⟩ : ∃ cu, cu = (tos.take j).foldl (vTo on) cur := ⟨_, rfl⟩
                  have HCU : Aside (cu = (tos.take j).foldl (vTo on) cur) := hcu
                  have hgc : VGood L cu := by rw [hcu]; exact VGood.tos ho8 _ hgi
                  rw [← hcu] at hR HCJ
                  clear hcu
                  obtain ⟨q, hq⟩ : ∃ q, cu[t]? = some q := ⟨cu[t]'(by rw [hgc.1]; exact htL), List.getElem?_eq_getElem _⟩
                  obtain ⟨qa, qc, qcell, hqV⟩ := hR.cell hq
                  have hgl2 := hR.lt.2
                  have hfz : ∀ j, wr.frozen? ⟨g, j, none⟩ = false := fun j => ownsRow_frozenAt hR.own rfl j
                  have HCP : Aside (vTo on cu t = cu.set t (vCome q on)) := by
                    show vTo on cu t = _
                    unfold vTo vPt
                    rw [Int.toNat_natCast, hq]; rfl
                  have HE : Aside ((tos.take (j + 1)).foldl (vTo on) cur = vTo on cu t) := by
                    show (tos.take (j + 1)).foldl (vTo on) cur = vTo on cu t
                    rw [HTK.out, List.foldl_append, ← HCU.out]; rfl
                  have HNE : Aside (vTo on cu t ≠ cu → vTo on cu t ≠ st) := fun hne => by
                    have m1 := vTurns_mu hgd x i
                    have m2 := vTos_mu ho8 (tos.take j) hgi
                    have m3 := (vTo_mu hgc ho8 (t : Int)).2 hne
                    rw [← HCUR.out] at m1
                    rw [← HCU.out] at m2
                    intro e
                    rw [e] at m3
                    have := m1.1
                    have := m2.1
                    omega
                  cases q with
                  | none =>
                    simp only [Option.getD_none, List.length_nil] at qcell
                    have hne : vTo on cu t ≠ st := HNE.out (by
                      rw [HCP.out]
                      intro e
                      have := congrArg (fun l => l[t]?) e
                      simp only [hq, List.getElem?_set_self (by rw [hgc.1]; exact htL : t < cu.length)] at this
                      cases this)
                    have HNE2 : Aside (vTo on cu t ≠ st) := hne
                    clear hne HNE
                    go_upto_region 23 with fail
                    refine wp_region_need (fun j => j != 8) (fun w' => w'.cell? ⟨zb, zo + j, none⟩ = some (.int .i64 (t : Int))) (by kernel_rfl) hzc (fun hS => ?_)
                    refine wpAnyN_take (i := 0) (v := ?v10) rfl (by kernel_rfl) (by kernel_rfl) (by kernel_rfl) (by kernel_rfl) (fun _ _ _ h => h) (by rfl) ?hy10 hS ?rest10
                    case hy10 => (intro wy hSy; (try dsimp only at hSy); go_simp; try (with_reducible rfl))
                    simp only [Act.put, List.getElem_toArray, List.getElem_cons_zero, List.setIfInBounds_toArray, List.set_cons_zero, List.set_cons_succ]
                    refine wpAnyN_take (i := 1) (v := ?v11) rfl (by kernel_rfl) (by kernel_rfl) (by kernel_rfl) (by kernel_rfl) (fun _ _ _ h => h) (by rfl) ?hy11 hS ?rest11
                    case hy11 => (intro wy hSy; (try dsimp only at hSy); go_simp; try (with_reducible rfl))
                    simp only [Act.put, List.getElem_toArray, List.getElem_cons_zero, List.getElem_cons_succ, List.setIfInBounds_toArray, List.set_cons_zero, List.set_cons_succ]
                    refine wpAnyN_take (i := 2) (v := ?v12) rfl (by kernel_rfl) (by kernel_rfl) (by kernel_rfl) (by kernel_rfl) (fun _ _ _ h => h) (by rfl) ?hy12 hS ?rest12
                    case hy12 => (intro wy hSy; (try dsimp only at hSy); go_simp; try (with_reducible rfl))
                    simp only [Act.put, List.getElem_toArray, List.getElem_cons_zero, List.getElem_cons_succ, List.setIfInBounds_toArray, List.set_cons_zero, List.set_cons_succ]
                    refine wpAnyN_take (i := 3) (v := ?v13) rfl (by kernel_rfl) (by kernel_rfl) (by kernel_rfl) (by kernel_rfl) (fun _ _ _ h => h) (by rfl) ?hy13 hS ?rest13
                    case hy13 => (intro wy hSy; (try dsimp only at hSy); go_simp; try (with_reducible rfl))
                    simp only [Act.put, List.getElem_toArray, List.getElem_cons_zero, List.getElem_cons_succ, List.setIfInBounds_toArray, List.set_cons_zero, List.set_cons_succ]
                    refine wpAnyN_take (i := 4) (v := ?v14) rfl (by kernel_rfl) (by kernel_rfl) (by kernel_rfl) (by kernel_rfl) (fun _ _ _ h => h) (by rfl) ?hy14 hS ?rest14
                    case hy14 => (intro wy hSy; (try dsimp only at hSy); go_simp; try (with_reducible rfl))
                    simp only [Act.put, List.getElem_toArray, List.getElem_cons_zero, List.getElem_cons_succ, List.setIfInBounds_toArray, List.set_cons_zero, List.set_cons_succ]
                    refine wpAnyN_take (i := 5) (v := ?v15) rfl (by kernel_rfl) (by kernel_rfl) (by kernel_rfl) (by kernel_rfl) (fun _ _ _ h => h) (by rfl) ?hy15 hS ?rest15
                    case hy15 => (intro wy hSy; (try dsimp only at hSy); go_simp; try (with_reducible rfl))
                    simp only [Act.put, List.getElem_toArray, List.getElem_cons_zero, List.getElem_cons_succ, List.setIfInBounds_toArray, List.set_cons_zero, List.set_cons_succ]
                    refine wpAnyN_one (i := 6) (by kernel_rfl) rfl (fun K hK => ?_)
                    refine step_seqCopy Tryd.rowI (by rfl) _ _ (by rfl) (by rfl) on va vc (by simp [ho8, Act.eval]) ((seqI_of hvo).keeps (fun _ _ h => h)) (by rw [ho8]; decide) (by rw [ho8]; decide) ?_
                    rintro ya yc w5 hO5 hb5
                    rw [ho8] at hO5 ⊢
                    have hb6 : Below wr.heap.size wr w5 := (Below.refl _ _).drew.trans hb5
                    have kk := Keeps.below hb6
                    have hS5 : w5.cell? ⟨zb, zo + j, none⟩ = some (.int .i64 (t : Int)) := kk _ _ hzc
                    have qc5 := kk _ _ qcell
                    have fz5 : ∀ j, w5.frozen? ⟨g, j, none⟩ = false := fun j => (hb6.frozen (p := ⟨g, j, none⟩) (by show g < wr.heap.size; omega)).trans (hfz j)
                    have hR5 := (hR.below hb6).put hgc.1 htL (k := on) (va := ya) (vc := yc) (seqI_to (SeqOwn.at fI_len hO5)) (fun b' o' e' => by subst e'; have : wr.heap.size ≤ b' := (SeqOwn.lt hO5).1; omega)
                    rw [ho8] at hR5
                    have hB5 := (hb.trans (hb6.mono hb.size)).setCell (p := ⟨g, t, none⟩) (by show w.heap.size ≤ g; exact hgw) (.slice ya 8 yc)
                    have hV5 : VInts (w5.setCell ⟨g, t, none⟩ (.slice ya 8 yc)) (some ⟨zb, zo, none⟩) tos := (hV.other (w' := w5) (fun b o _ hlt => hb6.block _ hlt)).other (fun b' o' e' _ => Deep.blk_setCell_other w5 ⟨g, t, none⟩ _ b' (by simp at e'; rw [← e'.1]; exact hgz))
                    have hvo5 : VInts (w5.setCell ⟨g, t, none⟩ (.slice ya 8 yc)) va on := (hvo.other (w' := w5) (fun b o _ hlt => hb6.block _ hlt)).other (fun b' o' e' _ => Deep.blk_setCell_other w5 ⟨g, t, none⟩ _ b' (hvg b' o' e'))
                    refine hK.out _ _ (fun _ => hS5) ?_
                    clear hK
                    replace hS := hS5
                    try simp only [Act.put, List.getElem_toArray, List.getElem_cons_zero, List.getElem_cons_succ, List.setIfInBounds_toArray, List.set_cons_zero, List.set_cons_succ]
                    refine wpAnyN_take (i := 7) (v := ?v16) rfl (by kernel_rfl) (by kernel_rfl) (by kernel_rfl) (by kernel_rfl) (fun _ _ _ h => h) (by rfl) ?hy16 hS ?rest16
                    case hy16 => (intro wy hSy; (try dsimp only at hSy); go_simp; try (with_reducible rfl))
                    simp only [Act.put, List.getElem_toArray, List.getElem_cons_zero, List.getElem_cons_succ, List.setIfInBounds_toArray, List.set_cons_zero, List.set_cons_succ]
                    refine wpAnyN_one (i := 8) (by kernel_rfl) rfl (fun K hK => ?_)
                    simp only [List.getElem_toArray, List.getElem_cons_zero, List.getElem_cons_succ]
                    go_simp
                    refine hK.out _ _ (fun h => absurd h (by decide)) ?_
                    clear hK
                    refine wpAnyN_done (by kernel_rfl) ?_ _
                    refine NoPanic.normal ?_
                    try simp only [Act.put, List.getElem_toArray, List.getElem_cons_zero, List.getElem_cons_succ, List.setIfInBounds_toArray, List.set_cons_zero, List.set_cons_succ]
                    have HF : Aside (Below w.heap.size w (w5.setCell ⟨g, t, none⟩ (.slice ya 8 yc)) ∧ VInts (w5.setCell ⟨g, t, none⟩ (.slice ya 8 yc)) (some ⟨zb, zo, none⟩) tos ∧ VInts (w5.setCell ⟨g, t, none⟩ (.slice ya 8 yc)) va on ∧ ∃ rows', RfAt (w5.setCell ⟨g, t, none⟩ (.slice ya 8 yc)) w.heap.size g L L (vTo on cu t) rows') :=
                      ⟨hB5, hV5, hvo5, _, by rw [HCP.out]; exact hR5⟩
                    clear hR5 hB5 hV5 hvo5 hS5 qc5 fz5 hb6 hb5 kk hO5
                    generalize w5.setCell ⟨g, t, none⟩ (.slice ya 8 yc) = w6 at *
                    go_wp2
                    go_roundg (T - (j + 1))
                    case measure => go_light; omega
                    case rel =>
                      go_light
                      refine ⟨j + 1, true, by omega, rfl, by go_num, rfl, HF.out.1, HF.out.2.1, HF.out.2.2.1, ?_, ?_⟩
                      · show true = _
                        rw [HE.out]
                        exact (decide_eq_true HNE2.out).symm
                      · rw [HE.out]; exact HF.out.2.2.2
                  | some kq =>
                    obtain ⟨wj, hwj⟩ : ∃ wj, wj = wr := ⟨_, rfl⟩
                    subst hwj
                    have hq8 : kq.length = 8 := hgc.2 kq (List.mem_of_getElem? hq)
                    simp only [Option.getD_some] at qcell hqV
                    rw [hq8] at qcell
                    obtain ⟨qb, qo, rfl, _⟩ := hqV 0 _ (vAt_some hq8 (by omega))
                    obtain ⟨vb, vo, rfl, _⟩ := hvo 0 _ (vAt_some ho8 (by omega))
                    have hmk8 : ∀ wy : World, (Instr.makeSlice 48 (.int .i64 8) (.int .i64 8)).run Tryd.prog wy = .ok (.slice (some ⟨wy.heap.size, 0, none⟩) 8 8) (wy.alloc (.cells (regA [0, 0, 0, 0, 0, 0, 0, 0]) 3)) := fun wy => by
                      have := run_make_wide (P := Tryd.prog) 1 48 3 (.int .i64 0) 8 Tryd.underlying48 (by kernel_rfl) .i64 .i64 8 (by decide) (by decide) wy
                      have e : madeCells (Value.int .i64 0).cells (8 * 1) = regA [0, 0, 0, 0, 0, 0, 0, 0] := by kernel_rfl
                      rw [e] at this
                      exact this
                    go_upto_region 19 with fail
                    obtain ⟨I1, k1, bb1, s1⟩ := boxes1 wj (Obj.cells (regA [0, 0, 0, 0, 0, 0, 0, 0]) 3)
                    obtain ⟨NB, hNB⟩ : ∃ NB, NB = wj.heap.size := ⟨_, rfl⟩
                    have hNBl : wj.heap.size ≤ NB := by omega
                    have hNBg : g < NB := by omega
                    rw [← hNB] at I1 ⊢
                    clear hNB hmk8
                    generalize wj.alloc (Obj.cells (regA [0, 0, 0, 0, 0, 0, 0, 0]) 3) = W0 at *
                    go_loopg [10] 8 (fun g' s10 wn => ∃ r : Nat, r ≤ 8 ∧ g' = 8 - r ∧ s10 = .int .i64 r ∧ Below wj.heap.size wj wn ∧ wn.heap[NB]? = some (.cells (regA (kZ kq on r)) 3 (0, 0)))
                    case atStart => exact ⟨0, Nat.zero_le _, rfl, rfl, bb1, I1⟩
                    case round =>
                      clear bb1 I1 s1 k1
                      obtain ⟨r, hr, rfl, rfl, hbn, hN⟩ := hrel
                      have kn := Keeps.below hbn
                      have zc := kn _ _ hzc
                      have qce := kn _ _ qcell
                      by_cases hr8 : r < 8
                      · have hrz : (r : Int) < 8 := by omega
                        have hr0 : (0 : Int) ≤ (r : Int) := Int.natCast_nonneg _
                        obtain ⟨_, _, eq1, qr⟩ := hqV r _ (vAt_some hq8 hr8)
                        obtain ⟨_, _, ev1, vr⟩ := hvo r _ (vAt_some ho8 hr8)
                        simp only [Option.some.injEq, Addr.mk.injEq, and_true] at eq1 ev1
                        obtain ⟨rfl, rfl⟩ := eq1
                        obtain ⟨rfl, rfl⟩ := ev1
                        replace qr := kn _ _ qr
                        replace vr := kn _ _ vr
                        have nc := reg_at hN hr8
                        have nf : ∀ j, wr.frozen? ⟨NB, j, none⟩ = false := fun j => by simp [World.frozen?, hN]
                        go_upto_region 21 with fail
                        refine wp_region_need (fun j => j != 18) (fun w' => w'.cell? ⟨zb, zo + j, none⟩ = some (.int .i64 (t : Int)) ∧ w'.cell? ⟨g, t, none⟩ = some (.slice (some ⟨qb, qo, none⟩) 8 qc) ∧ w'.cell? ⟨qb, qo + r, none⟩ = some (.int .i64 (vAt kq r)) ∧ w'.cell? ⟨vb, vo + r, none⟩ = some (.int .i64 (vAt on r))) (by kernel_rfl) ⟨zc, qce, qr, vr⟩ (fun hS => ?_)
                        refine wpAnyN_take (i := 0) (v := ?v17) rfl (by kernel_rfl) (by kernel_rfl) (by kernel_rfl) (by kernel_rfl) (fun _ _ _ h => h) (by rfl) ?hy17 hS ?rest17
                        case hy17 => (intro wy hSy; (try dsimp only at hSy); go_simp; try (with_reducible rfl))
                        simp only [Act.put, List.getElem_toArray, List.getElem_cons_zero, List.setIfInBounds_toArray, List.set_cons_zero, List.set_cons_succ]
                        refine wpAnyN_take (i := 1) (v := ?v18) rfl (by kernel_rfl) (by kernel_rfl) (by kernel_rfl) (by kernel_rfl) (fun _ _ _ h => h) (by rfl) ?hy18 hS ?rest18
                        case hy18 => (intro wy hSy; (try dsimp only at hSy); go_simp; try (with_reducible rfl))
                        simp only [Act.put, List.getElem_toArray, List.getElem_cons_zero, List.getElem_cons_succ, List.setIfInBounds_toArray, List.set_cons_zero, List.set_cons_succ]
                        refine wpAnyN_take (i := 2) (v := ?v19) rfl (by kernel_rfl) (by kernel_rfl) (by kernel_rfl) (by kernel_rfl) (fun _ _ _ h => h) (by rfl) ?hy19 hS ?rest19
                        case hy19 => (intro wy hSy; (try dsimp only at hSy); go_simp; try (with_reducible rfl))
                        simp only [Act.put, List.getElem_toArray, List.getElem_cons_zero, List.getElem_cons_succ, List.setIfInBounds_toArray, List.set_cons_zero, List.set_cons_succ]
                        refine wpAnyN_take (i := 3) (v := ?v20) rfl (by kernel_rfl) (by kernel_rfl) (by kernel_rfl) (by kernel_rfl) (fun _ _ _ h => h) (by rfl) ?hy20 hS ?rest20
                        case hy20 => (intro wy hSy; (try dsimp only at hSy); go_simp; try (with_reducible rfl))
                        simp only [Act.put, List.getElem_toArray, List.getElem_cons_zero, List.getElem_cons_succ, List.setIfInBounds_toArray, List.set_cons_zero, List.set_cons_succ]
                        refine wpAnyN_take (i := 4) (v := ?v21) rfl (by kernel_rfl) (by kernel_rfl) (by kernel_rfl) (by kernel_rfl) (fun _ _ _ h => h) (by rfl) ?hy21 hS ?rest21
                        case hy21 => (intro wy hSy; (try dsimp only at hSy); go_simp; try (with_reducible rfl))
                        simp only [Act.put, List.getElem_toArray, List.getElem_cons_zero, List.getElem_cons_succ, List.setIfInBounds_toArray, List.set_cons_zero, List.set_cons_succ]
                        refine wpAnyN_take (i := 5) (v := ?v22) rfl (by kernel_rfl) (by kernel_rfl) (by kernel_rfl) (by kernel_rfl) (fun _ _ _ h => h) (by rfl) ?hy22 hS ?rest22
                        case hy22 => (intro wy hSy; (try dsimp only at hSy); go_simp; try (with_reducible rfl))
                        simp only [Act.put, List.getElem_toArray, List.getElem_cons_zero, List.getElem_cons_succ, List.setIfInBounds_toArray, List.set_cons_zero, List.set_cons_succ]
                        refine wpAnyN_take (i := 6) (v := ?v23) rfl (by kernel_rfl) (by kernel_rfl) (by kernel_rfl) (by kernel_rfl) (fun _ _ _ h => h) (by rfl) ?hy23 hS ?rest23
                        case hy23 => (intro wy hSy; (try dsimp only at hSy); go_simp; try (with_reducible rfl))
                        simp only [Act.put, List.getElem_toArray, List.getElem_cons_zero, List.getElem_cons_succ, List.setIfInBounds_toArray, List.set_cons_zero, List.set_cons_succ]
                        refine wpAnyN_take (i := 7) (v := ?v24) rfl (by kernel_rfl) (by kernel_rfl) (by kernel_rfl) (by kernel_rfl) (fun _ _ _ h => h) (by rfl) ?hy24 hS ?rest24
                        case hy24 => (intro wy hSy; (try dsimp only at hSy); go_simp; try (with_reducible rfl))
                        simp only [Act.put, List.getElem_toArray, List.getElem_cons_zero, List.getElem_cons_succ, List.setIfInBounds_toArray, List.set_cons_zero, List.set_cons_succ]
                        refine wpAnyN_take (i := 8) (v := ?v25) rfl (by kernel_rfl) (by kernel_rfl) (by kernel_rfl) (by kernel_rfl) (fun _ _ _ h => h) (by rfl) ?hy25 hS ?rest25
                        case hy25 => (intro wy hSy; (try dsimp only at hSy); go_simp; try (with_reducible rfl))
                        simp only [Act.put, List.getElem_toArray, List.getElem_cons_zero, List.getElem_cons_succ, List.setIfInBounds_toArray, List.set_cons_zero, List.set_cons_succ]
                        refine wpAnyN_take (i := 9) (v := ?v26) rfl (by kernel_rfl) (by kernel_rfl) (by kernel_rfl) (by kernel_rfl) (fun _ _ _ h => h) (by rfl) ?hy26 hS ?rest26
                        case hy26 => (intro wy hSy; (try dsimp only at hSy); go_simp; try (with_reducible rfl))
                        simp only [Act.put, List.getElem_toArray, List.getElem_cons_zero, List.getElem_cons_succ, List.setIfInBounds_toArray, List.set_cons_zero, List.set_cons_succ]
                        refine wpAnyN_take (i := 10) (v := ?v27) rfl (by kernel_rfl) (by kernel_rfl) (by kernel_rfl) (by kernel_rfl) (fun _ _ _ h => h) (by rfl) ?hy27 hS ?rest27
                        case hy27 => (intro wy hSy; (try dsimp only at hSy); go_simp; try (with_reducible rfl))
                        simp only [Act.put, List.getElem_toArray, List.getElem_cons_zero, List.getElem_cons_succ, List.setIfInBounds_toArray, List.set_cons_zero, List.set_cons_succ]
                        refine wpAnyN_take (i := 11) (v := ?v28) rfl (by kernel_rfl) (by kernel_rfl) (by kernel_rfl) (by kernel_rfl) (fun _ _ _ h => h) (by rfl) ?hy28 hS ?rest28
                        case hy28 => (intro wy hSy; (try dsimp only at hSy); go_simp; try (with_reducible rfl))
                        simp only [Act.put, List.getElem_toArray, List.getElem_cons_zero, List.getElem_cons_succ, List.setIfInBounds_toArray, List.set_cons_zero, List.set_cons_succ]
                        refine wpAnyN_take (i := 12) (v := ?v29) rfl (by kernel_rfl) (by kernel_rfl) (by kernel_rfl) (by kernel_rfl) (fun _ _ _ h => h) (by rfl) ?hy29 hS ?rest29
                        case hy29 => (intro wy hSy; (try dsimp only at hSy); go_simp; try (with_reducible rfl))
                        simp only [Act.put, List.getElem_toArray, List.getElem_cons_zero, List.getElem_cons_succ, List.setIfInBounds_toArray, List.set_cons_zero, List.set_cons_succ]
                        refine wpAnyN_take (i := 13) (v := ?v30) rfl (by kernel_rfl) (by kernel_rfl) (by kernel_rfl) (by kernel_rfl) (fun _ _ _ h => h) (by rfl) ?hy30 hS ?rest30
                        case hy30 => (intro wy hSy; (try dsimp only at hSy); go_simp; try (with_reducible rfl))
                        simp only [Act.put, List.getElem_toArray, List.getElem_cons_zero, List.getElem_cons_succ, List.setIfInBounds_toArray, List.set_cons_zero, List.set_cons_succ]
                        refine wpAnyN_take (i := 14) (v := ?v31) rfl (by kernel_rfl) (by kernel_rfl) (by kernel_rfl) (by kernel_rfl) (fun _ _ _ h => h) (by rfl) ?hy31 hS ?rest31
                        case hy31 => (intro wy hSy; (try dsimp only at hSy); go_simp; try (with_reducible rfl))
                        simp only [Act.put, List.getElem_toArray, List.getElem_cons_zero, List.getElem_cons_succ, List.setIfInBounds_toArray, List.set_cons_zero, List.set_cons_succ]
                        refine wpAnyN_take (i := 15) (v := ?v32) rfl (by kernel_rfl) (by kernel_rfl) (by kernel_rfl) (by kernel_rfl) (fun _ _ _ h => h) (by rfl) ?hy32 hS ?rest32
                        case hy32 => (intro wy hSy; (try dsimp only at hSy); go_simp; try (with_reducible rfl))
                        simp only [Act.put, List.getElem_toArray, List.getElem_cons_zero, List.getElem_cons_succ, List.setIfInBounds_toArray, List.set_cons_zero, List.set_cons_succ]
                        refine wpAnyN_one (i := 16) (by kernel_rfl) rfl (fun K hK => ?_)
                        simp only [List.getElem_toArray, List.getElem_cons_zero, List.getElem_cons_succ]
                        go_simp
                        refine (joinOf_any _ _ _).mono ?_
                        rintro e w' ⟨rfl, rfl⟩
                        refine hK.out _ _ (fun _ => hS) ?_
                        clear hK
                        replace hS := hS
                        try simp only [Act.put, List.getElem_toArray, List.getElem_cons_zero, List.getElem_cons_succ, List.setIfInBounds_toArray, List.set_cons_zero, List.set_cons_succ]
                        refine wpAnyN_take (i := 17) (v := ?v33) rfl (by kernel_rfl) (by kernel_rfl) (by kernel_rfl) (by kernel_rfl) (fun _ _ _ h => h) (by rfl) ?hy33 hS ?rest33
                        case hy33 => (intro wy hSy; (try dsimp only at hSy); go_simp; try (with_reducible rfl))
                        simp only [Act.put, List.getElem_toArray, List.getElem_cons_zero, List.getElem_cons_succ, List.setIfInBounds_toArray, List.set_cons_zero, List.set_cons_succ]
                        refine wpAnyN_one (i := 18) (by kernel_rfl) rfl (fun K hK => ?_)
                        simp only [List.getElem_toArray, List.getElem_cons_zero, List.getElem_cons_succ]
                        go_simp
                        refine hK.out _ _ (fun h => absurd h (by decide)) ?_
                        clear hK
                        refine wpAnyN_done (by kernel_rfl) ?_ _
                        refine NoPanic.normal ?_
                        try simp only [Act.put, List.getElem_toArray, List.getElem_cons_zero, List.getElem_cons_succ, List.setIfInBounds_toArray, List.set_cons_zero, List.set_cons_succ]
                        have hN2 : ((wr.setCell ⟨NB, r, none⟩ (.int .i64 (vJoin (vAt kq r) (vAt on r)))).drew).heap[NB]? = some (.cells (regA (kZ kq on (r + 1))) 3 (0, 0)) := reg_set hN (kZ_len kq on r) hr8 _
                        have hbn2 : Below wj.heap.size wj ((wr.setCell ⟨NB, r, none⟩ (.int .i64 (vJoin (vAt kq r) (vAt on r)))).drew) := (hbn.setCell hNBl _).drew
                        clear hN hbn kn zc qce qr vr nc nf hS
                        generalize (wr.setCell ⟨NB, r, none⟩ (.int .i64 (vJoin (vAt kq r) (vAt on r)))).drew = wx at *
                        go_wp2
                        go_roundg (8 - (r + 1))
                        case measure => go_light; omega
                        case rel => go_light; exact ⟨r + 1, by omega, rfl, by go_num, hbn2, hN2⟩
                      · obtain rfl : r = 8 := by omega
                        rw [kZ_all hq8 ho8] at hN
                        obtain ⟨nl, hnl⟩ : ∃ nl, nl = List.zipWith vJoin kq on := ⟨_, rfl⟩
                        rw [← hnl] at hN
                        have n8 : nl.length = 8 := by rw [hnl]; simp [hq8, ho8]
                        have HNL : Aside (nl = List.zipWith vJoin kq on) := hnl
                        clear hnl
                        have hnV := vInts_regs hN n8
                        have hqV2 := hqV.other (w' := wr) (fun b o _ hlt => hbn.block _ hlt)
                        have hsn := hbn.size
                        have hb7 := hb.trans (hbn.mono hb.size)
                        have hR7 := hR.below hbn
                        have hV7 := hV.other (w' := wr) (fun b o _ hlt => hbn.block _ hlt)
                        have hvo7 := hvo.other (w' := wr) (fun b o _ hlt => hbn.block _ hlt)
                        have fz7 : ∀ j, wr.frozen? ⟨g, j, none⟩ = false := fun j => ownsRow_frozenAt hR7.own rfl j
                        have HCE : Aside (vCome (some kq) on = some nl) := by show some (List.zipWith vJoin kq on) = _; rw [HNL.out]
                        clear hb hR hV hvo hfz hbn kn hN qcell hzc
                        go_wp2_with fail
                        refine (sameKnown_any nl kq (some ⟨NB, 0, none⟩) (some ⟨qb, qo, none⟩) 8 qc wr hnV hqV2 n8 hq8).mono ?_
                        rintro e wz ⟨rfl, nz, rfl⟩
                        have bz : Below wr.heap.size wr (wr.drewN nz) := below_drewN (Below.refl _ _) nz
                        have hR8 := hR7.below bz
                        have hb8 : Below w.heap.size w (wr.drewN nz) := below_drewN hb7 nz
                        have hV8 : VInts (wr.drewN nz) (some ⟨zb, zo, none⟩) tos := hV7
                        have hvo8 : VInts (wr.drewN nz) (some ⟨vb, vo, none⟩) on := hvo7
                        have hn8 : VInts (wr.drewN nz) (some ⟨NB, 0, none⟩) nl := hnV
                        have fz8 : ∀ j, (wr.drewN nz).frozen? ⟨g, j, none⟩ = false := fz7
                        have hzc : (wr.drewN nz).cell? ⟨zb, zo + j, none⟩ = some (.int .i64 (t : Int)) := zc
                        have qcell : (wr.drewN nz).cell? ⟨g, t, none⟩ = some (.slice (some ⟨qb, qo, none⟩) 8 qc) := qce
                        have hszd : wr.heap.size = (wr.drewN nz).heap.size := rfl
                        have hgw8 : g < (wr.drewN nz).heap.size := hR8.lt.2
                        clear hR7 hb7 hV7 hvo7 hnV fz7 zc qce bz hqV2
                        generalize wr.drewN nz = wz at *
                        have hsr := sameRegs_iff n8 hq8
                        cases hse : sameRegs nl kq with
                        | true =>
                          have HSE : Aside (vTo on cu t = cu) := by
                            show vTo on cu t = cu
                            rw [HCP.out, HCE.out, hsr.1 hse]
                            obtain ⟨h1, h2⟩ := List.getElem?_eq_some_iff.1 hq
                            rw [← h2]
                            simp
                          clear hse hsr
                          go_wp2
                          go_roundg (T - (j + 1))
                          case measure => go_light; omega
                          case rel =>
                            go_light
                            refine ⟨j + 1, cj, by omega, rfl, by go_num, rfl, hb8, hV8, hvo8, ?_, rows, ?_⟩
                            · show cj = _
                              rw [HE.out, HSE.out]; exact HCJ.out
                            · rw [HE.out, HSE.out]; exact hR8
                        | false =>
                          have HNE2 : Aside (vTo on cu t ≠ st) := HNE.out (by
                            rw [HCP.out, HCE.out]
                            intro e
                            have := congrArg (fun l => l[t]?) e
                            simp only [hq, List.getElem?_set_self (by rw [hgc.1]; exact htL : t < cu.length), Option.some.injEq] at this
                            rw [hsr.2 this] at hse
                            cases hse)
                          clear hse hsr HNE
                          go_upto_region 23 with fail
                          refine wp_region_need (fun j => j != 8) (fun w' => w'.cell? ⟨zb, zo + j, none⟩ = some (.int .i64 (t : Int))) (by kernel_rfl) hzc (fun hS => ?_)
                          refine wpAnyN_take (i := 0) (v := ?v34) rfl (by kernel_rfl) (by kernel_rfl) (by kernel_rfl) (by kernel_rfl) (fun _ _ _ h => h) (by rfl) ?hy34 hS ?rest34
                          case hy34 => (intro wy hSy; (try dsimp only at hSy); go_simp; try (with_reducible rfl))
                          simp only [Act.put, List.getElem_toArray, List.getElem_cons_zero, List.setIfInBounds_toArray, List.set_cons_zero, List.set_cons_succ]
                          refine wpAnyN_take (i := 1) (v := ?v35) rfl (by kernel_rfl) (by kernel_rfl) (by kernel_rfl) (by kernel_rfl) (fun _ _ _ h => h) (by rfl) ?hy35 hS ?rest35
                          case hy35 => (intro wy hSy; (try dsimp only at hSy); go_simp; try (with_reducible rfl))
                          simp only [Act.put, List.getElem_toArray, List.getElem_cons_zero, List.getElem_cons_succ, List.setIfInBounds_toArray, List.set_cons_zero, List.set_cons_succ]
                          refine wpAnyN_take (i := 2) (v := ?v36) rfl (by kernel_rfl) (by kernel_rfl) (by kernel_rfl) (by kernel_rfl) (fun _ _ _ h => h) (by rfl) ?hy36 hS ?rest36
                          case hy36 => (intro wy hSy; (try dsimp only at hSy); go_simp; try (with_reducible rfl))
                          simp only [Act.put, List.getElem_toArray, List.getElem_cons_zero, List.getElem_cons_succ, List.setIfInBounds_toArray, List.set_cons_zero, List.set_cons_succ]
                          refine wpAnyN_take (i := 3) (v := ?v37) rfl (by kernel_rfl) (by kernel_rfl) (by kernel_rfl) (by kernel_rfl) (fun _ _ _ h => h) (by rfl) ?hy37 hS ?rest37
                          case hy37 => (intro wy hSy; (try dsimp only at hSy); go_simp; try (with_reducible rfl))
                          simp only [Act.put, List.getElem_toArray, List.getElem_cons_zero, List.getElem_cons_succ, List.setIfInBounds_toArray, List.set_cons_zero, List.set_cons_succ]
                          refine wpAnyN_take (i := 4) (v := ?v38) rfl (by kernel_rfl) (by kernel_rfl) (by kernel_rfl) (by kernel_rfl) (fun _ _ _ h => h) (by rfl) ?hy38 hS ?rest38
                          case hy38 => (intro wy hSy; (try dsimp only at hSy); go_simp; try (with_reducible rfl))
                          simp only [Act.put, List.getElem_toArray, List.getElem_cons_zero, List.getElem_cons_succ, List.setIfInBounds_toArray, List.set_cons_zero, List.set_cons_succ]
                          refine wpAnyN_take (i := 5) (v := ?v39) rfl (by kernel_rfl) (by kernel_rfl) (by kernel_rfl) (by kernel_rfl) (fun _ _ _ h => h) (by rfl) ?hy39 hS ?rest39
                          case hy39 => (intro wy hSy; (try dsimp only at hSy); go_simp; try (with_reducible rfl))
                          simp only [Act.put, List.getElem_toArray, List.getElem_cons_zero, List.getElem_cons_succ, List.setIfInBounds_toArray, List.set_cons_zero, List.set_cons_succ]
                          refine wpAnyN_one (i := 6) (by kernel_rfl) rfl (fun K hK => ?_)
                          refine step_seqCopy Tryd.rowI (by rfl) _ _ (by rfl) (by rfl) nl (some ⟨NB, 0, none⟩) 8 (by simp [n8, Act.eval]) ((seqI_of hn8).keeps (fun _ _ h => h)) (by rw [n8]; decide) (by rw [n8]; decide) ?_
                          rintro ya yc w5 hO5 hb5
                          rw [n8] at hO5 ⊢
                          have hb6 : Below wz.heap.size wz w5 := (Below.refl _ _).drew.trans hb5
                          have kk := Keeps.below hb6
                          have hS5 : w5.cell? ⟨zb, zo + j, none⟩ = some (.int .i64 (t : Int)) := kk _ _ hzc
                          have qc5 := kk _ _ qcell
                          have fz5 : ∀ j, w5.frozen? ⟨g, j, none⟩ = false := fun j => (hb6.frozen (p := ⟨g, j, none⟩) (by show g < wz.heap.size; omega)).trans (fz8 j)
                          have hR5 := (hR8.below hb6).put hgc.1 htL (k := nl) (va := ya) (vc := yc) (seqI_to (SeqOwn.at fI_len hO5)) (fun b' o' e' => by subst e'; have : wz.heap.size ≤ b' := (SeqOwn.lt hO5).1; omega)
                          rw [n8] at hR5
                          have hB5 := (hb8.trans (hb6.mono hb8.size)).setCell (p := ⟨g, t, none⟩) (by show w.heap.size ≤ g; exact hgw) (.slice ya 8 yc)
                          have hV5 : VInts (w5.setCell ⟨g, t, none⟩ (.slice ya 8 yc)) (some ⟨zb, zo, none⟩) tos := (hV8.other (w' := w5) (fun b o _ hlt => hb6.block _ hlt)).other (fun b' o' e' _ => Deep.blk_setCell_other w5 ⟨g, t, none⟩ _ b' (by simp at e'; rw [← e'.1]; exact hgz))
                          have hvo5 : VInts (w5.setCell ⟨g, t, none⟩ (.slice ya 8 yc)) (some ⟨vb, vo, none⟩) on := (hvo8.other (w' := w5) (fun b o _ hlt => hb6.block _ hlt)).other (fun b' o' e' _ => Deep.blk_setCell_other w5 ⟨g, t, none⟩ _ b' (hvg b' o' e'))
                          refine hK.out _ _ (fun _ => hS5) ?_
                          clear hK
                          replace hS := hS5
                          try simp only [Act.put, List.getElem_toArray, List.getElem_cons_zero, List.getElem_cons_succ, List.setIfInBounds_toArray, List.set_cons_zero, List.set_cons_succ]
                          refine wpAnyN_take (i := 7) (v := ?v40) rfl (by kernel_rfl) (by kernel_rfl) (by kernel_rfl) (by kernel_rfl) (fun _ _ _ h => h) (by rfl) ?hy40 hS ?rest40
                          case hy40 => (intro wy hSy; (try dsimp only at hSy); go_simp; try (with_reducible rfl))
                          simp only [Act.put, List.getElem_toArray, List.getElem_cons_zero, List.getElem_cons_succ, List.setIfInBounds_toArray, List.set_cons_zero, List.set_cons_succ]
                          refine wpAnyN_one (i := 8) (by kernel_rfl) rfl (fun K hK => ?_)
                          simp only [List.getElem_toArray, List.getElem_cons_zero, List.getElem_cons_succ]
                          go_simp
                          refine hK.out _ _ (fun h => absurd h (by decide)) ?_
                          clear hK
                          refine wpAnyN_done (by kernel_rfl) ?_ _
                          refine NoPanic.normal ?_
                          try simp only [Act.put, List.getElem_toArray, List.getElem_cons_zero, List.getElem_cons_succ, List.setIfInBounds_toArray, List.set_cons_zero, List.set_cons_succ]
                          have HF : Aside (Below w.heap.size w (w5.setCell ⟨g, t, none⟩ (.slice ya 8 yc)) ∧ VInts (w5.setCell ⟨g, t, none⟩ (.slice ya 8 yc)) (some ⟨zb, zo, none⟩) tos ∧ VInts (w5.setCell ⟨g, t, none⟩ (.slice ya 8 yc)) (some ⟨vb, vo, none⟩) on ∧ ∃ rows', RfAt (w5.setCell ⟨g, t, none⟩ (.slice ya 8 yc)) w.heap.size g L L (vTo on cu t) rows') :=
                            ⟨hB5, hV5, hvo5, _, by rw [HCP.out, HCE.out]; exact hR5⟩
                          clear hR5 hB5 hV5 hvo5 hS5 qc5 fz5 hb6 hb5 kk hO5
                          generalize w5.setCell ⟨g, t, none⟩ (.slice ya 8 yc) = w6 at *
                          go_wp2
                          go_roundg (T - (j + 1))
                          case measure => go_light; omega
                          case rel =>
                            go_light
                            refine ⟨j + 1, true, by omega, rfl, by go_num, rfl, HF.out.1, HF.out.2.1, HF.out.2.2.1, ?_, ?_⟩
                            · show true = _
                              rw [HE.out]
                              exact (decide_eq_true HNE2.out).symm
                            · rw [HE.out]; exact HF.out.2.2.2
                · have hTT : Aside (tos.take j = tos) := by
                    show tos.take j = tos
                    rw [List.take_of_length_le (by rw [← HTL.out]; omega)]
                  have hnx : Aside (vTurns x st (i + 1) = (tos.take j).foldl (vTo on) cur) := by
                    show vTurns x st (i + 1) = _
                    rw [vTurns_succ, ← HCUR.out, hTT.out]
                    unfold vTurn vPt
                    rw [hp]
                    simp only [Option.getD_some]
                    rw [E0.out.1, E0.out.2.1, E0.out.2.2.1, E0.out.2.2.2, ← HON.out, ← HT.out]
                  go_wp2
                  go_roundg (L - (i + 1))
                  case measure => go_light; omega
                  case rel =>
                    go_light
                    refine ⟨i + 1, cj, by omega, rfl, by go_num, rfl, hb, ?_, rows, ?_⟩
                    · show cj = _
                      rw [hnx.out]; exact HCJ.out
                    · rw [hnx.out]; exact hR
        · obtain rfl : i = L := by omega
          have hgt : (if ch = true then vMu (vRound x i st) + 1 else 0) < vMu st + 1 := by
            cases ch with
            | false => simp
            | true =>
              have hne : vTurns x st i ≠ st := by have := HCH.out; simpa using this.symm
              have := (mu i).2 hne
              have e : vRound x i st = vTurns x st i := rfl
              rw [e]
              simp
              exact this
          go_wp2
          go_roundg (if ch = true then vMu (vRound x i st) + 1 else 0)
          case measure => go_light; rw [HGH.out]; exact hgt
          case rel =>
            go_light
            refine ⟨n + 1, ch, rows, ?_, rfl, ?_, hb, ?_⟩
            · rw [vIter_succ, ← HST.out]
            · rw [vIter_succ, ← HST.out]; exact hR
            · rw [vIter_succ, ← HST.out]
              intro hc
              have : vTurns x st i = st := by
                have h := HCH.out
                rw [hc] at h
                exact Classical.byContradiction fun hne => by rw [decide_eq_true hne] at h; cases h
              have e : vRound x i st = st := this
              rw [e, e]

end Go.Proofs.YtahcgnmhhgcfmaaDoor
