/- The walk of the reader's program: rows of instructions, in new memory. -/
import Derived.Test.YtahcgnmhhgcfmaaDoorCRdRow
import Derived.WalkKit
import Derived.WalkSpells
import Derived.WalkLawsBesides
import Derived.Deep.LoopGhost
import Derived.Deep.Light
namespace Go.Proofs.YtahcgnmhhgcfmaaDoor
open Go.RowKit

/-- The slice v, in memory of the call's own, holds these rows. -/
structure KindsOwn (w : World) (base : Nat) (v : Value) (rows : List (Value × List Ins)) : Prop where
  top : w.ownsRow base 37 1 v rows.length (rows.map (·.1))
  row : ∀ p, p ∈ rows → RowOwn w base p.1 p.2

theorem cowns_other {w : World} {base base' : Nat} {e e' : TypeId} {size size' : Nat} {v v' : Value} {n n' : Nat} {xs xs' : List Value} (h : w.ownsRow base e size v n xs) (h' : w.ownsRow base' e' size' v' n' xs') (hne : e ≠ e') : v.ownBlock = none ∨ v.ownBlock ≠ v'.ownBlock := by
  rcases h.2 with ⟨rfl, _⟩ | ⟨g, cap, cur, rfl, _, hg, _⟩
  · exact Or.inl rfl
  · right
    rcases h'.2 with ⟨rfl, _⟩ | ⟨g', cap', cur', rfl, _, hg', _⟩
    · simp [Value.ownBlock]
    · simp only [Value.ownBlock]
      intro e1
      simp only [Option.some.injEq] at e1
      subst e1
      rw [hg] at hg'
      simp only [Option.some.injEq, Obj.cells.injEq] at hg'
      exact hne hg'.2.1

theorem cowns_blk {w w' : World} {base : Nat} {e : TypeId} {size : Nat} {v : Value} {n : Nat} {xs : List Value} (h : w.ownsRow base e size v n xs) (hg : w.grownBy w' v.ownBlock) {k : Nat} {c : Array Value} {t' : TypeId} (hk : w.heap[k]? = some (.cells c t' (0, 0))) (hne : t' ≠ e) : w'.heap[k]? = some (.cells c t' (0, 0)) := by
  refine (hg.block k (Array.getElem?_eq_some_iff.1 hk).1 ?_).trans hk
  rcases h.2 with ⟨rfl, _⟩ | ⟨g, cap, cur, rfl, _, hgg, _⟩
  · simp [Value.ownBlock]
  · simp only [Value.ownBlock]
    intro e'
    simp only [Option.some.injEq] at e'
    subst e'
    rw [hk] at hgg
    simp only [Option.some.injEq, Obj.cells.injEq] at hgg
    exact hne hgg.2.1

theorem owns_set {w : World} {base : Nat} {e : TypeId} {size : Nat} {v : Value} {n : Nat} {xs : List Value} (h : w.ownsRow base e size v n xs) {B : Nat} {c : Array Value} {t' : TypeId} (hB : w.heap[B]? = some (.cells c t' (0, 0))) (hne : t' ≠ e) (j : Nat) (u : Value) : (w.setCell ⟨B, j, none⟩ u).ownsRow base e size v n xs := by
  refine World.ownsRow.kept h (row := some B) ⟨rfl, rfl, rfl, by simp [World.setCell], fun k _ hk => Below.heap_setCell _ _ _ _ (fun e => hk (by rw [e]))⟩ ?_
  rcases h.2 with ⟨rfl, _⟩ | ⟨g, cap, cur, rfl, _, hg, _⟩
  · exact Or.inl rfl
  · right
    simp only [Value.ownBlock]
    intro e1
    simp only [Option.some.injEq] at e1
    subst e1
    rw [hB] at hg
    simp only [Option.some.injEq, Obj.cells.injEq] at hg
    exact hne hg.2.1

theorem KindsOwn.nil (w : World) (base : Nat) : KindsOwn w base (.slice none 0 0) [] := ⟨World.ownsRow_nil w base _ 1, fun p hp => by cases hp⟩

theorem KindsOwn.alloc {w : World} {base : Nat} {v : Value} {rows : List (Value × List Ins)} (h : KindsOwn w base v rows) (o : Obj) : KindsOwn (w.alloc o) base v rows :=
  ⟨h.top.alloc o, fun p hp => (h.row p hp).alloc o⟩

theorem owns_but {w w' : World} {R base : Nat} {e : TypeId} {size : Nat} {v : Value} {n : Nat} {xs : List Value} (h : w.ownsRow base e size v n xs) (k : But R w w') (hR : R < base) : w'.ownsRow base e size v n xs :=
  World.ownsRow.kept h (row := some R) ⟨k.os, k.tape, k.output, k.size, fun i hi hne => k.block i hi (fun e => hne (by rw [e]))⟩ (by
    cases hv : v.ownBlock with
    | none => exact Or.inl rfl
    | some g => exact Or.inr (fun e => by
        simp only [Option.some.injEq] at e
        have := (World.ownsRow.lt h g hv).1
        omega))

theorem KindsOwn.but {w w' : World} {R base : Nat} {v : Value} {rows : List (Value × List Ins)} (h : KindsOwn w base v rows) (k : But R w w') (hR : R < base) : KindsOwn w' base v rows :=
  ⟨owns_but h.top k hR, fun p hp => (h.row p hp).but k hR⟩

theorem Tryd.infoRow : (Tryd.prog.info? 37).map (fun i => (i.zero, i.size, i.bytes)) = some (some (.slice none 0 0), 1, 24) := by kernel_rfl

theorem row_form {w : World} {base : Nat} {v : Value} {l : List Ins} (h : RowOwn w base v l) : ∃ ao n c, v = .slice ao n c := by
  rcases h.2 with ⟨rfl, _⟩ | ⟨g, cap, cur, rfl, _⟩ <;> exact ⟨_, _, _, rfl⟩

set_option maxRecDepth 100000 in
set_option maxHeartbeats 800000 in
theorem program_any (R : Nat) (ba : Option Addr) (cap : Nat) (bs : List Int) (k : Nat) (w : World) (h : RdAt w R ba cap bs k) (hR : Apart ba bs R) (hT : TabAt 0 w) (hR0 : R ≠ 0) :
    Calls Tryd.prog 49 #[.pointer (some ⟨R, 0, none⟩)] w fun e w' =>
      ∃ v rows, e = .returned (.tuple #[.agg #[v], .int .i64 (rdProg bs k).2.1]) ∧ rows.map (·.2) = (rdProg bs k).1 ∧ KindsOwn w' w.heap.size v rows ∧ RdAt w' R ba cap bs (rdProg bs k).2.2 ∧ But R w w' := by
  obtain ⟨i0, hi, hzz⟩ := Option.map_eq_some_iff.1 Tryd.infoRow
  simp only [Prod.mk.injEq] at hzz
  obtain ⟨hz0, hz1, hz2⟩ := hzz
  obtain ⟨n1, n2⟩ := rdNext_bd bs k h.bytes.fits
  have hRw := h.ne
  have HOWN : Aside (∀ B, w.heap.size ≤ B → Apart ba bs B) := fun B hB => own_block h hB
  go_enter Tryd.func49, Tryd.ntmps49
  go_wp2_with fail
  refine (next_any R ba cap bs k _ (h.alloc _) hR).mono ?_
  rintro e w1 ⟨rfl, h1, hb1⟩
  have N0 := hb1.blk (block_new w _) (by omega)
  have b1 : But R w w1 := ((But.refl _ _).alloc _).trans hb1
  clear hb1
  by_cases he : (rdNext bs k).2.1 = 0
  · have HR : Aside (rdProg bs k = rdRows bs (rdNext bs k).1.toNat [] (rdNext bs k).2.2) := by show rdProg bs k = _; rw [rdProg, if_neg (by simp [he])]
    rw [he]
    clear he
    generalize (rdNext bs k).2.2 = k1 at *
    generalize (rdNext bs k).1 = c at *
    obtain ⟨c, rfl⟩ := Int.eq_ofNat_of_zero_le n1
    rw [Int.toNat_natCast] at HR
    go_wp2_with fail
    go_loopg [6, 19] c (fun g s6 s19 wr => ∃ (i : Nat) (v : Value) (rows : List (Value × List Ins)) (j : Nat), i ≤ c ∧ g = c - i ∧ s19 = .int .i64 i ∧ s6 = v ∧ rows.length = i ∧ KindsOwn wr w.heap.size v rows ∧ RdAt wr R ba cap bs j ∧ But R w wr ∧
      Aside (wr.heap[w.heap.size]? = some (.cells #[.slice none 0 0] 26 (0, 0))) ∧ Aside (rdProg bs k = rdRows bs (c - i) (rows.map (·.2)) j))
    case atStart => exact ⟨0, _, [], k1, Nat.zero_le _, rfl, rfl, rfl, rfl, KindsOwn.nil _ _, h1, b1, N0, HR⟩
    case round =>
      obtain ⟨i, v, rows, j, hi', rfl, rfl, rfl, hll, hO, hr, hb, hN, hA⟩ := hrel
      clear h1 b1 HR N0
      have HLL : Aside (rows.length = i) := hll
      have hlb : rows.length ≤ 255 := by omega
      clear hll
      by_cases hic : i < c
      · have hiz : (i : Int) < (c : Int) := by omega
        go_wp2_with fail
        refine (behavior_any R ba cap bs j _ hr hR (hT.but hb hR0) hR0).mono ?_
        rintro e w2 ⟨v2, rfl, hrow, h2, hb2⟩
        have hb3 := hb.trans hb2
        have hO2 := hO.but hb2 hRw
        have hrow2 := hrow.le hb.size
        have N2 := hb2.blk hN.out (by omega)
        have hs2 := hb3.size
        obtain ⟨va, vn, vc, rfl⟩ := row_form hrow
        clear hr hb hb2 hO hN hrow
        have HS : Aside (rdRows bs (c - i) (rows.map (·.2)) j = if (rdRow bs j).2.1 ≠ 0 then ([], (rdRow bs j).2.1, (rdRow bs j).2.2) else rdRows bs (c - (i + 1)) (rows.map (·.2) ++ [(rdRow bs j).1]) (rdRow bs j).2.2) := by
          obtain ⟨f, hf⟩ : ∃ f, c - i = f + 1 := ⟨c - i - 1, by omega⟩
          show rdRows bs (c - i) (rows.map (·.2)) j = _
          rw [hf, rdRows, show c - (i + 1) = f by omega]
        generalize rdRow bs j = q at *
        obtain ⟨x, er, j'⟩ := q
        simp only at h2 hrow2
        by_cases her : er = 0
        · subst her
          have HN : Aside (rdProg bs k = rdRows bs (c - (i + 1)) ((rows ++ [(Value.slice va vn vc, x)]).map (·.2)) j') := by show rdProg bs k = _; rw [hA.out, HS.out]; simp
          clear HS hA
          go_wp2_with (at_builtin; refine wpList_append_own _ rfl (.tmp 30) (.tmp 32) 24 rfl w.heap.size 37 i0 (.slice none 0 0) 1 24 Tryd.underlying24 hi hz0 hz1 hz2 rfl (by decide) u6 rows.length (rows.map (·.1)) rfl (hO2.top.alloc _) ⟨w2.heap.size, 0, none⟩ 1 1 [.slice va vn vc] rfl rfl ?p1 ?p2 ?p3 ?p4 ?p5 ?_; (case p1 => exact cell_one_new _ _ _); (case p2 => intro u hu; simp at hu; subst hu; rfl); (case p3 => unfold maxLen; omega); (case p4 => omega); (case p5 => simp; omega); intro v1 w3 hO3 hg3 _)
          have hrow3 : ∀ g, u6.ownBlock = some g → w.heap.size ≤ g := fun g hg => (World.ownsRow.lt hO2.top g hg).1
          have hb4 : But R w w3 := grown_but (hb3.alloc _) hg3 hrow3
          have h4 : RdAt w3 R ba cap bs j' := (h2.alloc _).grown hg3 (fun e => by have := hrow3 R e; omega) (fun B hB => HOWN.out B (hrow3 B hB))
          have N4 : Aside (w3.heap[w.heap.size]? = some (.cells #[.slice none 0 0] 26 (0, 0))) := cowns_blk (hO2.top.alloc _) hg3 (block_old N2 _) (by decide)
          have hK : KindsOwn w3 w.heap.size v1 (rows ++ [(Value.slice va vn vc, x)]) := by
            refine ⟨by simpa using hO3, fun p hp => ?_⟩
            rcases List.mem_append.1 hp with hp | hp
            · exact World.ownsRow.kept ((hO2.row p hp).alloc _) hg3 (cowns_other (hO2.row p hp) hO2.top (by decide))
            · simp at hp
              subst hp
              exact World.ownsRow.kept (hrow2.alloc _) hg3 (cowns_other hrow2 hO2.top (by decide))
          clear hO2 hg3 h2 hb3 hrow2 hrow3 N2 hO3
          go_wp2
          go_roundg (c - (i + 1))
          case measure => go_light; omega
          case rel =>
            go_light
            exact ⟨i + 1, _, _, j', by omega, rfl, by go_num, rfl, by simp [HLL.out], hK, h4, hb4, N4, HN.out⟩
        · have heb : (er != 0) = true := by simp [her]
          have HN : Aside (rdProg bs k = ([], er, j')) := by show rdProg bs k = _; rw [hA.out, HS.out]; simp [her]
          have c0 := ccell_blk N2 0
          have f0 := cfz_blk N2 0
          simp at c0
          clear HS hA
          go_wp2
          have M0 := ccell_blk (blk_set (j := 0) N2 (.slice none 0 0)) 0
          simp at M0
          refine bodyPost_ret (v := .tuple #[.agg #[.slice none 0 0], .int .i64 er]) (by simp [results, Tryd.results49, go_sem, M0]) rfl ⟨.slice none 0 0, [], by rw [HN.out], by rw [HN.out]; rfl, KindsOwn.nil _ _, ?_, hb3.setNew (Nat.le_refl _) _ _⟩
          rw [HN.out]
          exact h2.set (by omega) (HOWN.out _ (Nat.le_refl _)) _ _
      · have HN : Aside (rdProg bs k = (rows.map (·.2), 0, j)) := by show rdProg bs k = _; rw [hA.out, show c - i = 0 by omega, rdRows]
        have N2 := hN.out
        have c0 := ccell_blk N2 0
        have f0 := cfz_blk N2 0
        simp at c0
        obtain ⟨va, vn, vc, rfl⟩ : ∃ ao n c, u6 = .slice ao n c := by
          rcases hO.top.2 with ⟨rfl, _⟩ | ⟨g, cap, cur, rfl, _⟩ <;> exact ⟨_, _, _, rfl⟩
        clear hA
        go_wp2
        have M0 := ccell_blk (blk_set (j := 0) N2 (.slice va vn vc)) 0
        simp at M0
        refine bodyPost_ret (v := .tuple #[.agg #[.slice va vn vc], .int .i64 0]) (by simp [results, Tryd.results49, go_sem, M0]) rfl ⟨.slice va vn vc, rows, by rw [HN.out], by rw [HN.out], ?_, ?_, hb.setNew (Nat.le_refl _) _ _⟩
        · exact ⟨owns_set hO.top N2 (by decide) _ _, fun p hp => owns_set (hO.row p hp) N2 (by decide) _ _⟩
        · rw [HN.out]
          exact hr.set (by omega) (HOWN.out _ (Nat.le_refl _)) _ _
  · have HU : Aside (rdProg bs k = ([], (rdNext bs k).2.1, (rdNext bs k).2.2)) := by show rdProg bs k = _; rw [rdProg, if_pos he]
    have heb : ((rdNext bs k).2.1 != 0) = true := by simp [he]
    have c0 := ccell_blk N0 0
    have f0 := cfz_blk N0 0
    simp at c0
    go_wp2
    have M0 := ccell_blk (blk_set (j := 0) N0 (.slice none 0 0)) 0
    simp at M0
    refine bodyPost_ret (v := .tuple #[.agg #[.slice none 0 0], .int .i64 (rdNext bs k).2.1]) (by simp [results, Tryd.results49, go_sem, M0]) rfl ⟨.slice none 0 0, [], by rw [HU.out], by rw [HU.out]; rfl, KindsOwn.nil _ _, ?_, b1.setNew (Nat.le_refl _) _ _⟩
    rw [HU.out]
    exact h1.set (by omega) (HOWN.out _ (Nat.le_refl _)) _ _

end Go.Proofs.YtahcgnmhhgcfmaaDoor
