/- The walk of readAll: the rows of a program, or the fault of the bytes. -/
import Derived.Test.YtahcgnmhhgcfmaaDoorCRdProg
import Derived.WalkKit
import Derived.WalkSpells
import Derived.WalkLawsBesides
import Derived.Deep.LoopGhost
import Derived.Deep.Light
namespace Go.Proofs.YtahcgnmhhgcfmaaDoor
open Go.RowKit

theorem KindsOwn.le {w : World} {base base' : Nat} {v : Value} {rows : List (Value × List Ins)} (h : KindsOwn w base v rows) (hb : base' ≤ base) : KindsOwn w base' v rows :=
  ⟨⟨h.top.1, h.top.2.elim Or.inl (fun ⟨g, cap, cur, hv, hg, r⟩ => Or.inr ⟨g, cap, cur, hv, Nat.le_trans hb hg, r⟩)⟩, fun p hp => (h.row p hp).le hb⟩

theorem KindsOwn.set {w : World} {base : Nat} {v : Value} {rows : List (Value × List Ins)} (h : KindsOwn w base v rows) {B : Nat} {c : Array Value} {t' : TypeId} (hB : w.heap[B]? = some (.cells c t' (0, 0))) (h1 : t' ≠ 37) (h2 : t' ≠ 40) (j : Nat) (u : Value) : KindsOwn (w.setCell ⟨B, j, none⟩ u) base v rows :=
  ⟨owns_set h.top hB h1 _ _, fun p hp => owns_set (h.row p hp) hB h2 _ _⟩

theorem kinds_form {w : World} {base : Nat} {v : Value} {rows : List (Value × List Ins)} (h : KindsOwn w base v rows) : ∃ ao c, v = .slice ao rows.length c := by
  rcases h.top.2 with ⟨rfl, hn⟩ | ⟨g, cap, cur, rfl, _⟩
  · exact ⟨none, 0, by rw [hn]⟩
  · exact ⟨_, _, rfl⟩

set_option maxRecDepth 100000 in
set_option maxHeartbeats 800000 in
theorem readAll_any (ba : Option Addr) (cap : Nat) (bs : List Int) (w : World) (hB : BytesAt w ba bs) (hT : TabAt 0 w) :
    Calls Tryd.prog 29 #[.slice ba bs.length cap] w fun e w' =>
      ∃ v rows, e = .returned (.tuple #[.agg #[v], .int .i64 (rdAll bs).2]) ∧ rows.map (·.2) = (rdAll bs).1 ∧ KindsOwn w' w.heap.size v rows ∧ Below w.heap.size w w' := by
  have hsh := hB.short
  have hpos : 0 < w.heap.size := World.block_lt_of_cell? _ _ (hT 0 (by omega)).1
  go_enter Tryd.func29, Tryd.ntmps29
  go_wp2_with fail
  have N0 : ((w.alloc (.cells #[.slice none 0 0] 26)).alloc (.cells #[.slice ba bs.length cap, .int .i64 0] 104)).heap[w.heap.size]? = some (.cells #[.slice none 0 0] 26 (0, 0)) := block_old (block_new w _) _
  have k0 : Keeps w ((w.alloc (.cells #[.slice none 0 0] 26)).alloc (.cells #[.slice ba bs.length cap, .int .i64 0] 104)) := (Keeps.alloc w _).trans (Keeps.alloc _ _)
  have b0 : Below w.heap.size w ((w.alloc (.cells #[.slice none 0 0] 26)).alloc (.cells #[.slice ba bs.length cap, .int .i64 0] 104)) := ((Below.refl _ _).alloc (Nat.le_refl _) _).alloc (by simp) _
  have R0 : RdAt ((w.alloc (.cells #[.slice none 0 0] 26)).alloc (.cells #[.slice ba bs.length cap, .int .i64 0] 104)) (w.heap.size + 1) ba cap bs 0 := by
    refine ⟨?_, hB.keeps k0, Nat.zero_le _⟩
    have := block_new (w.alloc (.cells #[.slice none 0 0] 26)) (.cells #[.slice ba bs.length cap, .int .i64 0] 104)
    rw [World.size_alloc] at this
    exact this
  have hR : Apart ba bs (w.heap.size + 1) := fun hn b o e => by
    obtain ⟨b', o', e', hc⟩ := hB.cell 0 hn
    rw [e] at e'
    simp only [Option.some.injEq, Addr.mk.injEq, and_true] at e'
    have := World.block_lt_of_cell? _ _ hc
    simp at this
    omega
  refine (beginning_any (w.heap.size + 1) ba cap bs 0 _ R0 hR).mono ?_
  rintro e w1 ⟨rfl, h1, hb1⟩
  have N1 := hb1.blk N0 (by omega)
  have hs1 := hb1.size
  simp at hs1
  have b1 : Below w.heap.size w w1 := b0.trans (hb1.below (by simp; omega) (by omega))
  have hT1 : TabAt 0 w1 := (hT.keeps k0).but hb1 (by omega)
  clear R0 N0 k0 b0 hb1
  by_cases he : (rdBegin bs 0).1 = 0
  · have HE : Aside ((rdBegin bs 0).1 = 0) := he
    rw [he]
    clear he
    go_wp2_with fail
    refine (program_any (w.heap.size + 1) ba cap bs _ _ h1 hR hT1 (by omega)).mono ?_
    rintro e w2 ⟨v, rows, rfl, hrows, hK, h2, hb2⟩
    have N2 := hb2.blk N1 (by omega)
    have b2 : Below w.heap.size w w2 := b1.trans (hb2.below (by omega) (by omega))
    have hK2 := hK.le (base' := w.heap.size) (by omega)
    have hs2 := hb2.size
    have HD : Aside (rdAll bs = if (rdProg bs (rdBegin bs 0).2).2.1 ≠ 0 then ([], (rdProg bs (rdBegin bs 0).2).2.1) else if (rdProg bs (rdBegin bs 0).2).2.2 < bs.length then ([], 4) else ((rdProg bs (rdBegin bs 0).2).1, 0)) := by
      show rdAll bs = _; rw [rdAll, if_neg (by rw [HE.out]; simp)]
    clear hb2 hK b1 hT1 h1 N1 HE
    generalize rdProg bs (rdBegin bs 0).2 = q at *
    obtain ⟨l, er, k2⟩ := q
    simp only at hrows h2
    have HROWS : Aside (rows.map (·.2) = l) := hrows
    clear hrows
    obtain ⟨va, vc, rfl⟩ := kinds_form hK2
    have N3 : ∀ o, (w2.alloc o).heap[w.heap.size]? = some (.cells #[.slice none 0 0] 26 (0, 0)) := fun o => block_old N2 o
    have c0 : ∀ o, (w2.alloc o).cell? ⟨w.heap.size, 0, none⟩ = some (.slice none 0 0) := fun o => by have := ccell_blk (N3 o) 0; simpa using this
    have f0 : ∀ o, (w2.alloc o).frozen? ⟨w.heap.size, 0, none⟩ = false := fun o => cfz_blk (N3 o) 0
    have d1 : ∀ o, (w2.alloc o).cell? ⟨w.heap.size + 1, 1, none⟩ = some (.int .i64 k2) := fun o => by have := ccell_blk (block_old h2.blk o) 1; simpa using this
    have hpl := h2.place
    by_cases her : er = 0
    · subst her
      by_cases hlt : k2 < bs.length
      · have HU : Aside (rdAll bs = ([], 4)) := by show rdAll bs = _; rw [HD.out]; simp [hlt]
        have hltz : (k2 : Int) < (bs.length : Int) := by omega
        clear HD
        go_wp2
        have M0 := ccell_blk (blk_set (j := 0) (N3 (.cells #[.slice va rows.length vc] 26)) (.slice none 0 0)) 0
        simp at M0
        exact bodyPost_ret (v := .tuple #[.agg #[.slice none 0 0], .int .i64 4]) (by simp [results, Tryd.results29, go_sem, M0]) rfl ⟨.slice none 0 0, [], by rw [HU.out], by rw [HU.out]; rfl, KindsOwn.nil _ _, (b2.alloc (by omega) _).setCell (Nat.le_refl _) _⟩
      · have HU : Aside (rdAll bs = (l, 0)) := by show rdAll bs = _; rw [HD.out]; simp [hlt]
        have hltz : ¬ (k2 : Int) < (bs.length : Int) := by omega
        clear HD
        go_wp2
        have M0 := ccell_blk (blk_set (j := 0) (N3 (.cells #[.slice va rows.length vc] 26)) (.slice va rows.length vc)) 0
        simp at M0
        exact bodyPost_ret (v := .tuple #[.agg #[.slice va rows.length vc], .int .i64 0]) (by simp [results, Tryd.results29, go_sem, M0]) rfl ⟨.slice va rows.length vc, rows, by rw [HU.out], by rw [HU.out]; exact HROWS.out, (hK2.alloc _).set (N3 _) (by decide) (by decide) _ _, (b2.alloc (by omega) _).setCell (Nat.le_refl _) _⟩
    · have heb : (er != 0) = true := by simp [her]
      have HU : Aside (rdAll bs = ([], er)) := by show rdAll bs = _; rw [HD.out]; simp [her]
      clear HD
      go_wp2
      have M0 := ccell_blk (blk_set (j := 0) (N3 (.cells #[.slice va rows.length vc] 26)) (.slice none 0 0)) 0
      simp at M0
      exact bodyPost_ret (v := .tuple #[.agg #[.slice none 0 0], .int .i64 er]) (by simp [results, Tryd.results29, go_sem, M0]) rfl ⟨.slice none 0 0, [], by rw [HU.out], by rw [HU.out]; rfl, KindsOwn.nil _ _, (b2.alloc (by omega) _).setCell (Nat.le_refl _) _⟩
  · have HU : Aside (rdAll bs = ([], (rdBegin bs 0).1)) := by show rdAll bs = _; rw [rdAll, if_pos he]
    have heb : ((rdBegin bs 0).1 != 0) = true := by simp [he]
    have c0 := ccell_blk N1 0
    have f0 := cfz_blk N1 0
    simp at c0
    go_wp2
    have M0 := ccell_blk (blk_set (j := 0) N1 (.slice none 0 0)) 0
    simp at M0
    exact bodyPost_ret (v := .tuple #[.agg #[.slice none 0 0], .int .i64 (rdBegin bs 0).1]) (by simp [results, Tryd.results29, go_sem, M0]) rfl ⟨.slice none 0 0, [], by rw [HU.out], by rw [HU.out]; rfl, KindsOwn.nil _ _, b1.setCell (Nat.le_refl _) _⟩

end Go.Proofs.YtahcgnmhhgcfmaaDoor
