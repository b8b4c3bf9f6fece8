/- Where an instruction goes on: a list in memory of its own. -/
import Derived.Test.YtahcgnmhhgcfmaaDoorCVRegs
namespace Go.Proofs.YtahcgnmhhgcfmaaDoor
open Go.RowKit

set_option maxHeartbeats 1000000 in
theorem vGoesOn_any (op a b n place : Int) (w : World) (hp : 0 ≤ place ∧ place ≤ 1000) (hn : op = 5 ∨ op = 6 → -1000 ≤ n ∧ n ≤ 1000) :
    Calls Tryd.prog 64 #[insV op a b n, .int .i64 place] w fun e w' => ∃ ga gc, e = .returned (.slice ga (vGoes op n place).length gc) ∧ VInts w' ga (vGoes op n place) ∧ Below w.heap.size w w' ∧ (∀ b o, ga = some ⟨b, o, none⟩ → w.heap.size ≤ b) := by
  by_cases h0 : op = 0
  · subst h0
    go_enter Tryd.func64, Tryd.ntmps64
    go_wp2
    go_ret
    exact ⟨none, 0, rfl, fun i z hz => by simp [vGoes] at hz, below_box _ _, fun b o h => by cases h⟩
  · have e0 : (op == 0) = false := by simp [h0]
    by_cases h19 : op = 19
    · subst h19
      go_enter Tryd.func64, Tryd.ntmps64
      go_wp2
      go_ret
      exact ⟨none, 0, rfl, fun i z hz => by simp [vGoes] at hz, below_box _ _, fun b o h => by cases h⟩
    · have e19 : (op == 19) = false := by simp [h19]
      by_cases h6 : op = 6
      · subst h6
        replace hn := hn (Or.inr rfl)
        have hw : IntKind.i64.wrap (place + n) = place + n := IntWalk.i64_in _ (by omega)
        go_enter Tryd.func64, Tryd.ntmps64
        go_wp2
        go_ret
        exact ⟨some ⟨w.heap.size + 1, 0, none⟩, 1, rfl, vInts1 _ _ _ _ (by simp), (below_box _ _).alloc (by simp) _, fun b o h => by simp at h; omega⟩
      · have e6 : (op == 6) = false := by simp [h6]
        by_cases h5 : op = 5
        · subst h5
          replace hn := hn (Or.inl rfl)
          have hw : IntKind.i64.wrap (place + n) = place + n := IntWalk.i64_in _ (by omega)
          go_enter Tryd.func64, Tryd.ntmps64
          go_wp2
          go_ret
          exact ⟨some ⟨w.heap.size + 1, 0, none⟩, 2, rfl, vInts2 _ _ _ _ _ (by simp), (below_box _ _).alloc (by simp) _, fun b o h => by simp at h; omega⟩
        · have e5 : (op == 5) = false := by simp [h5]
          have HV : Aside (vGoes op n place = [place + 1]) := by show vGoes op n place = _; simp [vGoes, h0, h19, h6, h5]
          clear h0 h19 h6 h5 hn
          go_enter Tryd.func64, Tryd.ntmps64
          go_wp2
          go_ret
          rw [HV.out]
          exact ⟨some ⟨w.heap.size + 1, 0, none⟩, 1, rfl, vInts1 _ _ _ _ (by simp), (below_box _ _).alloc (by simp) _, fun b o h => by simp at h; omega⟩

theorem VInts.other {w w' : World} {ga : Option Addr} {l : List Int} (h : VInts w ga l) (hk : ∀ b o, ga = some ⟨b, o, none⟩ → b < w.heap.size → w'.heap[b]? = w.heap[b]?) : VInts w' ga l := fun i z hz => by
  obtain ⟨b, o, e, hc⟩ := h i z hz
  refine ⟨b, o, e, ?_⟩
  rw [World.cell?_of_block (hk b o e (World.block_lt_of_cell? _ _ hc))]
  exact hc

end Go.Proofs.YtahcgnmhhgcfmaaDoor
