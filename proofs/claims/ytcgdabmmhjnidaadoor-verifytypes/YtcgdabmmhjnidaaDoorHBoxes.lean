/- Boxes that are made one behind the other. -/
import Derived.Test.YtcgdabmmhjnidaaDoorHViews
import Derived.WalkKit
import Derived.Deep.OwnRows
namespace Go.Proofs.YtcgdabmmhjnidaaDoor
open Go.RowKit

theorem boxes1 (w : World) (o0 : Obj) : (w.alloc o0).heap[w.heap.size]? = some o0 ∧ Keeps w (w.alloc o0) ∧ Below w.heap.size w (w.alloc o0) ∧ (w.alloc o0).heap.size = w.heap.size + 1 := by
  exact ⟨Deep.blk_alloc_new w o0, Keeps.alloc w o0, below_box w o0, by simp⟩

theorem boxes2 (w : World) (o0 o1 : Obj) : ((w.alloc o0).alloc o1).heap[w.heap.size]? = some o0 ∧ ((w.alloc o0).alloc o1).heap[w.heap.size + 1]? = some o1 ∧ Keeps w ((w.alloc o0).alloc o1) ∧ Below w.heap.size w ((w.alloc o0).alloc o1) ∧ ((w.alloc o0).alloc o1).heap.size = w.heap.size + 1 + 1 := by
  obtain ⟨h0, hk, hb, hs⟩ := boxes1 w o0
  exact ⟨(Deep.blk_alloc_lt _ _ _ (by rw [hs]; omega)).trans h0, by rw [← hs]; exact Deep.blk_alloc_new _ _, hk.trans (Keeps.alloc _ _), hb.alloc (by rw [hs]; omega) _, by simp [hs]⟩

theorem boxes3 (w : World) (o0 o1 o2 : Obj) : (((w.alloc o0).alloc o1).alloc o2).heap[w.heap.size]? = some o0 ∧ (((w.alloc o0).alloc o1).alloc o2).heap[w.heap.size + 1]? = some o1 ∧ (((w.alloc o0).alloc o1).alloc o2).heap[w.heap.size + 1 + 1]? = some o2 ∧ Keeps w (((w.alloc o0).alloc o1).alloc o2) ∧ Below w.heap.size w (((w.alloc o0).alloc o1).alloc o2) ∧ (((w.alloc o0).alloc o1).alloc o2).heap.size = w.heap.size + 1 + 1 + 1 := by
  obtain ⟨h0, h1, hk, hb, hs⟩ := boxes2 w o0 o1
  exact ⟨(Deep.blk_alloc_lt _ _ _ (by rw [hs]; omega)).trans h0, (Deep.blk_alloc_lt _ _ _ (by rw [hs]; omega)).trans h1, by rw [← hs]; exact Deep.blk_alloc_new _ _, hk.trans (Keeps.alloc _ _), hb.alloc (by rw [hs]; omega) _, by simp [hs]⟩

theorem boxes4 (w : World) (o0 o1 o2 o3 : Obj) : ((((w.alloc o0).alloc o1).alloc o2).alloc o3).heap[w.heap.size]? = some o0 ∧ ((((w.alloc o0).alloc o1).alloc o2).alloc o3).heap[w.heap.size + 1]? = some o1 ∧ ((((w.alloc o0).alloc o1).alloc o2).alloc o3).heap[w.heap.size + 1 + 1]? = some o2 ∧ ((((w.alloc o0).alloc o1).alloc o2).alloc o3).heap[w.heap.size + 1 + 1 + 1]? = some o3 ∧ Keeps w ((((w.alloc o0).alloc o1).alloc o2).alloc o3) ∧ Below w.heap.size w ((((w.alloc o0).alloc o1).alloc o2).alloc o3) ∧ ((((w.alloc o0).alloc o1).alloc o2).alloc o3).heap.size = w.heap.size + 1 + 1 + 1 + 1 := by
  obtain ⟨h0, h1, h2, hk, hb, hs⟩ := boxes3 w o0 o1 o2
  exact ⟨(Deep.blk_alloc_lt _ _ _ (by rw [hs]; omega)).trans h0, (Deep.blk_alloc_lt _ _ _ (by rw [hs]; omega)).trans h1, (Deep.blk_alloc_lt _ _ _ (by rw [hs]; omega)).trans h2, by rw [← hs]; exact Deep.blk_alloc_new _ _, hk.trans (Keeps.alloc _ _), hb.alloc (by rw [hs]; omega) _, by simp [hs]⟩

theorem boxes5 (w : World) (o0 o1 o2 o3 o4 : Obj) : (((((w.alloc o0).alloc o1).alloc o2).alloc o3).alloc o4).heap[w.heap.size]? = some o0 ∧ (((((w.alloc o0).alloc o1).alloc o2).alloc o3).alloc o4).heap[w.heap.size + 1]? = some o1 ∧ (((((w.alloc o0).alloc o1).alloc o2).alloc o3).alloc o4).heap[w.heap.size + 1 + 1]? = some o2 ∧ (((((w.alloc o0).alloc o1).alloc o2).alloc o3).alloc o4).heap[w.heap.size + 1 + 1 + 1]? = some o3 ∧ (((((w.alloc o0).alloc o1).alloc o2).alloc o3).alloc o4).heap[w.heap.size + 1 + 1 + 1 + 1]? = some o4 ∧ Keeps w (((((w.alloc o0).alloc o1).alloc o2).alloc o3).alloc o4) ∧ Below w.heap.size w (((((w.alloc o0).alloc o1).alloc o2).alloc o3).alloc o4) ∧ (((((w.alloc o0).alloc o1).alloc o2).alloc o3).alloc o4).heap.size = w.heap.size + 1 + 1 + 1 + 1 + 1 := by
  obtain ⟨h0, h1, h2, h3, hk, hb, hs⟩ := boxes4 w o0 o1 o2 o3
  exact ⟨(Deep.blk_alloc_lt _ _ _ (by rw [hs]; omega)).trans h0, (Deep.blk_alloc_lt _ _ _ (by rw [hs]; omega)).trans h1, (Deep.blk_alloc_lt _ _ _ (by rw [hs]; omega)).trans h2, (Deep.blk_alloc_lt _ _ _ (by rw [hs]; omega)).trans h3, by rw [← hs]; exact Deep.blk_alloc_new _ _, hk.trans (Keeps.alloc _ _), hb.alloc (by rw [hs]; omega) _, by simp [hs]⟩

theorem boxes6 (w : World) (o0 o1 o2 o3 o4 o5 : Obj) : ((((((w.alloc o0).alloc o1).alloc o2).alloc o3).alloc o4).alloc o5).heap[w.heap.size]? = some o0 ∧ ((((((w.alloc o0).alloc o1).alloc o2).alloc o3).alloc o4).alloc o5).heap[w.heap.size + 1]? = some o1 ∧ ((((((w.alloc o0).alloc o1).alloc o2).alloc o3).alloc o4).alloc o5).heap[w.heap.size + 1 + 1]? = some o2 ∧ ((((((w.alloc o0).alloc o1).alloc o2).alloc o3).alloc o4).alloc o5).heap[w.heap.size + 1 + 1 + 1]? = some o3 ∧ ((((((w.alloc o0).alloc o1).alloc o2).alloc o3).alloc o4).alloc o5).heap[w.heap.size + 1 + 1 + 1 + 1]? = some o4 ∧ ((((((w.alloc o0).alloc o1).alloc o2).alloc o3).alloc o4).alloc o5).heap[w.heap.size + 1 + 1 + 1 + 1 + 1]? = some o5 ∧ Keeps w ((((((w.alloc o0).alloc o1).alloc o2).alloc o3).alloc o4).alloc o5) ∧ Below w.heap.size w ((((((w.alloc o0).alloc o1).alloc o2).alloc o3).alloc o4).alloc o5) ∧ ((((((w.alloc o0).alloc o1).alloc o2).alloc o3).alloc o4).alloc o5).heap.size = w.heap.size + 1 + 1 + 1 + 1 + 1 + 1 := by
  obtain ⟨h0, h1, h2, h3, h4, hk, hb, hs⟩ := boxes5 w o0 o1 o2 o3 o4
  exact ⟨(Deep.blk_alloc_lt _ _ _ (by rw [hs]; omega)).trans h0, (Deep.blk_alloc_lt _ _ _ (by rw [hs]; omega)).trans h1, (Deep.blk_alloc_lt _ _ _ (by rw [hs]; omega)).trans h2, (Deep.blk_alloc_lt _ _ _ (by rw [hs]; omega)).trans h3, (Deep.blk_alloc_lt _ _ _ (by rw [hs]; omega)).trans h4, by rw [← hs]; exact Deep.blk_alloc_new _ _, hk.trans (Keeps.alloc _ _), hb.alloc (by rw [hs]; omega) _, by simp [hs]⟩

end Go.Proofs.YtcgdabmmhjnidaaDoor
