/- The walk of the law HeapClones. -/
import Derived.Test.YtemehedbcckmgabHClone
import Derived.Test.YtemehedbcckmgabHSame
import Derived.WalkKit
import Derived.WalkSpells
import Derived.WalkLawsBesides
import Derived.Deep.LoopGhost
import Derived.Deep.Light
namespace Go.Proofs.Ytemehedbcckmgab
open Go.RowKit

set_option maxHeartbeats 400000 in
theorem heapClones_walk (M : Int) (ao : Option Addr) (cap : Nat) (l : List Ob) (w : World) (h : ObsAt w ao l) :
    Calls Try.prog 4 #[.agg #[.int .i64 M, .slice ao l.length cap]] w fun e w' => e = .returned (.bool true) ∧ Below w.heap.size w w' := by
  go_enter Try.func4, Try.ntmps4
  go_wp2_with fail
  have k1 := Keeps.alloc w (Obj.cells #[.int .i64 M, .slice ao l.length cap] 24)
  have b1 := below_box w (Obj.cells #[.int .i64 M, .slice ao l.length cap] 24)
  have c0 : (w.alloc (Obj.cells #[.int .i64 M, .slice ao l.length cap] 24)).cell? ⟨w.heap.size, 0, none⟩ = some (.int .i64 M) := by simp
  have c1 : (w.alloc (Obj.cells #[.int .i64 M, .slice ao l.length cap] 24)).cell? ⟨w.heap.size, 1, none⟩ = some (.slice ao l.length cap) := by simp
  refine (clone_any M ao cap l _ (h.keeps k1)).mono ?_
  rintro e w1 ⟨g, rows, rfl, hrows, hO, hb⟩
  have hsz := hb.size
  have hs : w.heap.size < w1.heap.size := by simp at hsz; omega
  have b2 := b1.trans (hb.mono (by simp))
  have k2 := k1.trans (Keeps.below hb)
  replace c0 : ∀ o, (w1.alloc o).cell? ⟨w.heap.size, 0, none⟩ = some (.int .i64 M) := fun o => Keeps.alloc _ o _ _ (Keeps.below hb _ _ c0)
  replace c1 : ∀ o, (w1.alloc o).cell? ⟨w.heap.size, 1, none⟩ = some (.slice ao l.length cap) := fun o => Keeps.alloc _ o _ _ (Keeps.below hb _ _ c1)
  obtain ⟨hn, hat⟩ := hO.obs
  rw [hrows] at hat
  clear hO hb hsz hrows k1 b1 hn
  go_wp2_with fail
  refine (sameHeap_any M _ ao l.length cap l _ (hat.keeps (Keeps.alloc _ _)) (h.keeps (k2.trans (Keeps.alloc _ _)))).mono ?_
  rintro e w2 ⟨rfl, hb2⟩
  have b3 : Below w.heap.size w w2 := (b2.alloc (by omega) _).trans (hb2.mono (by simp; omega))
  clear hb2 c0 c1
  go_wp2
  go_ret
  exact ⟨rfl, b3⟩

end Go.Proofs.Ytemehedbcckmgab
