/- The walk of the law HeapChecks. -/
import Derived.Test.YtemehedbcckmgabHCheck
import Derived.WalkKit
import Derived.WalkSpells
import Derived.WalkLawsBesides
import Derived.Deep.LoopGhost
import Derived.Deep.Light
namespace Go.Proofs.Ytemehedbcckmgab
open Go.RowKit

set_option maxHeartbeats 400000 in
theorem heapChecks_walk (M : Int) (ao : Option Addr) (cap : Nat) (l : List Ob) (ra : Option Addr) (rc : Nat) (roots : List Vl) (w : World) (h : ObsAt w ao l) (hr : ValsAt w ra roots) (hrl : 16 * roots.length ≤ 140737488351232) :
    Calls Try.prog 3 #[.agg #[.int .i64 M, .slice ao l.length cap], .slice ra roots.length rc] w fun e w' => e = .returned (.bool true) ∧ Below w.heap.size w w' := by
  go_enter Try.func3, Try.ntmps3
  go_wp2_with fail
  have c0 : (w.alloc (Obj.cells #[.int .i64 M, .slice ao l.length cap] 24)).cell? ⟨w.heap.size, 0, none⟩ = some (.int .i64 M) := by simp
  have c1 : (w.alloc (Obj.cells #[.int .i64 M, .slice ao l.length cap] 24)).cell? ⟨w.heap.size, 1, none⟩ = some (.slice ao l.length cap) := by simp
  have k1 := Keeps.alloc w (Obj.cells #[.int .i64 M, .slice ao l.length cap] 24)
  have b1 := below_box w (Obj.cells #[.int .i64 M, .slice ao l.length cap] 24)
  refine (check_any M ao cap l ra rc roots _ (h.keeps k1) (hr.keeps k1) hrl).mono ?_
  rintro e w1 ⟨rfl, hb⟩
  have k2 := Keeps.below hb
  replace c0 := k2 _ _ c0
  replace c1 := k2 _ _ c1
  replace h := h.keeps (k1.trans k2)
  replace hr := hr.keeps (k1.trans k2)
  have b2 := b1.trans (hb.mono (by simp))
  clear hb k1 k2 b1
  go_wp2_with fail
  refine (heapMay_any M ao cap l ra rc roots _ h hr hrl).mono ?_
  rintro e w2 ⟨rfl, hb2⟩
  have b3 := b2.trans (hb2.mono b2.size)
  clear hb2 b2 c0 c1 h hr
  cases hq : hMay M l roots
  all_goals
    simp only [erS_true, erS_false]
    go_wp2
    go_ret
    exact ⟨rfl, b3⟩

end Go.Proofs.Ytemehedbcckmgab
