/- The walks of the small functions of package code and of the reference: each answers what the plain function of the same thing says, and changes nothing. -/
import Derived.Test.YtcgdabmmhjnidaaDoorChecked
import Derived.Test.YtcgdabmmhjnidaaDoorTab
import Derived.WalkKit
import Derived.WalkSpells
import Derived.WalkLawsBesides
import Derived.Deep.LoopGhost
import Derived.Deep.Light
namespace Go.Proofs.YtcgdabmmhjnidaaDoor
open Go.RowKit

theorem cret_bool {a b : Bool} (h : a = b) : Ending.returned (.bool a) = .returned (.bool b) := by rw [h]
theorem cret_num {a b : Int} (h : a = b) : Ending.returned (.int .i64 a) = .returned (.int .i64 b) := by rw [h]

set_option maxHeartbeats 400000 in
theorem isOperator_any (op : Int) (w : World) :
    Calls Tryd.prog 86 #[.int .i64 op] w fun e w' => e = .returned (.bool (okOp op)) ∧ w' = w := by
  go_enter Tryd.func86, Tryd.ntmps86
  go_wp2
  all_goals
    go_ret
    refine ⟨cret_bool ?_, rfl⟩
    go_light
    simp [okOp, *] <;> omega

set_option maxHeartbeats 400000 in
theorem isRegister_any (r : Int) (w : World) :
    Calls Tryd.prog 87 #[.int .i64 r] w fun e w' => e = .returned (.bool (okReg r)) ∧ w' = w := by
  go_enter Tryd.func87, Tryd.ntmps87
  go_wp2
  all_goals
    go_ret
    refine ⟨cret_bool ?_, rfl⟩
    go_light
    simp [okReg, *] <;> omega

set_option maxHeartbeats 400000 in
theorem cin_any (n lo hi : Int) (w : World) :
    Calls Tryd.prog 35 #[.int .i64 n, .int .i64 lo, .int .i64 hi] w fun e w' => e = .returned (.bool (decide (lo ≤ n) && decide (n ≤ hi))) ∧ w' = w := by
  go_enter Tryd.func35, Tryd.ntmps35
  go_wp2
  all_goals
    go_ret
    refine ⟨cret_bool ?_, rfl⟩
    go_light
    simp [*] <;> omega

set_option maxHeartbeats 400000 in
theorem goesOn_any (op : Int) (w : World) :
    Calls Tryd.prog 73 #[.int .i64 op] w fun e w' => e = .returned (.bool (op != 0 && op != 19 && op != 6)) ∧ w' = w := by
  go_enter Tryd.func73, Tryd.ntmps73
  go_wp2
  all_goals
    go_ret
    refine ⟨cret_bool ?_, rfl⟩
    go_light
    simp_all

set_option maxHeartbeats 400000 in
theorem refHasA_any (op : Int) (w : World) :
    Calls Tryd.prog 55 #[.int .i64 op] w fun e w' => e = .returned (.bool (aOf op)) ∧ w' = w := by
  go_enter Tryd.func55, Tryd.ntmps55
  go_wp2
  all_goals
    go_ret
    refine ⟨cret_bool ?_, rfl⟩
    go_light
    simp_all [aOf]

end Go.Proofs.YtcgdabmmhjnidaaDoor
