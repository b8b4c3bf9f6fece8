/- The walks of the small functions of package code and of the reference: each answers what the plain function of the same thing says, and changes nothing. -/
import Derived.Test.YtahcgnmhhgcfmaaDoorChecked
import Derived.Test.YtahcgnmhhgcfmaaDoorCPlain
import Derived.WalkKit
import Derived.WalkSpells
import Derived.WalkLawsBesides
import Derived.Deep.LoopGhost
import Derived.Deep.Light
namespace Go.Proofs.YtahcgnmhhgcfmaaDoor
open Go.RowKit

theorem cret_bool {a b : Bool} (h : a = b) : Ending.returned (.bool a) = .returned (.bool b) := by rw [h]
theorem cret_num {a b : Int} (h : a = b) : Ending.returned (.int .i64 a) = .returned (.int .i64 b) := by rw [h]

set_option maxHeartbeats 400000 in
theorem isOperator_any (op : Int) (w : World) :
    Calls Tryd.prog 81 #[.int .i64 op] w fun e w' => e = .returned (.bool (okOp op)) ∧ w' = w := by
  go_enter Tryd.func81, Tryd.ntmps81
  go_wp2
  all_goals
    go_ret
    refine ⟨cret_bool ?_, rfl⟩
    go_light
    simp [okOp, *] <;> omega

set_option maxHeartbeats 400000 in
theorem isRegister_any (r : Int) (w : World) :
    Calls Tryd.prog 82 #[.int .i64 r] w fun e w' => e = .returned (.bool (okReg r)) ∧ w' = w := by
  go_enter Tryd.func82, Tryd.ntmps82
  go_wp2
  all_goals
    go_ret
    refine ⟨cret_bool ?_, rfl⟩
    go_light
    simp [okReg, *] <;> omega

set_option maxHeartbeats 400000 in
theorem cin_any (n lo hi : Int) (w : World) :
    Calls Tryd.prog 37 #[.int .i64 n, .int .i64 lo, .int .i64 hi] w fun e w' => e = .returned (.bool (decide (lo ≤ n) && decide (n ≤ hi))) ∧ w' = w := by
  go_enter Tryd.func37, Tryd.ntmps37
  go_wp2
  all_goals
    go_ret
    refine ⟨cret_bool ?_, rfl⟩
    go_light
    simp [*] <;> omega

set_option maxHeartbeats 400000 in
theorem goesOn_any (op : Int) (w : World) :
    Calls Tryd.prog 60 #[.int .i64 op] w fun e w' => e = .returned (.bool (op != 0 && op != 19 && op != 6)) ∧ w' = w := by
  go_enter Tryd.func60, Tryd.ntmps60
  go_wp2
  all_goals
    go_ret
    refine ⟨cret_bool ?_, rfl⟩
    go_light
    simp_all

set_option maxHeartbeats 400000 in
theorem refHasA_any (op : Int) (w : World) :
    Calls Tryd.prog 67 #[.int .i64 op] w fun e w' => e = .returned (.bool (aOf op)) ∧ w' = w := by
  go_enter Tryd.func67, Tryd.ntmps67
  go_wp2
  all_goals
    go_ret
    refine ⟨cret_bool ?_, rfl⟩
    go_light
    simp_all [aOf]

end Go.Proofs.YtahcgnmhhgcfmaaDoor
