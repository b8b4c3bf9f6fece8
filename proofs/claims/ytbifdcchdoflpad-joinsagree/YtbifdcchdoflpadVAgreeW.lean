/- The walk of the law JoinsAgree. -/
import Derived.Test.YtbifdcchdoflpadVJoin
import Derived.Test.YtbifdcchdoflpadHPick
namespace Go.Proofs.Ytbifdcchdoflpad
open Go.RowKit

theorem pick_lt4 (n : Int) : pick n 4 = 0 ∨ pick n 4 = 1 ∨ pick n 4 = 2 ∨ pick n 4 = 3 := by
  have := pick_bd (n := n) (many := 4) (by omega)
  omega

theorem vJoin_self (x : Int) : vJoin x x = x := by simp [vJoin]

theorem vJoin_comm (x y : Int) : vJoin x y = vJoin y x := by
  unfold vJoin
  by_cases h : x = y
  · subst h; rfl
  · rw [if_neg h, if_neg (show ¬ y = x from fun e => h e.symm)]
    simp only [And.comm]

theorem vJoin_assoc {x y z : Int} (hx : x = 0 ∨ x = 1 ∨ x = 2 ∨ x = 3) (hy : y = 0 ∨ y = 1 ∨ y = 2 ∨ y = 3) (hz : z = 0 ∨ z = 1 ∨ z = 2 ∨ z = 3) : vJoin (vJoin x y) z = vJoin x (vJoin y z) := by
  rcases hx with rfl | rfl | rfl | rfl <;> rcases hy with rfl | rfl | rfl | rfl <;> rcases hz with rfl | rfl | rfl | rfl <;> decide

theorem vJoin_twice {x y : Int} (hx : x = 0 ∨ x = 1 ∨ x = 2 ∨ x = 3) (hy : y = 0 ∨ y = 1 ∨ y = 2 ∨ y = 3) : vJoin (vJoin x y) y = vJoin x y := by
  rcases hx with rfl | rfl | rfl | rfl <;> rcases hy with rfl | rfl | rfl | rfl <;> decide

set_option maxHeartbeats 1000000 in
theorem joinsAgree_walk (a b c : Int) (w : World) (ha : -9223372036854775808 ≤ a ∧ a ≤ 9223372036854775807) (hb : -9223372036854775808 ≤ b ∧ b ≤ 9223372036854775807) (hc : -9223372036854775808 ≤ c ∧ c ≤ 9223372036854775807) : Calls Try.prog 5 #[.int .i64 a, .int .i64 b, .int .i64 c] w fun e w' => e = .returned (.bool true) ∧ Below w.heap.size w w' := by
  have hx := pick_lt4 a
  have hy := pick_lt4 b
  have hz := pick_lt4 c
  have H1 : Aside (∀ x y, vJoin x y = vJoin y x) := vJoin_comm
  have e2 := vJoin_self (pick a 4)
  have e3 := vJoin_assoc hx hy hz
  have e4 := vJoin_twice hx hy
  clear hx hy hz
  go_enter Try.func5, Try.ntmps5
  go_wp2_with (go_at_call 7; refine (picked_any _ 4 _ (by omega) (by omega) (by omega) (by omega)).mono ?_; rintro e w' ⟨rfl, rfl⟩)
  generalize pick a 4 = x at *
  generalize pick b 4 = y at *
  generalize pick c 4 = z at *
  have e1 : (vJoin x y == vJoin y x) = true := by rw [H1.out x y]; simp
  have e2' : (vJoin x x == x) = true := by rw [e2]; simp
  have e3' : (vJoin (vJoin x y) z == vJoin x (vJoin y z)) = true := by rw [e3]; simp
  have e4' : (vJoin (vJoin x y) y == vJoin x y) = true := by rw [e4]; simp
  clear e2 e3 e4 H1
  go_wp2_with (go_at_call 14; refine (join_any _ _ _).mono ?_; rintro e w' ⟨rfl, rfl⟩)
  go_ret
  exact ⟨rfl, Below.refl _ _⟩

end Go.Proofs.Ytbifdcchdoflpad
