/- The walk of checkParts: the fault of an instruction's parts, by the table of operators. -/
import Derived.Test.YtahcgnmhhgcfmaaDoorCSmall2
import Derived.WalkKit
import Derived.WalkSpells
import Derived.WalkLawsBesides
import Derived.Deep.LoopGhost
import Derived.Deep.Light
namespace Go.Proofs.YtahcgnmhhgcfmaaDoor
open Go.RowKit

set_option maxHeartbeats 400000 in
theorem checkParts_no (op a b n : Int) (w : World) (h : okOp op = false) :
    Calls Tryd.prog 58 #[.agg #[.int .i64 op, .int .i64 a, .int .i64 b, .int .i64 n]] w fun e w' => e = .returned (.int .i64 (partsFault op a b n)) ∧ Below w.heap.size w w' := by
  have hf : partsFault op a b n = 3 := by simp [partsFault, h]
  rw [hf]
  clear hf
  go_enter Tryd.func58, Tryd.ntmps58
  go_wp2_with (go_at_call 81; refine (isOperator_any _ _).mono ?_; rintro e w' ⟨rfl, rfl⟩)
  go_ret
  exact ⟨rfl, cbelow_box _ _⟩

set_option maxHeartbeats 400000 in
theorem checkParts_yes (k : Nat) (hk : k < 20) (a b n : Int) (w : World) (hT : TabAt 0 w) :
    Calls Tryd.prog 58 #[.agg #[.int .i64 k, .int .i64 a, .int .i64 b, .int .i64 n]] w fun e w' => e = .returned (.int .i64 (partsFault k a b n)) ∧ Below w.heap.size w w' := by
  have ho : okOp k = true := by simp [okOp]; omega
  obtain ⟨t0, t1, t2, t3, t4⟩ := hT.keeps (Keeps.alloc w (.cells #[.int .i64 k, .int .i64 a, .int .i64 b, .int .i64 n] 40)) k hk
  have hkz : (k : Int) < 20 := by omega
  go_enter Tryd.func58, Tryd.ntmps58
  go_wp2_with (first | (go_at_call 81; refine (isOperator_any _ _).mono ?_; rintro e w' ⟨rfl, rfl⟩) | (go_at_call 82; refine (isRegister_any _ _).mono ?_; rintro e w' ⟨rfl, rfl⟩))
  all_goals
    go_ret
    refine ⟨cret_num ?_, (cbelow_box _ _).alloc (by simp) _⟩
    go_light
    clear t0 t1 t2 t3 t4
    simp only [partsFault, ho]
    simp_all
    try omega

theorem checkParts_any (op a b n : Int) (w : World) (hT : TabAt 0 w) :
    Calls Tryd.prog 58 #[.agg #[.int .i64 op, .int .i64 a, .int .i64 b, .int .i64 n]] w fun e w' => e = .returned (.int .i64 (partsFault op a b n)) ∧ Below w.heap.size w w' := by
  cases ho : okOp op
  · exact checkParts_no op a b n w ho
  · simp [okOp] at ho
    obtain ⟨k, rfl⟩ := Int.eq_ofNat_of_zero_le ho.1
    exact checkParts_yes k (by omega) a b n w hT

end Go.Proofs.YtahcgnmhhgcfmaaDoor
