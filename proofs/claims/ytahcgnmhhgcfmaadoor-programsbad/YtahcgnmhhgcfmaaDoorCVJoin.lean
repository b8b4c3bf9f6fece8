/- Join, the program's and the reference's. -/
import Derived.Test.YtahcgnmhhgcfmaaDoorChecked
import Derived.Test.YtahcgnmhhgcfmaaDoorCPlain
import Derived.WalkKit
import Derived.WalkSpells
import Derived.WalkLawsBesides
import Derived.Deep.Light
namespace Go.Proofs.YtahcgnmhhgcfmaaDoor
open Go.RowKit

theorem vObj_eq (t : Int) : vObj t = (t == 2 || t == 3) := by
  unfold vObj
  by_cases h2 : t = 2
  · subst h2; rfl
  · by_cases h3 : t = 3
    · subst h3; rfl
    · have e2 : (t == 2) = false := by simp [h2]
      have e3 : (t == 3) = false := by simp [h3]
      rw [e2, e3]
      have : ¬ (2 ≤ t ∧ t ≤ 3) := by omega
      simp
      omega

theorem vIsObject_any (t : Int) (w : World) : Calls Tryd.prog 33 #[.int .i64 t] w fun e w' => e = .returned (.bool (vObj t)) ∧ w' = w := by
  rw [vObj_eq]
  cases h2 : (t == 2) with
  | true =>
    go_enter Tryd.func33, Tryd.ntmps33
    go_wp2
    go_ret
    exact ⟨rfl, rfl⟩
  | false =>
    go_enter Tryd.func33, Tryd.ntmps33
    go_wp2
    go_ret
    exact ⟨by simp, rfl⟩

theorem join_any (a b : Int) (w : World) : Calls Tryd.prog 20 #[.int .i64 a, .int .i64 b] w fun e w' => e = .returned (.int .i64 (vJoin a b)) ∧ w' = w := by
  cases h : (a == b) with
  | true =>
    have e : vJoin a b = a := by simp at h; simp [vJoin, h]
    rw [e]
    clear e
    go_enter Tryd.func20, Tryd.ntmps20
    go_wp2
    go_ret
    exact ⟨rfl, rfl⟩
  | false =>
    cases ha : vObj a with
    | false =>
      have e : vJoin a b = 0 := by simp at h; simp [vJoin, h, ha]
      rw [e]
      clear e
      go_enter Tryd.func20, Tryd.ntmps20
      go_wp2_with (go_at_call 33; refine (vIsObject_any _ _).mono ?_; rintro e w' ⟨rfl, rfl⟩; (try rw [ha]))
      go_ret
      exact ⟨rfl, rfl⟩
    | true =>
      cases hb : vObj b with
      | false =>
        have e : vJoin a b = 0 := by simp at h; simp [vJoin, h, hb]
        rw [e]
        clear e
        go_enter Tryd.func20, Tryd.ntmps20
        go_wp2_with (go_at_call 33; refine (vIsObject_any _ _).mono ?_; rintro e w' ⟨rfl, rfl⟩; (first | rw [ha] | rw [hb]))
        go_ret
        exact ⟨rfl, rfl⟩
      | true =>
        have e : vJoin a b = 2 := by simp at h; simp [vJoin, h, ha, hb]
        rw [e]
        clear e
        go_enter Tryd.func20, Tryd.ntmps20
        go_wp2_with (go_at_call 33; refine (vIsObject_any _ _).mono ?_; rintro e w' ⟨rfl, rfl⟩; (first | rw [ha] | rw [hb]))
        go_ret
        exact ⟨rfl, rfl⟩

theorem vInR_any (n a b : Int) (w : World) : Calls Tryd.prog 37 #[.int .i64 n, .int .i64 a, .int .i64 b] w fun e w' => e = .returned (.bool (decide (a ≤ n) && decide (n ≤ b))) ∧ w' = w := by
  cases h1 : decide (a ≤ n) with
  | true =>
    have h1' : a ≤ n := of_decide_eq_true h1
    go_enter Tryd.func37, Tryd.ntmps37
    go_wp2
    go_ret
    exact ⟨by simp, rfl⟩
  | false =>
    go_enter Tryd.func37, Tryd.ntmps37
    go_wp2
    go_ret
    exact ⟨by simp, rfl⟩

theorem vIsObjectR_any (t : Int) (w : World) : Calls Tryd.prog 73 #[.int .i64 t] w fun e w' => e = .returned (.bool (vObj t)) ∧ w' = w := by
  go_enter Tryd.func73, Tryd.ntmps73
  go_wp2_with (go_at_call 37; refine (vInR_any _ _ _ _).mono ?_; rintro e w' ⟨rfl, rfl⟩)
  go_ret
  exact ⟨rfl, rfl⟩

theorem joinOf_any (a b : Int) (w : World) : Calls Tryd.prog 71 #[.int .i64 a, .int .i64 b] w fun e w' => e = .returned (.int .i64 (vJoin a b)) ∧ w' = w := by
  cases h : (a == b) with
  | true =>
    have e : vJoin a b = a := by simp at h; simp [vJoin, h]
    rw [e]
    clear e
    go_enter Tryd.func71, Tryd.ntmps71
    go_wp2
    go_ret
    exact ⟨rfl, rfl⟩
  | false =>
    cases ha : vObj a with
    | false =>
      have e : vJoin a b = 0 := by simp at h; simp [vJoin, h, ha]
      rw [e]
      clear e
      go_enter Tryd.func71, Tryd.ntmps71
      go_wp2_with (go_at_call 73; refine (vIsObjectR_any _ _).mono ?_; rintro e w' ⟨rfl, rfl⟩; (try rw [ha]))
      go_ret
      exact ⟨rfl, rfl⟩
    | true =>
      cases hb : vObj b with
      | false =>
        have e : vJoin a b = 0 := by simp at h; simp [vJoin, h, hb]
        rw [e]
        clear e
        go_enter Tryd.func71, Tryd.ntmps71
        go_wp2_with (go_at_call 73; refine (vIsObjectR_any _ _).mono ?_; rintro e w' ⟨rfl, rfl⟩; (first | rw [ha] | rw [hb]))
        go_ret
        exact ⟨rfl, rfl⟩
      | true =>
        have e : vJoin a b = 2 := by simp at h; simp [vJoin, h, ha, hb]
        rw [e]
        clear e
        go_enter Tryd.func71, Tryd.ntmps71
        go_wp2_with (go_at_call 73; refine (vIsObjectR_any _ _).mono ?_; rintro e w' ⟨rfl, rfl⟩; (first | rw [ha] | rw [hb]))
        go_ret
        exact ⟨rfl, rfl⟩


end Go.Proofs.YtahcgnmhhgcfmaaDoor
