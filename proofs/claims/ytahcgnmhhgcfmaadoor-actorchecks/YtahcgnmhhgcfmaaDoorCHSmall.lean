/- The walks of the small functions on values and objects, of package heap and of the reference. -/
import Derived.Test.YtahcgnmhhgcfmaaDoorChecked
import Derived.Test.YtahcgnmhhgcfmaaDoorCPlain
import Derived.WalkKit
import Derived.WalkSpells
import Derived.WalkLawsBesides
import Derived.Deep.LoopGhost
import Derived.Deep.Light
import Derived.Deep.QuietTactic
import Derived.BigQuiet
namespace Go.Proofs.YtahcgnmhhgcfmaaDoor
open Go.RowKit

theorem beq_dec (a b : Int) : (a == b) = decide (a = b) := by by_cases h : a = b <;> simp [h]

set_option maxHeartbeats 400000 in
theorem in_any (n lo hi : Int) (w : World) :
    Calls Tryd.prog 37 #[.int .i64 n, .int .i64 lo, .int .i64 hi] w fun e w' => e = .returned (.bool (decide (lo ≤ n) && decide (n ≤ hi))) ∧ w = w' := by
  go_enter Tryd.func37, Tryd.ntmps37
  go_wp2
  all_goals
    go_ret
    refine ⟨ret_bool ?_, rfl⟩
    go_light
    simp [*] <;> omega

set_option maxHeartbeats 400000 in
theorem isMost_any (n : Int) (w : World) :
    Calls Tryd.prog 87 #[.int .i64 n] w fun e w' => e = .returned (.bool (decide (0 ≤ n) && decide (n ≤ 60))) ∧ w = w' := by
  go_enter Tryd.func87, Tryd.ntmps87
  go_wp2
  all_goals
    go_ret
    refine ⟨ret_bool ?_, rfl⟩
    go_light
    simp [*] <;> omega

set_option maxHeartbeats 400000 in
theorem isFieldCount_any (n : Int) (w : World) :
    Calls Tryd.prog 93 #[.int .i64 n] w fun e w' => e = .returned (.bool (decide (1 ≤ n) && decide (n ≤ 4))) ∧ w = w' := by
  go_enter Tryd.func93, Tryd.ntmps93
  go_wp2
  all_goals
    go_ret
    refine ⟨ret_bool ?_, rfl⟩
    go_light
    simp [*] <;> omega

set_option maxHeartbeats 400000 in
theorem isValue_any (k n m : Int) (w : World) :
    Calls Tryd.prog 94 #[.agg #[.int .i64 k, .int .i64 n], .int .i64 m] w fun e w' => e = .returned (.bool (vMay m ⟨k, n⟩)) ∧ Below w.heap.size w w' := by
  by_cases h0 : k = 0
  · subst h0
    go_enter Tryd.func94, Tryd.ntmps94
    go_wp2
    go_ret
    refine ⟨ret_bool ?_, below_box _ _⟩
    go_light
    simp [vMay, beq_dec]
  · by_cases h1 : k = 1
    · subst h1
      clear h0
      go_enter Tryd.func94, Tryd.ntmps94
      go_wp2
      all_goals
        go_ret
        refine ⟨ret_bool ?_, below_box _ _⟩
        go_light
        simp [vMay, *] <;> omega
    · by_cases h2 : k = 2
      · subst h2
        clear h0 h1
        go_enter Tryd.func94, Tryd.ntmps94
        go_wp2
        all_goals
          go_ret
          refine ⟨ret_bool ?_, below_box _ _⟩
          go_light
          simp [vMay, *] <;> omega
      · have e0 : (k == 0) = false := by simp [h0]
        have e1 : (k == 1) = false := by simp [h1]
        have e2 : (k == 2) = false := by simp [h2]
        have HE : Aside (vMay m ⟨k, n⟩ = false) := by show vMay m ⟨k, n⟩ = false; simp [vMay, h0, h1, h2]
        clear h0 h1 h2
        go_enter Tryd.func94, Tryd.ntmps94
        go_wp2
        go_ret
        exact ⟨ret_bool HE.out.symm, below_box _ _⟩

set_option maxHeartbeats 400000 in
theorem valueMay_any (k n m : Int) (w : World) (hm : 0 ≤ m) (hm' : m ≤ 140737488351232) :
    Calls Tryd.prog 79 #[.agg #[.int .i64 k, .int .i64 n], .int .i64 m] w fun e w' => e = .returned (.bool (vMay m ⟨k, n⟩)) ∧ Below w.heap.size w w' := by
  by_cases h0 : k = 0
  · subst h0
    go_enter Tryd.func79, Tryd.ntmps79
    go_wp2
    go_ret
    refine ⟨ret_bool ?_, below_box _ _⟩
    go_light
    simp [vMay, beq_dec]
  · by_cases h1 : k = 1
    · subst h1
      clear h0
      go_enter Tryd.func79, Tryd.ntmps79
      go_wp2_with (go_at_call 37; refine (in_any _ _ _ _).mono ?_; rintro e w' ⟨rfl, rfl⟩)
      go_ret
      refine ⟨ret_bool ?_, below_box _ _⟩
      go_light
      simp [vMay]
    · by_cases h2 : k = 2
      · subst h2
        clear h0 h1
        go_enter Tryd.func79, Tryd.ntmps79
        go_wp2_with (go_at_call 37; refine (in_any _ _ _ _).mono ?_; rintro e w' ⟨rfl, rfl⟩)
        go_ret
        refine ⟨ret_bool ?_, below_box _ _⟩
        go_light
        simp only [vMay]
        have : decide (n ≤ m - 1) = decide (n < m) := by by_cases h : n < m <;> simp [h] <;> omega
        simp [this]
      · have e0 : (k == 0) = false := by simp [h0]
        have e1 : (k == 1) = false := by simp [h1]
        have e2 : (k == 2) = false := by simp [h2]
        have HE : Aside (vMay m ⟨k, n⟩ = false) := by show vMay m ⟨k, n⟩ = false; simp [vMay, h0, h1, h2]
        clear h0 h1 h2
        go_enter Tryd.func79, Tryd.ntmps79
        go_wp2
        go_ret
        exact ⟨ret_bool HE.out.symm, below_box _ _⟩

set_option maxHeartbeats 400000 in
theorem areValues_any (ao : Option Addr) (cap : Nat) (l : List Vl) (m : Int) (w : World) (h : ValsAt w ao l) (hl : 16 * l.length ≤ 140737488351232) :
    Calls Tryd.prog 89 #[.slice ao l.length cap, .int .i64 m] w fun e w' => e = .returned (.bool (l.all (vMay m))) ∧ Below w.heap.size w w' := by
  obtain ⟨L, hL⟩ : ∃ L, L = l.length := ⟨_, rfl⟩
  have HL : Aside (L = l.length) := hL
  rw [← hL] at hl ⊢
  clear hL
  go_enter Tryd.func89, Tryd.ntmps89
  go_wp2
  go_loopg [9, 6] L (fun g s9 s6 wr => ∃ i : Nat, i ≤ L ∧ g = L - i ∧ s9 = .int .i64 i ∧ Below w.heap.size w wr ∧ Aside (l.all (vMay m) = (l.drop i).all (vMay m)))
  case atStart => exact ⟨0, Nat.zero_le _, rfl, rfl, Below.refl _ _, rfl⟩
  case round =>
    obtain ⟨i, hi, rfl, rfl, hb, hA⟩ := hrel
    by_cases hiL : i < L
    · have hiz : (i : Int) < (L : Int) := by omega
      obtain ⟨⟨k, n⟩, hv⟩ := at_some (l := l) (i := i) (by rw [← HL.out]; exact hiL)
      have HS : Aside ((l.drop i).all (vMay m) = (vMay m ⟨k, n⟩ && (l.drop (i + 1)).all (vMay m))) := all_from _ _ hv
      obtain ⟨b, o, rfl, c1, c2⟩ := h i _ hv
      have c1 := Keeps.below hb _ _ c1
      have c2 := Keeps.below hb _ _ c2
      have hs := hb.size
      clear hv
      cases hq : vMay m ⟨k, n⟩ with
      | false =>
        have HN : Aside (l.all (vMay m) = false) := by show l.all (vMay m) = false; rw [hA.out, HS.out, hq]; rfl
        clear HS hA
        go_wp2_with (go_at_call 94; refine (isValue_any k n m _).mono ?_; rintro e w' ⟨rfl, hb'⟩; rw [hq])
        go_ret
        exact ⟨ret_bool HN.out.symm, (hb.alloc hs _).trans (hb'.mono (by simp; omega))⟩
      | true =>
        have HN : Aside (l.all (vMay m) = (l.drop (i + 1)).all (vMay m)) := by show l.all (vMay m) = _; rw [hA.out, HS.out, hq]; rfl
        clear HS hA
        go_wp2_with (go_at_call 94; refine (isValue_any k n m _).mono ?_; rintro e w' ⟨rfl, hb'⟩; rw [hq])
        have hb2 := (hb.alloc hs (Obj.cells #[Value.int IntKind.i64 k, Value.int IntKind.i64 n] 78)).trans (hb'.mono (by simp; omega))
        clear hb hb'
        go_roundg (L - (i + 1))
        case measure => go_light; omega
        case rel => go_light; exact ⟨i + 1, by omega, rfl, by go_num, hb2, HN⟩
    · have HN : Aside (l.all (vMay m) = true) := by show l.all (vMay m) = true; rw [hA.out, List.drop_eq_nil_of_le (by rw [← HL.out]; omega)]; rfl
      go_wp2
      go_ret
      exact ⟨ret_bool HN.out.symm, hb⟩

end Go.Proofs.YtahcgnmhhgcfmaaDoor
