/- The walks of the functions that call the small ones: what the reference says of operators and of N, what package code says of an instruction. -/
import Derived.Test.YtahcgnmhhgcfmaaDoorCSmall
import Derived.WalkKit
import Derived.WalkSpells
import Derived.WalkLawsBesides
import Derived.Deep.LoopGhost
import Derived.Deep.Light
namespace Go.Proofs.YtahcgnmhhgcfmaaDoor
open Go.RowKit

set_option maxHeartbeats 400000 in
theorem refHasB_any (op : Int) (w : World) :
    Calls Tryd.prog 68 #[.int .i64 op] w fun e w' => e = .returned (.bool (bOf op)) ∧ w' = w := by
  go_enter Tryd.func68, Tryd.ntmps68
  go_wp2_with (go_at_call 37; refine (cin_any _ _ _ _).mono ?_; rintro e w' ⟨rfl, rfl⟩)
  all_goals
    go_ret
    refine ⟨cret_bool ?_, rfl⟩
    go_light
    simp_all [bOf]

set_option maxHeartbeats 400000 in

theorem cbelow_box (w : World) (o : Obj) : Below w.heap.size w (w.alloc o) := (Below.refl _ _).alloc (Nat.le_refl _) o

set_option maxHeartbeats 400000 in
theorem leadsBeside_any (op a b n place many : Int) (w : World) (h1 : -60 ≤ n ∧ n ≤ 60 ∨ (op ≠ 5 ∧ op ≠ 6)) (h2 : 0 ≤ place) (h3 : place ≤ 1000000) :
    Calls Tryd.prog 59 #[.agg #[.int .i64 op, .int .i64 a, .int .i64 b, .int .i64 n], .int .i64 place, .int .i64 many] w fun e w' => e = .returned (.bool (beside op n place many)) ∧ Below w.heap.size w w' := by
  by_cases h5 : op = 5
  · subst h5
    have hn : -60 ≤ n := by omega
    have hn' : n ≤ 60 := by omega
    clear h1
    go_enter Tryd.func59, Tryd.ntmps59
    go_wp2
    all_goals
      go_ret
      refine ⟨cret_bool ?_, cbelow_box _ _⟩
      go_light
      simp [beside, *] <;> omega
  · by_cases h6 : op = 6
    · subst h6
      have hn : -60 ≤ n := by omega
      have hn' : n ≤ 60 := by omega
      clear h1 h5
      go_enter Tryd.func59, Tryd.ntmps59
      go_wp2
      all_goals
        go_ret
        refine ⟨cret_bool ?_, cbelow_box _ _⟩
        go_light
        simp [beside, *] <;> omega
    · have e5 : (op != 5) = true := by simp [h5]
      have e6 : (op != 6) = true := by simp [h6]
      clear h1
      go_enter Tryd.func59, Tryd.ntmps59
      go_wp2
      go_ret
      refine ⟨cret_bool ?_, cbelow_box _ _⟩
      go_light
      simp [beside, *]

set_option maxHeartbeats 400000 in
theorem nMay_1 (a b n place many kinds : Int) (w : World) :
    Calls Tryd.prog 66 #[.agg #[.int .i64 1, .int .i64 a, .int .i64 b, .int .i64 n], .int .i64 place, .int .i64 many, .int .i64 kinds] w fun e w' => e = .returned (.bool (nMay 1 n place many kinds)) ∧ Below w.heap.size w w' := by
  go_enter Tryd.func66, Tryd.ntmps66
  go_wp2_with (go_at_call 37; refine (cin_any _ _ _ _).mono ?_; rintro e w' ⟨rfl, rfl⟩)
  go_ret
  refine ⟨cret_bool ?_, cbelow_box _ _⟩
  go_light
  simp [nMay]

set_option maxHeartbeats 400000 in
theorem nMay_7 (a b n place many kinds : Int) (w : World) :
    Calls Tryd.prog 66 #[.agg #[.int .i64 7, .int .i64 a, .int .i64 b, .int .i64 n], .int .i64 place, .int .i64 many, .int .i64 kinds] w fun e w' => e = .returned (.bool (nMay 7 n place many kinds)) ∧ Below w.heap.size w w' := by
  go_enter Tryd.func66, Tryd.ntmps66
  go_wp2_with (go_at_call 37; refine (cin_any _ _ _ _).mono ?_; rintro e w' ⟨rfl, rfl⟩)
  go_ret
  refine ⟨cret_bool ?_, cbelow_box _ _⟩
  go_light
  simp [nMay]

set_option maxHeartbeats 400000 in
theorem nMay_8 (a b n place many kinds : Int) (w : World) :
    Calls Tryd.prog 66 #[.agg #[.int .i64 8, .int .i64 a, .int .i64 b, .int .i64 n], .int .i64 place, .int .i64 many, .int .i64 kinds] w fun e w' => e = .returned (.bool (nMay 8 n place many kinds)) ∧ Below w.heap.size w w' := by
  go_enter Tryd.func66, Tryd.ntmps66
  go_wp2_with (go_at_call 37; refine (cin_any _ _ _ _).mono ?_; rintro e w' ⟨rfl, rfl⟩)
  go_ret
  refine ⟨cret_bool ?_, cbelow_box _ _⟩
  go_light
  simp [nMay]

set_option maxHeartbeats 400000 in
theorem nMay_9 (a b n place many kinds : Int) (w : World) :
    Calls Tryd.prog 66 #[.agg #[.int .i64 9, .int .i64 a, .int .i64 b, .int .i64 n], .int .i64 place, .int .i64 many, .int .i64 kinds] w fun e w' => e = .returned (.bool (nMay 9 n place many kinds)) ∧ Below w.heap.size w w' := by
  go_enter Tryd.func66, Tryd.ntmps66
  go_wp2_with (go_at_call 37; refine (cin_any _ _ _ _).mono ?_; rintro e w' ⟨rfl, rfl⟩)
  go_ret
  refine ⟨cret_bool ?_, cbelow_box _ _⟩
  go_light
  simp [nMay]

set_option maxHeartbeats 400000 in
theorem nMay_10 (a b n place many kinds : Int) (w : World) :
    Calls Tryd.prog 66 #[.agg #[.int .i64 10, .int .i64 a, .int .i64 b, .int .i64 n], .int .i64 place, .int .i64 many, .int .i64 kinds] w fun e w' => e = .returned (.bool (nMay 10 n place many kinds)) ∧ Below w.heap.size w w' := by
  go_enter Tryd.func66, Tryd.ntmps66
  go_wp2_with (go_at_call 37; refine (cin_any _ _ _ _).mono ?_; rintro e w' ⟨rfl, rfl⟩)
  go_ret
  refine ⟨cret_bool ?_, cbelow_box _ _⟩
  go_light
  simp [nMay]

set_option maxHeartbeats 400000 in
theorem nMay_11 (a b n place many kinds : Int) (w : World) :
    Calls Tryd.prog 66 #[.agg #[.int .i64 11, .int .i64 a, .int .i64 b, .int .i64 n], .int .i64 place, .int .i64 many, .int .i64 kinds] w fun e w' => e = .returned (.bool (nMay 11 n place many kinds)) ∧ Below w.heap.size w w' := by
  go_enter Tryd.func66, Tryd.ntmps66
  go_wp2_with (go_at_call 37; refine (cin_any _ _ _ _).mono ?_; rintro e w' ⟨rfl, rfl⟩)
  go_ret
  refine ⟨cret_bool ?_, cbelow_box _ _⟩
  go_light
  simp [nMay]

set_option maxHeartbeats 400000 in
theorem nMay_17 (a b n place many kinds : Int) (w : World) (h6 : 0 ≤ kinds) (h7 : kinds ≤ 1000000000) :
    Calls Tryd.prog 66 #[.agg #[.int .i64 17, .int .i64 a, .int .i64 b, .int .i64 n], .int .i64 place, .int .i64 many, .int .i64 kinds] w fun e w' => e = .returned (.bool (nMay 17 n place many kinds)) ∧ Below w.heap.size w w' := by
  go_enter Tryd.func66, Tryd.ntmps66
  go_wp2_with (go_at_call 37; refine (cin_any _ _ _ _).mono ?_; rintro e w' ⟨rfl, rfl⟩)
  go_ret
  refine ⟨cret_bool ?_, cbelow_box _ _⟩
  go_light
  simp [nMay]

set_option maxHeartbeats 400000 in
theorem nMay_5 (a b n place many kinds : Int) (w : World) (h2 : 0 ≤ place) (h3 : place ≤ 1000000) (h4 : 0 ≤ many) (h5 : many ≤ 1000000000) :
    Calls Tryd.prog 66 #[.agg #[.int .i64 5, .int .i64 a, .int .i64 b, .int .i64 n], .int .i64 place, .int .i64 many, .int .i64 kinds] w fun e w' => e = .returned (.bool (nMay 5 n place many kinds)) ∧ Below w.heap.size w w' := by
  by_cases hn : -60 ≤ n ∧ n ≤ 60
  · have hd : (decide (-60 ≤ n) && decide (n ≤ 60)) = true := by simp [hn]
    obtain ⟨ha, hb⟩ := hn
    go_enter Tryd.func66, Tryd.ntmps66
    go_wp2_with (go_at_call 37; refine (cin_any _ _ _ _).mono ?_; rintro e w' ⟨rfl, rfl⟩)
    go_ret
    refine ⟨cret_bool ?_, cbelow_box _ _⟩
    go_light
    simp [nMay, *]
  · have hd : (decide (-60 ≤ n) && decide (n ≤ 60)) = false := by simp; omega
    go_enter Tryd.func66, Tryd.ntmps66
    go_wp2_with (go_at_call 37; refine (cin_any _ _ _ _).mono ?_; rintro e w' ⟨rfl, rfl⟩)
    go_ret
    refine ⟨cret_bool ?_, cbelow_box _ _⟩
    go_light
    simp only [nMay, hd]
    simp

set_option maxHeartbeats 400000 in
theorem nMay_6 (a b n place many kinds : Int) (w : World) (h2 : 0 ≤ place) (h3 : place ≤ 1000000) (h4 : 0 ≤ many) (h5 : many ≤ 1000000000) :
    Calls Tryd.prog 66 #[.agg #[.int .i64 6, .int .i64 a, .int .i64 b, .int .i64 n], .int .i64 place, .int .i64 many, .int .i64 kinds] w fun e w' => e = .returned (.bool (nMay 6 n place many kinds)) ∧ Below w.heap.size w w' := by
  by_cases hn : -60 ≤ n ∧ n ≤ 60
  · have hd : (decide (-60 ≤ n) && decide (n ≤ 60)) = true := by simp [hn]
    obtain ⟨ha, hb⟩ := hn
    go_enter Tryd.func66, Tryd.ntmps66
    go_wp2_with (go_at_call 37; refine (cin_any _ _ _ _).mono ?_; rintro e w' ⟨rfl, rfl⟩)
    go_ret
    refine ⟨cret_bool ?_, cbelow_box _ _⟩
    go_light
    simp [nMay, *]
  · have hd : (decide (-60 ≤ n) && decide (n ≤ 60)) = false := by simp; omega
    go_enter Tryd.func66, Tryd.ntmps66
    go_wp2_with (go_at_call 37; refine (cin_any _ _ _ _).mono ?_; rintro e w' ⟨rfl, rfl⟩)
    go_ret
    refine ⟨cret_bool ?_, cbelow_box _ _⟩
    go_light
    simp only [nMay, hd]
    simp

set_option maxHeartbeats 400000 in
theorem nMay_else (op a b n place many kinds : Int) (w : World) (o1 : op ≠ 1) (o5 : op ≠ 5) (o6 : op ≠ 6) (o7 : op ≠ 7) (o8 : op ≠ 8) (o9 : op ≠ 9) (o10 : op ≠ 10) (o11 : op ≠ 11) (o17 : op ≠ 17) :
    Calls Tryd.prog 66 #[.agg #[.int .i64 op, .int .i64 a, .int .i64 b, .int .i64 n], .int .i64 place, .int .i64 many, .int .i64 kinds] w fun e w' => e = .returned (.bool (nMay op n place many kinds)) ∧ Below w.heap.size w w' := by
  have e1 : (op == 1) = false := beq_eq_false_iff_ne.2 o1
  have e5 : (op == 5) = false := beq_eq_false_iff_ne.2 o5
  have e6 : (op == 6) = false := beq_eq_false_iff_ne.2 o6
  have e7 : (op == 7) = false := beq_eq_false_iff_ne.2 o7
  have e8 : (op == 8) = false := beq_eq_false_iff_ne.2 o8
  have e9 : (op == 9) = false := beq_eq_false_iff_ne.2 o9
  have e10 : (op == 10) = false := beq_eq_false_iff_ne.2 o10
  have e11 : (op == 11) = false := beq_eq_false_iff_ne.2 o11
  have e17 : (op == 17) = false := beq_eq_false_iff_ne.2 o17
  have q1 : ¬ (op = 5 ∨ op = 6) := by omega
  have q2 : ¬ (8 ≤ op ∧ op ≤ 11) := by omega
  go_enter Tryd.func66, Tryd.ntmps66
  go_wp2_with (go_at_call 37; refine (cin_any _ _ _ _).mono ?_; rintro e w' ⟨rfl, rfl⟩)
  go_ret
  refine ⟨cret_bool ?_, cbelow_box _ _⟩
  go_light
  simp [nMay, o1, o7, o17, q1, q2]

theorem nMay_any (op a b n place many kinds : Int) (w : World) (h2 : 0 ≤ place) (h3 : place ≤ 1000000) (h4 : 0 ≤ many) (h5 : many ≤ 1000000000) (h6 : 0 ≤ kinds) (h7 : kinds ≤ 1000000000) :
    Calls Tryd.prog 66 #[.agg #[.int .i64 op, .int .i64 a, .int .i64 b, .int .i64 n], .int .i64 place, .int .i64 many, .int .i64 kinds] w fun e w' => e = .returned (.bool (nMay op n place many kinds)) ∧ Below w.heap.size w w' := by
  by_cases o1 : op = 1
  · subst o1; exact nMay_1 a b n place many kinds w
  by_cases o5 : op = 5
  · subst o5; exact nMay_5 a b n place many kinds w h2 h3 h4 h5
  by_cases o6 : op = 6
  · subst o6; exact nMay_6 a b n place many kinds w h2 h3 h4 h5
  by_cases o7 : op = 7
  · subst o7; exact nMay_7 a b n place many kinds w
  by_cases o8 : op = 8
  · subst o8; exact nMay_8 a b n place many kinds w
  by_cases o9 : op = 9
  · subst o9; exact nMay_9 a b n place many kinds w
  by_cases o10 : op = 10
  · subst o10; exact nMay_10 a b n place many kinds w
  by_cases o11 : op = 11
  · subst o11; exact nMay_11 a b n place many kinds w
  by_cases o17 : op = 17
  · subst o17; exact nMay_17 a b n place many kinds w h6 h7
  exact nMay_else op a b n place many kinds w o1 o5 o6 o7 o8 o9 o10 o11 o17

end Go.Proofs.YtahcgnmhhgcfmaaDoor
