/- The walks of New, of the reference's HeapNew and of the law HeapNew. -/
import Derived.Test.YtemehedbcckmgaaChecked
import Derived.Test.YtemehedbcckmgaaHViews
import Derived.Test.YtemehedbcckmgaaHSame
import Derived.WalkKit
import Derived.WalkSpells
import Derived.WalkLawsBesides
import Derived.Deep.LoopGhost
import Derived.Deep.Light
namespace Go.Proofs.Ytemehedbcckmgaa
open Go.RowKit

set_option maxHeartbeats 400000 in
theorem inNew_any (n lo hi : Int) (w : World) :
    Calls Try.prog 11 #[.int .i64 n, .int .i64 lo, .int .i64 hi] w fun e w' => e = .returned (.bool (decide (lo ≤ n) && decide (n ≤ hi))) ∧ w = w' := by
  go_enter Try.func11, Try.ntmps11
  go_wp2
  all_goals
    go_ret
    refine ⟨ret_bool ?_, rfl⟩
    go_light
    simp [*] <;> omega

set_option maxHeartbeats 400000 in
theorem isMostNew_any (n : Int) (w : World) :
    Calls Try.prog 10 #[.int .i64 n] w fun e w' => e = .returned (.bool (decide (0 ≤ n) && decide (n ≤ 60))) ∧ w = w' := by
  go_enter Try.func10, Try.ntmps10
  go_wp2
  all_goals
    go_ret
    refine ⟨ret_bool ?_, rfl⟩
    go_light
    simp [*] <;> omega

/-- What New answers: Most and the error. -/
def newS (n : Int) : Int × Int := if (decide (0 ≤ n) && decide (n ≤ 60)) = true then (n, 0) else (0, 2)

set_option maxHeartbeats 1000000 in
theorem new_any (n : Int) (w : World) :
    Calls Try.prog 7 #[.int .i64 n] w fun e w' => e = .returned (.tuple #[.agg #[.int .i64 (newS n).1, .slice none 0 0], .int .i64 (newS n).2]) ∧ Below w.heap.size w w' := by
  cases hq : (decide (0 ≤ n) && decide (n ≤ 60)) with
  | true =>
    have hn : newS n = (n, 0) := by simp [newS, hq]
    rw [hn]
    go_enter Try.func7, Try.ntmps7
    go_wp2_with (go_at_call 10; refine (isMostNew_any _ _).mono ?_; rintro e w' ⟨rfl, rfl⟩; rw [hq])
    refine bodyPost_ret (v := .tuple #[.agg #[.int .i64 n, .slice none 0 0], .int .i64 0]) (by simp [results, Try.results7, go_sem]) rfl ⟨rfl, ?_⟩
    first
      | exact below_box _ _
      | exact ((below_box _ _).setCell (Nat.le_refl _) _).setCell (Nat.le_refl _) _
  | false =>
    have hn : newS n = (0, 2) := by simp [newS, hq]
    rw [hn]
    go_enter Try.func7, Try.ntmps7
    go_wp2_with (go_at_call 10; refine (isMostNew_any _ _).mono ?_; rintro e w' ⟨rfl, rfl⟩; rw [hq])
    refine bodyPost_ret (v := .tuple #[.agg #[.int .i64 0, .slice none 0 0], .int .i64 2]) (by simp [results, Try.results7, go_sem]) rfl ⟨rfl, ?_⟩
    first
      | exact below_box _ _
      | exact ((below_box _ _).setCell (Nat.le_refl _) _).setCell (Nat.le_refl _) _

set_option maxHeartbeats 1000000 in
theorem refNew_any (n : Int) (w : World) :
    Calls Try.prog 8 #[.int .i64 n] w fun e w' => e = .returned (.tuple #[.agg #[.int .i64 (newS n).1, .slice none 0 0], .int .i64 (newS n).2]) ∧ Below w.heap.size w w' := by
  cases hq : (decide (0 ≤ n) && decide (n ≤ 60)) with
  | true =>
    have hn : newS n = (n, 0) := by simp [newS, hq]
    rw [hn]
    go_enter Try.func8, Try.ntmps8
    go_wp2_with (go_at_call 11; refine (inNew_any _ _ _ _).mono ?_; rintro e w' ⟨rfl, rfl⟩; rw [hq])
    refine bodyPost_ret (v := .tuple #[.agg #[.int .i64 n, .slice none 0 0], .int .i64 0]) (by simp [results, Try.results8, go_sem]) rfl ⟨rfl, ?_⟩
    first
      | exact below_box _ _
      | exact ((below_box _ _).setCell (Nat.le_refl _) _).setCell (Nat.le_refl _) _
  | false =>
    have hn : newS n = (0, 2) := by simp [newS, hq]
    rw [hn]
    go_enter Try.func8, Try.ntmps8
    go_wp2_with (go_at_call 11; refine (inNew_any _ _ _ _).mono ?_; rintro e w' ⟨rfl, rfl⟩; rw [hq])
    refine bodyPost_ret (v := .tuple #[.agg #[.int .i64 0, .slice none 0 0], .int .i64 2]) (by simp [results, Try.results8, go_sem]) rfl ⟨rfl, ?_⟩
    first
      | exact below_box _ _
      | exact ((below_box _ _).setCell (Nat.le_refl _) _).setCell (Nat.le_refl _) _

theorem obs_nil (w : World) : ObsAt w none [] := ⟨fun i x hi => by simp at hi, by simp⟩

set_option maxHeartbeats 1000000 in
theorem heapNew_walk (n : Int) (w : World) (_hn : -9223372036854775808 ≤ n ∧ n ≤ 9223372036854775807) :
    Calls Try.prog 4 #[.int .i64 n] w fun e w' => e = .returned (.bool true) ∧ Below w.heap.size w w' := by
  generalize hr : newS n = r
  have HR : Aside (newS n = r) := hr
  clear hr
  go_enter Try.func4, Try.ntmps4
  go_wp2_with fail
  have h1 := new_any n w
  rw [HR.out] at h1
  refine h1.mono ?_
  clear h1
  rintro e w1 ⟨rfl, hb1⟩
  have hs1 := hb1.size
  go_wp2_with fail
  have h2 := refNew_any n (w1.alloc (Obj.cells #[.int .i64 r.1, .slice none 0 0] 30))
  rw [HR.out] at h2
  have a0 : (w1.alloc (Obj.cells #[.int .i64 r.1, .slice none 0 0] 30)).cell? ⟨w1.heap.size, 0, none⟩ = some (.int .i64 r.1) := by simp
  have a1 : (w1.alloc (Obj.cells #[.int .i64 r.1, .slice none 0 0] 30)).cell? ⟨w1.heap.size, 1, none⟩ = some (.slice none 0 0) := by simp
  refine h2.mono ?_
  clear h2
  rintro e w2 ⟨rfl, hb2⟩
  have A0 := fun o => Keeps.alloc w2 o _ _ (Keeps.below hb2 _ _ a0)
  have A1 := fun o => Keeps.alloc w2 o _ _ (Keeps.below hb2 _ _ a1)
  have hs2 := hb2.size
  simp at hs2
  have b2 := (hb1.alloc hs1 _).trans (hb2.mono (by simp; omega))
  clear hb1 hb2 a0 a1
  go_wp2_with fail
  refine (sameHeap_any r.1 none none 0 0 [] _ (obs_nil _) (obs_nil _)).mono ?_
  rintro e w3 ⟨rfl, hb3⟩
  have b3 := (b2.alloc (by omega) _).trans (hb3.mono (by simp; omega))
  clear hb3 A0 A1
  go_wp2
  go_ret
  exact ⟨rfl, b3⟩

end Go.Proofs.Ytemehedbcckmgaa
