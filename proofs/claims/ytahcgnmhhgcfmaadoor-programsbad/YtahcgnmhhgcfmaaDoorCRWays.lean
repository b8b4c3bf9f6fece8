/- The reference's waysOn and sameKnown. -/
import Derived.Test.YtahcgnmhhgcfmaaDoorCRLater
import Derived.Test.YtahcgnmhhgcfmaaDoorCVEq
namespace Go.Proofs.YtahcgnmhhgcfmaaDoor
open Go.RowKit

set_option maxRecDepth 100000 in
set_option maxHeartbeats 1000000 in
theorem waysOn_any (op a b n place : Int) (w : World) (hp : 0 ≤ place ∧ place ≤ 1000) (hn : op = 5 ∨ op = 6 → -1000 ≤ n ∧ n ≤ 1000) :
    Calls Tryd.prog 70 #[.int .i64 place, insV op a b n] w fun e w' => ∃ ga gc, e = .returned (.slice ga (vGoes op n place).length gc) ∧ VInts w' ga (vGoes op n place) ∧ Below w.heap.size w w' ∧ (∀ b o, ga = some ⟨b, o, none⟩ → w.heap.size ≤ b) := by
  by_cases h0 : op = 0
  · subst h0
    go_enter Tryd.func70, Tryd.ntmps70
    go_wp2
    go_ret
    exact ⟨none, 0, rfl, fun i z hz => by simp [vGoes] at hz, below_box _ _, fun b o h => by cases h⟩
  · have e0 : (op == 0) = false := by simp [h0]
    by_cases h19 : op = 19
    · subst h19
      go_enter Tryd.func70, Tryd.ntmps70
      go_wp2
      go_ret
      exact ⟨none, 0, rfl, fun i z hz => by simp [vGoes] at hz, below_box _ _, fun b o h => by cases h⟩
    · have e19 : (op == 19) = false := by simp [h19]
      by_cases h6 : op = 6
      · subst h6
        replace hn := hn (Or.inr rfl)
        have hw : IntKind.i64.wrap (place + n) = place + n := IntWalk.i64_in _ (by omega)
        go_enter Tryd.func70, Tryd.ntmps70
        go_wp2
        go_ret
        exact ⟨some ⟨w.heap.size + 1, 0, none⟩, 1, rfl, vInts1 _ _ _ _ (by simp), (below_box _ _).alloc (by simp) _, fun b o h => by simp at h; omega⟩
      · have e6 : (op == 6) = false := by simp [h6]
        by_cases h5 : op = 5
        · subst h5
          replace hn := hn (Or.inl rfl)
          have hw : IntKind.i64.wrap (place + n) = place + n := IntWalk.i64_in _ (by omega)
          go_enter Tryd.func70, Tryd.ntmps70
          go_wp2
          go_ret
          exact ⟨some ⟨w.heap.size + 1, 0, none⟩, 2, rfl, vInts2 _ _ _ _ _ (by simp), (below_box _ _).alloc (by simp) _, fun b o h => by simp at h; omega⟩
        · have e5 : (op == 5) = false := by simp [h5]
          have HV : Aside (vGoes op n place = [place + 1]) := by show vGoes op n place = _; simp [vGoes, h0, h19, h6, h5]
          clear h0 h19 h6 h5 hn
          go_enter Tryd.func70, Tryd.ntmps70
          go_wp2
          go_ret
          rw [HV.out]
          exact ⟨some ⟨w.heap.size + 1, 0, none⟩, 1, rfl, vInts1 _ _ _ _ (by simp), (below_box _ _).alloc (by simp) _, fun b o h => by simp at h; omega⟩

/-- Are the first r the same? -/
def sameUp (a b : List Int) : Nat → Bool
  | 0 => true
  | r + 1 => sameUp a b r && decide (vAt a r = vAt b r)

theorem sameUp_8 (a b : List Int) : sameUp a b 8 = sameRegs a b := by
  rw [Bool.eq_iff_iff]
  simp [sameUp, sameRegs, and_assoc]

theorem sameUp_stop {a b : List Int} {r : Nat} (hr : r < 8) (h : vAt a r ≠ vAt b r) : sameRegs a b = false := by
  have : ¬ sameRegs a b = true := fun e => by
    simp only [sameRegs, decide_eq_true_eq] at e
    obtain ⟨e0, e1, e2, e3, e4, e5, e6, e7⟩ := e
    match r, hr, h with
    | 0, _, h => exact h e0
    | 1, _, h => exact h e1
    | 2, _, h => exact h e2
    | 3, _, h => exact h e3
    | 4, _, h => exact h e4
    | 5, _, h => exact h e5
    | 6, _, h => exact h e6
    | 7, _, h => exact h e7
  simpa using this

set_option maxHeartbeats 1000000 in
theorem sameKnown_any (a b : List Int) (aa ba : Option Addr) (ac bc : Nat) (w : World) (ha : VInts w aa a) (hb : VInts w ba b) (ha8 : a.length = 8) (hb8 : b.length = 8) :
    Calls Tryd.prog 72 #[.slice aa 8 ac, .slice ba 8 bc] w fun e w' => e = .returned (.bool (sameRegs a b)) ∧ ∃ n, w' = w.drewN n := by
  obtain ⟨R, hR⟩ : ∃ R, R = sameRegs a b := ⟨_, rfl⟩
  have HR : Aside (R = sameRegs a b) := hR
  rw [← hR]
  clear hR
  go_enter Tryd.func72, Tryd.ntmps72
  go_wp2
  go_loopg [5] 8 (fun g s5 wr => ∃ r : Nat, r ≤ 8 ∧ g = 8 - r ∧ s5 = .int .i64 r ∧ (∃ n, wr = w.drewN n) ∧ Aside (sameUp a b r = true))
  case atStart => exact ⟨0, Nat.zero_le _, rfl, rfl, ⟨0, rfl⟩, rfl⟩
  case round =>
    obtain ⟨r, hr, rfl, rfl, ⟨n, rfl⟩, hS⟩ := hrel
    by_cases hr8 : r < 8
    · have hrz : (r : Int) < 8 := by omega
      obtain ⟨b1, o1, rfl, c1⟩ := ha r (vAt a r) (vAt_some ha8 hr8)
      obtain ⟨b2, o2, rfl, c2⟩ := hb r (vAt b r) (vAt_some hb8 hr8)
      by_cases he : vAt a r = vAt b r
      · have heq : (vAt a r != vAt b r) = false := by simp [he]
        have HS : Aside (sameUp a b (r + 1) = true) := by show sameUp a b (r + 1) = true; rw [sameUp, hS.out, he]; simp
        clear he
        go_upto_region 4 with fail
        go_quiet (fail)
        go_wp2
        go_roundg (8 - (r + 1))
        case measure => go_light; omega
        case rel => go_light; exact ⟨r + 1, by omega, rfl, by go_num, ⟨n + nq, rfl⟩, HS⟩
      · have heq : (vAt a r != vAt b r) = true := by simp [he]
        have HS : Aside (R = false) := by show R = false; rw [HR.out]; exact sameUp_stop hr8 he
        clear he
        go_upto_region 4 with fail
        go_quiet (fail)
        go_wp2
        go_ret
        exact ⟨by rw [HS.out]; rfl, ⟨n + nq, by simp [World.drewN, Nat.add_assoc]⟩⟩
    · obtain rfl : r = 8 := by omega
      have HS : Aside (R = true) := by show R = true; rw [HR.out, ← sameUp_8]; exact hS.out
      go_wp2
      go_ret
      exact ⟨by rw [HS.out]; rfl, ⟨n, rfl⟩⟩

end Go.Proofs.YtahcgnmhhgcfmaaDoor
