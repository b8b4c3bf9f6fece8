/- The walks of slices.Index and slices.Contains over numbers. -/
import Derived.Test.YtbifdcchdoflpadHLed
import Derived.WalkKit
import Derived.WalkSpells
import Derived.WalkLawsBesides
import Derived.Deep.LoopGhost
import Derived.Deep.Light
namespace Go.Proofs.Ytbifdcchdoflpad
open Go.RowKit

set_option maxHeartbeats 400000 in
theorem index_any (oa : Option Addr) (oc : Nat) (l : List Int) (z : Int) (w : World) (h : IntsAt w oa l) (hl : l.length ≤ 1000000) :
    Calls Try.prog 28 #[.slice oa l.length oc, .int .i64 z] w fun e w' => w = w' ∧ ∃ r : Int, e = .returned (.int .i64 r) ∧ decide (0 ≤ r) = decide (z ∈ l) := by
  obtain ⟨L, hL⟩ : ∃ L, L = l.length := ⟨_, rfl⟩
  have HL : Aside (L = l.length) := hL
  rw [← hL] at hl ⊢
  clear hL
  obtain ⟨q, hq⟩ : ∃ q, q = decide (z ∈ l) := ⟨_, rfl⟩
  have HQ : Aside (q = decide (z ∈ l)) := hq
  rw [← hq]
  clear hq
  go_enter Try.func28, Try.ntmps28
  go_wp2
  go_loopg [4, 5, 8, 9, 10, 11, 12, 13, 14, 15, 16, 17] L (fun g s4 s5 s8 s9 s10 s11 s12 s13 s14 s15 s16 s17 wr => ∃ i : Nat, i ≤ L ∧ g = L - i ∧ s8 = .int .i64 i ∧ w = wr ∧ Aside (z ∈ l ↔ z ∈ l.drop i))
  case atStart => exact ⟨0, Nat.zero_le _, rfl, rfl, rfl, Iff.rfl⟩
  case round =>
    obtain ⟨i, hi, rfl, rfl, rfl, hA⟩ := hrel
    by_cases hiL : i < L
    · have hiz : (i : Int) < (L : Int) := by omega
      obtain ⟨y, hy⟩ := at_some (l := l) (i := i) (by rw [← HL.out]; exact hiL)
      have HS : Aside (z ∈ l.drop i ↔ z = y ∨ z ∈ l.drop (i + 1)) := by
        obtain ⟨hlt, rfl⟩ := List.getElem?_eq_some_iff.1 hy
        show z ∈ l.drop i ↔ _
        rw [List.drop_eq_getElem_cons hlt, List.mem_cons]
      obtain ⟨b, o, rfl, c1⟩ := h i _ hy
      clear hy
      by_cases he : z = y
      · subst he
        have HY : Aside (z ∈ l) := hA.out.2 (HS.out.2 (Or.inl rfl))
        clear hA HS
        go_wp2
        go_ret
        refine ⟨rfl, _, rfl, ?_⟩
        rw [HQ.out]
        have := HY.out
        simp [this]
      · have heb : (z == y) = false := by simp [he]
        have HN : Aside (z ∈ l ↔ z ∈ l.drop (i + 1)) := by
          show z ∈ l ↔ _
          rw [hA.out, HS.out]
          exact ⟨fun h => h.resolve_left (fun e => he e), Or.inr⟩
        clear hA HS he
        go_wp2
        go_roundg (L - (i + 1))
        case measure => go_light; omega
        case rel => go_light; exact ⟨i + 1, by omega, rfl, by go_num, rfl, HN⟩
    · have HN : Aside (z ∉ l) := by
        show z ∉ l
        rw [hA.out, List.drop_eq_nil_of_le (by rw [← HL.out]; omega)]
        simp
      go_wp2
      go_ret
      refine ⟨rfl, _, rfl, ?_⟩
      rw [HQ.out]
      have := HN.out
      simp [this]

set_option maxHeartbeats 400000 in
theorem contains_any (oa : Option Addr) (oc : Nat) (l : List Int) (z : Int) (w : World) (h : IntsAt w oa l) (hl : l.length ≤ 1000000) :
    Calls Try.prog 12 #[.slice oa l.length oc, .int .i64 z] w fun e w' => e = .returned (.bool (decide (z ∈ l))) ∧ w = w' := by
  obtain ⟨q, hq⟩ : ∃ q, q = decide (z ∈ l) := ⟨_, rfl⟩
  have hi := index_any oa oc l z w h hl
  rw [← hq] at hi ⊢
  clear hq
  go_enter Try.func12, Try.ntmps12
  go_wp2_with (go_at_call 28; refine hi.mono ?_; rintro e w' ⟨rfl, r, rfl, hr⟩)
  go_ret
  exact ⟨rfl, rfl⟩

end Go.Proofs.Ytbifdcchdoflpad
