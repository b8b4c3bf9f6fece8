/- The walk of the reference's sevens: the bytes of a number, in new memory. -/
import Derived.Test.YtaioghenlbebmaaDoorNumber
import Derived.WalkKit
import Derived.WalkSpells
import Derived.WalkLawsBesides
import Derived.Deep.LoopGhost
import Derived.Deep.Light
namespace Go.Proofs.YtaioghenlbebmaaDoor
open Go.RowKit

theorem sev_pos (k : Nat) (n : Int) : sev (k + 1) n ≠ [] := by
  unfold sev; split <;> simp

set_option maxHeartbeats 800000 in
theorem sevens_go : ∀ (k : Nat) (n : Int) (w : World), 0 ≤ n → n ≤ 4398046511104 → n < 128 ^ (k + 1) → k < 100 →
    Calls Tryd.prog 18 #[.int .i64 n] w fun e w' => ∃ v, e = .returned v ∧ Buf w' w.heap.size 5 v (sev (k + 1) n) ∧ Below w.heap.size w w' := by
  intro k
  induction k with
  | zero =>
    intro n w h0 h1 h2 _
    have hn : n < 128 := by simpa using h2
    have hl := Buf.lit w w.heap.size 5 [n] (Nat.le_refl _) (by simp)
    have HL : Aside (sev (0 + 1) n = [n]) := sev_small 0 n hn
    clear h2
    go_enter Tryd.func18, Tryd.ntmps18
    go_wp2
    go_ret
    exact ⟨_, rfl, by rw [HL.out]; exact hl, (Below.refl _ _).alloc (Nat.le_refl _) _⟩
  | succ k ih =>
    intro n w h0 h1 h2 hk
    obtain ⟨i0, BT⟩ := bytesT
    by_cases hn : n < 128
    · have hl := Buf.lit w w.heap.size 5 [n] (Nat.le_refl _) (by simp)
      have HL : Aside (sev (k + 1 + 1) n = [n]) := sev_small (k + 1) n hn
      clear h2 ih
      go_enter Tryd.func18, Tryd.ntmps18
      go_wp2
      go_ret
      exact ⟨_, rfl, by rw [HL.out]; exact hl, (Below.refl _ _).alloc (Nat.le_refl _) _⟩
    · have hq2 : n / 128 < 128 ^ (k + 1) := by
        have e : (128 : Int) ^ (k + 1 + 1) = 128 ^ (k + 1) * 128 := Int.pow_succ ..
        rw [e] at h2
        exact Int.ediv_lt_of_lt_mul (by omega) h2
      have HQ : Aside (n / 128 < 128 ^ (k + 1)) := hq2
      have HL : Aside (sev (k + 1 + 1) n = [128 + n % 128] ++ sev (k + 1) (n / 128)) := by
        show sev (k + 1 + 1) n = _
        rw [sev_big (k + 1) n hn, Int.add_comm]; rfl
      have IH : Hid (∀ (n : Int) (w : World), 0 ≤ n → n ≤ 4398046511104 → n < 128 ^ (k + 1) → k < 100 →
        Calls Tryd.prog 18 #[.int .i64 n] w fun e w' => ∃ v, e = .returned v ∧ Buf w' w.heap.size 5 v (sev (k + 1) n) ∧ Below w.heap.size w w') := ih
      have hl := Buf.lit w w.heap.size 5 [128 + n % 128] (Nat.le_refl _) (by simp)
      have HLIT : Aside (Buf (w.alloc (.cells #[.int .u8 (128 + n % 128)] 5)) w.heap.size 5 (.slice (some ⟨w.heap.size, 0, none⟩) 1 1) [128 + n % 128]) := hl
      clear h2 hq2 ih hl
      go_enter Tryd.func18, Tryd.ntmps18
      go_wp2_with fail
      refine (IH.out (n / 128) _ (by omega) (by omega) HQ.out (by omega)).mono ?_
      rintro e w1 ⟨v1, rfl, hB1, hb1⟩
      have hB0 := HLIT.out.below hb1
      have hs := hb1.size
      simp at hs
      have hlen := sev_length (k + 1) (n / 128)
      rcases hB1.form with ⟨_, hnil⟩ | ⟨g, cap, rfl, hg⟩
      · exact absurd hnil (sev_pos k _)
      · have hcells := hB1.cells rfl
        go_wp2_with (at_builtin; refine wpList_gather (v := .slice (some ⟨w.heap.size, 0, none⟩) 1 1) BT rfl (.tmp 12) (.tmp 15) rfl rfl hB0 (sev (k + 1) (n / 128)) ⟨g, 0, none⟩ cap rfl hcells ?p1 ?p2 ?p3 ?_; (case p1 => simp); (case p2 => omega); (case p3 => omega); intro v2 w2 hB2 hg2 hb2)
        go_ret
        exact ⟨_, rfl, by rw [HL.out]; exact hB2, (((Below.refl _ _).alloc (Nat.le_refl _) _).trans (hb1.mono (by simp))).trans hb2⟩

theorem sevens_any (n : Int) (w : World) (h0 : 0 ≤ n) (h1 : n ≤ 4398046511104) :
    Calls Tryd.prog 18 #[.int .i64 n] w fun e w' => ∃ g cap, e = .returned (.slice (some ⟨g, 0, none⟩) (sev 7 n).length cap) ∧ Buf w' w.heap.size 5 (.slice (some ⟨g, 0, none⟩) (sev 7 n).length cap) (sev 7 n) ∧ Below w.heap.size w w' := by
  refine (sevens_go 6 n w h0 h1 (by omega) (by omega)).mono ?_
  rintro e w1 ⟨v1, rfl, hB1, hb1⟩
  rcases hB1.form with ⟨_, hnil⟩ | ⟨g, cap, rfl, _⟩
  · exact absurd hnil (sev_pos 6 _)
  · exact ⟨g, cap, rfl, hB1, hb1⟩

end Go.Proofs.YtaioghenlbebmaaDoor
