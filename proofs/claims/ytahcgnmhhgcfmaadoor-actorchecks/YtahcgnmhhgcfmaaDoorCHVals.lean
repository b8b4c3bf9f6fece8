/- The walk of the reference's Values. -/
import Derived.Test.YtahcgnmhhgcfmaaDoorCHLaws
import Derived.WalkKit
import Derived.WalkSpells
import Derived.WalkLawsBesides
import Derived.Deep.LoopGhost
import Derived.Deep.Light
import Derived.Deep.QuietTactic
import Derived.BigQuiet
import Derived.BigRegion
import Derived.Test.YtahcgnmhhgcfmaaDoorCPlain
namespace Go.Proofs.YtahcgnmhhgcfmaaDoor
open Go.RowKit

set_option maxHeartbeats 400000 in
theorem values_any (ao : Option Addr) (cap : Nat) (l : List Vl) (w : World) (h : ValsAt w ao l) (hl : 16 * l.length ≤ 140737488351232) :
    Calls Tryd.prog 80 #[.slice ao l.length cap] w fun e w' => ∃ va vc, e = .returned (.slice va l.length vc) ∧ ValsOwn w' w.heap.size (.slice va l.length vc) l ∧ Below w.heap.size w w' := by
  obtain ⟨L, hL⟩ : ∃ L, L = l.length := ⟨_, rfl⟩
  have HL : Aside (L = l.length) := hL
  rw [← hL] at hl ⊢
  clear hL
  go_enter Tryd.func80, Tryd.ntmps80
  go_wp2
  go_loopg [3, 4] L (fun g s3 s4 wr => ∃ (i : Nat) (v : Value), i ≤ L ∧ g = L - i ∧ s4 = .int .i64 i ∧ s3 = v ∧ ValsOwn wr w.heap.size v (l.take i) ∧ Below w.heap.size w wr)
  case atStart => exact ⟨0, _, Nat.zero_le _, rfl, rfl, rfl, World.ownsRow_nil _ _ _ _, Below.refl _ _⟩
  case round =>
    obtain ⟨i, v, hi, rfl, rfl, rfl, hO, hb⟩ := hrel
    by_cases hiL : i < L
    · have hiz : (i : Int) < (L : Int) := by omega
      obtain ⟨⟨k, n⟩, hv⟩ := at_some (l := l) (i := i) (by rw [← HL.out]; exact hiL)
      have HT : Aside (l.take (i + 1) = l.take i ++ [⟨k, n⟩]) := by show l.take (i + 1) = _; rw [List.take_add_one, hv]; rfl
      obtain ⟨b, o, rfl, c1, c2⟩ := h i _ hv
      replace c1 := Keeps.below hb _ _ c1
      replace c2 := Keeps.below hb _ _ c2
      have hlen : Aside ((l.take i).length = i) := by show (l.take i).length = i; rw [List.length_take, ← HL.out]; omega
      have hs := hb.size
      clear hv
      simp only at c1 c2
      go_wp2_with (at_builtin; refine wpList_pushVal rfl (.tmp 11) (.tmp 16) rfl (v := u3) rfl hO hs k n rfl ?p1 ?_; (case p1 => rw [hlen.out]; omega); intro v1 w1 hO1 _ hb1)
      have hb2 := hb.trans hb1
      clear hO hb hb1 c1 c2
      go_wp2
      go_roundg (L - (i + 1))
      case measure => go_light; omega
      case rel => go_light; exact ⟨i + 1, _, by omega, rfl, by go_num, rfl, by rw [HT.out]; exact hO1, hb2⟩
    · have HT : Aside (l.take i = l) := by show l.take i = l; rw [List.take_of_length_le]; rw [← HL.out]; omega
      rw [HT.out] at hO
      obtain ⟨va, vc, hv⟩ := hO.form
      rw [← HL.out] at hv
      subst hv
      go_wp2
      go_ret
      exact ⟨va, vc, rfl, hO, hb⟩

end Go.Proofs.YtahcgnmhhgcfmaaDoor
