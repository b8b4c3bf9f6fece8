/- slices.Equal of lists that are the same: of numbers, of values. -/
import Derived.Test.YtbifdcchdoflpadHLed
import Derived.WalkKit
import Derived.WalkSpells
import Derived.WalkLawsBesides
import Derived.Deep.LoopGhost
import Derived.Deep.Light
import Derived.Deep.QuietTactic
import Derived.BigQuiet
namespace Go.Proofs.Ytbifdcchdoflpad
open Go.RowKit

set_option maxHeartbeats 400000 in
theorem equalInts_any (aa ab : Option Addr) (ca cb : Nat) (l : List Int) (w : World) (ha : IntsAt w aa l) (hb : IntsAt w ab l) (hl : l.length ≤ 1000000) :
    Calls Try.prog 10 #[.slice aa l.length ca, .slice ab l.length cb] w fun e w' => e = .returned (.bool true) ∧ ∃ n, w' = w.drewN n := by
  obtain ⟨L, hL⟩ : ∃ L, L = l.length := ⟨_, rfl⟩
  have HL : Aside (L = l.length) := hL
  rw [← hL] at hl ⊢
  clear hL
  go_enter Try.func10, Try.ntmps10
  go_wp2
  go_loopg [13, 5] L (fun g s13 s5 wr => ∃ i n : Nat, i ≤ L ∧ g = L - i ∧ s13 = .int .i64 i ∧ wr = w.drewN n)
  case atStart => exact ⟨0, 0, Nat.zero_le _, rfl, rfl, rfl⟩
  case round =>
    obtain ⟨i, n, hi, rfl, rfl, rfl⟩ := hrel
    by_cases hiL : i < L
    · have hiz : (i : Int) < (L : Int) := by omega
      obtain ⟨z, hv⟩ := at_some (l := l) (i := i) (by rw [← HL.out]; exact hiL)
      obtain ⟨ba, oa, rfl, a1⟩ := ha i _ hv
      obtain ⟨bb, ob, rfl, b1⟩ := hb i _ hv
      clear hv
      go_wp2
      go_quiet (fail)
      go_wp2
      go_roundg (L - (i + 1))
      case measure => go_light; omega
      case rel => go_light; exact ⟨i + 1, _, by omega, rfl, by go_num, rfl⟩
    · go_wp2
      go_ret
      exact ⟨rfl, _, rfl⟩

end Go.Proofs.Ytbifdcchdoflpad
