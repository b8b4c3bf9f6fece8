/- The library's sort of no numbers. -/
import Derived.Test.YtbifdcchdoflpacChecked
import Derived.Test.YtbifdcchdoflpacHViews
import Derived.Test.YtbifdcchdoflpacShelf
import Derived.WalkKit
import Derived.WalkSpells
import Derived.Deep.LoopGhost
namespace Go.Proofs.Ytbifdcchdoflpac
open Go.RowKit

set_option maxHeartbeats 1000000 in
theorem Try.insertion_none (c : Nat) (w : World) :
    Calls Try.prog 60 #[.slice none 0 c, .int .i64 0, .int .i64 0] w fun e w' => e = .returned (.tuple #[]) ∧ w' = w := by
  go_enter Try.func60, Try.ntmps60
  go_wp2
  go_loopg [6] 1 (fun g s6 wr => wr = w ∧ s6 = .int .i64 1)
  case atStart => exact ⟨rfl, rfl⟩
  case round =>
    obtain ⟨rfl, rfl⟩ := hrel
    go_wp2
    go_end0
    exact ⟨rfl, rfl⟩

set_option maxHeartbeats 1000000 in
set_option maxRecDepth 100000 in
theorem Try.pdq_none (c : Nat) (l : Int) (w : World) :
    Calls Try.prog 58 #[.slice none 0 c, .int .i64 0, .int .i64 0, .int .i64 l] w fun e w' => e = .returned (.tuple #[]) ∧ w' = w := by
  go_enter Try.func58, Try.ntmps58
  go_wp2
  go_loopg [1, 2, 3, 8, 9] 1 (fun g s1 s2 s3 s8 s9 wr => wr = w ∧ s1 = .int .i64 0 ∧ s2 = .int .i64 0)
  case atStart => exact ⟨rfl, rfl, rfl⟩
  case round =>
    obtain ⟨rfl, rfl, rfl⟩ := hrel
    go_wp2_with (go_at_call 60; refine (Try.insertion_none _ _).mono ?_; rintro e w' ⟨rfl, rfl⟩)
    exact bodyPost_ret (v := .tuple #[]) (by simp [results, Try.results58, go_sem]) rfl ⟨rfl, rfl⟩

set_option maxHeartbeats 1000000 in
set_option maxRecDepth 100000 in
theorem Try.slices_Sort_int_none (c : Nat) (w : World) :
    Calls Try.prog 50 #[.slice none 0 c] w fun e w' => e = .returned (.tuple #[]) ∧ w' = w := by
  go_enter Try.func50, Try.ntmps50
  go_wp2_with fail
  refine (calls_of_every_depth fun D => AnyS.bits_LenIn { Try.lays189 with } D 0 w (by omega) (by omega)).mono ?_
  rintro e w' ⟨rfl, rfl⟩
  go_wp2_with (go_at_call 58; refine (Try.pdq_none _ _ _).mono ?_; rintro e w' ⟨rfl, rfl⟩)
  go_end0
  exact ⟨rfl, rfl⟩

end Go.Proofs.Ytbifdcchdoflpac
