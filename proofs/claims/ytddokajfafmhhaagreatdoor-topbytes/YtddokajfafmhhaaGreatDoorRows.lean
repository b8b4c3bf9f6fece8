/-
  NARROWER THAN 'FOR EVERY INPUT', by the rows' own cells (each row's printed sentence says how): WorldsGood: laid · TopSound: laid · TopAlone: laid · TopSteps: laid · TopBytes: laid · TopEnded: laid · TopTwice: laid · TopBad: laid.
  DERIVED. THE GIVEN ROWS OF THIS SEAT. 8 by the template 'for every input the law returns true; each argument reads behind the call as it read before'; 0 by the template 'total and deterministic' (their statements: YtddokajfafmhhaaGreatDoorTotals.lean).
  GIVEN WITH THE SEED: the statements are not yours to turn. If you find one false, say at which input.
  Laid BY PROGRAM, IN A SANDBOX (cutbox-rows.mjs): the forced cells as the released guide's own fill.sh prints them over the translation 528e4d61df4ee712… (all of the seat's roots in one cut). By AI agents, Wed Nov 11 2026. No macro, syntax, notation, axiom, sorry.
-/
import Derived.Test.YtddokajfafmhhaaGreatDoorChecked
import GoSem.Claim
import GoSem.ClaimJoined
import GoSem.ClaimMapViews
import Derived.JoinedTies
import Derived.KernelRfl
namespace Go.Proofs.YtddokajfafmhhaaGreatDoor
/- THE CELL 'sum', in the pinned program and in every row, IS THE sha256 OF THE DUMP (.gsa) THAT YtddokajfafmhhaaGreatDoorProg.lean LOADS. Nothing in Lean hashes anything: it is a label: what it is worth is what the hold of that sum in a sandbox is worth. -/
noncomputable def Tryz.pinned : Pinned := { name := "ytddokajfafmhhaagreatdoor", sum := "528e4d61df4ee71295d0e77bf55d5101e6e58ea2da96343ecb406af9b0cc75c8", checked := Tryz.checked }
namespace Rows
def none {H : Type} : Left H := { results := [], args := [] }

/- WHAT THE LISTED PACKAGE-LEVEL VARIABLES READ AS WHEN THE CALL BEGINS. Each datum BY PROGRAM (the guide's laid-datum.mjs) off the statement by which the dump's own 'gosem.cut.vars' lays the variable. In a bare row this is a premise. The card (YtddokajfafmhhaaGreatDoorCards.lean) ties it to the program's text. -/
def laid_treadwheel_code_operators {H : Type} : DataW H := .agg [.agg [.lit (.bool false), .lit (.bool false), .lit (.bool false), .lit (.int .i64 0), .lit (.int .i64 0)], .agg [.lit (.bool true), .lit (.bool false), .lit (.bool true), .lit (.int .i64 (-1099511627776)), .lit (.int .i64 1099511627776)], .agg [.lit (.bool true), .lit (.bool true), .lit (.bool false), .lit (.int .i64 0), .lit (.int .i64 0)], .agg [.lit (.bool true), .lit (.bool true), .lit (.bool false), .lit (.int .i64 0), .lit (.int .i64 0)], .agg [.lit (.bool true), .lit (.bool true), .lit (.bool false), .lit (.int .i64 0), .lit (.int .i64 0)], .agg [.lit (.bool true), .lit (.bool false), .lit (.bool true), .lit (.int .i64 (-60)), .lit (.int .i64 60)], .agg [.lit (.bool false), .lit (.bool false), .lit (.bool true), .lit (.int .i64 (-60)), .lit (.int .i64 60)], .agg [.lit (.bool true), .lit (.bool false), .lit (.bool true), .lit (.int .i64 1), .lit (.int .i64 4)], .agg [.lit (.bool true), .lit (.bool true), .lit (.bool true), .lit (.int .i64 0), .lit (.int .i64 3)], .agg [.lit (.bool true), .lit (.bool true), .lit (.bool true), .lit (.int .i64 0), .lit (.int .i64 3)], .agg [.lit (.bool true), .lit (.bool true), .lit (.bool true), .lit (.int .i64 0), .lit (.int .i64 3)], .agg [.lit (.bool true), .lit (.bool true), .lit (.bool true), .lit (.int .i64 0), .lit (.int .i64 3)], .agg [.lit (.bool true), .lit (.bool true), .lit (.bool false), .lit (.int .i64 0), .lit (.int .i64 0)], .agg [.lit (.bool true), .lit (.bool true), .lit (.bool false), .lit (.int .i64 0), .lit (.int .i64 0)], .agg [.lit (.bool true), .lit (.bool true), .lit (.bool false), .lit (.int .i64 0), .lit (.int .i64 0)], .agg [.lit (.bool true), .lit (.bool false), .lit (.bool false), .lit (.int .i64 0), .lit (.int .i64 0)], .agg [.lit (.bool true), .lit (.bool false), .lit (.bool false), .lit (.int .i64 0), .lit (.int .i64 0)], .agg [.lit (.bool true), .lit (.bool true), .lit (.bool true), .lit (.int .i64 0), .lit (.int .i64 5)], .agg [.lit (.bool true), .lit (.bool false), .lit (.bool false), .lit (.int .i64 0), .lit (.int .i64 0)], .agg [.lit (.bool false), .lit (.bool false), .lit (.bool false), .lit (.int .i64 0), .lit (.int .i64 0)]]

/-- 'treadwheelkeep.WorldsGood': WHATEVER THE INPUT: true; the input reads as it did. -/
def worldsGoodSpec : ChangeSpec := { name := "worldsGood", fn := fun _ => fun
  | [d1, d2, d3] => { results := [.lit (.bool true)], args := [d1, d2, d3] }
  | _ => none }
def worldsGoodRow : OpenClaim := { program := "ytddokajfafmhhaagreatdoor", sum := "528e4d61df4ee71295d0e77bf55d5101e6e58ea2da96343ecb406af9b0cc75c8", func := "treadwheel/treadwheelkeep.WorldsGood", spec := "worldsGood", unfollowed := true, recurses := true, named := ["treadwheel/code.operators"], apart := false, laid := [("treadwheel/code.operators", laid_treadwheel_code_operators)] }
def WorldsGoodSaid : Prop := worldsGoodRow.holds Tryz.pinned (OpenSpec.ofChange worldsGoodSpec)

/-- ITS FALSE NEIGHBOUR: 'it returns false'. Refute it at one input. -/
def worldsGoodWrong : ChangeSpec := { name := "worldsGood", fn := fun _ => fun
  | [d1, d2, d3] => { results := [.lit (.bool false)], args := [d1, d2, d3] }
  | _ => none }
def WorldsGoodWrongFalsely : Prop := worldsGoodRow.holds Tryz.pinned (OpenSpec.ofChange worldsGoodWrong)

/-- 'treadwheeltop.TopSound': WHATEVER THE INPUT: true; the input reads as it did. -/
def topSoundSpec : ChangeSpec := { name := "topSound", fn := fun _ => fun
  | [d1, d2, d3] => { results := [.lit (.bool true)], args := [d1, d2, d3] }
  | _ => none }
def topSoundRow : OpenClaim := { program := "ytddokajfafmhhaagreatdoor", sum := "528e4d61df4ee71295d0e77bf55d5101e6e58ea2da96343ecb406af9b0cc75c8", func := "treadwheel/treadwheeltop.TopSound", spec := "topSound", unfollowed := true, recurses := true, named := ["treadwheel/code.operators"], apart := false, laid := [("treadwheel/code.operators", laid_treadwheel_code_operators)] }
def TopSoundSaid : Prop := topSoundRow.holds Tryz.pinned (OpenSpec.ofChange topSoundSpec)

/-- ITS FALSE NEIGHBOUR: 'it returns false'. Refute it at one input. -/
def topSoundWrong : ChangeSpec := { name := "topSound", fn := fun _ => fun
  | [d1, d2, d3] => { results := [.lit (.bool false)], args := [d1, d2, d3] }
  | _ => none }
def TopSoundWrongFalsely : Prop := topSoundRow.holds Tryz.pinned (OpenSpec.ofChange topSoundWrong)

/-- 'treadwheeltop.TopAlone': WHATEVER THE INPUT: true; the input reads as it did. -/
def topAloneSpec : ChangeSpec := { name := "topAlone", fn := fun _ => fun
  | [d1, d2, d3, d4] => { results := [.lit (.bool true)], args := [d1, d2, d3, d4] }
  | _ => none }
def topAloneRow : OpenClaim := { program := "ytddokajfafmhhaagreatdoor", sum := "528e4d61df4ee71295d0e77bf55d5101e6e58ea2da96343ecb406af9b0cc75c8", func := "treadwheel/treadwheeltop.TopAlone", spec := "topAlone", unfollowed := true, recurses := true, named := ["treadwheel/code.operators"], apart := false, laid := [("treadwheel/code.operators", laid_treadwheel_code_operators)] }
def TopAloneSaid : Prop := topAloneRow.holds Tryz.pinned (OpenSpec.ofChange topAloneSpec)

/-- ITS FALSE NEIGHBOUR: 'it returns false'. Refute it at one input. -/
def topAloneWrong : ChangeSpec := { name := "topAlone", fn := fun _ => fun
  | [d1, d2, d3, d4] => { results := [.lit (.bool false)], args := [d1, d2, d3, d4] }
  | _ => none }
def TopAloneWrongFalsely : Prop := topAloneRow.holds Tryz.pinned (OpenSpec.ofChange topAloneWrong)

/-- 'treadwheeltop.TopSteps': WHATEVER THE INPUT: true; the input reads as it did. -/
def topStepsSpec : ChangeSpec := { name := "topSteps", fn := fun _ => fun
  | [d1, d2, d3] => { results := [.lit (.bool true)], args := [d1, d2, d3] }
  | _ => none }
def topStepsRow : OpenClaim := { program := "ytddokajfafmhhaagreatdoor", sum := "528e4d61df4ee71295d0e77bf55d5101e6e58ea2da96343ecb406af9b0cc75c8", func := "treadwheel/treadwheeltop.TopSteps", spec := "topSteps", unfollowed := true, recurses := true, named := ["treadwheel/code.operators"], apart := false, laid := [("treadwheel/code.operators", laid_treadwheel_code_operators)] }
def TopStepsSaid : Prop := topStepsRow.holds Tryz.pinned (OpenSpec.ofChange topStepsSpec)

/-- ITS FALSE NEIGHBOUR: 'it returns false'. Refute it at one input. -/
def topStepsWrong : ChangeSpec := { name := "topSteps", fn := fun _ => fun
  | [d1, d2, d3] => { results := [.lit (.bool false)], args := [d1, d2, d3] }
  | _ => none }
def TopStepsWrongFalsely : Prop := topStepsRow.holds Tryz.pinned (OpenSpec.ofChange topStepsWrong)

/-- 'treadwheeltop.TopBytes': WHATEVER THE INPUT: true; the input reads as it did. -/
def topBytesSpec : ChangeSpec := { name := "topBytes", fn := fun _ => fun
  | [d1, d2, d3] => { results := [.lit (.bool true)], args := [d1, d2, d3] }
  | _ => none }
def topBytesRow : OpenClaim := { program := "ytddokajfafmhhaagreatdoor", sum := "528e4d61df4ee71295d0e77bf55d5101e6e58ea2da96343ecb406af9b0cc75c8", func := "treadwheel/treadwheeltop.TopBytes", spec := "topBytes", unfollowed := true, recurses := true, named := ["treadwheel/code.operators"], apart := false, laid := [("treadwheel/code.operators", laid_treadwheel_code_operators)] }
def TopBytesSaid : Prop := topBytesRow.holds Tryz.pinned (OpenSpec.ofChange topBytesSpec)

/-- ITS FALSE NEIGHBOUR: 'it returns false'. Refute it at one input. -/
def topBytesWrong : ChangeSpec := { name := "topBytes", fn := fun _ => fun
  | [d1, d2, d3] => { results := [.lit (.bool false)], args := [d1, d2, d3] }
  | _ => none }
def TopBytesWrongFalsely : Prop := topBytesRow.holds Tryz.pinned (OpenSpec.ofChange topBytesWrong)

/-- 'treadwheeltop.TopEnded': WHATEVER THE INPUT: true; the input reads as it did. -/
def topEndedSpec : ChangeSpec := { name := "topEnded", fn := fun _ => fun
  | [d1, d2, d3, d4, d5] => { results := [.lit (.bool true)], args := [d1, d2, d3, d4, d5] }
  | _ => none }
def topEndedRow : OpenClaim := { program := "ytddokajfafmhhaagreatdoor", sum := "528e4d61df4ee71295d0e77bf55d5101e6e58ea2da96343ecb406af9b0cc75c8", func := "treadwheel/treadwheeltop.TopEnded", spec := "topEnded", unfollowed := true, recurses := true, named := ["treadwheel/code.operators"], apart := false, laid := [("treadwheel/code.operators", laid_treadwheel_code_operators)] }
def TopEndedSaid : Prop := topEndedRow.holds Tryz.pinned (OpenSpec.ofChange topEndedSpec)

/-- ITS FALSE NEIGHBOUR: 'it returns false'. Refute it at one input. -/
def topEndedWrong : ChangeSpec := { name := "topEnded", fn := fun _ => fun
  | [d1, d2, d3, d4, d5] => { results := [.lit (.bool false)], args := [d1, d2, d3, d4, d5] }
  | _ => none }
def TopEndedWrongFalsely : Prop := topEndedRow.holds Tryz.pinned (OpenSpec.ofChange topEndedWrong)

/-- 'treadwheeltop.TopTwice': WHATEVER THE INPUT: true; the input reads as it did. -/
def topTwiceSpec : ChangeSpec := { name := "topTwice", fn := fun _ => fun
  | [d1, d2, d3, d4] => { results := [.lit (.bool true)], args := [d1, d2, d3, d4] }
  | _ => none }
def topTwiceRow : OpenClaim := { program := "ytddokajfafmhhaagreatdoor", sum := "528e4d61df4ee71295d0e77bf55d5101e6e58ea2da96343ecb406af9b0cc75c8", func := "treadwheel/treadwheeltop.TopTwice", spec := "topTwice", unfollowed := true, recurses := true, named := ["treadwheel/code.operators"], apart := false, laid := [("treadwheel/code.operators", laid_treadwheel_code_operators)] }
def TopTwiceSaid : Prop := topTwiceRow.holds Tryz.pinned (OpenSpec.ofChange topTwiceSpec)

/-- ITS FALSE NEIGHBOUR: 'it returns false'. Refute it at one input. -/
def topTwiceWrong : ChangeSpec := { name := "topTwice", fn := fun _ => fun
  | [d1, d2, d3, d4] => { results := [.lit (.bool false)], args := [d1, d2, d3, d4] }
  | _ => none }
def TopTwiceWrongFalsely : Prop := topTwiceRow.holds Tryz.pinned (OpenSpec.ofChange topTwiceWrong)

/-- 'treadwheeltop.TopBad': WHATEVER THE INPUT: true; the input reads as it did. -/
def topBadSpec : ChangeSpec := { name := "topBad", fn := fun _ => fun
  | [d1, d2, d3] => { results := [.lit (.bool true)], args := [d1, d2, d3] }
  | _ => none }
def topBadRow : OpenClaim := { program := "ytddokajfafmhhaagreatdoor", sum := "528e4d61df4ee71295d0e77bf55d5101e6e58ea2da96343ecb406af9b0cc75c8", func := "treadwheel/treadwheeltop.TopBad", spec := "topBad", unfollowed := true, recurses := true, named := ["treadwheel/code.operators"], apart := false, laid := [("treadwheel/code.operators", laid_treadwheel_code_operators)] }
def TopBadSaid : Prop := topBadRow.holds Tryz.pinned (OpenSpec.ofChange topBadSpec)

/-- ITS FALSE NEIGHBOUR: 'it returns false'. Refute it at one input. -/
def topBadWrong : ChangeSpec := { name := "topBad", fn := fun _ => fun
  | [d1, d2, d3] => { results := [.lit (.bool false)], args := [d1, d2, d3] }
  | _ => none }
def TopBadWrongFalsely : Prop := topBadRow.holds Tryz.pinned (OpenSpec.ofChange topBadWrong)

/- THE SECOND FORM. 'bulk': how many values and letters a reading holds, each counted each time it is reached (what is shared counts as often as it is met; a slice's spare places count too). A statement '..UptoSaid' is the law's where the arguments, and the package variables that the reading takes, are together of bulk at most 1048576: NARROWER than '..Said'. Prove '..Said' where nothing that the law and all that it calls make is longer than what came in: it says more and counts as full. Else prove '..UptoSaid'. A law counts once. -/
mutual
def uptoBulk {H : Type} : DataW H → Nat
  | .lit (.string bytes) => bytes.length + 1
  | .lit _ => 1
  | .nil => 1
  | .ptr d => uptoBulk d + 1
  | .slice elems spare => uptoBulkAll elems + uptoBulkAll spare + 1
  | .agg parts => uptoBulkAll parts + 1
  | .iface _ d => uptoBulk d + 1
  | .map entries => uptoBulkEntries entries + 1
  | .held _ => 1
def uptoBulkAll {H : Type} : List (DataW H) → Nat
  | [] => 0
  | d :: r => uptoBulk d + uptoBulkAll r
def uptoBulkEntries {H : Type} : List (Lit × DataW H) → Nat
  | [] => 0
  | x :: r => uptoBulkEntry x + uptoBulkEntries r
def uptoBulkEntry {H : Type} : Lit × DataW H → Nat
  | (.string bytes, d) => bytes.length + uptoBulk d + 1
  | (_, d) => uptoBulk d + 1
 end
def uptoSmall : (H : Type) → List (DataW H) → Bool := fun _ ds => decide (uptoBulkAll ds ≤ 1048576)
def OpenSpec.upto (s : _root_.Go.ChangeSpec) : _root_.Go.OpenSpec := { _root_.Go.OpenSpec.ofChange s with cond := some uptoSmall }

/-- 'treadwheelkeep.WorldsGood', WHERE WHAT IT READS IS OF BULK AT MOST 1048576: true; the input reads as it did. -/
def worldsGoodUptoRow : OpenClaim := { program := "ytddokajfafmhhaagreatdoor", sum := "528e4d61df4ee71295d0e77bf55d5101e6e58ea2da96343ecb406af9b0cc75c8", func := "treadwheel/treadwheelkeep.WorldsGood", spec := "worldsGood", unfollowed := true, recurses := true, named := ["treadwheel/code.operators"], apart := false, laid := [("treadwheel/code.operators", laid_treadwheel_code_operators)], narrowed := true }
def WorldsGoodUptoSaid : Prop := worldsGoodUptoRow.holds Tryz.pinned (OpenSpec.upto worldsGoodSpec)

/-- 'treadwheeltop.TopSound', WHERE WHAT IT READS IS OF BULK AT MOST 1048576: true; the input reads as it did. -/
def topSoundUptoRow : OpenClaim := { program := "ytddokajfafmhhaagreatdoor", sum := "528e4d61df4ee71295d0e77bf55d5101e6e58ea2da96343ecb406af9b0cc75c8", func := "treadwheel/treadwheeltop.TopSound", spec := "topSound", unfollowed := true, recurses := true, named := ["treadwheel/code.operators"], apart := false, laid := [("treadwheel/code.operators", laid_treadwheel_code_operators)], narrowed := true }
def TopSoundUptoSaid : Prop := topSoundUptoRow.holds Tryz.pinned (OpenSpec.upto topSoundSpec)

/-- 'treadwheeltop.TopAlone', WHERE WHAT IT READS IS OF BULK AT MOST 1048576: true; the input reads as it did. -/
def topAloneUptoRow : OpenClaim := { program := "ytddokajfafmhhaagreatdoor", sum := "528e4d61df4ee71295d0e77bf55d5101e6e58ea2da96343ecb406af9b0cc75c8", func := "treadwheel/treadwheeltop.TopAlone", spec := "topAlone", unfollowed := true, recurses := true, named := ["treadwheel/code.operators"], apart := false, laid := [("treadwheel/code.operators", laid_treadwheel_code_operators)], narrowed := true }
def TopAloneUptoSaid : Prop := topAloneUptoRow.holds Tryz.pinned (OpenSpec.upto topAloneSpec)

/-- 'treadwheeltop.TopSteps', WHERE WHAT IT READS IS OF BULK AT MOST 1048576: true; the input reads as it did. -/
def topStepsUptoRow : OpenClaim := { program := "ytddokajfafmhhaagreatdoor", sum := "528e4d61df4ee71295d0e77bf55d5101e6e58ea2da96343ecb406af9b0cc75c8", func := "treadwheel/treadwheeltop.TopSteps", spec := "topSteps", unfollowed := true, recurses := true, named := ["treadwheel/code.operators"], apart := false, laid := [("treadwheel/code.operators", laid_treadwheel_code_operators)], narrowed := true }
def TopStepsUptoSaid : Prop := topStepsUptoRow.holds Tryz.pinned (OpenSpec.upto topStepsSpec)

/-- 'treadwheeltop.TopBytes', WHERE WHAT IT READS IS OF BULK AT MOST 1048576: true; the input reads as it did. -/
def topBytesUptoRow : OpenClaim := { program := "ytddokajfafmhhaagreatdoor", sum := "528e4d61df4ee71295d0e77bf55d5101e6e58ea2da96343ecb406af9b0cc75c8", func := "treadwheel/treadwheeltop.TopBytes", spec := "topBytes", unfollowed := true, recurses := true, named := ["treadwheel/code.operators"], apart := false, laid := [("treadwheel/code.operators", laid_treadwheel_code_operators)], narrowed := true }
def TopBytesUptoSaid : Prop := topBytesUptoRow.holds Tryz.pinned (OpenSpec.upto topBytesSpec)

/-- 'treadwheeltop.TopEnded', WHERE WHAT IT READS IS OF BULK AT MOST 1048576: true; the input reads as it did. -/
def topEndedUptoRow : OpenClaim := { program := "ytddokajfafmhhaagreatdoor", sum := "528e4d61df4ee71295d0e77bf55d5101e6e58ea2da96343ecb406af9b0cc75c8", func := "treadwheel/treadwheeltop.TopEnded", spec := "topEnded", unfollowed := true, recurses := true, named := ["treadwheel/code.operators"], apart := false, laid := [("treadwheel/code.operators", laid_treadwheel_code_operators)], narrowed := true }
def TopEndedUptoSaid : Prop := topEndedUptoRow.holds Tryz.pinned (OpenSpec.upto topEndedSpec)

/-- 'treadwheeltop.TopTwice', WHERE WHAT IT READS IS OF BULK AT MOST 1048576: true; the input reads as it did. -/
def topTwiceUptoRow : OpenClaim := { program := "ytddokajfafmhhaagreatdoor", sum := "528e4d61df4ee71295d0e77bf55d5101e6e58ea2da96343ecb406af9b0cc75c8", func := "treadwheel/treadwheeltop.TopTwice", spec := "topTwice", unfollowed := true, recurses := true, named := ["treadwheel/code.operators"], apart := false, laid := [("treadwheel/code.operators", laid_treadwheel_code_operators)], narrowed := true }
def TopTwiceUptoSaid : Prop := topTwiceUptoRow.holds Tryz.pinned (OpenSpec.upto topTwiceSpec)

/-- 'treadwheeltop.TopBad', WHERE WHAT IT READS IS OF BULK AT MOST 1048576: true; the input reads as it did. -/
def topBadUptoRow : OpenClaim := { program := "ytddokajfafmhhaagreatdoor", sum := "528e4d61df4ee71295d0e77bf55d5101e6e58ea2da96343ecb406af9b0cc75c8", func := "treadwheel/treadwheeltop.TopBad", spec := "topBad", unfollowed := true, recurses := true, named := ["treadwheel/code.operators"], apart := false, laid := [("treadwheel/code.operators", laid_treadwheel_code_operators)], narrowed := true }
def TopBadUptoSaid : Prop := topBadUptoRow.holds Tryz.pinned (OpenSpec.upto topBadSpec)

end Rows
end Go.Proofs.YtddokajfafmhhaaGreatDoor
