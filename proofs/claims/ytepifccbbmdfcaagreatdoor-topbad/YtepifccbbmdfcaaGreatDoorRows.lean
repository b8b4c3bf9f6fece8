/-
  NARROWER THAN 'FOR EVERY INPUT', by the rows' own cells (each row's printed sentence says how): EchoTells: laid · ParentsTold: laid · ActorDoes: laid · ActorRuns: laid · TopUnique: laid · TopBad: laid.
  DERIVED. THE GIVEN ROWS OF THIS SEAT. 6 by the template 'for every input the law returns true; each argument reads behind the call as it read before'; 0 by the template 'total and deterministic' (their statements: YtepifccbbmdfcaaGreatDoorTotals.lean).
  GIVEN WITH THE SEED: the statements are not yours to turn. If you find one false, say at which input.
  Laid BY PROGRAM, IN A SANDBOX (cutbox-rows.mjs): the forced cells as the released guide's own fill.sh prints them over the translation 89729dac867be476… (all of the seat's roots in one cut). By AI agents, Wed Nov 11 2026. No macro, syntax, notation, axiom, sorry.
-/
import Derived.Test.YtepifccbbmdfcaaGreatDoorChecked
import GoSem.Claim
import GoSem.ClaimJoined
import GoSem.ClaimMapViews
import Derived.JoinedTies
import Derived.KernelRfl
namespace Go.Proofs.YtepifccbbmdfcaaGreatDoor
/- THE CELL 'sum', in the pinned program and in every row, IS THE sha256 OF THE DUMP (.gsa) THAT YtepifccbbmdfcaaGreatDoorProg.lean LOADS. Nothing in Lean hashes anything: it is a label: what it is worth is what the hold of that sum in a sandbox is worth. -/
noncomputable def Tryz.pinned : Pinned := { name := "ytepifccbbmdfcaagreatdoor", sum := "89729dac867be4767ff37fa7fd5ce69afd6b3d643583b238a997bfbeedd57c7b", checked := Tryz.checked }
namespace Rows
def none {H : Type} : Left H := { results := [], args := [] }

/- WHAT THE LISTED PACKAGE-LEVEL VARIABLES READ AS WHEN THE CALL BEGINS. Each datum BY PROGRAM (the guide's laid-datum.mjs) off the statement by which the dump's own 'gosem.cut.vars' lays the variable. In a bare row this is a premise. The card (YtepifccbbmdfcaaGreatDoorCards.lean) ties it to the program's text. -/
def laid_treadwheel_code_operators {H : Type} : DataW H := .agg [.agg [.lit (.bool false), .lit (.bool false), .lit (.bool false), .lit (.int .i64 0), .lit (.int .i64 0)], .agg [.lit (.bool true), .lit (.bool false), .lit (.bool true), .lit (.int .i64 (-1099511627776)), .lit (.int .i64 1099511627776)], .agg [.lit (.bool true), .lit (.bool true), .lit (.bool false), .lit (.int .i64 0), .lit (.int .i64 0)], .agg [.lit (.bool true), .lit (.bool true), .lit (.bool false), .lit (.int .i64 0), .lit (.int .i64 0)], .agg [.lit (.bool true), .lit (.bool true), .lit (.bool false), .lit (.int .i64 0), .lit (.int .i64 0)], .agg [.lit (.bool true), .lit (.bool false), .lit (.bool true), .lit (.int .i64 (-60)), .lit (.int .i64 60)], .agg [.lit (.bool false), .lit (.bool false), .lit (.bool true), .lit (.int .i64 (-60)), .lit (.int .i64 60)], .agg [.lit (.bool true), .lit (.bool false), .lit (.bool true), .lit (.int .i64 1), .lit (.int .i64 4)], .agg [.lit (.bool true), .lit (.bool true), .lit (.bool true), .lit (.int .i64 0), .lit (.int .i64 3)], .agg [.lit (.bool true), .lit (.bool true), .lit (.bool true), .lit (.int .i64 0), .lit (.int .i64 3)], .agg [.lit (.bool true), .lit (.bool true), .lit (.bool true), .lit (.int .i64 0), .lit (.int .i64 3)], .agg [.lit (.bool true), .lit (.bool true), .lit (.bool true), .lit (.int .i64 0), .lit (.int .i64 3)], .agg [.lit (.bool true), .lit (.bool true), .lit (.bool false), .lit (.int .i64 0), .lit (.int .i64 0)], .agg [.lit (.bool true), .lit (.bool true), .lit (.bool false), .lit (.int .i64 0), .lit (.int .i64 0)], .agg [.lit (.bool true), .lit (.bool true), .lit (.bool false), .lit (.int .i64 0), .lit (.int .i64 0)], .agg [.lit (.bool true), .lit (.bool false), .lit (.bool false), .lit (.int .i64 0), .lit (.int .i64 0)], .agg [.lit (.bool true), .lit (.bool false), .lit (.bool false), .lit (.int .i64 0), .lit (.int .i64 0)], .agg [.lit (.bool true), .lit (.bool true), .lit (.bool true), .lit (.int .i64 0), .lit (.int .i64 5)], .agg [.lit (.bool true), .lit (.bool false), .lit (.bool false), .lit (.int .i64 0), .lit (.int .i64 0)], .agg [.lit (.bool false), .lit (.bool false), .lit (.bool false), .lit (.int .i64 0), .lit (.int .i64 0)]]

/-- 'treadwheelkeep.EchoTells': WHATEVER THE INPUT: true; the input reads as it did. -/
def echoTellsSpec : ChangeSpec := { name := "echoTells", fn := fun _ => fun
  | [d] => { results := [.lit (.bool true)], args := [d] }
  | _ => none }
def echoTellsRow : OpenClaim := { program := "ytepifccbbmdfcaagreatdoor", sum := "89729dac867be4767ff37fa7fd5ce69afd6b3d643583b238a997bfbeedd57c7b", func := "treadwheel/treadwheelkeep.EchoTells", spec := "echoTells", unfollowed := true, recurses := true, named := ["treadwheel/code.operators"], apart := false, laid := [("treadwheel/code.operators", laid_treadwheel_code_operators)] }
def EchoTellsSaid : Prop := echoTellsRow.holds Tryz.pinned (OpenSpec.ofChange echoTellsSpec)

/-- ITS FALSE NEIGHBOUR: 'it returns false'. Refute it at one input. -/
def echoTellsWrong : ChangeSpec := { name := "echoTells", fn := fun _ => fun
  | [d] => { results := [.lit (.bool false)], args := [d] }
  | _ => none }
def EchoTellsWrongFalsely : Prop := echoTellsRow.holds Tryz.pinned (OpenSpec.ofChange echoTellsWrong)

/-- 'treadwheelkeep.ParentsTold': WHATEVER THE INPUT: true; the input reads as it did. -/
def parentsToldSpec : ChangeSpec := { name := "parentsTold", fn := fun _ => fun
  | [d] => { results := [.lit (.bool true)], args := [d] }
  | _ => none }
def parentsToldRow : OpenClaim := { program := "ytepifccbbmdfcaagreatdoor", sum := "89729dac867be4767ff37fa7fd5ce69afd6b3d643583b238a997bfbeedd57c7b", func := "treadwheel/treadwheelkeep.ParentsTold", spec := "parentsTold", unfollowed := true, recurses := true, named := ["treadwheel/code.operators"], apart := false, laid := [("treadwheel/code.operators", laid_treadwheel_code_operators)] }
def ParentsToldSaid : Prop := parentsToldRow.holds Tryz.pinned (OpenSpec.ofChange parentsToldSpec)

/-- ITS FALSE NEIGHBOUR: 'it returns false'. Refute it at one input. -/
def parentsToldWrong : ChangeSpec := { name := "parentsTold", fn := fun _ => fun
  | [d] => { results := [.lit (.bool false)], args := [d] }
  | _ => none }
def ParentsToldWrongFalsely : Prop := parentsToldRow.holds Tryz.pinned (OpenSpec.ofChange parentsToldWrong)

/-- 'treadwheellaw.ActorDoes': WHATEVER THE INPUT: true; the input reads as it did. -/
def actorDoesSpec : ChangeSpec := { name := "actorDoes", fn := fun _ => fun
  | [d1, d2, d3] => { results := [.lit (.bool true)], args := [d1, d2, d3] }
  | _ => none }
def actorDoesRow : OpenClaim := { program := "ytepifccbbmdfcaagreatdoor", sum := "89729dac867be4767ff37fa7fd5ce69afd6b3d643583b238a997bfbeedd57c7b", func := "treadwheel/treadwheellaw.ActorDoes", spec := "actorDoes", unfollowed := true, recurses := true, named := ["treadwheel/code.operators"], apart := false, laid := [("treadwheel/code.operators", laid_treadwheel_code_operators)] }
def ActorDoesSaid : Prop := actorDoesRow.holds Tryz.pinned (OpenSpec.ofChange actorDoesSpec)

/-- ITS FALSE NEIGHBOUR: 'it returns false'. Refute it at one input. -/
def actorDoesWrong : ChangeSpec := { name := "actorDoes", fn := fun _ => fun
  | [d1, d2, d3] => { results := [.lit (.bool false)], args := [d1, d2, d3] }
  | _ => none }
def ActorDoesWrongFalsely : Prop := actorDoesRow.holds Tryz.pinned (OpenSpec.ofChange actorDoesWrong)

/-- 'treadwheellaw.ActorRuns': WHATEVER THE INPUT: true; the input reads as it did. -/
def actorRunsSpec : ChangeSpec := { name := "actorRuns", fn := fun _ => fun
  | [d1, d2, d3] => { results := [.lit (.bool true)], args := [d1, d2, d3] }
  | _ => none }
def actorRunsRow : OpenClaim := { program := "ytepifccbbmdfcaagreatdoor", sum := "89729dac867be4767ff37fa7fd5ce69afd6b3d643583b238a997bfbeedd57c7b", func := "treadwheel/treadwheellaw.ActorRuns", spec := "actorRuns", unfollowed := true, recurses := true, named := ["treadwheel/code.operators"], apart := false, laid := [("treadwheel/code.operators", laid_treadwheel_code_operators)] }
def ActorRunsSaid : Prop := actorRunsRow.holds Tryz.pinned (OpenSpec.ofChange actorRunsSpec)

/-- ITS FALSE NEIGHBOUR: 'it returns false'. Refute it at one input. -/
def actorRunsWrong : ChangeSpec := { name := "actorRuns", fn := fun _ => fun
  | [d1, d2, d3] => { results := [.lit (.bool false)], args := [d1, d2, d3] }
  | _ => none }
def ActorRunsWrongFalsely : Prop := actorRunsRow.holds Tryz.pinned (OpenSpec.ofChange actorRunsWrong)

/-- 'treadwheeltop.TopUnique': WHATEVER THE INPUT: true; the input reads as it did. -/
def topUniqueSpec : ChangeSpec := { name := "topUnique", fn := fun _ => fun
  | [d1, d2, d3] => { results := [.lit (.bool true)], args := [d1, d2, d3] }
  | _ => none }
def topUniqueRow : OpenClaim := { program := "ytepifccbbmdfcaagreatdoor", sum := "89729dac867be4767ff37fa7fd5ce69afd6b3d643583b238a997bfbeedd57c7b", func := "treadwheel/treadwheeltop.TopUnique", spec := "topUnique", unfollowed := true, recurses := true, named := ["treadwheel/code.operators"], apart := false, laid := [("treadwheel/code.operators", laid_treadwheel_code_operators)] }
def TopUniqueSaid : Prop := topUniqueRow.holds Tryz.pinned (OpenSpec.ofChange topUniqueSpec)

/-- ITS FALSE NEIGHBOUR: 'it returns false'. Refute it at one input. -/
def topUniqueWrong : ChangeSpec := { name := "topUnique", fn := fun _ => fun
  | [d1, d2, d3] => { results := [.lit (.bool false)], args := [d1, d2, d3] }
  | _ => none }
def TopUniqueWrongFalsely : Prop := topUniqueRow.holds Tryz.pinned (OpenSpec.ofChange topUniqueWrong)

/-- 'treadwheeltop.TopBad': WHATEVER THE INPUT: true; the input reads as it did. -/
def topBadSpec : ChangeSpec := { name := "topBad", fn := fun _ => fun
  | [d1, d2, d3] => { results := [.lit (.bool true)], args := [d1, d2, d3] }
  | _ => none }
def topBadRow : OpenClaim := { program := "ytepifccbbmdfcaagreatdoor", sum := "89729dac867be4767ff37fa7fd5ce69afd6b3d643583b238a997bfbeedd57c7b", func := "treadwheel/treadwheeltop.TopBad", spec := "topBad", unfollowed := true, recurses := true, named := ["treadwheel/code.operators"], apart := false, laid := [("treadwheel/code.operators", laid_treadwheel_code_operators)] }
def TopBadSaid : Prop := topBadRow.holds Tryz.pinned (OpenSpec.ofChange topBadSpec)

/-- ITS FALSE NEIGHBOUR: 'it returns false'. Refute it at one input. -/
def topBadWrong : ChangeSpec := { name := "topBad", fn := fun _ => fun
  | [d1, d2, d3] => { results := [.lit (.bool false)], args := [d1, d2, d3] }
  | _ => none }
def TopBadWrongFalsely : Prop := topBadRow.holds Tryz.pinned (OpenSpec.ofChange topBadWrong)

/- THE SECOND FORM. 'bulk': how many values and letters a reading holds, each counted each time it is reached (what is shared counts as often as it is met; a slice's spare places count too). A statement '..UptoSaid' is the law's where the arguments, and the package variables that the reading takes, are together of bulk at most 1048576: NARROWER than '..Said'. Prove '..Said' where nothing that the law and all that it calls make is longer than what came in: it says more and counts as full. Else prove '..UptoSaid'. A law counts once. -/
mutual
def uptoBulk {H : Type} : DataW H → Nat
  | .lit (.string bytes) => bytes.length + 1
  | .lit _ => 1
  | .nil => 1
  | .ptr d => uptoBulk d + 1
  | .slice elems spare => uptoBulkAll elems + uptoBulkAll spare + 1
  | .agg parts => uptoBulkAll parts + 1
  | .iface _ d => uptoBulk d + 1
  | .map entries => uptoBulkEntries entries + 1
  | .held _ => 1
def uptoBulkAll {H : Type} : List (DataW H) → Nat
  | [] => 0
  | d :: r => uptoBulk d + uptoBulkAll r
def uptoBulkEntries {H : Type} : List (Lit × DataW H) → Nat
  | [] => 0
  | x :: r => uptoBulkEntry x + uptoBulkEntries r
def uptoBulkEntry {H : Type} : Lit × DataW H → Nat
  | (.string bytes, d) => bytes.length + uptoBulk d + 1
  | (_, d) => uptoBulk d + 1
 end
def uptoSmall : (H : Type) → List (DataW H) → Bool := fun _ ds => decide (uptoBulkAll ds ≤ 1048576)
def OpenSpec.upto (s : _root_.Go.ChangeSpec) : _root_.Go.OpenSpec := { _root_.Go.OpenSpec.ofChange s with cond := some uptoSmall }

/-- 'treadwheelkeep.EchoTells', WHERE WHAT IT READS IS OF BULK AT MOST 1048576: true; the input reads as it did. -/
def echoTellsUptoRow : OpenClaim := { program := "ytepifccbbmdfcaagreatdoor", sum := "89729dac867be4767ff37fa7fd5ce69afd6b3d643583b238a997bfbeedd57c7b", func := "treadwheel/treadwheelkeep.EchoTells", spec := "echoTells", unfollowed := true, recurses := true, named := ["treadwheel/code.operators"], apart := false, laid := [("treadwheel/code.operators", laid_treadwheel_code_operators)], narrowed := true }
def EchoTellsUptoSaid : Prop := echoTellsUptoRow.holds Tryz.pinned (OpenSpec.upto echoTellsSpec)

/-- 'treadwheelkeep.ParentsTold', WHERE WHAT IT READS IS OF BULK AT MOST 1048576: true; the input reads as it did. -/
def parentsToldUptoRow : OpenClaim := { program := "ytepifccbbmdfcaagreatdoor", sum := "89729dac867be4767ff37fa7fd5ce69afd6b3d643583b238a997bfbeedd57c7b", func := "treadwheel/treadwheelkeep.ParentsTold", spec := "parentsTold", unfollowed := true, recurses := true, named := ["treadwheel/code.operators"], apart := false, laid := [("treadwheel/code.operators", laid_treadwheel_code_operators)], narrowed := true }
def ParentsToldUptoSaid : Prop := parentsToldUptoRow.holds Tryz.pinned (OpenSpec.upto parentsToldSpec)

/-- 'treadwheellaw.ActorDoes', WHERE WHAT IT READS IS OF BULK AT MOST 1048576: true; the input reads as it did. -/
def actorDoesUptoRow : OpenClaim := { program := "ytepifccbbmdfcaagreatdoor", sum := "89729dac867be4767ff37fa7fd5ce69afd6b3d643583b238a997bfbeedd57c7b", func := "treadwheel/treadwheellaw.ActorDoes", spec := "actorDoes", unfollowed := true, recurses := true, named := ["treadwheel/code.operators"], apart := false, laid := [("treadwheel/code.operators", laid_treadwheel_code_operators)], narrowed := true }
def ActorDoesUptoSaid : Prop := actorDoesUptoRow.holds Tryz.pinned (OpenSpec.upto actorDoesSpec)

/-- 'treadwheellaw.ActorRuns', WHERE WHAT IT READS IS OF BULK AT MOST 1048576: true; the input reads as it did. -/
def actorRunsUptoRow : OpenClaim := { program := "ytepifccbbmdfcaagreatdoor", sum := "89729dac867be4767ff37fa7fd5ce69afd6b3d643583b238a997bfbeedd57c7b", func := "treadwheel/treadwheellaw.ActorRuns", spec := "actorRuns", unfollowed := true, recurses := true, named := ["treadwheel/code.operators"], apart := false, laid := [("treadwheel/code.operators", laid_treadwheel_code_operators)], narrowed := true }
def ActorRunsUptoSaid : Prop := actorRunsUptoRow.holds Tryz.pinned (OpenSpec.upto actorRunsSpec)

/-- 'treadwheeltop.TopUnique', WHERE WHAT IT READS IS OF BULK AT MOST 1048576: true; the input reads as it did. -/
def topUniqueUptoRow : OpenClaim := { program := "ytepifccbbmdfcaagreatdoor", sum := "89729dac867be4767ff37fa7fd5ce69afd6b3d643583b238a997bfbeedd57c7b", func := "treadwheel/treadwheeltop.TopUnique", spec := "topUnique", unfollowed := true, recurses := true, named := ["treadwheel/code.operators"], apart := false, laid := [("treadwheel/code.operators", laid_treadwheel_code_operators)], narrowed := true }
def TopUniqueUptoSaid : Prop := topUniqueUptoRow.holds Tryz.pinned (OpenSpec.upto topUniqueSpec)

/-- 'treadwheeltop.TopBad', WHERE WHAT IT READS IS OF BULK AT MOST 1048576: true; the input reads as it did. -/
def topBadUptoRow : OpenClaim := { program := "ytepifccbbmdfcaagreatdoor", sum := "89729dac867be4767ff37fa7fd5ce69afd6b3d643583b238a997bfbeedd57c7b", func := "treadwheel/treadwheeltop.TopBad", spec := "topBad", unfollowed := true, recurses := true, named := ["treadwheel/code.operators"], apart := false, laid := [("treadwheel/code.operators", laid_treadwheel_code_operators)], narrowed := true }
def TopBadUptoSaid : Prop := topBadUptoRow.holds Tryz.pinned (OpenSpec.upto topBadSpec)

end Rows
end Go.Proofs.YtepifccbbmdfcaaGreatDoor
