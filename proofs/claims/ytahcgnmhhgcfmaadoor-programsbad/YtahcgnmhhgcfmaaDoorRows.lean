/-
  NARROWER THAN 'FOR EVERY INPUT', by the rows' own cells (each row's printed sentence says how): ProgramsBack: laid · TypesKnown: laid · TypesFlow: laid · ActorNew: laid · ActorChecks: laid · ProgramsBad: laid.
  DERIVED. THE GIVEN ROWS OF THIS SEAT. 6 by the template 'for every input the law returns true; each argument reads behind the call as it read before'; 0 by the template 'total and deterministic' (their statements: YtahcgnmhhgcfmaaDoorTotals.lean).
  GIVEN WITH THE SEED: the statements are not yours to turn. If you find one false, say at which input.
  Laid BY PROGRAM, IN A SANDBOX (cutbox-rows.mjs): the forced cells as the released guide's own fill.sh prints them over the translation 676c722c02422744… (all of the seat's roots in one cut). By AI agents, Wed Nov 11 2026. No macro, syntax, notation, axiom, sorry.
-/
import Derived.Test.YtahcgnmhhgcfmaaDoorChecked
import GoSem.Claim
import GoSem.ClaimJoined
import GoSem.ClaimMapViews
import Derived.JoinedTies
import Derived.KernelRfl
namespace Go.Proofs.YtahcgnmhhgcfmaaDoor
/- THE CELL 'sum', in the pinned program and in every row, IS THE sha256 OF THE DUMP (.gsa) THAT YtahcgnmhhgcfmaaDoorProg.lean LOADS. Nothing in Lean hashes anything: it is a label: what it is worth is what the hold of that sum in a sandbox is worth. -/
noncomputable def Tryd.pinned : Pinned := { name := "ytahcgnmhhgcfmaadoor", sum := "676c722c02422744415f9d1f3ce6d75a1a6f9f8b4fb268be93689f33cc625b9a", checked := Tryd.checked }
namespace Rows
def none {H : Type} : Left H := { results := [], args := [] }

/- WHAT THE LISTED PACKAGE-LEVEL VARIABLES READ AS WHEN THE CALL BEGINS. Each datum BY PROGRAM (the guide's laid-datum.mjs) off the statement by which the dump's own 'gosem.cut.vars' lays the variable. In a bare row this is a premise. The card (YtahcgnmhhgcfmaaDoorCards.lean) ties it to the program's text. -/
def laid_treadwheel_code_operators {H : Type} : DataW H := .agg [.agg [.lit (.bool false), .lit (.bool false), .lit (.bool false), .lit (.int .i64 0), .lit (.int .i64 0)], .agg [.lit (.bool true), .lit (.bool false), .lit (.bool true), .lit (.int .i64 (-1099511627776)), .lit (.int .i64 1099511627776)], .agg [.lit (.bool true), .lit (.bool true), .lit (.bool false), .lit (.int .i64 0), .lit (.int .i64 0)], .agg [.lit (.bool true), .lit (.bool true), .lit (.bool false), .lit (.int .i64 0), .lit (.int .i64 0)], .agg [.lit (.bool true), .lit (.bool true), .lit (.bool false), .lit (.int .i64 0), .lit (.int .i64 0)], .agg [.lit (.bool true), .lit (.bool false), .lit (.bool true), .lit (.int .i64 (-60)), .lit (.int .i64 60)], .agg [.lit (.bool false), .lit (.bool false), .lit (.bool true), .lit (.int .i64 (-60)), .lit (.int .i64 60)], .agg [.lit (.bool true), .lit (.bool false), .lit (.bool true), .lit (.int .i64 1), .lit (.int .i64 4)], .agg [.lit (.bool true), .lit (.bool true), .lit (.bool true), .lit (.int .i64 0), .lit (.int .i64 3)], .agg [.lit (.bool true), .lit (.bool true), .lit (.bool true), .lit (.int .i64 0), .lit (.int .i64 3)], .agg [.lit (.bool true), .lit (.bool true), .lit (.bool true), .lit (.int .i64 0), .lit (.int .i64 3)], .agg [.lit (.bool true), .lit (.bool true), .lit (.bool true), .lit (.int .i64 0), .lit (.int .i64 3)], .agg [.lit (.bool true), .lit (.bool true), .lit (.bool false), .lit (.int .i64 0), .lit (.int .i64 0)], .agg [.lit (.bool true), .lit (.bool true), .lit (.bool false), .lit (.int .i64 0), .lit (.int .i64 0)], .agg [.lit (.bool true), .lit (.bool true), .lit (.bool false), .lit (.int .i64 0), .lit (.int .i64 0)], .agg [.lit (.bool true), .lit (.bool false), .lit (.bool false), .lit (.int .i64 0), .lit (.int .i64 0)], .agg [.lit (.bool true), .lit (.bool false), .lit (.bool false), .lit (.int .i64 0), .lit (.int .i64 0)], .agg [.lit (.bool true), .lit (.bool true), .lit (.bool true), .lit (.int .i64 0), .lit (.int .i64 5)], .agg [.lit (.bool true), .lit (.bool false), .lit (.bool false), .lit (.int .i64 0), .lit (.int .i64 0)], .agg [.lit (.bool false), .lit (.bool false), .lit (.bool false), .lit (.int .i64 0), .lit (.int .i64 0)]]

/-- 'treadwheelkeep.ProgramsBack': WHATEVER THE INPUT: true; the input reads as it did. -/
def programsBackSpec : ChangeSpec := { name := "programsBack", fn := fun _ => fun
  | [d1, d2] => { results := [.lit (.bool true)], args := [d1, d2] }
  | _ => none }
def programsBackRow : OpenClaim := { program := "ytahcgnmhhgcfmaadoor", sum := "676c722c02422744415f9d1f3ce6d75a1a6f9f8b4fb268be93689f33cc625b9a", func := "treadwheel/treadwheelkeep.ProgramsBack", spec := "programsBack", unfollowed := true, recurses := true, named := ["treadwheel/code.operators"], apart := false, laid := [("treadwheel/code.operators", laid_treadwheel_code_operators)] }
def ProgramsBackSaid : Prop := programsBackRow.holds Tryd.pinned (OpenSpec.ofChange programsBackSpec)

/-- ITS FALSE NEIGHBOUR: 'it returns false'. Refute it at one input. -/
def programsBackWrong : ChangeSpec := { name := "programsBack", fn := fun _ => fun
  | [d1, d2] => { results := [.lit (.bool false)], args := [d1, d2] }
  | _ => none }
def ProgramsBackWrongFalsely : Prop := programsBackRow.holds Tryd.pinned (OpenSpec.ofChange programsBackWrong)

/-- 'treadwheelkeep.TypesKnown': WHATEVER THE INPUT: true; the input reads as it did. -/
def typesKnownSpec : ChangeSpec := { name := "typesKnown", fn := fun _ => fun
  | [d] => { results := [.lit (.bool true)], args := [d] }
  | _ => none }
def typesKnownRow : OpenClaim := { program := "ytahcgnmhhgcfmaadoor", sum := "676c722c02422744415f9d1f3ce6d75a1a6f9f8b4fb268be93689f33cc625b9a", func := "treadwheel/treadwheelkeep.TypesKnown", spec := "typesKnown", named := ["treadwheel/code.operators"], apart := false, laid := [("treadwheel/code.operators", laid_treadwheel_code_operators)] }
def TypesKnownSaid : Prop := typesKnownRow.holds Tryd.pinned (OpenSpec.ofChange typesKnownSpec)

/-- ITS FALSE NEIGHBOUR: 'it returns false'. Refute it at one input. -/
def typesKnownWrong : ChangeSpec := { name := "typesKnown", fn := fun _ => fun
  | [d] => { results := [.lit (.bool false)], args := [d] }
  | _ => none }
def TypesKnownWrongFalsely : Prop := typesKnownRow.holds Tryd.pinned (OpenSpec.ofChange typesKnownWrong)

/-- 'treadwheelkeep.TypesFlow': WHATEVER THE INPUT: true; the input reads as it did. -/
def typesFlowSpec : ChangeSpec := { name := "typesFlow", fn := fun _ => fun
  | [d] => { results := [.lit (.bool true)], args := [d] }
  | _ => none }
def typesFlowRow : OpenClaim := { program := "ytahcgnmhhgcfmaadoor", sum := "676c722c02422744415f9d1f3ce6d75a1a6f9f8b4fb268be93689f33cc625b9a", func := "treadwheel/treadwheelkeep.TypesFlow", spec := "typesFlow", named := ["treadwheel/code.operators"], apart := false, laid := [("treadwheel/code.operators", laid_treadwheel_code_operators)] }
def TypesFlowSaid : Prop := typesFlowRow.holds Tryd.pinned (OpenSpec.ofChange typesFlowSpec)

/-- ITS FALSE NEIGHBOUR: 'it returns false'. Refute it at one input. -/
def typesFlowWrong : ChangeSpec := { name := "typesFlow", fn := fun _ => fun
  | [d] => { results := [.lit (.bool false)], args := [d] }
  | _ => none }
def TypesFlowWrongFalsely : Prop := typesFlowRow.holds Tryd.pinned (OpenSpec.ofChange typesFlowWrong)

/-- 'treadwheellaw.ActorNew': WHATEVER THE INPUT: true; the input reads as it did. -/
def actorNewSpec : ChangeSpec := { name := "actorNew", fn := fun _ => fun
  | [d1, d2] => { results := [.lit (.bool true)], args := [d1, d2] }
  | _ => none }
def actorNewRow : OpenClaim := { program := "ytahcgnmhhgcfmaadoor", sum := "676c722c02422744415f9d1f3ce6d75a1a6f9f8b4fb268be93689f33cc625b9a", func := "treadwheel/treadwheellaw.ActorNew", spec := "actorNew", named := ["treadwheel/code.operators"], apart := false, laid := [("treadwheel/code.operators", laid_treadwheel_code_operators)] }
def ActorNewSaid : Prop := actorNewRow.holds Tryd.pinned (OpenSpec.ofChange actorNewSpec)

/-- ITS FALSE NEIGHBOUR: 'it returns false'. Refute it at one input. -/
def actorNewWrong : ChangeSpec := { name := "actorNew", fn := fun _ => fun
  | [d1, d2] => { results := [.lit (.bool false)], args := [d1, d2] }
  | _ => none }
def ActorNewWrongFalsely : Prop := actorNewRow.holds Tryd.pinned (OpenSpec.ofChange actorNewWrong)

/-- 'treadwheellaw.ActorChecks': WHATEVER THE INPUT: true; the input reads as it did. -/
def actorChecksSpec : ChangeSpec := { name := "actorChecks", fn := fun _ => fun
  | [d1, d2] => { results := [.lit (.bool true)], args := [d1, d2] }
  | _ => none }
def actorChecksRow : OpenClaim := { program := "ytahcgnmhhgcfmaadoor", sum := "676c722c02422744415f9d1f3ce6d75a1a6f9f8b4fb268be93689f33cc625b9a", func := "treadwheel/treadwheellaw.ActorChecks", spec := "actorChecks", unfollowed := true, recurses := true, named := ["treadwheel/code.operators"], apart := false, laid := [("treadwheel/code.operators", laid_treadwheel_code_operators)] }
def ActorChecksSaid : Prop := actorChecksRow.holds Tryd.pinned (OpenSpec.ofChange actorChecksSpec)

/-- ITS FALSE NEIGHBOUR: 'it returns false'. Refute it at one input. -/
def actorChecksWrong : ChangeSpec := { name := "actorChecks", fn := fun _ => fun
  | [d1, d2] => { results := [.lit (.bool false)], args := [d1, d2] }
  | _ => none }
def ActorChecksWrongFalsely : Prop := actorChecksRow.holds Tryd.pinned (OpenSpec.ofChange actorChecksWrong)

/-- 'treadwheelkeep.ProgramsBad': WHATEVER THE INPUT: true; the input reads as it did. -/
def programsBadSpec : ChangeSpec := { name := "programsBad", fn := fun _ => fun
  | [d1, d2] => { results := [.lit (.bool true)], args := [d1, d2] }
  | _ => none }
def programsBadRow : OpenClaim := { program := "ytahcgnmhhgcfmaadoor", sum := "676c722c02422744415f9d1f3ce6d75a1a6f9f8b4fb268be93689f33cc625b9a", func := "treadwheel/treadwheelkeep.ProgramsBad", spec := "programsBad", named := ["treadwheel/code.operators"], apart := false, laid := [("treadwheel/code.operators", laid_treadwheel_code_operators)] }
def ProgramsBadSaid : Prop := programsBadRow.holds Tryd.pinned (OpenSpec.ofChange programsBadSpec)

/-- ITS FALSE NEIGHBOUR: 'it returns false'. Refute it at one input. -/
def programsBadWrong : ChangeSpec := { name := "programsBad", fn := fun _ => fun
  | [d1, d2] => { results := [.lit (.bool false)], args := [d1, d2] }
  | _ => none }
def ProgramsBadWrongFalsely : Prop := programsBadRow.holds Tryd.pinned (OpenSpec.ofChange programsBadWrong)

/- THE SECOND FORM. 'bulk': how many values and letters a reading holds, each counted each time it is reached (what is shared counts as often as it is met; a slice's spare places count too). A statement '..UptoSaid' is the law's where the arguments, and the package variables that the reading takes, are together of bulk at most 1048576: NARROWER than '..Said'. Prove '..Said' where nothing that the law and all that it calls make is longer than what came in: it says more and counts as full. Else prove '..UptoSaid'. A law counts once. -/
mutual
def uptoBulk {H : Type} : DataW H → Nat
  | .lit (.string bytes) => bytes.length + 1
  | .lit _ => 1
  | .nil => 1
  | .ptr d => uptoBulk d + 1
  | .slice elems spare => uptoBulkAll elems + uptoBulkAll spare + 1
  | .agg parts => uptoBulkAll parts + 1
  | .iface _ d => uptoBulk d + 1
  | .map entries => uptoBulkEntries entries + 1
  | .held _ => 1
def uptoBulkAll {H : Type} : List (DataW H) → Nat
  | [] => 0
  | d :: r => uptoBulk d + uptoBulkAll r
def uptoBulkEntries {H : Type} : List (Lit × DataW H) → Nat
  | [] => 0
  | x :: r => uptoBulkEntry x + uptoBulkEntries r
def uptoBulkEntry {H : Type} : Lit × DataW H → Nat
  | (.string bytes, d) => bytes.length + uptoBulk d + 1
  | (_, d) => uptoBulk d + 1
 end
def uptoSmall : (H : Type) → List (DataW H) → Bool := fun _ ds => decide (uptoBulkAll ds ≤ 1048576)
def OpenSpec.upto (s : _root_.Go.ChangeSpec) : _root_.Go.OpenSpec := { _root_.Go.OpenSpec.ofChange s with cond := some uptoSmall }

/-- 'treadwheelkeep.ProgramsBack', WHERE WHAT IT READS IS OF BULK AT MOST 1048576: true; the input reads as it did. -/
def programsBackUptoRow : OpenClaim := { program := "ytahcgnmhhgcfmaadoor", sum := "676c722c02422744415f9d1f3ce6d75a1a6f9f8b4fb268be93689f33cc625b9a", func := "treadwheel/treadwheelkeep.ProgramsBack", spec := "programsBack", unfollowed := true, recurses := true, named := ["treadwheel/code.operators"], apart := false, laid := [("treadwheel/code.operators", laid_treadwheel_code_operators)], narrowed := true }
def ProgramsBackUptoSaid : Prop := programsBackUptoRow.holds Tryd.pinned (OpenSpec.upto programsBackSpec)

/-- 'treadwheelkeep.TypesKnown', WHERE WHAT IT READS IS OF BULK AT MOST 1048576: true; the input reads as it did. -/
def typesKnownUptoRow : OpenClaim := { program := "ytahcgnmhhgcfmaadoor", sum := "676c722c02422744415f9d1f3ce6d75a1a6f9f8b4fb268be93689f33cc625b9a", func := "treadwheel/treadwheelkeep.TypesKnown", spec := "typesKnown", named := ["treadwheel/code.operators"], apart := false, laid := [("treadwheel/code.operators", laid_treadwheel_code_operators)], narrowed := true }
def TypesKnownUptoSaid : Prop := typesKnownUptoRow.holds Tryd.pinned (OpenSpec.upto typesKnownSpec)

/-- 'treadwheelkeep.TypesFlow', WHERE WHAT IT READS IS OF BULK AT MOST 1048576: true; the input reads as it did. -/
def typesFlowUptoRow : OpenClaim := { program := "ytahcgnmhhgcfmaadoor", sum := "676c722c02422744415f9d1f3ce6d75a1a6f9f8b4fb268be93689f33cc625b9a", func := "treadwheel/treadwheelkeep.TypesFlow", spec := "typesFlow", named := ["treadwheel/code.operators"], apart := false, laid := [("treadwheel/code.operators", laid_treadwheel_code_operators)], narrowed := true }
def TypesFlowUptoSaid : Prop := typesFlowUptoRow.holds Tryd.pinned (OpenSpec.upto typesFlowSpec)

/-- 'treadwheellaw.ActorNew', WHERE WHAT IT READS IS OF BULK AT MOST 1048576: true; the input reads as it did. -/
def actorNewUptoRow : OpenClaim := { program := "ytahcgnmhhgcfmaadoor", sum := "676c722c02422744415f9d1f3ce6d75a1a6f9f8b4fb268be93689f33cc625b9a", func := "treadwheel/treadwheellaw.ActorNew", spec := "actorNew", named := ["treadwheel/code.operators"], apart := false, laid := [("treadwheel/code.operators", laid_treadwheel_code_operators)], narrowed := true }
def ActorNewUptoSaid : Prop := actorNewUptoRow.holds Tryd.pinned (OpenSpec.upto actorNewSpec)

/-- 'treadwheellaw.ActorChecks', WHERE WHAT IT READS IS OF BULK AT MOST 1048576: true; the input reads as it did. -/
def actorChecksUptoRow : OpenClaim := { program := "ytahcgnmhhgcfmaadoor", sum := "676c722c02422744415f9d1f3ce6d75a1a6f9f8b4fb268be93689f33cc625b9a", func := "treadwheel/treadwheellaw.ActorChecks", spec := "actorChecks", unfollowed := true, recurses := true, named := ["treadwheel/code.operators"], apart := false, laid := [("treadwheel/code.operators", laid_treadwheel_code_operators)], narrowed := true }
def ActorChecksUptoSaid : Prop := actorChecksUptoRow.holds Tryd.pinned (OpenSpec.upto actorChecksSpec)

/-- 'treadwheelkeep.ProgramsBad', WHERE WHAT IT READS IS OF BULK AT MOST 1048576: true; the input reads as it did. -/
def programsBadUptoRow : OpenClaim := { program := "ytahcgnmhhgcfmaadoor", sum := "676c722c02422744415f9d1f3ce6d75a1a6f9f8b4fb268be93689f33cc625b9a", func := "treadwheel/treadwheelkeep.ProgramsBad", spec := "programsBad", named := ["treadwheel/code.operators"], apart := false, laid := [("treadwheel/code.operators", laid_treadwheel_code_operators)], narrowed := true }
def ProgramsBadUptoSaid : Prop := programsBadUptoRow.holds Tryd.pinned (OpenSpec.upto programsBadSpec)

end Rows
end Go.Proofs.YtahcgnmhhgcfmaaDoor
