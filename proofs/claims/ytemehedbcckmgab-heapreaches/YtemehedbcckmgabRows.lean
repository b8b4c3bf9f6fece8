/-
  No cell of these rows narrows 'for every input' (looked for: loops, veiled, ifaces, maps, wideKeys, modest, calm, conditions, laid).
  DERIVED. THE GIVEN ROWS OF THIS SEAT. 6 by the template 'for every input the law returns true; each argument reads behind the call as it read before'; 0 by the template 'total and deterministic' (their statements: YtemehedbcckmgabTotals.lean).
  GIVEN WITH THE SEED: the statements are not yours to turn. If you find one false, say at which input.
  Laid BY PROGRAM, IN A SANDBOX (cutbox-rows.mjs): the forced cells as the released guide's own fill.sh prints them over the translation a2f07c6662be0dac… (all of the seat's roots in one cut). By AI agents, Wed Nov 11 2026. No macro, syntax, notation, axiom, sorry.
-/
import Derived.Test.YtemehedbcckmgabChecked
import GoSem.Claim
import GoSem.ClaimJoined
import GoSem.ClaimMapViews
import Derived.JoinedTies
import Derived.KernelRfl
namespace Go.Proofs.Ytemehedbcckmgab
/- THE CELL 'sum', in the pinned program and in every row, IS THE sha256 OF THE DUMP (.gsa) THAT YtemehedbcckmgabProg.lean LOADS. Nothing in Lean hashes anything: it is a label: what it is worth is what the hold of that sum in a sandbox is worth. -/
noncomputable def Try.pinned : Pinned := { name := "ytemehedbcckmgab", sum := "a2f07c6662be0dac9587c96369ed3a8ea5d96c031cba6bc2efdd4f3b097eeea3", checked := Try.checked }
namespace Rows
def none {H : Type} : Left H := { results := [], args := [] }

/-- 'treadwheellaw.HeapChecks': WHATEVER THE INPUT: true; the input reads as it did. -/
def heapChecksSpec : ChangeSpec := { name := "heapChecks", fn := fun _ => fun
  | [d1, d2] => { results := [.lit (.bool true)], args := [d1, d2] }
  | _ => none }
def heapChecksRow : OpenClaim := { program := "ytemehedbcckmgab", sum := "a2f07c6662be0dac9587c96369ed3a8ea5d96c031cba6bc2efdd4f3b097eeea3", func := "treadwheel/treadwheellaw.HeapChecks", spec := "heapChecks", apart := false }
def HeapChecksSaid : Prop := heapChecksRow.holds Try.pinned (OpenSpec.ofChange heapChecksSpec)

/-- ITS FALSE NEIGHBOUR: 'it returns false'. Refute it at one input. -/
def heapChecksWrong : ChangeSpec := { name := "heapChecks", fn := fun _ => fun
  | [d1, d2] => { results := [.lit (.bool false)], args := [d1, d2] }
  | _ => none }
def HeapChecksWrongFalsely : Prop := heapChecksRow.holds Try.pinned (OpenSpec.ofChange heapChecksWrong)

/-- 'treadwheellaw.HeapClones': WHATEVER THE INPUT: true; the input reads as it did. -/
def heapClonesSpec : ChangeSpec := { name := "heapClones", fn := fun _ => fun
  | [d] => { results := [.lit (.bool true)], args := [d] }
  | _ => none }
def heapClonesRow : OpenClaim := { program := "ytemehedbcckmgab", sum := "a2f07c6662be0dac9587c96369ed3a8ea5d96c031cba6bc2efdd4f3b097eeea3", func := "treadwheel/treadwheellaw.HeapClones", spec := "heapClones", apart := false }
def HeapClonesSaid : Prop := heapClonesRow.holds Try.pinned (OpenSpec.ofChange heapClonesSpec)

/-- ITS FALSE NEIGHBOUR: 'it returns false'. Refute it at one input. -/
def heapClonesWrong : ChangeSpec := { name := "heapClones", fn := fun _ => fun
  | [d] => { results := [.lit (.bool false)], args := [d] }
  | _ => none }
def HeapClonesWrongFalsely : Prop := heapClonesRow.holds Try.pinned (OpenSpec.ofChange heapClonesWrong)

/-- 'treadwheellaw.HeapAllocs': WHATEVER THE INPUT: true; the input reads as it did. -/
def heapAllocsSpec : ChangeSpec := { name := "heapAllocs", fn := fun _ => fun
  | [d1, d2] => { results := [.lit (.bool true)], args := [d1, d2] }
  | _ => none }
def heapAllocsRow : OpenClaim := { program := "ytemehedbcckmgab", sum := "a2f07c6662be0dac9587c96369ed3a8ea5d96c031cba6bc2efdd4f3b097eeea3", func := "treadwheel/treadwheellaw.HeapAllocs", spec := "heapAllocs", apart := false }
def HeapAllocsSaid : Prop := heapAllocsRow.holds Try.pinned (OpenSpec.ofChange heapAllocsSpec)

/-- ITS FALSE NEIGHBOUR: 'it returns false'. Refute it at one input. -/
def heapAllocsWrong : ChangeSpec := { name := "heapAllocs", fn := fun _ => fun
  | [d1, d2] => { results := [.lit (.bool false)], args := [d1, d2] }
  | _ => none }
def HeapAllocsWrongFalsely : Prop := heapAllocsRow.holds Try.pinned (OpenSpec.ofChange heapAllocsWrong)

/-- 'treadwheellaw.HeapGets': WHATEVER THE INPUT: true; the input reads as it did. -/
def heapGetsSpec : ChangeSpec := { name := "heapGets", fn := fun _ => fun
  | [d1, d2, d3] => { results := [.lit (.bool true)], args := [d1, d2, d3] }
  | _ => none }
def heapGetsRow : OpenClaim := { program := "ytemehedbcckmgab", sum := "a2f07c6662be0dac9587c96369ed3a8ea5d96c031cba6bc2efdd4f3b097eeea3", func := "treadwheel/treadwheellaw.HeapGets", spec := "heapGets", apart := false }
def HeapGetsSaid : Prop := heapGetsRow.holds Try.pinned (OpenSpec.ofChange heapGetsSpec)

/-- ITS FALSE NEIGHBOUR: 'it returns false'. Refute it at one input. -/
def heapGetsWrong : ChangeSpec := { name := "heapGets", fn := fun _ => fun
  | [d1, d2, d3] => { results := [.lit (.bool false)], args := [d1, d2, d3] }
  | _ => none }
def HeapGetsWrongFalsely : Prop := heapGetsRow.holds Try.pinned (OpenSpec.ofChange heapGetsWrong)

/-- 'treadwheellaw.HeapSets': WHATEVER THE INPUT: true; the input reads as it did. -/
def heapSetsSpec : ChangeSpec := { name := "heapSets", fn := fun _ => fun
  | [d1, d2, d3, d4] => { results := [.lit (.bool true)], args := [d1, d2, d3, d4] }
  | _ => none }
def heapSetsRow : OpenClaim := { program := "ytemehedbcckmgab", sum := "a2f07c6662be0dac9587c96369ed3a8ea5d96c031cba6bc2efdd4f3b097eeea3", func := "treadwheel/treadwheellaw.HeapSets", spec := "heapSets", apart := false }
def HeapSetsSaid : Prop := heapSetsRow.holds Try.pinned (OpenSpec.ofChange heapSetsSpec)

/-- ITS FALSE NEIGHBOUR: 'it returns false'. Refute it at one input. -/
def heapSetsWrong : ChangeSpec := { name := "heapSets", fn := fun _ => fun
  | [d1, d2, d3, d4] => { results := [.lit (.bool false)], args := [d1, d2, d3, d4] }
  | _ => none }
def HeapSetsWrongFalsely : Prop := heapSetsRow.holds Try.pinned (OpenSpec.ofChange heapSetsWrong)

/-- 'treadwheellaw.HeapReaches': WHATEVER THE INPUT: true; the input reads as it did. -/
def heapReachesSpec : ChangeSpec := { name := "heapReaches", fn := fun _ => fun
  | [d1, d2] => { results := [.lit (.bool true)], args := [d1, d2] }
  | _ => none }
def heapReachesRow : OpenClaim := { program := "ytemehedbcckmgab", sum := "a2f07c6662be0dac9587c96369ed3a8ea5d96c031cba6bc2efdd4f3b097eeea3", func := "treadwheel/treadwheellaw.HeapReaches", spec := "heapReaches", unfollowed := true, recurses := true, apart := false }
def HeapReachesSaid : Prop := heapReachesRow.holds Try.pinned (OpenSpec.ofChange heapReachesSpec)

/-- ITS FALSE NEIGHBOUR: 'it returns false'. Refute it at one input. -/
def heapReachesWrong : ChangeSpec := { name := "heapReaches", fn := fun _ => fun
  | [d1, d2] => { results := [.lit (.bool false)], args := [d1, d2] }
  | _ => none }
def HeapReachesWrongFalsely : Prop := heapReachesRow.holds Try.pinned (OpenSpec.ofChange heapReachesWrong)

/- THE SECOND FORM. 'bulk': how many values and letters a reading holds, each counted each time it is reached (what is shared counts as often as it is met; a slice's spare places count too). A statement '..UptoSaid' is the law's where the arguments, and the package variables that the reading takes, are together of bulk at most 1048576: NARROWER than '..Said'. Prove '..Said' where nothing that the law and all that it calls make is longer than what came in: it says more and counts as full. Else prove '..UptoSaid'. A law counts once. -/
mutual
def uptoBulk {H : Type} : DataW H → Nat
  | .lit (.string bytes) => bytes.length + 1
  | .lit _ => 1
  | .nil => 1
  | .ptr d => uptoBulk d + 1
  | .slice elems spare => uptoBulkAll elems + uptoBulkAll spare + 1
  | .agg parts => uptoBulkAll parts + 1
  | .iface _ d => uptoBulk d + 1
  | .map entries => uptoBulkEntries entries + 1
  | .held _ => 1
def uptoBulkAll {H : Type} : List (DataW H) → Nat
  | [] => 0
  | d :: r => uptoBulk d + uptoBulkAll r
def uptoBulkEntries {H : Type} : List (Lit × DataW H) → Nat
  | [] => 0
  | x :: r => uptoBulkEntry x + uptoBulkEntries r
def uptoBulkEntry {H : Type} : Lit × DataW H → Nat
  | (.string bytes, d) => bytes.length + uptoBulk d + 1
  | (_, d) => uptoBulk d + 1
 end
def uptoSmall : (H : Type) → List (DataW H) → Bool := fun _ ds => decide (uptoBulkAll ds ≤ 1048576)
def OpenSpec.upto (s : _root_.Go.ChangeSpec) : _root_.Go.OpenSpec := { _root_.Go.OpenSpec.ofChange s with cond := some uptoSmall }

/-- 'treadwheellaw.HeapChecks', WHERE WHAT IT READS IS OF BULK AT MOST 1048576: true; the input reads as it did. -/
def heapChecksUptoRow : OpenClaim := { program := "ytemehedbcckmgab", sum := "a2f07c6662be0dac9587c96369ed3a8ea5d96c031cba6bc2efdd4f3b097eeea3", func := "treadwheel/treadwheellaw.HeapChecks", spec := "heapChecks", apart := false, narrowed := true }
def HeapChecksUptoSaid : Prop := heapChecksUptoRow.holds Try.pinned (OpenSpec.upto heapChecksSpec)

/-- 'treadwheellaw.HeapClones', WHERE WHAT IT READS IS OF BULK AT MOST 1048576: true; the input reads as it did. -/
def heapClonesUptoRow : OpenClaim := { program := "ytemehedbcckmgab", sum := "a2f07c6662be0dac9587c96369ed3a8ea5d96c031cba6bc2efdd4f3b097eeea3", func := "treadwheel/treadwheellaw.HeapClones", spec := "heapClones", apart := false, narrowed := true }
def HeapClonesUptoSaid : Prop := heapClonesUptoRow.holds Try.pinned (OpenSpec.upto heapClonesSpec)

/-- 'treadwheellaw.HeapAllocs', WHERE WHAT IT READS IS OF BULK AT MOST 1048576: true; the input reads as it did. -/
def heapAllocsUptoRow : OpenClaim := { program := "ytemehedbcckmgab", sum := "a2f07c6662be0dac9587c96369ed3a8ea5d96c031cba6bc2efdd4f3b097eeea3", func := "treadwheel/treadwheellaw.HeapAllocs", spec := "heapAllocs", apart := false, narrowed := true }
def HeapAllocsUptoSaid : Prop := heapAllocsUptoRow.holds Try.pinned (OpenSpec.upto heapAllocsSpec)

/-- 'treadwheellaw.HeapGets', WHERE WHAT IT READS IS OF BULK AT MOST 1048576: true; the input reads as it did. -/
def heapGetsUptoRow : OpenClaim := { program := "ytemehedbcckmgab", sum := "a2f07c6662be0dac9587c96369ed3a8ea5d96c031cba6bc2efdd4f3b097eeea3", func := "treadwheel/treadwheellaw.HeapGets", spec := "heapGets", apart := false, narrowed := true }
def HeapGetsUptoSaid : Prop := heapGetsUptoRow.holds Try.pinned (OpenSpec.upto heapGetsSpec)

/-- 'treadwheellaw.HeapSets', WHERE WHAT IT READS IS OF BULK AT MOST 1048576: true; the input reads as it did. -/
def heapSetsUptoRow : OpenClaim := { program := "ytemehedbcckmgab", sum := "a2f07c6662be0dac9587c96369ed3a8ea5d96c031cba6bc2efdd4f3b097eeea3", func := "treadwheel/treadwheellaw.HeapSets", spec := "heapSets", apart := false, narrowed := true }
def HeapSetsUptoSaid : Prop := heapSetsUptoRow.holds Try.pinned (OpenSpec.upto heapSetsSpec)

/-- 'treadwheellaw.HeapReaches', WHERE WHAT IT READS IS OF BULK AT MOST 1048576: true; the input reads as it did. -/
def heapReachesUptoRow : OpenClaim := { program := "ytemehedbcckmgab", sum := "a2f07c6662be0dac9587c96369ed3a8ea5d96c031cba6bc2efdd4f3b097eeea3", func := "treadwheel/treadwheellaw.HeapReaches", spec := "heapReaches", unfollowed := true, recurses := true, apart := false, narrowed := true }
def HeapReachesUptoSaid : Prop := heapReachesUptoRow.holds Try.pinned (OpenSpec.upto heapReachesSpec)

end Rows
end Go.Proofs.Ytemehedbcckmgab
