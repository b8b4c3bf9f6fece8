/-
  DERIVED. GIVEN WITH THE SEED: THE CARDS: each row of YtaioghenlbebmaaDoorRows.lean that lists a variable, with what it lists TIED to the program's text (the seventh form; the later family's looks); each row that meets fmt, with fmt's text TOLD by the authors' own Lean function (tested against real Go, not proved from fmt's source: count such statements apart). THE CARD IS WHAT COUNTS. Prove the row's statement (the work); the ties are given (YtaioghenlbebmaaDoorTie.lean); close each card by the builder's one call (the guide's Derived/Test/ToyasCard.lean, 'card_holds'). Laid BY PROGRAM, IN A SANDBOX (cutbox-door.mjs). By AI agents, Wed Nov 11 2026. No macro, syntax, notation, axiom, sorry.
-/
import Derived.Test.YtaioghenlbebmaaDoorRows
import GoSem.ClaimSeven
namespace Go.Proofs.YtaioghenlbebmaaDoor
namespace Rows

/-- THE TIED CARD OF 'treadwheellaw.CodeChecks'. -/
def codeChecksCard : Claim7 := { stood := { row := codeChecksRow, standIns := [], harness := (true, "186de626738f5ef73ce574f129143f504cc2f9ef2980173754e1dac8d521679c"), looks := false }, kinds := [], alts := [], laidByText := true, laidKinds := [.data], laidTests := true, laidLooks := .later }
def CodeChecksCardSaid : Prop := Claim7.holds Tryd.pinned (.plain (OpenSpec.ofChange codeChecksSpec)) codeChecksCard

/-- THE TIED CARD OF 'treadwheellaw.CodeEncodes'. -/
def codeEncodesCard : Claim7 := { stood := { row := codeEncodesRow, standIns := [], harness := (true, "186de626738f5ef73ce574f129143f504cc2f9ef2980173754e1dac8d521679c"), looks := false }, kinds := [], alts := [], laidByText := true, laidKinds := [.data], laidTests := true, laidLooks := .later }
def CodeEncodesCardSaid : Prop := Claim7.holds Tryd.pinned (.plain (OpenSpec.ofChange codeEncodesSpec)) codeEncodesCard

/-- THE TIED CARD OF 'treadwheelkeep.ProgramsOnce'. -/
def programsOnceCard : Claim7 := { stood := { row := programsOnceRow, standIns := [], harness := (true, "186de626738f5ef73ce574f129143f504cc2f9ef2980173754e1dac8d521679c"), looks := false }, kinds := [], alts := [], laidByText := true, laidKinds := [.data], laidTests := true, laidLooks := .later }
def ProgramsOnceCardSaid : Prop := Claim7.holds Tryd.pinned (.plain (OpenSpec.ofChange programsOnceSpec)) programsOnceCard

/-- THE SECOND FORM's CARD OF 'treadwheellaw.CodeChecks'. -/
def codeChecksUptoCard : Claim7 := { stood := { row := codeChecksUptoRow, standIns := [], harness := (true, "186de626738f5ef73ce574f129143f504cc2f9ef2980173754e1dac8d521679c"), looks := false }, kinds := [], alts := [], laidByText := true, laidKinds := [.data], laidTests := true, laidLooks := .later }
def CodeChecksUptoCardSaid : Prop := Claim7.holds Tryd.pinned (.plain (OpenSpec.upto codeChecksSpec)) codeChecksUptoCard

/-- THE SECOND FORM's CARD OF 'treadwheellaw.CodeEncodes'. -/
def codeEncodesUptoCard : Claim7 := { stood := { row := codeEncodesUptoRow, standIns := [], harness := (true, "186de626738f5ef73ce574f129143f504cc2f9ef2980173754e1dac8d521679c"), looks := false }, kinds := [], alts := [], laidByText := true, laidKinds := [.data], laidTests := true, laidLooks := .later }
def CodeEncodesUptoCardSaid : Prop := Claim7.holds Tryd.pinned (.plain (OpenSpec.upto codeEncodesSpec)) codeEncodesUptoCard

/-- THE SECOND FORM's CARD OF 'treadwheelkeep.ProgramsOnce'. -/
def programsOnceUptoCard : Claim7 := { stood := { row := programsOnceUptoRow, standIns := [], harness := (true, "186de626738f5ef73ce574f129143f504cc2f9ef2980173754e1dac8d521679c"), looks := false }, kinds := [], alts := [], laidByText := true, laidKinds := [.data], laidTests := true, laidLooks := .later }
def ProgramsOnceUptoCardSaid : Prop := Claim7.holds Tryd.pinned (.plain (OpenSpec.upto programsOnceSpec)) programsOnceUptoCard
end Rows
end Go.Proofs.YtaioghenlbebmaaDoor
