/-
  DERIVED. GIVEN WITH THE SEED: THE CARDS: each row of YtepifccbbmdfcaaGreatDoorRows.lean that lists a variable, with what it lists TIED to the program's text (the seventh form; the later family's looks); each row that meets fmt, with fmt's text TOLD by the authors' own Lean function (tested against real Go, not proved from fmt's source: count such statements apart). THE CARD IS WHAT COUNTS. Prove the row's statement (the work); the ties are given (YtepifccbbmdfcaaGreatDoorTie.lean); close each card by the builder's one call (the guide's Derived/Test/ToyasCard.lean, 'card_holds'). Laid BY PROGRAM, IN A SANDBOX (cutbox-door.mjs). By AI agents, Wed Nov 11 2026. No macro, syntax, notation, axiom, sorry.
-/
import Derived.Test.YtepifccbbmdfcaaGreatDoorRows
import GoSem.ClaimSeven
namespace Go.Proofs.YtepifccbbmdfcaaGreatDoor
namespace Rows

/-- THE TIED CARD OF 'treadwheelkeep.EchoTells'. -/
def echoTellsCard : Claim7 := { stood := { row := echoTellsRow, standIns := [], harness := (true, "b373a29460142188b7b0e89a4768b1c5e0d91f7bfafca7510465169b710f69f3"), looks := false }, kinds := [], alts := [], laidByText := true, laidKinds := [.data], laidTests := true, laidLooks := .later }
def EchoTellsCardSaid : Prop := Claim7.holds Tryz.pinned (.plain (OpenSpec.ofChange echoTellsSpec)) echoTellsCard

/-- THE TIED CARD OF 'treadwheelkeep.ParentsTold'. -/
def parentsToldCard : Claim7 := { stood := { row := parentsToldRow, standIns := [], harness := (true, "b373a29460142188b7b0e89a4768b1c5e0d91f7bfafca7510465169b710f69f3"), looks := false }, kinds := [], alts := [], laidByText := true, laidKinds := [.data], laidTests := true, laidLooks := .later }
def ParentsToldCardSaid : Prop := Claim7.holds Tryz.pinned (.plain (OpenSpec.ofChange parentsToldSpec)) parentsToldCard

/-- THE TIED CARD OF 'treadwheellaw.ActorDoes'. -/
def actorDoesCard : Claim7 := { stood := { row := actorDoesRow, standIns := [], harness := (true, "b373a29460142188b7b0e89a4768b1c5e0d91f7bfafca7510465169b710f69f3"), looks := false }, kinds := [], alts := [], laidByText := true, laidKinds := [.data], laidTests := true, laidLooks := .later }
def ActorDoesCardSaid : Prop := Claim7.holds Tryz.pinned (.plain (OpenSpec.ofChange actorDoesSpec)) actorDoesCard

/-- THE TIED CARD OF 'treadwheellaw.ActorRuns'. -/
def actorRunsCard : Claim7 := { stood := { row := actorRunsRow, standIns := [], harness := (true, "b373a29460142188b7b0e89a4768b1c5e0d91f7bfafca7510465169b710f69f3"), looks := false }, kinds := [], alts := [], laidByText := true, laidKinds := [.data], laidTests := true, laidLooks := .later }
def ActorRunsCardSaid : Prop := Claim7.holds Tryz.pinned (.plain (OpenSpec.ofChange actorRunsSpec)) actorRunsCard

/-- THE TIED CARD OF 'treadwheeltop.TopUnique'. -/
def topUniqueCard : Claim7 := { stood := { row := topUniqueRow, standIns := [], harness := (true, "b373a29460142188b7b0e89a4768b1c5e0d91f7bfafca7510465169b710f69f3"), looks := false }, kinds := [], alts := [], laidByText := true, laidKinds := [.data], laidTests := true, laidLooks := .later }
def TopUniqueCardSaid : Prop := Claim7.holds Tryz.pinned (.plain (OpenSpec.ofChange topUniqueSpec)) topUniqueCard

/-- THE TIED CARD OF 'treadwheeltop.TopBad'. -/
def topBadCard : Claim7 := { stood := { row := topBadRow, standIns := [], harness := (true, "b373a29460142188b7b0e89a4768b1c5e0d91f7bfafca7510465169b710f69f3"), looks := false }, kinds := [], alts := [], laidByText := true, laidKinds := [.data], laidTests := true, laidLooks := .later }
def TopBadCardSaid : Prop := Claim7.holds Tryz.pinned (.plain (OpenSpec.ofChange topBadSpec)) topBadCard

/-- THE SECOND FORM's CARD OF 'treadwheelkeep.EchoTells'. -/
def echoTellsUptoCard : Claim7 := { stood := { row := echoTellsUptoRow, standIns := [], harness := (true, "b373a29460142188b7b0e89a4768b1c5e0d91f7bfafca7510465169b710f69f3"), looks := false }, kinds := [], alts := [], laidByText := true, laidKinds := [.data], laidTests := true, laidLooks := .later }
def EchoTellsUptoCardSaid : Prop := Claim7.holds Tryz.pinned (.plain (OpenSpec.upto echoTellsSpec)) echoTellsUptoCard

/-- THE SECOND FORM's CARD OF 'treadwheelkeep.ParentsTold'. -/
def parentsToldUptoCard : Claim7 := { stood := { row := parentsToldUptoRow, standIns := [], harness := (true, "b373a29460142188b7b0e89a4768b1c5e0d91f7bfafca7510465169b710f69f3"), looks := false }, kinds := [], alts := [], laidByText := true, laidKinds := [.data], laidTests := true, laidLooks := .later }
def ParentsToldUptoCardSaid : Prop := Claim7.holds Tryz.pinned (.plain (OpenSpec.upto parentsToldSpec)) parentsToldUptoCard

/-- THE SECOND FORM's CARD OF 'treadwheellaw.ActorDoes'. -/
def actorDoesUptoCard : Claim7 := { stood := { row := actorDoesUptoRow, standIns := [], harness := (true, "b373a29460142188b7b0e89a4768b1c5e0d91f7bfafca7510465169b710f69f3"), looks := false }, kinds := [], alts := [], laidByText := true, laidKinds := [.data], laidTests := true, laidLooks := .later }
def ActorDoesUptoCardSaid : Prop := Claim7.holds Tryz.pinned (.plain (OpenSpec.upto actorDoesSpec)) actorDoesUptoCard

/-- THE SECOND FORM's CARD OF 'treadwheellaw.ActorRuns'. -/
def actorRunsUptoCard : Claim7 := { stood := { row := actorRunsUptoRow, standIns := [], harness := (true, "b373a29460142188b7b0e89a4768b1c5e0d91f7bfafca7510465169b710f69f3"), looks := false }, kinds := [], alts := [], laidByText := true, laidKinds := [.data], laidTests := true, laidLooks := .later }
def ActorRunsUptoCardSaid : Prop := Claim7.holds Tryz.pinned (.plain (OpenSpec.upto actorRunsSpec)) actorRunsUptoCard

/-- THE SECOND FORM's CARD OF 'treadwheeltop.TopUnique'. -/
def topUniqueUptoCard : Claim7 := { stood := { row := topUniqueUptoRow, standIns := [], harness := (true, "b373a29460142188b7b0e89a4768b1c5e0d91f7bfafca7510465169b710f69f3"), looks := false }, kinds := [], alts := [], laidByText := true, laidKinds := [.data], laidTests := true, laidLooks := .later }
def TopUniqueUptoCardSaid : Prop := Claim7.holds Tryz.pinned (.plain (OpenSpec.upto topUniqueSpec)) topUniqueUptoCard

/-- THE SECOND FORM's CARD OF 'treadwheeltop.TopBad'. -/
def topBadUptoCard : Claim7 := { stood := { row := topBadUptoRow, standIns := [], harness := (true, "b373a29460142188b7b0e89a4768b1c5e0d91f7bfafca7510465169b710f69f3"), looks := false }, kinds := [], alts := [], laidByText := true, laidKinds := [.data], laidTests := true, laidLooks := .later }
def TopBadUptoCardSaid : Prop := Claim7.holds Tryz.pinned (.plain (OpenSpec.upto topBadSpec)) topBadUptoCard
end Rows
end Go.Proofs.YtepifccbbmdfcaaGreatDoor
