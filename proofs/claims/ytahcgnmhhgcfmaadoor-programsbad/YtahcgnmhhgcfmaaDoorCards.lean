/-
  DERIVED. GIVEN WITH THE SEED: THE CARDS: each row of YtahcgnmhhgcfmaaDoorRows.lean that lists a variable, with what it lists TIED to the program's text (the seventh form; the later family's looks); each row that meets fmt, with fmt's text TOLD by the authors' own Lean function (tested against real Go, not proved from fmt's source: count such statements apart). THE CARD IS WHAT COUNTS. Prove the row's statement (the work); the ties are given (YtahcgnmhhgcfmaaDoorTie.lean); close each card by the builder's one call (the guide's Derived/Test/ToyasCard.lean, 'card_holds'). Laid BY PROGRAM, IN A SANDBOX (cutbox-door.mjs). By AI agents, Wed Nov 11 2026. No macro, syntax, notation, axiom, sorry.
-/
import Derived.Test.YtahcgnmhhgcfmaaDoorRows
import GoSem.ClaimSeven
namespace Go.Proofs.YtahcgnmhhgcfmaaDoor
namespace Rows

/-- THE TIED CARD OF 'treadwheelkeep.ProgramsBack'. -/
def programsBackCard : Claim7 := { stood := { row := programsBackRow, standIns := [], harness := (true, "ea91269485515914c8894d45cdc08f8e45b480498916cb0e8d9c3ad69bd12591"), looks := false }, kinds := [], alts := [], laidByText := true, laidKinds := [.data], laidTests := true, laidLooks := .later }
def ProgramsBackCardSaid : Prop := Claim7.holds Tryd.pinned (.plain (OpenSpec.ofChange programsBackSpec)) programsBackCard

/-- THE TIED CARD OF 'treadwheelkeep.TypesKnown'. -/
def typesKnownCard : Claim7 := { stood := { row := typesKnownRow, standIns := [], harness := (true, "ea91269485515914c8894d45cdc08f8e45b480498916cb0e8d9c3ad69bd12591"), looks := false }, kinds := [], alts := [], laidByText := true, laidKinds := [.data], laidTests := true, laidLooks := .later }
def TypesKnownCardSaid : Prop := Claim7.holds Tryd.pinned (.plain (OpenSpec.ofChange typesKnownSpec)) typesKnownCard

/-- THE TIED CARD OF 'treadwheelkeep.TypesFlow'. -/
def typesFlowCard : Claim7 := { stood := { row := typesFlowRow, standIns := [], harness := (true, "ea91269485515914c8894d45cdc08f8e45b480498916cb0e8d9c3ad69bd12591"), looks := false }, kinds := [], alts := [], laidByText := true, laidKinds := [.data], laidTests := true, laidLooks := .later }
def TypesFlowCardSaid : Prop := Claim7.holds Tryd.pinned (.plain (OpenSpec.ofChange typesFlowSpec)) typesFlowCard

/-- THE TIED CARD OF 'treadwheellaw.ActorNew'. -/
def actorNewCard : Claim7 := { stood := { row := actorNewRow, standIns := [], harness := (true, "ea91269485515914c8894d45cdc08f8e45b480498916cb0e8d9c3ad69bd12591"), looks := false }, kinds := [], alts := [], laidByText := true, laidKinds := [.data], laidTests := true, laidLooks := .later }
def ActorNewCardSaid : Prop := Claim7.holds Tryd.pinned (.plain (OpenSpec.ofChange actorNewSpec)) actorNewCard

/-- THE TIED CARD OF 'treadwheellaw.ActorChecks'. -/
def actorChecksCard : Claim7 := { stood := { row := actorChecksRow, standIns := [], harness := (true, "ea91269485515914c8894d45cdc08f8e45b480498916cb0e8d9c3ad69bd12591"), looks := false }, kinds := [], alts := [], laidByText := true, laidKinds := [.data], laidTests := true, laidLooks := .later }
def ActorChecksCardSaid : Prop := Claim7.holds Tryd.pinned (.plain (OpenSpec.ofChange actorChecksSpec)) actorChecksCard

/-- THE TIED CARD OF 'treadwheelkeep.ProgramsBad'. -/
def programsBadCard : Claim7 := { stood := { row := programsBadRow, standIns := [], harness := (true, "ea91269485515914c8894d45cdc08f8e45b480498916cb0e8d9c3ad69bd12591"), looks := false }, kinds := [], alts := [], laidByText := true, laidKinds := [.data], laidTests := true, laidLooks := .later }
def ProgramsBadCardSaid : Prop := Claim7.holds Tryd.pinned (.plain (OpenSpec.ofChange programsBadSpec)) programsBadCard

/-- THE SECOND FORM's CARD OF 'treadwheelkeep.ProgramsBack'. -/
def programsBackUptoCard : Claim7 := { stood := { row := programsBackUptoRow, standIns := [], harness := (true, "ea91269485515914c8894d45cdc08f8e45b480498916cb0e8d9c3ad69bd12591"), looks := false }, kinds := [], alts := [], laidByText := true, laidKinds := [.data], laidTests := true, laidLooks := .later }
def ProgramsBackUptoCardSaid : Prop := Claim7.holds Tryd.pinned (.plain (OpenSpec.upto programsBackSpec)) programsBackUptoCard

/-- THE SECOND FORM's CARD OF 'treadwheelkeep.TypesKnown'. -/
def typesKnownUptoCard : Claim7 := { stood := { row := typesKnownUptoRow, standIns := [], harness := (true, "ea91269485515914c8894d45cdc08f8e45b480498916cb0e8d9c3ad69bd12591"), looks := false }, kinds := [], alts := [], laidByText := true, laidKinds := [.data], laidTests := true, laidLooks := .later }
def TypesKnownUptoCardSaid : Prop := Claim7.holds Tryd.pinned (.plain (OpenSpec.upto typesKnownSpec)) typesKnownUptoCard

/-- THE SECOND FORM's CARD OF 'treadwheelkeep.TypesFlow'. -/
def typesFlowUptoCard : Claim7 := { stood := { row := typesFlowUptoRow, standIns := [], harness := (true, "ea91269485515914c8894d45cdc08f8e45b480498916cb0e8d9c3ad69bd12591"), looks := false }, kinds := [], alts := [], laidByText := true, laidKinds := [.data], laidTests := true, laidLooks := .later }
def TypesFlowUptoCardSaid : Prop := Claim7.holds Tryd.pinned (.plain (OpenSpec.upto typesFlowSpec)) typesFlowUptoCard

/-- THE SECOND FORM's CARD OF 'treadwheellaw.ActorNew'. -/
def actorNewUptoCard : Claim7 := { stood := { row := actorNewUptoRow, standIns := [], harness := (true, "ea91269485515914c8894d45cdc08f8e45b480498916cb0e8d9c3ad69bd12591"), looks := false }, kinds := [], alts := [], laidByText := true, laidKinds := [.data], laidTests := true, laidLooks := .later }
def ActorNewUptoCardSaid : Prop := Claim7.holds Tryd.pinned (.plain (OpenSpec.upto actorNewSpec)) actorNewUptoCard

/-- THE SECOND FORM's CARD OF 'treadwheellaw.ActorChecks'. -/
def actorChecksUptoCard : Claim7 := { stood := { row := actorChecksUptoRow, standIns := [], harness := (true, "ea91269485515914c8894d45cdc08f8e45b480498916cb0e8d9c3ad69bd12591"), looks := false }, kinds := [], alts := [], laidByText := true, laidKinds := [.data], laidTests := true, laidLooks := .later }
def ActorChecksUptoCardSaid : Prop := Claim7.holds Tryd.pinned (.plain (OpenSpec.upto actorChecksSpec)) actorChecksUptoCard

/-- THE SECOND FORM's CARD OF 'treadwheelkeep.ProgramsBad'. -/
def programsBadUptoCard : Claim7 := { stood := { row := programsBadUptoRow, standIns := [], harness := (true, "ea91269485515914c8894d45cdc08f8e45b480498916cb0e8d9c3ad69bd12591"), looks := false }, kinds := [], alts := [], laidByText := true, laidKinds := [.data], laidTests := true, laidLooks := .later }
def ProgramsBadUptoCardSaid : Prop := Claim7.holds Tryd.pinned (.plain (OpenSpec.upto programsBadSpec)) programsBadUptoCard
end Rows
end Go.Proofs.YtahcgnmhhgcfmaaDoor
