/-
  DERIVED. GIVEN WITH THE SEED: THE CARDS: each row of YtihpkcccfgbcmaaGreatDoorRows.lean that lists a variable, with what it lists TIED to the program's text (the seventh form; the later family's looks); each row that meets fmt, with fmt's text TOLD by the authors' own Lean function (tested against real Go, not proved from fmt's source: count such statements apart). THE CARD IS WHAT COUNTS. Prove the row's statement (the work); the ties are given (YtihpkcccfgbcmaaGreatDoorTie.lean); close each card by the builder's one call (the guide's Derived/Test/ToyasCard.lean, 'card_holds'). Laid BY PROGRAM, IN A SANDBOX (cutbox-door.mjs). By AI agents, Wed Nov 11 2026. No macro, syntax, notation, axiom, sorry.
-/
import Derived.Test.YtihpkcccfgbcmaaGreatDoorRows
import GoSem.ClaimSeven
namespace Go.Proofs.YtihpkcccfgbcmaaGreatDoor
namespace Rows

/-- THE TIED CARD OF 'treadwheellaw.ActorDoes'. -/
def actorDoesCard : Claim7 := { stood := { row := actorDoesRow, standIns := [], harness := (true, "eee3e01493b12268d9e0df2dd8850f5f53154bb4bc2ef5a75efa92552d9bd5ee"), looks := false }, kinds := [], alts := [], laidByText := true, laidKinds := [.data], laidTests := true, laidLooks := .later }
def ActorDoesCardSaid : Prop := Claim7.holds Tryz.pinned (.plain (OpenSpec.ofChange actorDoesSpec)) actorDoesCard

/-- THE TIED CARD OF 'treadwheellaw.ActorRuns'. -/
def actorRunsCard : Claim7 := { stood := { row := actorRunsRow, standIns := [], harness := (true, "eee3e01493b12268d9e0df2dd8850f5f53154bb4bc2ef5a75efa92552d9bd5ee"), looks := false }, kinds := [], alts := [], laidByText := true, laidKinds := [.data], laidTests := true, laidLooks := .later }
def ActorRunsCardSaid : Prop := Claim7.holds Tryz.pinned (.plain (OpenSpec.ofChange actorRunsSpec)) actorRunsCard

/-- THE TIED CARD OF 'treadwheelkeep.EchoTells'. -/
def echoTellsCard : Claim7 := { stood := { row := echoTellsRow, standIns := [], harness := (true, "eee3e01493b12268d9e0df2dd8850f5f53154bb4bc2ef5a75efa92552d9bd5ee"), looks := false }, kinds := [], alts := [], laidByText := true, laidKinds := [.data], laidTests := true, laidLooks := .later }
def EchoTellsCardSaid : Prop := Claim7.holds Tryz.pinned (.plain (OpenSpec.ofChange echoTellsSpec)) echoTellsCard

/-- THE TIED CARD OF 'treadwheelkeep.BoxesFull'. -/
def boxesFullCard : Claim7 := { stood := { row := boxesFullRow, standIns := [], harness := (true, "eee3e01493b12268d9e0df2dd8850f5f53154bb4bc2ef5a75efa92552d9bd5ee"), looks := false }, kinds := [], alts := [], laidByText := true, laidKinds := [.data], laidTests := true, laidLooks := .later }
def BoxesFullCardSaid : Prop := Claim7.holds Tryz.pinned (.plain (OpenSpec.ofChange boxesFullSpec)) boxesFullCard

/-- THE TIED CARD OF 'treadwheelkeep.ParentsTold'. -/
def parentsToldCard : Claim7 := { stood := { row := parentsToldRow, standIns := [], harness := (true, "eee3e01493b12268d9e0df2dd8850f5f53154bb4bc2ef5a75efa92552d9bd5ee"), looks := false }, kinds := [], alts := [], laidByText := true, laidKinds := [.data], laidTests := true, laidLooks := .later }
def ParentsToldCardSaid : Prop := Claim7.holds Tryz.pinned (.plain (OpenSpec.ofChange parentsToldSpec)) parentsToldCard

/-- THE TIED CARD OF 'treadwheeltop.TopUnique'. -/
def topUniqueCard : Claim7 := { stood := { row := topUniqueRow, standIns := [], harness := (true, "eee3e01493b12268d9e0df2dd8850f5f53154bb4bc2ef5a75efa92552d9bd5ee"), looks := false }, kinds := [], alts := [], laidByText := true, laidKinds := [.data], laidTests := true, laidLooks := .later }
def TopUniqueCardSaid : Prop := Claim7.holds Tryz.pinned (.plain (OpenSpec.ofChange topUniqueSpec)) topUniqueCard

/-- THE TIED CARD OF 'treadwheeltop.TopClear'. -/
def topClearCard : Claim7 := { stood := { row := topClearRow, standIns := [], harness := (true, "eee3e01493b12268d9e0df2dd8850f5f53154bb4bc2ef5a75efa92552d9bd5ee"), looks := false }, kinds := [], alts := [], laidByText := true, laidKinds := [.data], laidTests := true, laidLooks := .later }
def TopClearCardSaid : Prop := Claim7.holds Tryz.pinned (.plain (OpenSpec.ofChange topClearSpec)) topClearCard

/-- THE TIED CARD OF 'treadwheeltop.TopSwap'. -/
def topSwapCard : Claim7 := { stood := { row := topSwapRow, standIns := [], harness := (true, "eee3e01493b12268d9e0df2dd8850f5f53154bb4bc2ef5a75efa92552d9bd5ee"), looks := false }, kinds := [], alts := [], laidByText := true, laidKinds := [.data], laidTests := true, laidLooks := .later }
def TopSwapCardSaid : Prop := Claim7.holds Tryz.pinned (.plain (OpenSpec.ofChange topSwapSpec)) topSwapCard

/-- THE SECOND FORM's CARD OF 'treadwheellaw.ActorDoes'. -/
def actorDoesUptoCard : Claim7 := { stood := { row := actorDoesUptoRow, standIns := [], harness := (true, "eee3e01493b12268d9e0df2dd8850f5f53154bb4bc2ef5a75efa92552d9bd5ee"), looks := false }, kinds := [], alts := [], laidByText := true, laidKinds := [.data], laidTests := true, laidLooks := .later }
def ActorDoesUptoCardSaid : Prop := Claim7.holds Tryz.pinned (.plain (OpenSpec.upto actorDoesSpec)) actorDoesUptoCard

/-- THE SECOND FORM's CARD OF 'treadwheellaw.ActorRuns'. -/
def actorRunsUptoCard : Claim7 := { stood := { row := actorRunsUptoRow, standIns := [], harness := (true, "eee3e01493b12268d9e0df2dd8850f5f53154bb4bc2ef5a75efa92552d9bd5ee"), looks := false }, kinds := [], alts := [], laidByText := true, laidKinds := [.data], laidTests := true, laidLooks := .later }
def ActorRunsUptoCardSaid : Prop := Claim7.holds Tryz.pinned (.plain (OpenSpec.upto actorRunsSpec)) actorRunsUptoCard

/-- THE SECOND FORM's CARD OF 'treadwheelkeep.EchoTells'. -/
def echoTellsUptoCard : Claim7 := { stood := { row := echoTellsUptoRow, standIns := [], harness := (true, "eee3e01493b12268d9e0df2dd8850f5f53154bb4bc2ef5a75efa92552d9bd5ee"), looks := false }, kinds := [], alts := [], laidByText := true, laidKinds := [.data], laidTests := true, laidLooks := .later }
def EchoTellsUptoCardSaid : Prop := Claim7.holds Tryz.pinned (.plain (OpenSpec.upto echoTellsSpec)) echoTellsUptoCard

/-- THE SECOND FORM's CARD OF 'treadwheelkeep.BoxesFull'. -/
def boxesFullUptoCard : Claim7 := { stood := { row := boxesFullUptoRow, standIns := [], harness := (true, "eee3e01493b12268d9e0df2dd8850f5f53154bb4bc2ef5a75efa92552d9bd5ee"), looks := false }, kinds := [], alts := [], laidByText := true, laidKinds := [.data], laidTests := true, laidLooks := .later }
def BoxesFullUptoCardSaid : Prop := Claim7.holds Tryz.pinned (.plain (OpenSpec.upto boxesFullSpec)) boxesFullUptoCard

/-- THE SECOND FORM's CARD OF 'treadwheelkeep.ParentsTold'. -/
def parentsToldUptoCard : Claim7 := { stood := { row := parentsToldUptoRow, standIns := [], harness := (true, "eee3e01493b12268d9e0df2dd8850f5f53154bb4bc2ef5a75efa92552d9bd5ee"), looks := false }, kinds := [], alts := [], laidByText := true, laidKinds := [.data], laidTests := true, laidLooks := .later }
def ParentsToldUptoCardSaid : Prop := Claim7.holds Tryz.pinned (.plain (OpenSpec.upto parentsToldSpec)) parentsToldUptoCard

/-- THE SECOND FORM's CARD OF 'treadwheeltop.TopUnique'. -/
def topUniqueUptoCard : Claim7 := { stood := { row := topUniqueUptoRow, standIns := [], harness := (true, "eee3e01493b12268d9e0df2dd8850f5f53154bb4bc2ef5a75efa92552d9bd5ee"), looks := false }, kinds := [], alts := [], laidByText := true, laidKinds := [.data], laidTests := true, laidLooks := .later }
def TopUniqueUptoCardSaid : Prop := Claim7.holds Tryz.pinned (.plain (OpenSpec.upto topUniqueSpec)) topUniqueUptoCard

/-- THE SECOND FORM's CARD OF 'treadwheeltop.TopClear'. -/
def topClearUptoCard : Claim7 := { stood := { row := topClearUptoRow, standIns := [], harness := (true, "eee3e01493b12268d9e0df2dd8850f5f53154bb4bc2ef5a75efa92552d9bd5ee"), looks := false }, kinds := [], alts := [], laidByText := true, laidKinds := [.data], laidTests := true, laidLooks := .later }
def TopClearUptoCardSaid : Prop := Claim7.holds Tryz.pinned (.plain (OpenSpec.upto topClearSpec)) topClearUptoCard

/-- THE SECOND FORM's CARD OF 'treadwheeltop.TopSwap'. -/
def topSwapUptoCard : Claim7 := { stood := { row := topSwapUptoRow, standIns := [], harness := (true, "eee3e01493b12268d9e0df2dd8850f5f53154bb4bc2ef5a75efa92552d9bd5ee"), looks := false }, kinds := [], alts := [], laidByText := true, laidKinds := [.data], laidTests := true, laidLooks := .later }
def TopSwapUptoCardSaid : Prop := Claim7.holds Tryz.pinned (.plain (OpenSpec.upto topSwapSpec)) topSwapUptoCard
end Rows
end Go.Proofs.YtihpkcccfgbcmaaGreatDoor
