/- Closed facts on the program: its types, and that its data are laid out. -/
import Derived.Test.YtaioghenlbebmaaDoorLaid
import Derived.Test.YtaioghenlbebmaaDoorOpen
import Derived.ProofKit
namespace Go.Proofs.YtaioghenlbebmaaDoor
open Go.ChangeShapes Go.WideShapes Go.ChangeAt Go.RowKit Go.Deep

theorem Tryd.own : ownKnob Tryd.prog.godebug = none := by kernel_rfl
theorem Tryd.laidOut : laidOutB Tryd.prog = true := by kernel_rfl
theorem Tryd.cProg : Tryd.prog.cellsOf 24 = 1 := by kernel_rfl
theorem Tryd.cKinds : Tryd.prog.cellsOf 22 = 1 := by kernel_rfl
theorem Tryd.cRow : Tryd.prog.cellsOf 34 = 1 := by kernel_rfl
theorem Tryd.cIns : Tryd.prog.cellsOf 38 = 4 := by kernel_rfl
theorem Tryd.bRow : Tryd.prog.bytesOf 34 = 24 := by kernel_rfl
theorem Tryd.bIns : Tryd.prog.bytesOf 38 = 32 := by kernel_rfl

theorem Tryd.cByte : Tryd.prog.cellsOf 5 = 1 := by kernel_rfl

theorem types : ∃ f f0 f1 f2 f3, ProgTypes Tryd.prog 24 22 34 38 3 f f0 f1 f2 f3 :=
  ⟨_, _, _, _, _, Tryd.underlying24, ⟨rfl, rfl⟩, Tryd.cProg, Tryd.cKinds, Tryd.underlying22, Tryd.cRow, Tryd.underlying34, Tryd.cIns, Tryd.underlying38, ⟨rfl, rfl⟩, ⟨rfl, rfl⟩, ⟨rfl, rfl⟩, ⟨rfl, rfl⟩, Tryd.underlying3, Tryd.cInt, Tryd.bRow, Tryd.bIns⟩

end Go.Proofs.YtaioghenlbebmaaDoor
