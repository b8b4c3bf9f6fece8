/- Closed facts on the program: its ctypes, and that its data are laid out. -/
import Derived.Test.YtcgdabmmhjnidaaDoorLaid
import Derived.Test.YtcgdabmmhjnidaaDoorOpen
import Derived.ProofKit
namespace Go.Proofs.YtcgdabmmhjnidaaDoor
open Go.ChangeShapes Go.WideShapes Go.ChangeAt Go.RowKit Go.Deep

theorem Tryd.cown : ownKnob Tryd.prog.godebug = none := by kernel_rfl
theorem Tryd.claidOut : laidOutB Tryd.prog = true := by kernel_rfl
theorem Tryd.cProg : Tryd.prog.cellsOf 24 = 1 := by kernel_rfl
theorem Tryd.cKinds : Tryd.prog.cellsOf 22 = 1 := by kernel_rfl
theorem Tryd.cRow : Tryd.prog.cellsOf 45 = 1 := by kernel_rfl
theorem Tryd.cIns : Tryd.prog.cellsOf 48 = 4 := by kernel_rfl
theorem Tryd.bRow : Tryd.prog.bytesOf 45 = 24 := by kernel_rfl
theorem Tryd.bIns : Tryd.prog.bytesOf 48 = 32 := by kernel_rfl

theorem Tryd.cByte : Tryd.prog.cellsOf 5 = 1 := by kernel_rfl

theorem ctypes : ∃ f f0 f1 f2 f3, ProgTypes Tryd.prog 24 22 45 48 3 f f0 f1 f2 f3 :=
  ⟨_, _, _, _, _, Tryd.underlying24, ⟨rfl, rfl⟩, Tryd.cProg, Tryd.cKinds, Tryd.underlying22, Tryd.cRow, Tryd.underlying45, Tryd.cIns, Tryd.underlying48, ⟨rfl, rfl⟩, ⟨rfl, rfl⟩, ⟨rfl, rfl⟩, ⟨rfl, rfl⟩, Tryd.underlying3, Tryd.cInt, Tryd.bRow, Tryd.bIns⟩

end Go.Proofs.YtcgdabmmhjnidaaDoor
