/- Closed facts on the program: its ctypes, and that its data are laid out. -/
import Derived.Test.YtahcgnmhhgcfmaaDoorCLaid
import Derived.Test.YtahcgnmhhgcfmaaDoorCPlain
import Derived.ProofKit
namespace Go.Proofs.YtahcgnmhhgcfmaaDoor
open Go.ChangeShapes Go.WideShapes Go.ChangeAt Go.RowKit Go.Deep

theorem Tryd.cown : ownKnob Tryd.prog.godebug = none := by kernel_rfl
theorem Tryd.claidOut : laidOutB Tryd.prog = true := by kernel_rfl
theorem Tryd.cProg : Tryd.prog.cellsOf 26 = 1 := by kernel_rfl
theorem Tryd.cKinds : Tryd.prog.cellsOf 24 = 1 := by kernel_rfl
theorem Tryd.cRow : Tryd.prog.cellsOf 37 = 1 := by kernel_rfl
theorem Tryd.cIns : Tryd.prog.cellsOf 40 = 4 := by kernel_rfl
theorem Tryd.bRow : Tryd.prog.bytesOf 37 = 24 := by kernel_rfl
theorem Tryd.bIns : Tryd.prog.bytesOf 40 = 32 := by kernel_rfl

theorem Tryd.cByte : Tryd.prog.cellsOf 5 = 1 := by kernel_rfl

theorem ctypes : ∃ f f0 f1 f2 f3, ProgTypes Tryd.prog 26 24 37 40 3 f f0 f1 f2 f3 :=
  ⟨_, _, _, _, _, Tryd.underlying26, ⟨rfl, rfl⟩, Tryd.cProg, Tryd.cKinds, Tryd.underlying24, Tryd.cRow, Tryd.underlying37, Tryd.cIns, Tryd.underlying40, ⟨rfl, rfl⟩, ⟨rfl, rfl⟩, ⟨rfl, rfl⟩, ⟨rfl, rfl⟩, Tryd.underlying3, Tryd.cInt, Tryd.bRow, Tryd.bIns⟩

end Go.Proofs.YtahcgnmhhgcfmaaDoor
