/- What is known behind an instruction, whichever it is. -/
import Derived.Test.YtahcgnmhhgcfmaaDoorCVBehind2
import Derived.Test.YtahcgnmhhgcfmaaDoorCVBehind3
namespace Go.Proofs.YtahcgnmhhgcfmaaDoor
open Go.RowKit

theorem behind_any (op n : Int) (a b : Nat) (k : List Int) (w : World) (hop : 0 ≤ op ∧ op ≤ 19) (hk : k.length = 8) (ha : a < 8) (hb : b < 8) :
    Calls Tryd.prog 63 #[insV op a b n, regV k] w fun e w' => e = .returned (regV (vBehind op a b k)) ∧ Below w.heap.size w w' := by
  have h : op = 0 ∨ op = 1 ∨ op = 2 ∨ op = 3 ∨ op = 4 ∨ op = 5 ∨ op = 6 ∨ op = 7 ∨ op = 8 ∨ op = 9 ∨ op = 10 ∨ op = 11 ∨ op = 12 ∨ op = 13 ∨ op = 14 ∨ op = 15 ∨ op = 16 ∨ op = 17 ∨ op = 18 ∨ op = 19 := by omega
  rcases h with rfl | rfl | rfl | rfl | rfl | rfl | rfl | rfl | rfl | rfl | rfl | rfl | rfl | rfl | rfl | rfl | rfl | rfl | rfl | rfl
  · exact behind0_any n a b k w ha hb
  · exact behind1_any n a b k w hk ha hb
  · exact behind2_any n a b k w hk ha hb
  · exact behind3_any n a b k w hk ha hb
  · exact behind4_any n a b k w hk ha hb
  · exact behind5_any n a b k w ha hb
  · exact behind6_any n a b k w ha hb
  · exact behind7_any n a b k w hk ha hb
  · exact behind8_any n a b k w hk ha hb
  · exact behind9_any n a b k w ha hb
  · exact behind10_any n a b k w hk ha hb
  · exact behind11_any n a b k w hk ha hb
  · exact behind12_any n a b k w hk ha hb
  · exact behind13_any n a b k w hk ha hb
  · exact behind14_any n a b k w ha hb
  · exact behind15_any n a b k w ha hb
  · exact behind16_any n a b k w hk ha hb
  · exact behind17_any n a b k w hk ha hb
  · exact behind18_any n a b k w hk ha hb
  · exact behind19_any n a b k w ha hb

end Go.Proofs.YtahcgnmhhgcfmaaDoor
