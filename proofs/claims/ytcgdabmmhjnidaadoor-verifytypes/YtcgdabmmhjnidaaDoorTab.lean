/- The table of operators, as it lies in memory, and what it says of each. -/
import Derived.Test.YtcgdabmmhjnidaaDoorSpec
import Derived.Test.YtcgdabmmhjnidaaDoorViews
namespace Go.Proofs.YtcgdabmmhjnidaaDoor
open Go.RowKit

/-- The table of operators lies at the program's variable g, five cells a row. -/
def TabAt (g : Nat) (w : World) : Prop := ∀ op : Nat, op < 20 →
  w.cell? ⟨g, op * 5, none⟩ = some (.bool (aOf op)) ∧ w.cell? ⟨g, op * 5 + 1, none⟩ = some (.bool (bOf op)) ∧ w.cell? ⟨g, op * 5 + 2, none⟩ = some (.bool (nOf op)) ∧
  w.cell? ⟨g, op * 5 + 3, none⟩ = some (.int .i64 (loOf op)) ∧ w.cell? ⟨g, op * 5 + 4, none⟩ = some (.int .i64 (hiOf op))

theorem TabAt.keeps {g : Nat} {w w' : World} (h : TabAt g w) (k : Keeps w w') : TabAt g w' := fun op ho =>
  ⟨k _ _ (h op ho).1, k _ _ (h op ho).2.1, k _ _ (h op ho).2.2.1, k _ _ (h op ho).2.2.2.1, k _ _ (h op ho).2.2.2.2⟩

end Go.Proofs.YtcgdabmmhjnidaaDoor
