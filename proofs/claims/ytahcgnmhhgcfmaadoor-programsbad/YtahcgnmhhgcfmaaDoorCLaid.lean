/- From what the row lists of the table of operators to the cells that the walks read; and the start that the witness takes. -/
import Derived.Test.YtahcgnmhhgcfmaaDoorRows
import Derived.Test.YtahcgnmhhgcfmaaDoorCPlain
import Derived.ProofKit
import Derived.LaidMore
import Derived.OpenShut
import Derived.Stop.Joined
namespace Go.Proofs.YtahcgnmhhgcfmaaDoor
open Go.ChangeShapes Go.WideShapes Go.ChangeAt Go.RowKit

theorem Tryd.gOps : Tryd.prog.globalNamed "treadwheel/code.operators" = some 0 := by kernel_rfl
theorem Tryd.tOps : (Tryd.prog.globals[0]?).map (·.type) = some 101 := by kernel_rfl
theorem Tryd.cOp : Tryd.prog.cellsOf 100 = 5 := by kernel_rfl
theorem Tryd.cBool : Tryd.prog.cellsOf 4 = 1 := by kernel_rfl
theorem Tryd.cInt : Tryd.prog.cellsOf 3 = 1 := by kernel_rfl

/-- The table's row of an operator, as data. -/
def tabRow {H : Type} (k : Nat) : DataW H := .agg [.lit (.bool (aOf k)), .lit (.bool (bOf k)), .lit (.bool (nOf k)), .lit (.int .i64 (loOf k)), .lit (.int .i64 (hiOf k))]

theorem tab_datum : (Rows.laid_treadwheel_code_operators : DataW Unit) = .agg ((List.range 20).map tabRow) := by kernel_rfl

abbrev opsLaid : List (String × DataW Unit) := [("treadwheel/code.operators", Rows.laid_treadwheel_code_operators)]

section
variable {H : Type} {enc : TypeId × Value → H} {w : World} {base : Nat} {spare : Nat → Bool} {held : Bool}

set_option maxRecDepth 100000 in
/-- One row of the table, opened. -/
theorem open_oper {fuel : Nat} {cs : List Value} {x : DataW H × List MemPlace} {a b c : Bool} {l m : Int} (h : DataW.trod enc Tryd.prog w base spare held fuel 100 cs = some x)
    (hx : x.1 = .agg [.lit (.bool a), .lit (.bool b), .lit (.bool c), .lit (.int .i64 l), .lit (.int .i64 m)]) : cs = [.bool a, .bool b, .bool c, .int .i64 l, .int .i64 m] := by
  obtain ⟨xs, n, _, rfl, hl, hlen, hf⟩ := DataW.trod_struct Tryd.underlying100 h
  rw [Tryd.cOp] at hl
  match cs, hl with
  | [c0, c1, c2, c3, c4], _ =>
    match xs, hlen with
    | [x0, x1, x2, x3, x4], _ =>
      simp only [List.map_cons, List.map_nil, DataW.agg.injEq, List.cons.injEq, and_true] at hx
      obtain ⟨q0, q1, q2, q3, q4⟩ := hx
      have g0 : DataW.trod enc Tryd.prog w base spare held n 4 (List.take (Tryd.prog.cellsOf 4) (List.drop 0 [c0, c1, c2, c3, c4])) = some x0 := hf 0 _ rfl
      have g1 : DataW.trod enc Tryd.prog w base spare held n 4 (List.take (Tryd.prog.cellsOf 4) (List.drop 1 [c0, c1, c2, c3, c4])) = some x1 := hf 1 _ rfl
      have g2 : DataW.trod enc Tryd.prog w base spare held n 4 (List.take (Tryd.prog.cellsOf 4) (List.drop 2 [c0, c1, c2, c3, c4])) = some x2 := hf 2 _ rfl
      have g3 : DataW.trod enc Tryd.prog w base spare held n 3 (List.take (Tryd.prog.cellsOf 3) (List.drop 3 [c0, c1, c2, c3, c4])) = some x3 := hf 3 _ rfl
      have g4 : DataW.trod enc Tryd.prog w base spare held n 3 (List.take (Tryd.prog.cellsOf 3) (List.drop 4 [c0, c1, c2, c3, c4])) = some x4 := hf 4 _ rfl
      rw [Tryd.cBool] at g0 g1 g2
      rw [Tryd.cInt] at g3 g4
      simp only [List.drop_zero, List.drop_succ_cons, List.take_succ_cons, List.take_zero] at g0 g1 g2 g3 g4
      obtain ⟨b0, e0, y0⟩ := DataW.trod_bool Tryd.underlying4 g0
      obtain ⟨b1, e1, y1⟩ := DataW.trod_bool Tryd.underlying4 g1
      obtain ⟨b2, e2, y2⟩ := DataW.trod_bool Tryd.underlying4 g2
      obtain ⟨b3, e3, y3, _⟩ := DataW.trod_int Tryd.underlying3 g3
      obtain ⟨b4, e4, y4, _⟩ := DataW.trod_int Tryd.underlying3 g4
      subst y0 y1 y2 y3 y4
      simp at q0 q1 q2 q3 q4 e0 e1 e2 e3 e4
      subst q0 q1 q2 q3 q4 e0 e1 e2 e3 e4
      rfl
end

set_option maxRecDepth 100000 in
/-- What the listed table gives the walks. -/
theorem tab_of_laid {W : World} (h : laidMetH Tryd.prog opsLaid W) : TabAt 0 W := by
  rw [MakeChecks.laidMetH_plain _ _ _ (by kernel_rfl)] at h
  obtain ⟨ps, ⟨g0, t0, cs0, f0, p0, q0, hg0, ht0, hv0, hd0, _⟩, _, _⟩ := h
  obtain rfl := Option.some.inj (Tryd.gOps.symm.trans hg0)
  obtain rfl := Option.some.inj (Tryd.tOps.symm.trans ht0)
  rw [tab_datum] at hd0
  obtain ⟨xs, m, _, hx, _, hlen, hel⟩ := DataW.trod_array Tryd.underlying101 hd0
  simp only [Prod.mk.injEq, DataW.agg.injEq] at hx
  rw [Tryd.cOp] at hel
  intro k hk
  have hk' : k < xs.length := by omega
  have hxk : xs[k].1 = tabRow k := by
    have := congrArg (fun l => l[k]?) hx.1
    simp [hk, hk'] at this
    exact this.symm
  have e := open_oper ((hel k hk).trans (List.getElem?_eq_getElem hk')) hxk
  have hc : ∀ j, j < 5 → W.cell? ⟨0, k * 5 + j, none⟩ = [Value.bool (aOf k), .bool (bOf k), .bool (nOf k), .int .i64 (loOf k), .int .i64 (hiOf k)][j]? := fun j hj => by
    rw [World.var?_cell hg0 hv0, ← e]
    simp [hj, List.getElem?_drop]
  exact ⟨by simpa using hc 0 (by omega), by simpa using hc 1 (by omega), by simpa using hc 2 (by omega), by simpa using hc 3 (by omega), by simpa using hc 4 (by omega)⟩

set_option maxRecDepth 100000 in
/-- The heap that the program's own start leaves meets it. -/
theorem door_met (os : Os) (args : Array Value) : laidMetH Tryd.prog opsLaid ((World.doorLaid Tryd.prog 400 os).forCall (fun _ _ => 0) ⟨#[], args, []⟩).memory :=
  laidMetH_of_parts3 (fuel := 8) (laidMet_of_run' 8 (by kernel_rfl) (by kernel_rfl)) (by kernel_rfl) (by kernel_rfl)

end Go.Proofs.YtahcgnmhhgcfmaaDoor
