/- Heaps as data: values, objects; how they lie in memory; which of them may be; and that what lies so lies so in every later world that keeps its cells. -/
import Derived.WalkKit
import Derived.Deep.OwnRows
import Derived.Deep.Draws
namespace Go.Proofs.YtcgdabmmhjnidaaDoor
open Go.RowKit

/-- Every cell that was there holds what it held. -/
def Keeps (w w' : World) : Prop := ∀ a v, w.cell? a = some v → w'.cell? a = some v

theorem Keeps.refl (w : World) : Keeps w w := fun _ _ h => h
theorem Keeps.trans {a b c : World} (h : Keeps a b) (k : Keeps b c) : Keeps a c := fun x v e => k x v (h x v e)
theorem Keeps.below {w w' : World} (h : Below w.heap.size w w') : Keeps w w' := fun a _ e => (h.cell (p := a) (World.block_lt_of_cell? _ _ e)).trans e
theorem Keeps.alloc (w : World) (o : Obj) : Keeps w (w.alloc o) := Keeps.below ((Below.refl _ _).alloc (Nat.le_refl _) o)
theorem Keeps.drewN (w : World) (n : Nat) : Keeps w (w.drewN n) := fun a _ e => (World.cell?_drewN w n a).trans e

/-- A value: its kind and its number. -/
structure Vl where
  k : Int
  n : Int

/-- An object. -/
structure Ob where
  fs : List Vl
  dead : Bool

def vMay (m : Int) (v : Vl) : Bool :=
  if v.k = 0 then decide (v.n = 0) else if v.k = 1 then decide (-1099511627776 ≤ v.n) && decide (v.n ≤ 1099511627776) else if v.k = 2 then decide (0 ≤ v.n) && decide (v.n < m) else false

def oMay (m : Int) (o : Ob) : Bool := if o.dead then decide (o.fs.length = 0) else (decide (1 ≤ o.fs.length) && decide (o.fs.length ≤ 4)) && o.fs.all (vMay m)

def mMay (M : Int) (n : Nat) : Bool := (decide (0 ≤ M) && decide (M ≤ 60)) && decide ((n : Int) ≤ M)

def hMay (M : Int) (l : List Ob) (roots : List Vl) : Bool := mMay M l.length && l.all (oMay l.length) && roots.all (vMay l.length)

/-- The error of a heap that may not be. -/
def erS (b : Bool) : Int := if b then 0 else 8
theorem erS_true : erS true = 0 := rfl
theorem erS_false : erS false = 8 := rfl

/-- These values lie in a row. -/
def ValsAt (w : World) (ao : Option Addr) (l : List Vl) : Prop :=
  ∀ i v, l[i]? = some v → ∃ b o, ao = some ⟨b, o, none⟩ ∧ w.cell? ⟨b, o + i * 2, none⟩ = some (.int .i64 v.k) ∧ w.cell? ⟨b, o + i * 2 + 1, none⟩ = some (.int .i64 v.n)

theorem ValsAt.keeps {w w' : World} {ao : Option Addr} {l : List Vl} (h : ValsAt w ao l) (k : Keeps w w') : ValsAt w' ao l := fun i v hi => by
  obtain ⟨b, o, e, h1, h2⟩ := h i v hi
  exact ⟨b, o, e, k _ _ h1, k _ _ h2⟩

/-- These objects lie in a row. -/
structure ObsAt (w : World) (ao : Option Addr) (l : List Ob) : Prop where
  cell : ∀ i x, l[i]? = some x → ∃ b o fa fc, ao = some ⟨b, o, none⟩ ∧ w.cell? ⟨b, o + i * 2, none⟩ = some (.slice fa x.fs.length fc) ∧ w.cell? ⟨b, o + i * 2 + 1, none⟩ = some (.bool x.dead) ∧ ValsAt w fa x.fs ∧ 16 * x.fs.length ≤ 140737488351232
  many : 32 * l.length ≤ 140737488351232

theorem ObsAt.keeps {w w' : World} {ao : Option Addr} {l : List Ob} (h : ObsAt w ao l) (k : Keeps w w') : ObsAt w' ao l :=
  ⟨fun i x hi => by
    obtain ⟨b, o, fa, fc, e, h1, h2, h3, h4⟩ := h.cell i x hi
    exact ⟨b, o, fa, fc, e, k _ _ h1, k _ _ h2, h3.keeps k, h4⟩, h.many⟩

/-- Values that lie below block B lie so in every world that is the same below B. -/
theorem ValsAt.keepLow {w w' : World} {ao : Option Addr} {l : List Vl} {B : Nat} (h : ValsAt w ao l) (hlow : ∀ (i : Nat) v, l[i]? = some v → ∃ b o, ao = some ⟨b, o, none⟩ ∧ b < B) (hb : Below B w w') : ValsAt w' ao l := fun i v hi => by
  obtain ⟨b, o, e, h1, h2⟩ := h i v hi
  obtain ⟨b', o', e', hlt⟩ := hlow i v hi
  rw [e] at e'
  simp only [Option.some.injEq, Addr.mk.injEq, and_true] at e'
  obtain ⟨rfl, rfl⟩ := e'
  exact ⟨b, o, e, (hb.cell (p := ⟨b, o + i * 2, none⟩) hlt).trans h1, (hb.cell (p := ⟨b, o + i * 2 + 1, none⟩) hlt).trans h2⟩

theorem ValsAt.low {w : World} {ao : Option Addr} {l : List Vl} (h : ValsAt w ao l) : ∀ (i : Nat) v, l[i]? = some v → ∃ b o, ao = some ⟨b, o, none⟩ ∧ b < w.heap.size := fun i v hi => by
  obtain ⟨b, o, e, h1, _⟩ := h i v hi
  exact ⟨b, o, e, World.block_lt_of_cell? _ _ h1⟩

theorem below_box (w : World) (o : Obj) : Below w.heap.size w (w.alloc o) := (Below.refl _ _).alloc (Nat.le_refl _) o
theorem below_drewN {B : Nat} {a w : World} (h : Below B a w) (n : Nat) : Below B a (w.drewN n) := ⟨h.os, h.tape, h.output, h.size, h.block⟩
theorem ret_bool {a b : Bool} (h : a = b) : Ending.returned (.bool a) = .returned (.bool b) := by rw [h]
theorem ret_num {a b : Int} (h : a = b) : Ending.returned (.int .i64 a) = .returned (.int .i64 b) := by rw [h]

theorem at_some {α : Type} {l : List α} {i : Nat} (h : i < l.length) : ∃ v, l[i]? = some v := ⟨_, List.getElem?_eq_getElem h⟩

/-- All from place i on. -/
theorem all_from {α : Type} (p : α → Bool) (l : List α) {i : Nat} {v : α} (h : l[i]? = some v) : (l.drop i).all p = (p v && (l.drop (i + 1)).all p) := by
  obtain ⟨hi, rfl⟩ := List.getElem?_eq_some_iff.1 h
  rw [List.drop_eq_getElem_cons hi, List.all_cons]

end Go.Proofs.YtcgdabmmhjnidaaDoor
