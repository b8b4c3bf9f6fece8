/- Plain functions and their laws, together in one text. -/
import Derived.WalkKit
import Derived.Deep.OwnRows
import Derived.Deep.Draws
import Derived.ProofKit
import Derived.SizedLaws
import Derived.OpenShut
import Derived.Deep.Slices
import Derived.Lib.SmallJoins
import Derived.Laws.CopyOwn
import Derived.Deep.RegionLaw
import Derived.OrdersHeld
import Derived.Deep.RegionHeld
import Derived.Deep.RegionHeld3
import Derived.Orders
import Derived.WalkSpells
import Derived.Laws.BytesArg

/- What an instruction, a behavior and a program are refused for, as plain functions of numbers. -/
namespace Go.Proofs.YtahcgnmhhgcfmaaDoor

def okOp (op : Int) : Bool := decide (0 ≤ op) && decide (op ≤ 19)
def okReg (r : Int) : Bool := decide (0 ≤ r) && decide (r ≤ 7)
def aOf (op : Int) : Bool := op != 0 && op != 6 && op != 19
def bOf (op : Int) : Bool := (decide (2 ≤ op) && decide (op ≤ 4)) || (decide (8 ≤ op) && decide (op ≤ 14)) || op == 17
def nOf (op : Int) : Bool := op == 1 || (decide (5 ≤ op) && decide (op ≤ 11)) || op == 17
def loOf (op : Int) : Int := if op = 1 then -1099511627776 else if op = 5 ∨ op = 6 then -60 else if op = 7 then 1 else 0
def hiOf (op : Int) : Int := if op = 1 then 1099511627776 else if op = 5 ∨ op = 6 then 60 else if op = 7 then 4 else if 8 ≤ op ∧ op ≤ 11 then 3 else if op = 17 then 5 else 0

/-- The parts of an instruction, wherever it stands. -/
def partsFault (op a b n : Int) : Int :=
  if okOp op = false then 3
  else if okReg a = false ∨ okReg b = false ∨ n < loOf op ∨ hiOf op < n then 2
  else if (a ≠ 0 ∧ aOf op = false) ∨ (b ≠ 0 ∧ bOf op = false) then 4
  else 0

def beside (op n place many : Int) : Bool := (op == 5 || op == 6) && (decide (place + n < 0) || decide (many ≤ place + n))

/-- May N be so, at a place of a behavior of so many, of a program of so many? (the reference's question) -/
def nMay (op n place many kinds : Int) : Bool :=
  if op = 1 then decide (-1099511627776 ≤ n) && decide (n ≤ 1099511627776)
  else if op = 5 ∨ op = 6 then (decide (-60 ≤ n) && decide (n ≤ 60)) && (decide (0 ≤ place + n) && decide (place + n ≤ many - 1))
  else if op = 7 then decide (1 ≤ n) && decide (n ≤ 4)
  else if 8 ≤ op ∧ op ≤ 11 then decide (0 ≤ n) && decide (n ≤ 3)
  else if op = 17 then decide (0 ≤ n) && decide (n ≤ kinds - 1)
  else n == 0

/-- An instruction at a place of a behavior of so many, of a program of so many behaviors. -/
def insFault (kinds many place op a b n : Int) : Int :=
  if partsFault op a b n ≠ 0 then partsFault op a b n
  else if beside op n place many = true ∨ (op = 17 ∧ kinds ≤ n) then 2
  else if place = many - 1 ∧ op ≠ 0 ∧ op ≠ 19 ∧ op ≠ 6 then 5
  else 0

section
variable {kinds many place op a b n : Int}
theorem ins_parts (h : partsFault op a b n ≠ 0) : insFault kinds many place op a b n = partsFault op a b n := by rw [insFault, if_pos h]
theorem ins_beside (hp : partsFault op a b n = 0) (h : beside op n place many = true) : insFault kinds many place op a b n = 2 := by
  rw [insFault, if_neg (by simp [hp]), if_pos (Or.inl h)]
theorem ins_spawn (hp : partsFault op a b n = 0) (h : op = 17) (h' : kinds ≤ n) : insFault kinds many place op a b n = 2 := by
  rw [insFault, if_neg (by simp [hp]), if_pos (Or.inr ⟨h, h'⟩)]
theorem ins_rest (hp : partsFault op a b n = 0) (h : beside op n place many = false) (h' : ¬ (op = 17 ∧ kinds ≤ n)) :
    insFault kinds many place op a b n = if place = many - 1 ∧ op ≠ 0 ∧ op ≠ 19 ∧ op ≠ 6 then 5 else 0 := by
  rw [insFault, if_neg (by simp [hp]), if_neg (by simp [h]; omega)]
theorem ins_short (hp : partsFault op a b n = 0) (h : beside op n place many = false) (h' : ¬ (op = 17 ∧ kinds ≤ n)) (hl : place = many - 1) (hg : (op != 0 && op != 19 && op != 6) = true) : insFault kinds many place op a b n = 5 := by
  rw [ins_rest hp h h', if_pos]
  simp at hg
  exact ⟨hl, hg.1.1, hg.1.2, hg.2⟩
theorem ins_last (hp : partsFault op a b n = 0) (h : beside op n place many = false) (h' : ¬ (op = 17 ∧ kinds ≤ n)) (hg : (op != 0 && op != 19 && op != 6) = false) : insFault kinds many place op a b n = 0 := by
  rw [ins_rest hp h h', if_neg]
  simp at hg
  omega
theorem ins_inner (hp : partsFault op a b n = 0) (h : beside op n place many = false) (h' : ¬ (op = 17 ∧ kinds ≤ n)) (hl : place ≠ many - 1) : insFault kinds many place op a b n = 0 := by
  rw [ins_rest hp h h', if_neg (fun c => hl c.1)]
end

/-- The first fault from place i on, of n more. -/
def first (f : Nat → Int) : Nat → Nat → Int
  | 0, _ => 0
  | n + 1, i => if f i ≠ 0 then f i else first f n (i + 1)

theorem first_hit (f : Nat → Int) (n i : Nat) (h : i < n) (hf : f i ≠ 0) : first f (n - i) i = f i := by
  obtain ⟨k, hk⟩ : ∃ k, n - i = k + 1 := ⟨n - i - 1, by omega⟩
  rw [hk, first, if_pos hf]

theorem first_pass (f : Nat → Int) (n i : Nat) (h : i < n) (hf : f i = 0) : first f (n - i) i = first f (n - (i + 1)) (i + 1) := by
  obtain ⟨k, hk⟩ : ∃ k, n - i = k + 1 := ⟨n - i - 1, by omega⟩
  rw [hk, first, if_neg (by simp [hf]), show n - (i + 1) = k by omega]

def rowFault (kinds many : Nat) (x : Nat → Nat → Int) : Int :=
  if many < 1 ∨ 60 < many then 1 else first (fun i => insFault kinds many i (x i 0) (x i 1) (x i 2) (x i 3)) many 0

def progFault (G : Nat) (L : Nat → Nat) (X : Nat → Nat → Nat → Int) : Int :=
  if G = 0 then 6 else if 6 < G then 1 else first (fun r => rowFault G (L r) (X r)) G 0

end Go.Proofs.YtahcgnmhhgcfmaaDoor

/- Heaps as data: values, objects; how they lie in memory; which of them may be; and that what lies so lies so in every later world that keeps its cells. -/
namespace Go.Proofs.YtahcgnmhhgcfmaaDoor
open Go.RowKit

/-- Every cell that was there holds what it held. -/
def Keeps (w w' : World) : Prop := ∀ a v, w.cell? a = some v → w'.cell? a = some v

theorem Keeps.refl (w : World) : Keeps w w := fun _ _ h => h
theorem Keeps.trans {a b c : World} (h : Keeps a b) (k : Keeps b c) : Keeps a c := fun x v e => k x v (h x v e)
theorem Keeps.below {w w' : World} (h : Below w.heap.size w w') : Keeps w w' := fun a _ e => (h.cell (p := a) (World.block_lt_of_cell? _ _ e)).trans e
theorem Keeps.alloc (w : World) (o : Obj) : Keeps w (w.alloc o) := Keeps.below ((Below.refl _ _).alloc (Nat.le_refl _) o)
theorem Keeps.drewN (w : World) (n : Nat) : Keeps w (w.drewN n) := fun a _ e => (World.cell?_drewN w n a).trans e

/-- A value: its kind and its number. -/
structure Vl where
  k : Int
  n : Int

/-- An object. -/
structure Ob where
  fs : List Vl
  dead : Bool

def vMay (m : Int) (v : Vl) : Bool :=
  if v.k = 0 then decide (v.n = 0) else if v.k = 1 then decide (-1099511627776 ≤ v.n) && decide (v.n ≤ 1099511627776) else if v.k = 2 then decide (0 ≤ v.n) && decide (v.n < m) else false

def oMay (m : Int) (o : Ob) : Bool := if o.dead then decide (o.fs.length = 0) else (decide (1 ≤ o.fs.length) && decide (o.fs.length ≤ 4)) && o.fs.all (vMay m)

def mMay (M : Int) (n : Nat) : Bool := (decide (0 ≤ M) && decide (M ≤ 60)) && decide ((n : Int) ≤ M)

def hMay (M : Int) (l : List Ob) (roots : List Vl) : Bool := mMay M l.length && l.all (oMay l.length) && roots.all (vMay l.length)

/-- The error of a heap that may not be. -/
def erS (b : Bool) : Int := if b then 0 else 8
theorem erS_true : erS true = 0 := rfl
theorem erS_false : erS false = 8 := rfl

/-- These values lie in a row. -/
def ValsAt (w : World) (ao : Option Addr) (l : List Vl) : Prop :=
  ∀ i v, l[i]? = some v → ∃ b o, ao = some ⟨b, o, none⟩ ∧ w.cell? ⟨b, o + i * 2, none⟩ = some (.int .i64 v.k) ∧ w.cell? ⟨b, o + i * 2 + 1, none⟩ = some (.int .i64 v.n)

theorem ValsAt.keeps {w w' : World} {ao : Option Addr} {l : List Vl} (h : ValsAt w ao l) (k : Keeps w w') : ValsAt w' ao l := fun i v hi => by
  obtain ⟨b, o, e, h1, h2⟩ := h i v hi
  exact ⟨b, o, e, k _ _ h1, k _ _ h2⟩

/-- These objects lie in a row. -/
structure ObsAt (w : World) (ao : Option Addr) (l : List Ob) : Prop where
  cell : ∀ i x, l[i]? = some x → ∃ b o fa fc, ao = some ⟨b, o, none⟩ ∧ w.cell? ⟨b, o + i * 2, none⟩ = some (.slice fa x.fs.length fc) ∧ w.cell? ⟨b, o + i * 2 + 1, none⟩ = some (.bool x.dead) ∧ ValsAt w fa x.fs ∧ 16 * x.fs.length ≤ 140737488351232
  many : 32 * l.length ≤ 140737488351232

theorem ObsAt.keeps {w w' : World} {ao : Option Addr} {l : List Ob} (h : ObsAt w ao l) (k : Keeps w w') : ObsAt w' ao l :=
  ⟨fun i x hi => by
    obtain ⟨b, o, fa, fc, e, h1, h2, h3, h4⟩ := h.cell i x hi
    exact ⟨b, o, fa, fc, e, k _ _ h1, k _ _ h2, h3.keeps k, h4⟩, h.many⟩

/-- Values that lie below block B lie so in every world that is the same below B. -/
theorem ValsAt.keepLow {w w' : World} {ao : Option Addr} {l : List Vl} {B : Nat} (h : ValsAt w ao l) (hlow : ∀ (i : Nat) v, l[i]? = some v → ∃ b o, ao = some ⟨b, o, none⟩ ∧ b < B) (hb : Below B w w') : ValsAt w' ao l := fun i v hi => by
  obtain ⟨b, o, e, h1, h2⟩ := h i v hi
  obtain ⟨b', o', e', hlt⟩ := hlow i v hi
  rw [e] at e'
  simp only [Option.some.injEq, Addr.mk.injEq, and_true] at e'
  obtain ⟨rfl, rfl⟩ := e'
  exact ⟨b, o, e, (hb.cell (p := ⟨b, o + i * 2, none⟩) hlt).trans h1, (hb.cell (p := ⟨b, o + i * 2 + 1, none⟩) hlt).trans h2⟩

theorem ValsAt.low {w : World} {ao : Option Addr} {l : List Vl} (h : ValsAt w ao l) : ∀ (i : Nat) v, l[i]? = some v → ∃ b o, ao = some ⟨b, o, none⟩ ∧ b < w.heap.size := fun i v hi => by
  obtain ⟨b, o, e, h1, _⟩ := h i v hi
  exact ⟨b, o, e, World.block_lt_of_cell? _ _ h1⟩

theorem below_box (w : World) (o : Obj) : Below w.heap.size w (w.alloc o) := (Below.refl _ _).alloc (Nat.le_refl _) o
theorem below_drewN {B : Nat} {a w : World} (h : Below B a w) (n : Nat) : Below B a (w.drewN n) := ⟨h.os, h.tape, h.output, h.size, h.block⟩
theorem ret_bool {a b : Bool} (h : a = b) : Ending.returned (.bool a) = .returned (.bool b) := by rw [h]
theorem ret_num {a b : Int} (h : a = b) : Ending.returned (.int .i64 a) = .returned (.int .i64 b) := by rw [h]

theorem at_some {α : Type} {l : List α} {i : Nat} (h : i < l.length) : ∃ v, l[i]? = some v := ⟨_, List.getElem?_eq_getElem h⟩

/-- All from place i on. -/
theorem all_from {α : Type} (p : α → Bool) (l : List α) {i : Nat} {v : α} (h : l[i]? = some v) : (l.drop i).all p = (p v && (l.drop (i + 1)).all p) := by
  obtain ⟨hi, rfl⟩ := List.getElem?_eq_some_iff.1 h
  rw [List.drop_eq_getElem_cons hi, List.all_cons]

end Go.Proofs.YtahcgnmhhgcfmaaDoor

/- What a program lies like in memory: a slice of slices of instructions of four numbers each; and that it lies so in every later world that keeps its cells. -/
namespace Go.Proofs.YtahcgnmhhgcfmaaDoor
open Go.RowKit

/-- A row of n instructions. -/
def RowAt (w : World) (ao : Option Addr) (n : Nat) (x : Nat → Nat → Int) : Prop :=
  ∀ i, i < n → ∃ b o, ao = some ⟨b, o, none⟩ ∧ ∀ f, f < 4 → w.cell? ⟨b, o + i * 4 + f, none⟩ = some (.int .i64 (x i f))

theorem RowAt.keeps {w w' : World} {ao : Option Addr} {n : Nat} {x : Nat → Nat → Int} (h : RowAt w ao n x) (k : Keeps w w') : RowAt w' ao n x := fun i hi => by
  obtain ⟨b, o, e, hc⟩ := h i hi
  exact ⟨b, o, e, fun f hf => k _ _ (hc f hf)⟩

/-- A program of G behaviors, the r-th of L r instructions. -/
structure ProgAt (w : World) (ao : Option Addr) (G : Nat) (A : Nat → Option Addr) (L C : Nat → Nat) (X : Nat → Nat → Nat → Int) : Prop where
  outer : ∀ r, r < G → ∃ b o, ao = some ⟨b, o, none⟩ ∧ w.cell? ⟨b, o + r, none⟩ = some (.slice (A r) (L r) (C r))
  rows : ∀ r, r < G → RowAt w (A r) (L r) (X r)
  many : 24 * G ≤ 281474976710656
  long : ∀ r, r < G → 32 * L r ≤ 281474976710656
  fits : ∀ r, r < G → ∀ i, i < L r → ∀ f, f < 4 → -9223372036854775808 ≤ X r i f ∧ X r i f ≤ 9223372036854775807

theorem ProgAt.keeps {w w' : World} {ao : Option Addr} {G : Nat} {A : Nat → Option Addr} {L C : Nat → Nat} {X : Nat → Nat → Nat → Int} (h : ProgAt w ao G A L C X) (k : Keeps w w') : ProgAt w' ao G A L C X :=
  ⟨fun r hr => by obtain ⟨b, o, e, hc⟩ := h.outer r hr; exact ⟨b, o, e, k _ _ hc⟩, fun r hr => (h.rows r hr).keeps k, h.many, h.long, h.fits⟩

end Go.Proofs.YtahcgnmhhgcfmaaDoor

/- The table of operators, as it lies in memory, and what it says of each. -/
namespace Go.Proofs.YtahcgnmhhgcfmaaDoor
open Go.RowKit

/-- The table of operators lies at the program's variable g, five cells a row. -/
def TabAt (g : Nat) (w : World) : Prop := ∀ op : Nat, op < 20 →
  w.cell? ⟨g, op * 5, none⟩ = some (.bool (aOf op)) ∧ w.cell? ⟨g, op * 5 + 1, none⟩ = some (.bool (bOf op)) ∧ w.cell? ⟨g, op * 5 + 2, none⟩ = some (.bool (nOf op)) ∧
  w.cell? ⟨g, op * 5 + 3, none⟩ = some (.int .i64 (loOf op)) ∧ w.cell? ⟨g, op * 5 + 4, none⟩ = some (.int .i64 (hiOf op))

theorem TabAt.keeps {g : Nat} {w w' : World} (h : TabAt g w) (k : Keeps w w') : TabAt g w' := fun op ho =>
  ⟨k _ _ (h op ho).1, k _ _ (h op ho).2.1, k _ _ (h op ho).2.2.1, k _ _ (h op ho).2.2.2.1, k _ _ (h op ho).2.2.2.2⟩

end Go.Proofs.YtahcgnmhhgcfmaaDoor

/- A program that is handed in, read as data, lies in memory as ProgAt says; and the form's own reach bounds its lengths. -/
namespace Go.Proofs.YtahcgnmhhgcfmaaDoor
open Go.ChangeShapes Go.WideShapes Go.ChangeAt Go.RowKit Go.Deep

theorem cweightsAll_mem {H : Type} {P : Program} {e : TypeId} : ∀ {l : List (DataW H)} {d : DataW H}, d ∈ l → ∀ n ∈ d.weights P e, n ∈ DataW.weightsAll P e l
  | d' :: r, d, hd, n, hn => by
    simp only [DataW.weightsAll, List.mem_append]
    rcases List.mem_cons.1 hd with rfl | h
    · exact Or.inl hn
    · exact Or.inr (cweightsAll_mem h n hn)

theorem creach_eq : reachBytes = 140737488351232 := rfl

/-- The ctypes of a program: the struct, its list of behaviors, a behavior, an instruction, a number. -/
structure ProgTypes (P : Program) (tP tKK tK tI tN : TypeId) (f f0 f1 f2 f3 : Field) : Prop where
  hP : P.underlying tP = some (.struct #[f])
  hf : f.type = tKK ∧ f.offset = 0
  cP : P.cellsOf tP = 1
  cKK : P.cellsOf tKK = 1
  hKK : P.underlying tKK = some (.slice tK)
  cK : P.cellsOf tK = 1
  hK : P.underlying tK = some (.slice tI)
  cI : P.cellsOf tI = 4
  hI : P.underlying tI = some (.struct #[f0, f1, f2, f3])
  h0 : f0.type = tN ∧ f0.offset = 0
  h1 : f1.type = tN ∧ f1.offset = 1
  h2 : f2.type = tN ∧ f2.offset = 2
  h3 : f3.type = tN ∧ f3.offset = 3
  hN : P.underlying tN = some (.int .i64)
  cN : P.cellsOf tN = 1
  bK : P.bytesOf tK = 24
  bI : P.bytesOf tI = 32

section
variable {H : Type} {enc : TypeId × Value → H} {P : Program} {w : World} {base : Nat} {spare : Nat → Bool} {held : Bool}
variable {tP tKK tK tI tN : TypeId} {f f0 f1 f2 f3 : Field}

theorem open_ins (T : ProgTypes P tP tKK tK tI tN f f0 f1 f2 f3) {fuel : Nat} {cs : List Value} {x : DataW H × List MemPlace} (h : DataW.trod enc P w base spare held fuel tI cs = some x) :
    ∃ z : Nat → Int, cs = [.int .i64 (z 0), .int .i64 (z 1), .int .i64 (z 2), .int .i64 (z 3)] ∧ ∀ j, j < 4 → -9223372036854775808 ≤ z j ∧ z j ≤ 9223372036854775807 := by
  obtain ⟨y0, y1, y2, y3, n, _, hl, g0, g1, g2, g3⟩ := Joins.trod_struct4 T.hI h
  rw [T.cI] at hl
  match cs, hl with
  | [c0, c1, c2, c3], _ =>
    rw [T.h0.1, T.h0.2, T.cN] at g0
    rw [T.h1.1, T.h1.2, T.cN] at g1
    rw [T.h2.1, T.h2.2, T.cN] at g2
    rw [T.h3.1, T.h3.2, T.cN] at g3
    obtain ⟨a0, e0, _, w0⟩ := DataW.trod_int T.hN g0
    obtain ⟨a1, e1, _, w1⟩ := DataW.trod_int T.hN g1
    obtain ⟨a2, e2, _, w2⟩ := DataW.trod_int T.hN g2
    obtain ⟨a3, e3, _, w3⟩ := DataW.trod_int T.hN g3
    simp at e0 e1 e2 e3
    subst e0 e1 e2 e3
    refine ⟨fun j => if j = 0 then a0 else if j = 1 then a1 else if j = 2 then a2 else a3, by simp, fun j hj => ?_⟩
    have b0 := bounds_i64 w0
    have b1 := bounds_i64 w1
    have b2 := bounds_i64 w2
    have b3 := bounds_i64 w3
    match j, hj with
    | 0, _ => exact b0
    | 1, _ => exact b1
    | 2, _ => exact b2
    | 3, _ => exact b3

theorem open_row (T : ProgTypes P tP tKK tK tI tN f f0 f1 f2 f3) {fuel : Nat} {v : Value} {x : DataW H × List MemPlace} (h : DataW.trod enc P w base (fun _ => true) held fuel tK [v] = some x) :
    ∃ y : Option Addr × Nat × Nat × (Nat → Nat → Int), v = .slice y.1 y.2.1 y.2.2.1 ∧ RowAt w y.1 y.2.1 y.2.2.2 ∧ (∀ i, i < y.2.1 → ∀ j, j < 4 → -9223372036854775808 ≤ y.2.2.2 i j ∧ y.2.2.2 i j ≤ 9223372036854775807) ∧
      ((∀ n ∈ x.1.weights P tK, n ≤ reachBytes) → 32 * y.2.1 ≤ 140737488351232) := by
  rcases open_slice T.hK h with ⟨hcs, hx⟩ | ⟨a, len, cap, m, n, D, Pl, hcs, _, hl, hm, hmm, hx, hel⟩
  · simp at hcs
    subst hcs
    exact ⟨(none, 0, 0, fun _ _ => 0), rfl, fun i hi => absurd hi (Nat.not_lt_zero _), fun i hi => absurd hi (Nat.not_lt_zero _), fun _ => by show 32 * 0 ≤ 140737488351232; omega⟩
  · simp only [List.cons.injEq, and_true] at hcs
    subst hcs
    simp only [if_true] at hmm
    rw [T.cI] at hel
    obtain ⟨z, hz⟩ := choose_lt (α := Nat → Int) (n := m) (p := fun i z => w.cells? base (a.add (i * 4)) 4 = some [.int .i64 (z 0), .int .i64 (z 1), .int .i64 (z 2), .int .i64 (z 3)] ∧ ∀ j, j < 4 → -9223372036854775808 ≤ z j ∧ z j ≤ 9223372036854775807) (fun i hi => by
      obtain ⟨cs', hc, ht⟩ := hel i hi
      obtain ⟨z, rfl, hb⟩ := open_ins T ht
      exact ⟨z, hc, hb⟩)
    refine ⟨(some a, len, cap, z), rfl, fun i hi => ?_, fun i hi j hj => (hz i (by have : i < len := hi; omega)).2 j hj, fun hw => ?_⟩
    · have hi' : i < len := hi
      obtain ⟨_, _, hc0⟩ := World.cells?_some (hz 0 (by omega)).1
      obtain ⟨_, _, hc⟩ := World.cells?_some (hz i (by omega)).1
      obtain ⟨b, o, sp⟩ := a
      have hsp : sp = none := by
        have := World.cell?_spot ((hc0 0 (by omega)).trans rfl)
        simpa [Addr.add] using this
      subst hsp
      refine ⟨b, o, rfl, fun j hj => ?_⟩
      have := hc j hj
      rw [add_plain, add_plain] at this
      rw [this]
      match j, hj with
      | 0, _ => rfl
      | 1, _ => rfl
      | 2, _ => rfl
      | 3, _ => rfl
    · subst hx
      have := hw ((((List.range len).map D).length + ((List.range (m - len)).map fun j => D (len + j)).length) * P.bytesOf tI) (by simp [DataW.weights, T.hK])
      simp only [List.length_map, List.length_range, T.bI, creach_eq] at this
      show 32 * len ≤ _
      omega

theorem open_prog (T : ProgTypes P tP tKK tK tI tN f f0 f1 f2 f3) {r : Reach} {b0 : Nat} {v : Value} {d : DataW H} {p : List MemPlace} (hv : Value.okWide P w r b0 tP v) (h : DataW.Trod enc P w base (fun _ => true) held tP v d p)
    (hsz : ∀ n ∈ d.weights P tP, n ≤ reachBytes) :
    ∃ (ao : Option Addr) (G cap : Nat) (A : Nat → Option Addr) (L C : Nat → Nat) (X : Nat → Nat → Nat → Int), v = .agg #[.slice ao G cap] ∧ ProgAt w ao G A L C X := by
  obtain ⟨cs, rfl, hcs⟩ := okWide_struct T.hP hv
  rw [T.cP] at hcs
  obtain ⟨l⟩ := cs
  match l, hcs with
  | [c0], _ =>
    obtain ⟨fuel, hf⟩ := h
    obtain ⟨y0, n, hx, _, h0⟩ := trod_struct1 T.hP hf
    rw [T.hf.1, T.hf.2, T.cKK] at h0
    simp only [Value.cells, List.drop_zero, List.take_succ_cons, List.take_zero] at h0
    simp only [Prod.mk.injEq] at hx
    obtain ⟨rfl, rfl⟩ := hx
    have hw0 : ∀ n ∈ y0.1.weights P tKK, n ≤ reachBytes := fun n hn => hsz n (by simp [DataW.weights, T.hP, DataW.weightsEach, T.hf.1, hn])
    rcases open_slice1 T.hKK T.cK h0 with ⟨hcs, _⟩ | ⟨a, len, cap, m, n', V, D, Pl, hcs, _, hl, hm, hmm, hx, hel⟩
    · simp at hcs
      subst hcs
      exact ⟨none, 0, 0, fun _ => none, fun _ => 0, fun _ => 0, fun _ _ _ => 0, rfl, fun r hr => absurd hr (Nat.not_lt_zero _), fun r hr => absurd hr (Nat.not_lt_zero _), by omega, fun r hr => absurd hr (Nat.not_lt_zero _), fun r hr => absurd hr (Nat.not_lt_zero _)⟩
    · simp only [List.cons.injEq, and_true] at hcs
      subst hcs
      simp only [if_true] at hmm
      obtain ⟨y, hy⟩ := choose_lt (α := Option Addr × Nat × Nat × (Nat → Nat → Int)) (n := len) (p := fun r y => V r = .slice y.1 y.2.1 y.2.2.1 ∧ RowAt w y.1 y.2.1 y.2.2.2 ∧ (∀ i, i < y.2.1 → ∀ j, j < 4 → -9223372036854775808 ≤ y.2.2.2 i j ∧ y.2.2.2 i j ≤ 9223372036854775807) ∧
        ((∀ n ∈ (D r).weights P tK, n ≤ reachBytes) → 32 * y.2.1 ≤ 140737488351232)) (fun r hr => open_row T (hel r (by omega)).2)
      subst hx
      refine ⟨some a, len, cap, fun r => (y r).1, fun r => (y r).2.1, fun r => (y r).2.2.1, fun r => (y r).2.2.2, rfl, fun r hr => ?_, fun r hr => (hy r hr).2.1, ?_, fun r hr => ?_, fun r hr => (hy r hr).2.2.1⟩
      · obtain ⟨b, o, sp⟩ := a
        have hc := (hel r (by omega)).1
        have hsp : sp = none := by
          have := World.cell?_spot (hel 0 (by omega)).1
          simpa [Addr.add] using this
        subst hsp
        rw [add_plain, (hy r hr).1] at hc
        exact ⟨b, o, rfl, hc⟩
      · have := hw0 ((((List.range len).map D).length + ((List.range (m - len)).map fun j => D (len + j)).length) * P.bytesOf tK) (by simp [DataW.weights, T.hKK])
        simp only [List.length_map, List.length_range, T.bK, creach_eq] at this
        omega
      · have := (hy r hr).2.2.2 (fun n hn => hw0 n (by
          simp only [DataW.weights, T.hKK, List.mem_cons, List.mem_append]
          exact Or.inr (Or.inl (cweightsAll_mem (List.mem_map.2 ⟨r, List.mem_range.2 hr, rfl⟩) n hn))))
        show 32 * (y r).2.1 ≤ _
        omega

end
end Go.Proofs.YtahcgnmhhgcfmaaDoor

/- The bytes of a number, an instruction, a behavior, a program, as plain functions. -/
namespace Go.Proofs.YtahcgnmhhgcfmaaDoor

/-- A number that is not below 0, by seven bits, the lowest first (in at most k bytes). -/
def sev : Nat → Int → List Int
  | 0, _ => []
  | k + 1, n => if n < 128 then [n] else (n % 128 + 128) :: sev k (n / 128)

def zig (n : Int) : Int := if n < 0 then -2 * n - 1 else 2 * n

def insBytes (op a b n : Int) : List Int := [op] ++ ((if aOf op then [a + 8 * b] else []) ++ (if nOf op then sev 7 (zig n) else []))

def rowBytes (x : Nat → Nat → Int) (i : Nat) : List Int := (List.range i).flatMap fun j => insBytes (x j 0) (x j 1) (x j 2) (x j 3)

def kindBytes (L : Nat → Nat) (X : Nat → Nat → Nat → Int) (r : Nat) : List Int := (List.range r).flatMap fun k => (L k : Int) :: rowBytes (X k) (L k)

def progBytes (G : Nat) (L : Nat → Nat) (X : Nat → Nat → Nat → Int) (r : Nat) : List Int := [116, 119, (G : Int)] ++ kindBytes L X r

theorem rowBytes_succ (x : Nat → Nat → Int) (i : Nat) : rowBytes x (i + 1) = rowBytes x i ++ insBytes (x i 0) (x i 1) (x i 2) (x i 3) := by
  simp [rowBytes, List.range_succ, List.flatMap_append]

theorem progBytes_succ (G : Nat) (L : Nat → Nat) (X : Nat → Nat → Nat → Int) (r : Nat) : progBytes G L X (r + 1) = progBytes G L X r ++ ([(L r : Int)] ++ rowBytes (X r) (L r)) := by
  simp [progBytes, kindBytes, List.range_succ, List.flatMap_append]

theorem sev_length (k : Nat) (n : Int) : (sev k n).length ≤ k := by
  induction k generalizing n with
  | zero => simp [sev]
  | succ k ih =>
    unfold sev
    split
    · simp
    · have := ih (n / 128)
      simp
      omega

theorem insBytes_length (op a b n : Int) : (insBytes op a b n).length ≤ 9 := by
  have := sev_length 7 (zig n)
  unfold insBytes
  simp only [List.length_append]
  have h1 : (if aOf op then [a + 8 * b] else []).length ≤ 1 := by split <;> simp
  have h2 : (if nOf op then sev 7 (zig n) else []).length ≤ 7 := by
    split
    · omega
    · simp
  simp
  omega

theorem rowBytes_length (x : Nat → Nat → Int) (i : Nat) : (rowBytes x i).length ≤ 9 * i := by
  induction i with
  | zero => simp [rowBytes]
  | succ i ih =>
    rw [rowBytes_succ, List.length_append]
    have := insBytes_length (x i 0) (x i 1) (x i 2) (x i 3)
    omega

theorem progBytes_length (G : Nat) (L : Nat → Nat) (X : Nat → Nat → Nat → Int) (r : Nat) (h : ∀ k, k < r → L k ≤ 60) : (progBytes G L X r).length ≤ 3 + 541 * r := by
  induction r with
  | zero => simp [progBytes, kindBytes]
  | succ r ih =>
    rw [progBytes_succ]
    simp only [List.length_append]
    have h1 := ih (fun k hk => h k (by omega))
    have h2 := rowBytes_length (X r) (L r)
    have h3 := h r (by omega)
    simp
    omega

theorem first_zero (f : Nat → Int) (n i : Nat) (h : first f n i = 0) : ∀ j, j < n → f (i + j) = 0 := by
  induction n generalizing i with
  | zero => intro j hj; omega
  | succ n ih =>
    unfold first at h
    split at h
    · rename_i h1; exact absurd h h1
    · rename_i h1
      intro j hj
      cases j with
      | zero => simpa using h1
      | succ j =>
        have := ih (i + 1) h j (by omega)
        rwa [show i + 1 + j = i + (j + 1) by omega] at this

theorem row_ok {kinds many : Nat} {x : Nat → Nat → Int} (h : rowFault kinds many x = 0) : 1 ≤ many ∧ many ≤ 60 ∧ ∀ i, i < many → insFault kinds many i (x i 0) (x i 1) (x i 2) (x i 3) = 0 := by
  unfold rowFault at h
  split at h
  · omega
  · refine ⟨by omega, by omega, fun i hi => ?_⟩
    have := first_zero _ _ _ h i hi
    simpa using this

theorem prog_ok {G : Nat} {L : Nat → Nat} {X : Nat → Nat → Nat → Int} (h : progFault G L X = 0) : 1 ≤ G ∧ G ≤ 6 ∧ ∀ r, r < G → rowFault G (L r) (X r) = 0 := by
  unfold progFault at h
  split at h
  · omega
  · split at h
    · omega
    · refine ⟨by omega, by omega, fun r hr => ?_⟩
      have := first_zero _ _ _ h r hr
      simpa using this

theorem ins_ok {kinds many place op a b n : Int} (h : insFault kinds many place op a b n = 0) : 0 ≤ op ∧ op ≤ 19 ∧ 0 ≤ a ∧ a ≤ 7 ∧ 0 ≤ b ∧ b ≤ 7 ∧ -1099511627776 ≤ n ∧ n ≤ 1099511627776 := by
  unfold insFault at h
  split at h
  · rename_i h1; exact absurd h h1
  · rename_i h1
    have hp : partsFault op a b n = 0 := by simpa using h1
    clear h h1
    unfold partsFault at hp
    split at hp
    · omega
    · rename_i h1
      split at hp
      · omega
      · rename_i h2
        simp only [not_or] at h2
        obtain ⟨ha, hb, hl, hh⟩ := h2
        simp [okOp] at h1
        simp [okReg] at ha hb
        unfold loOf at hl
        unfold hiOf at hh
        refine ⟨h1.1, h1.2, ha.1, ha.2, hb.1, hb.2, ?_, ?_⟩
        · split at hl
          · omega
          · split at hl
            · omega
            · split at hl <;> omega
        · split at hh
          · omega
          · split at hh
            · omega
            · split at hh
              · omega
              · split at hh
                · omega
                · split at hh <;> omega

theorem zig_bd {n : Int} (h1 : -1099511627776 ≤ n) (h2 : n ≤ 1099511627776) : 0 ≤ zig n ∧ zig n ≤ 2199023255552 := by
  unfold zig; split <;> omega

theorem sev_small (k : Nat) (n : Int) (h : n < 128) : sev (k + 1) n = [n] := by simp [sev, h]
theorem sev_big (k : Nat) (n : Int) (h : ¬ n < 128) : sev (k + 1) n = (n % 128 + 128) :: sev k (n / 128) := by simp [sev, h]

end Go.Proofs.YtahcgnmhhgcfmaaDoor

/- Reading a program out of bytes, as plain functions of the bytes and the place: what is read, the fault, the place behind it. -/
namespace Go.Proofs.YtahcgnmhhgcfmaaDoor

def rdNext (bs : List Int) (k : Nat) : Int × Int × Nat := if k < bs.length then (bs.getD k 0, 0, k + 1) else (0, 5, k)

/-- The two first bytes. -/
def rdBegin (bs : List Int) (k : Nat) : Int × Nat :=
  if (rdNext bs k).2.1 ≠ 0 then ((rdNext bs k).2.1, (rdNext bs k).2.2)
  else if (rdNext bs k).1 ≠ 116 then (4, (rdNext bs k).2.2)
  else if (rdNext bs (rdNext bs k).2.2).2.1 ≠ 0 then ((rdNext bs (rdNext bs k).2.2).2.1, (rdNext bs (rdNext bs k).2.2).2.2)
  else if (rdNext bs (rdNext bs k).2.2).1 ≠ 119 then (4, (rdNext bs (rdNext bs k).2.2).2.2)
  else (0, (rdNext bs (rdNext bs k).2.2).2.2)

/-- A and B in a byte. -/
def rdRegs (bs : List Int) (k : Nat) : Int × Int × Int × Nat :=
  if (rdNext bs k).2.1 ≠ 0 then (0, 0, (rdNext bs k).2.1, (rdNext bs k).2.2)
  else if 64 ≤ (rdNext bs k).1 then (0, 0, 4, (rdNext bs k).2.2)
  else ((rdNext bs k).1 % 8, (rdNext bs k).1 / 8, 0, (rdNext bs k).2.2)

def unzig (s : Int) : Int := if s % 2 = 1 then -((s + 1) / 2) else s / 2

/-- A number, of which i bytes are read already, f more may come. -/
def rdNum (bs : List Int) : Nat → Nat → Int → Int → Nat → Int × Int × Nat
  | 0, _, _, _, k => (0, 4, k)
  | f + 1, i, s, p, k =>
    if (rdNext bs k).2.1 ≠ 0 then (0, (rdNext bs k).2.1, (rdNext bs k).2.2)
    else if 128 ≤ (rdNext bs k).1 then rdNum bs f (i + 1) (s + (rdNext bs k).1 % 128 * p) (p * 128) (rdNext bs k).2.2
    else if (rdNext bs k).1 = 0 ∧ 0 < i then (0, 4, (rdNext bs k).2.2)
    else (unzig (s + (rdNext bs k).1 % 128 * p), 0, (rdNext bs k).2.2)

structure Ins where
  op : Int
  a : Int
  b : Int
  n : Int

def noIns : Ins := ⟨0, 0, 0, 0⟩

/-- The registers of an instruction, if it has any. -/
def rdAB (bs : List Int) (op : Int) (k : Nat) : Int × Int × Int × Nat := if aOf op then rdRegs bs k else (0, 0, 0, k)
def rdN (bs : List Int) (op : Int) (k : Nat) : Int × Int × Nat := if nOf op then rdNum bs 6 0 0 1 k else (0, 0, k)

def rdIns (bs : List Int) (k : Nat) : Ins × Int × Nat :=
  if (rdNext bs k).2.1 ≠ 0 then (noIns, (rdNext bs k).2.1, (rdNext bs k).2.2)
  else if okOp (rdNext bs k).1 = false then (noIns, 3, (rdNext bs k).2.2)
  else if (rdAB bs (rdNext bs k).1 (rdNext bs k).2.2).2.2.1 ≠ 0 then (noIns, (rdAB bs (rdNext bs k).1 (rdNext bs k).2.2).2.2.1, (rdAB bs (rdNext bs k).1 (rdNext bs k).2.2).2.2.2)
  else if (rdN bs (rdNext bs k).1 (rdAB bs (rdNext bs k).1 (rdNext bs k).2.2).2.2.2).2.1 ≠ 0 then (noIns, (rdN bs (rdNext bs k).1 (rdAB bs (rdNext bs k).1 (rdNext bs k).2.2).2.2.2).2.1, (rdN bs (rdNext bs k).1 (rdAB bs (rdNext bs k).1 (rdNext bs k).2.2).2.2.2).2.2)
  else (⟨(rdNext bs k).1, (rdAB bs (rdNext bs k).1 (rdNext bs k).2.2).1, (rdAB bs (rdNext bs k).1 (rdNext bs k).2.2).2.1, (rdN bs (rdNext bs k).1 (rdAB bs (rdNext bs k).1 (rdNext bs k).2.2).2.2.2).1⟩, 0,
    (rdN bs (rdNext bs k).1 (rdAB bs (rdNext bs k).1 (rdNext bs k).2.2).2.2.2).2.2)

section
variable {bs : List Int} {k k1 k2 k3 : Nat} {q a b n er : Int}
theorem rdIns_ab (h : rdNext bs k = (q, 0, k1)) (ho : okOp q = true) (hab : rdAB bs q k1 = (a, b, er, k2)) (he : er ≠ 0) : rdIns bs k = (noIns, er, k2) := by
  simp [rdIns, h, ho, hab, he]
theorem rdIns_n (h : rdNext bs k = (q, 0, k1)) (ho : okOp q = true) (hab : rdAB bs q k1 = (a, b, 0, k2)) (hn : rdN bs q k2 = (n, er, k3)) (he : er ≠ 0) : rdIns bs k = (noIns, er, k3) := by
  simp [rdIns, h, ho, hab, hn, he]
theorem rdIns_ok (h : rdNext bs k = (q, 0, k1)) (ho : okOp q = true) (hab : rdAB bs q k1 = (a, b, 0, k2)) (hn : rdN bs q k2 = (n, 0, k3)) : rdIns bs k = (⟨q, a, b, n⟩, 0, k3) := by
  simp [rdIns, h, ho, hab, hn]
end

/-- So many instructions more, behind those that are read. -/
def rdInss (bs : List Int) : Nat → List Ins → Nat → List Ins × Int × Nat
  | 0, l, k => (l, 0, k)
  | f + 1, l, k => if (rdIns bs k).2.1 ≠ 0 then ([], (rdIns bs k).2.1, (rdIns bs k).2.2) else rdInss bs f (l ++ [(rdIns bs k).1]) (rdIns bs k).2.2

def rdRow (bs : List Int) (k : Nat) : List Ins × Int × Nat :=
  if (rdNext bs k).2.1 ≠ 0 then ([], (rdNext bs k).2.1, (rdNext bs k).2.2) else rdInss bs (rdNext bs k).1.toNat [] (rdNext bs k).2.2

def rdRows (bs : List Int) : Nat → List (List Ins) → Nat → List (List Ins) × Int × Nat
  | 0, l, k => (l, 0, k)
  | f + 1, l, k => if (rdRow bs k).2.1 ≠ 0 then ([], (rdRow bs k).2.1, (rdRow bs k).2.2) else rdRows bs f (l ++ [(rdRow bs k).1]) (rdRow bs k).2.2

def rdProg (bs : List Int) (k : Nat) : List (List Ins) × Int × Nat :=
  if (rdNext bs k).2.1 ≠ 0 then ([], (rdNext bs k).2.1, (rdNext bs k).2.2) else rdRows bs (rdNext bs k).1.toNat [] (rdNext bs k).2.2

def rdAll (bs : List Int) : List (List Ins) × Int :=
  if (rdBegin bs 0).1 ≠ 0 then ([], (rdBegin bs 0).1)
  else if (rdProg bs (rdBegin bs 0).2).2.1 ≠ 0 then ([], (rdProg bs (rdBegin bs 0).2).2.1)
  else if (rdProg bs (rdBegin bs 0).2).2.2 < bs.length then ([], 4)
  else ((rdProg bs (rdBegin bs 0).2).1, 0)

end Go.Proofs.YtahcgnmhhgcfmaaDoor

/- What is known of registers, round by round, as lists: plain functions, and that the rounds end. -/
namespace Go.Proofs.YtahcgnmhhgcfmaaDoor

def vObj (t : Int) : Bool := decide (2 ≤ t) && decide (t ≤ 3)
def vJoin (a b : Int) : Int := if a = b then a else if vObj a = true ∧ vObj b = true then 2 else 0
def vAt (k : List Int) (r : Int) : Int := (k[r.toNat]?).getD 0
def vPut (k : List Int) (r x : Int) : List Int := k.set r.toNat x

/-- What is known behind an instruction. -/
def vBehind (op a b : Int) (k : List Int) : List Int :=
  if op = 1 ∨ op = 2 ∨ op = 3 ∨ op = 4 ∨ op = 8 ∨ op = 16 then vPut k a 1
  else if op = 7 then vPut k a 3
  else if op = 10 then vPut (vPut k a 2) b 2
  else if op = 11 then (if a = b ∨ vAt k b = 2 then vPut k a 2 else vPut k b 0)
  else if op = 12 then vPut (if vAt k b = 3 then vPut k b 0 else k) a (vAt k b)
  else if op = 13 ∨ op = 18 then vPut k a 0
  else if op = 17 then vPut (vPut k b 0) a 1
  else k

/-- Where an instruction may go on. -/
def vGoes (op n place : Int) : List Int :=
  if op = 0 ∨ op = 19 then [] else if op = 6 then [place + n] else if op = 5 then [place + 1, place + n] else [place + 1]

/-- May it be done? -/
def vMayDo (op a b : Int) (k : List Int) : Bool :=
  if op = 0 then vObj (vAt k 0)
  else if op = 2 ∨ op = 3 ∨ op = 4 then decide (vAt k a = 1) && decide (vAt k b = 1)
  else if op = 5 ∨ op = 15 then decide (vAt k a = 1)
  else if op = 8 ∨ op = 10 then vObj (vAt k b)
  else if op = 9 ∨ op = 14 then vObj (vAt k a) && decide (vAt k b = 1)
  else if op = 11 then vObj (vAt k a) && vObj (vAt k b)
  else if op = 12 then decide (vAt k b ≠ 0)
  else if op = 13 then decide (vAt k a = 3) && decide (vAt k b = 1)
  else if op = 17 then decide (vAt k b = 3)
  else true

abbrev Pt := Option (List Int)

def vCome (p : Pt) (on : List Int) : Pt := match p with
  | none => some on
  | some k => some (List.zipWith vJoin k on)

def vPt (st : List Pt) (i : Nat) : Pt := (st[i]?).getD none

def vTo (on : List Int) (st : List Pt) (to : Int) : List Pt := st.set to.toNat (vCome (vPt st to.toNat) on)

/-- One instruction's turn. -/
def vTurn (x : Nat → Nat → Int) (st : List Pt) (i : Nat) : List Pt := match vPt st i with
  | none => st
  | some k => (vGoes (x i 0) (x i 3) i).foldl (vTo (vBehind (x i 0) (x i 1) (x i 2) k)) st

/-- The first i instructions of a round. -/
def vTurns (x : Nat → Nat → Int) (st : List Pt) (i : Nat) : List Pt := (List.range i).foldl (vTurn x) st

def vRound (x : Nat → Nat → Int) (L : Nat) (st : List Pt) : List Pt := vTurns x st L

def vStart (L : Nat) : List Pt := (List.replicate L none).set 0 (some [3, 3, 0, 0, 0, 0, 0, 0])

def vIter (x : Nat → Nat → Int) (L : Nat) : Nat → List Pt → List Pt
  | 0, st => st
  | n + 1, st => vIter x L n (vRound x L st)

/-- The rounds from the start on come to st, and stay there. -/
def IsFlow (x : Nat → Nat → Int) (L : Nat) (st : List Pt) : Prop := (∃ n, st = vIter x L n (vStart L)) ∧ vRound x L st = st

theorem vIter_fix {x : Nat → Nat → Int} {L : Nat} {st : List Pt} (h : vRound x L st = st) : ∀ n, vIter x L n st = st
  | 0 => rfl
  | n + 1 => by rw [vIter, h]; exact vIter_fix h n

theorem vIter_add (x : Nat → Nat → Int) (L : Nat) : ∀ (n m : Nat) (st : List Pt), vIter x L (n + m) st = vIter x L m (vIter x L n st)
  | 0, m, st => by rw [Nat.zero_add]; rfl
  | n + 1, m, st => by rw [Nat.succ_add, vIter, vIter]; exact vIter_add x L n m _

theorem vIter_succ (x : Nat → Nat → Int) (L n : Nat) (st : List Pt) : vIter x L (n + 1) st = vRound x L (vIter x L n st) := vIter_add x L n 1 st

theorem IsFlow.one {x : Nat → Nat → Int} {L : Nat} {a b : List Pt} (ha : IsFlow x L a) (hb : IsFlow x L b) : a = b := by
  obtain ⟨⟨n, rfl⟩, fa⟩ := ha
  obtain ⟨⟨m, rfl⟩, fb⟩ := hb
  rcases Nat.le_total n m with h | h
  · obtain ⟨d, rfl⟩ := Nat.exists_eq_add_of_le h
    rw [vIter_add, vIter_fix fa]
  · obtain ⟨d, rfl⟩ := Nat.exists_eq_add_of_le h
    rw [vIter_add, vIter_fix fb]

theorem vTurns_succ (x : Nat → Nat → Int) (st : List Pt) (i : Nat) : vTurns x st (i + 1) = vTurn x (vTurns x st i) i := by simp [vTurns, List.range_succ]

/-- L points, eight registers each. -/
def VGood (L : Nat) (st : List Pt) : Prop := st.length = L ∧ ∀ k, some k ∈ st → k.length = 8

theorem vPut_length (k : List Int) (r x : Int) : (vPut k r x).length = k.length := by simp [vPut]

theorem vBehind_length (op a b : Int) (k : List Int) : (vBehind op a b k).length = k.length := by
  unfold vBehind
  repeat' split
  all_goals simp [vPut_length]

theorem VGood.pt {L : Nat} {st : List Pt} (h : VGood L st) {i : Nat} {k : List Int} (hk : vPt st i = some k) : k.length = 8 := by
  unfold vPt at hk
  cases hi : st[i]? with
  | none => simp [hi] at hk
  | some p =>
    simp [hi] at hk
    subst hk
    exact h.2 k (List.mem_of_getElem? hi)

theorem VGood.set {L : Nat} {st : List Pt} (h : VGood L st) (i : Nat) {p : Pt} (hp : ∀ k, p = some k → k.length = 8) : VGood L (st.set i p) := by
  refine ⟨by simp [h.1], fun k hk => ?_⟩
  rcases List.mem_or_eq_of_mem_set hk with hk | hk
  · exact h.2 k hk
  · exact hp k hk.symm

theorem vCome_length {p : Pt} {on : List Int} (hp : ∀ k, p = some k → k.length = 8) (ho : on.length = 8) : ∀ k, vCome p on = some k → k.length = 8 := by
  intro k hk
  cases p with
  | none => simp [vCome] at hk; subst hk; exact ho
  | some q => simp [vCome] at hk; subst hk; simp [hp q rfl, ho]

theorem VGood.to {L : Nat} {st : List Pt} (h : VGood L st) {on : List Int} (ho : on.length = 8) (to : Int) : VGood L (vTo on st to) :=
  h.set _ (vCome_length (fun _ hk => h.pt hk) ho)

theorem VGood.tos {L : Nat} {on : List Int} (ho : on.length = 8) : ∀ (tos : List Int) {st : List Pt}, VGood L st → VGood L (tos.foldl (vTo on) st)
  | [], _, h => h
  | t :: r, _, h => VGood.tos ho r (h.to ho t)

theorem VGood.turn {L : Nat} {st : List Pt} (h : VGood L st) (x : Nat → Nat → Int) (i : Nat) : VGood L (vTurn x st i) := by
  unfold vTurn
  cases hi : vPt st i with
  | none => exact h
  | some k => exact VGood.tos (by rw [vBehind_length]; exact h.pt hi) _ h

theorem VGood.turns {L : Nat} {st : List Pt} (h : VGood L st) (x : Nat → Nat → Int) : ∀ i, VGood L (vTurns x st i)
  | 0 => h
  | i + 1 => by rw [vTurns_succ]; exact (VGood.turns h x i).turn x i

theorem vgood_start (L : Nat) : VGood L (vStart L) := by
  refine VGood.set ⟨by simp, fun k hk => ?_⟩ 0 (fun k hk => by simp at hk; subst hk; rfl)
  simp at hk

/-- How much more can be forgotten. -/
def vHt (x : Int) : Nat := if x = 0 then 0 else if x = 3 then 2 else 1
def vHts (k : List Int) : Nat := (k.map vHt).sum
def vHp (p : Pt) : Nat := match p with
  | none => 17
  | some k => vHts k
def vMu (st : List Pt) : Nat := (st.map vHp).sum

theorem vHt_le (x : Int) : vHt x ≤ 2 := by unfold vHt; split <;> (try split) <;> omega

theorem vHts_le : ∀ k : List Int, vHts k ≤ 2 * k.length
  | [] => Nat.le_refl _
  | x :: r => by
    have h1 := vHt_le x
    have h2 := vHts_le r
    simp only [vHts, List.map_cons, List.sum_cons, List.length_cons] at *
    omega

theorem vJoin_ht (a b : Int) : vHt (vJoin a b) ≤ vHt a ∧ (vJoin a b ≠ a → vHt (vJoin a b) < vHt a) := by
  unfold vJoin
  by_cases h : a = b
  · simp [h]
  · rw [if_neg h]
    by_cases ho : vObj a = true ∧ vObj b = true
    · rw [if_pos ho]
      simp only [vObj, Bool.and_eq_true, decide_eq_true_eq] at ho
      by_cases h3 : a = 3
      · subst h3; simp [vHt]
      · have : a = 2 := by omega
        subst this; simp
    · rw [if_neg ho]
      by_cases h0 : a = 0
      · subst h0; simp
      · have h1 : vHt 0 = 0 := rfl
        have h2 : 0 < vHt a := by unfold vHt; rw [if_neg h0]; split <;> omega
        omega

theorem vJoins_ht : ∀ (k on : List Int), k.length = on.length → vHts (List.zipWith vJoin k on) ≤ vHts k ∧ (List.zipWith vJoin k on ≠ k → vHts (List.zipWith vJoin k on) < vHts k)
  | [], [], _ => by simp [vHts]
  | a :: k, b :: on, h => by
    have ih := vJoins_ht k on (by simpa using h)
    have hj := vJoin_ht a b
    have e1 : vHts (vJoin a b :: List.zipWith vJoin k on) = vHt (vJoin a b) + vHts (List.zipWith vJoin k on) := by simp [vHts]
    have e2 : vHts (a :: k) = vHt a + vHts k := by simp [vHts]
    simp only [List.zipWith_cons_cons]
    rw [e1, e2]
    refine ⟨by omega, fun hne => ?_⟩
    by_cases ha : vJoin a b = a
    · have : List.zipWith vJoin k on ≠ k := fun e => hne (by rw [ha, e])
      have := ih.2 this
      omega
    · have := hj.2 ha
      omega

theorem vCome_ht {p : Pt} {on : List Int} (hp : ∀ k, p = some k → k.length = 8) (ho : on.length = 8) : vHp (vCome p on) ≤ vHp p ∧ (vCome p on ≠ p → vHp (vCome p on) < vHp p) := by
  cases p with
  | none =>
    have := vHts_le on
    simp only [vCome, vHp]
    omega
  | some k =>
    have := vJoins_ht k on (by rw [hp k rfl, ho])
    simp only [vCome, vHp]
    exact ⟨this.1, fun h => this.2 (fun e => h (by rw [e]))⟩

theorem sum_set : ∀ (l : List Nat) (i y : Nat) (hi : i < l.length), (l.set i y).sum + l[i] = l.sum + y
  | a :: r, 0, y, _ => by simp; omega
  | a :: r, i + 1, y, hi => by
    have := sum_set r i y (by simpa using hi)
    simp only [List.set_cons_succ, List.sum_cons, List.getElem_cons_succ]
    omega

theorem vTo_mu {L : Nat} {st : List Pt} (h : VGood L st) {on : List Int} (ho : on.length = 8) (to : Int) : vMu (vTo on st to) ≤ vMu st ∧ (vTo on st to ≠ st → vMu (vTo on st to) < vMu st) := by
  unfold vTo
  by_cases hi : to.toNat < st.length
  · have hp : vPt st to.toNat = st[to.toNat] := by simp [vPt, hi]
    have hc := vCome_ht (p := vPt st to.toNat) (on := on) (fun _ hk => h.pt hk) ho
    have hs := sum_set (st.map vHp) to.toNat (vHp (vCome (vPt st to.toNat) on)) (by simpa using hi)
    rw [← List.map_set] at hs
    simp only [List.getElem_map, ← hp] at hs
    unfold vMu
    refine ⟨by omega, fun hne => ?_⟩
    have := hc.2 (fun e => hne (by rw [e, hp]; simp))
    omega
  · rw [List.set_eq_of_length_le (by omega)]
    exact ⟨Nat.le_refl _, fun h => absurd rfl h⟩

theorem vTos_mu {L : Nat} {on : List Int} (ho : on.length = 8) : ∀ (tos : List Int) {st : List Pt}, VGood L st → vMu (tos.foldl (vTo on) st) ≤ vMu st ∧ (tos.foldl (vTo on) st ≠ st → vMu (tos.foldl (vTo on) st) < vMu st)
  | [], st, h => ⟨Nat.le_refl _, fun e => absurd rfl e⟩
  | t :: r, st, h => by
    have h1 := vTo_mu h ho t
    have h2 := vTos_mu ho r (h.to ho t)
    simp only [List.foldl_cons]
    refine ⟨Nat.le_trans h2.1 h1.1, fun hne => ?_⟩
    by_cases e : vTo on st t = st
    · rw [e] at h2 hne ⊢
      exact h2.2 hne
    · exact Nat.lt_of_le_of_lt h2.1 (h1.2 e)

theorem vTurn_mu {L : Nat} {st : List Pt} (h : VGood L st) (x : Nat → Nat → Int) (i : Nat) : vMu (vTurn x st i) ≤ vMu st ∧ (vTurn x st i ≠ st → vMu (vTurn x st i) < vMu st) := by
  unfold vTurn
  cases hi : vPt st i with
  | none => exact ⟨Nat.le_refl _, fun e => absurd rfl e⟩
  | some k => exact vTos_mu (by rw [vBehind_length]; exact h.pt hi) _ h

theorem vTurns_mu {L : Nat} {st : List Pt} (h : VGood L st) (x : Nat → Nat → Int) : ∀ i, vMu (vTurns x st i) ≤ vMu st ∧ (vTurns x st i ≠ st → vMu (vTurns x st i) < vMu st)
  | 0 => ⟨Nat.le_refl _, fun e => absurd rfl e⟩
  | i + 1 => by
    have h1 := vTurns_mu h x i
    have h2 := vTurn_mu (VGood.turns h x i) x i
    rw [vTurns_succ]
    refine ⟨Nat.le_trans h2.1 h1.1, fun hne => ?_⟩
    by_cases e : vTurns x st i = st
    · rw [e] at h2 hne ⊢
      exact h2.2 hne
    · exact Nat.lt_of_le_of_lt h2.1 (h1.2 e)

theorem vMu_le {L : Nat} {st : List Pt} (h : VGood L st) : vMu st ≤ 17 * L := by
  obtain ⟨rfl, h8⟩ := h
  induction st with
  | nil => simp [vMu]
  | cons p r ih =>
    have ih' := ih (fun k hk => h8 k (by simp [hk]))
    have hp : vHp p ≤ 17 := by
      cases p with
      | none => exact Nat.le_refl _
      | some k =>
        have h1 := vHts_le k
        have h2 := h8 k (by simp)
        simp only [vHp]
        omega
    simp only [vMu, List.map_cons, List.sum_cons, List.length_cons] at ih' ⊢
    omega

end Go.Proofs.YtahcgnmhhgcfmaaDoor

/- What a verifier says of a program, as plain functions: the flow of each behavior, the first instruction that may not be done. -/
namespace Go.Proofs.YtahcgnmhhgcfmaaDoor

/-- What an instruction is like that may be. -/
structure InsOk (G many place : Int) (i : Ins) : Prop where
  op : 0 ≤ i.op ∧ i.op ≤ 19
  a : 0 ≤ i.a ∧ i.a ≤ 7
  b : 0 ≤ i.b ∧ i.b ≤ 7
  n : loOf i.op ≤ i.n ∧ i.n ≤ hiOf i.op
  jump : i.op = 5 ∨ i.op = 6 → 0 ≤ place + i.n ∧ place + i.n < many
  spawn : i.op = 17 → i.n < G
  last : place = many - 1 → i.op = 0 ∨ i.op = 19 ∨ i.op = 6

theorem insOk_of {G many place op a b n : Int} (h : insFault G many place op a b n = 0) : InsOk G many place ⟨op, a, b, n⟩ := by
  have hp : partsFault op a b n = 0 := by
    by_cases hp : partsFault op a b n = 0
    · exact hp
    · rw [ins_parts hp] at h; exact h
  have hb : beside op n place many = false := by
    cases hb : beside op n place many with
    | false => rfl
    | true => rw [ins_beside hp hb] at h; omega
  have hs : ¬ (op = 17 ∧ G ≤ n) := fun hs => by rw [ins_spawn hp hs.1 hs.2] at h; omega
  rw [ins_rest hp hb hs] at h
  have hl : ¬ (place = many - 1 ∧ op ≠ 0 ∧ op ≠ 19 ∧ op ≠ 6) := fun hl => by rw [if_pos hl] at h; omega
  unfold partsFault at hp
  by_cases h1 : okOp op = false
  · rw [if_pos h1] at hp; omega
  rw [if_neg h1] at hp
  by_cases h2 : okReg a = false ∨ okReg b = false ∨ n < loOf op ∨ hiOf op < n
  · rw [if_pos h2] at hp; omega
  simp only [okOp, Bool.and_eq_false_iff, decide_eq_false_iff_not] at h1
  simp only [okReg, Bool.and_eq_false_iff, decide_eq_false_iff_not] at h2
  refine ⟨by show 0 ≤ op ∧ op ≤ 19; omega, by show 0 ≤ a ∧ a ≤ 7; omega, by show 0 ≤ b ∧ b ≤ 7; omega, by show loOf op ≤ n ∧ n ≤ hiOf op; omega, fun hj => ?_, fun hj => ?_, fun hj => ?_⟩
  · unfold beside at hb
    have hj' : op = 5 ∨ op = 6 := hj
    have e : (op == 5 || op == 6) = true := by simpa using hj'
    rw [e] at hb
    simp at hb
    show 0 ≤ place + n ∧ place + n < many
    omega
  · have hj' : op = 17 := hj
    show n < G
    omega
  · show op = 0 ∨ op = 19 ∨ op = 6
    omega

/-- A program that is verified; S: what is known in each of its behaviors. -/
structure Ver (G : Nat) (L : Nat → Nat) (X : Nat → Nat → Nat → Int) (S : Nat → List Pt) : Prop where
  rows : ∀ k, k < G → 1 ≤ L k ∧ L k ≤ 60
  ins : ∀ k i, k < G → i < L k → insFault G (L k) i (X k i 0) (X k i 1) (X k i 2) (X k i 3) = 0
  flow : ∀ k, k < G → IsFlow (X k) (L k) (S k)
  may : ∀ k i kk, k < G → i < L k → vPt (S k) i = some kk → vMayDo (X k i 0) (X k i 1) (X k i 2) kk = true

/-- What is known in a behavior, when the rounds have ended. -/
def flowS (x : Nat → Nat → Int) (L : Nat) : List Pt := vIter x L (17 * L + 1) (vStart L)

theorem good_iterS {x : Nat → Nat → Int} {L : Nat} : ∀ (n : Nat) {st : List Pt}, VGood L st → VGood L (vIter x L n st)
  | 0, _, h => h
  | n + 1, _, h => good_iterS n (VGood.turns h x L)

theorem iter_mu {x : Nat → Nat → Int} {L : Nat} : ∀ (n : Nat) {st : List Pt}, VGood L st → vRound x L (vIter x L n st) = vIter x L n st ∨ vMu (vIter x L n st) + n ≤ vMu st
  | 0, st, _ => Or.inr (by show vMu st + 0 ≤ vMu st; omega)
  | n + 1, st, h => by
    rw [vIter_succ]
    have hg := good_iterS (x := x) n h
    by_cases e : vRound x L (vIter x L n st) = vIter x L n st
    · rw [e]; exact Or.inl e
    · have h1 := (vTurns_mu hg x L).2 e
      rcases iter_mu (x := x) n h with h2 | h2
      · exact absurd h2 e
      · refine Or.inr ?_
        have h1' : vMu (vRound x L (vIter x L n st)) < vMu (vIter x L n st) := h1
        omega

theorem flowS_is (x : Nat → Nat → Int) (L : Nat) : IsFlow x L (flowS x L) := by
  refine ⟨⟨_, rfl⟩, ?_⟩
  rcases iter_mu (x := x) (17 * L + 1) (vgood_start L) with h | h
  · exact h
  · have := vMu_le (vgood_start L)
    omega

theorem IsFlow.eq {x : Nat → Nat → Int} {L : Nat} {st : List Pt} (h : IsFlow x L st) : st = flowS x L := h.one (flowS_is x L)

theorem flowS_good (x : Nat → Nat → Int) (L : Nat) : VGood L (flowS x L) := good_iterS _ (vgood_start L)

/-- A behavior that may be. -/
structure RowOk (L : Nat) (x : Nat → Nat → Int) : Prop where
  len : 1 ≤ L ∧ L ≤ 60
  op : ∀ i, i < L → 0 ≤ x i 0 ∧ x i 0 ≤ 19
  a : ∀ i, i < L → 0 ≤ x i 1 ∧ x i 1 ≤ 7
  b : ∀ i, i < L → 0 ≤ x i 2 ∧ x i 2 ≤ 7
  n : ∀ i, i < L → x i 0 = 5 ∨ x i 0 = 6 → -60 ≤ x i 3 ∧ x i 3 ≤ 60
  goes : ∀ i, i < L → ∀ j ∈ vGoes (x i 0) (x i 3) i, 0 ≤ j ∧ j < (L : Int)

theorem first_nought {f : Nat → Int} : ∀ (n i : Nat), first f n i = 0 → ∀ j, i ≤ j → j < i + n → f j = 0
  | 0, i, _, j, h1, h2 => by omega
  | n + 1, i, h, j, h1, h2 => by
    rw [first] at h
    by_cases e : f i ≠ 0
    · rw [if_pos e] at h; exact absurd h e
    · rw [if_neg e] at h
      by_cases hj : j = i
      · subst hj; exact Classical.byContradiction e
      · exact first_nought n (i + 1) h j (by omega) (by omega)

theorem progV_ok {G : Nat} {L : Nat → Nat} {X : Nat → Nat → Nat → Int} (h : progFault G L X = 0) : (1 ≤ G ∧ G ≤ 6) ∧ (∀ r, r < G → 1 ≤ L r ∧ L r ≤ 60) ∧ ∀ r i, r < G → i < L r → insFault G (L r) i (X r i 0) (X r i 1) (X r i 2) (X r i 3) = 0 := by
  unfold progFault at h
  by_cases h0 : G = 0
  · rw [if_pos h0] at h; omega
  rw [if_neg h0] at h
  by_cases h6 : 6 < G
  · rw [if_pos h6] at h; omega
  rw [if_neg h6] at h
  have hr := first_nought G 0 h
  refine ⟨by omega, fun r hrG => ?_, fun r i hrG hi => ?_⟩
  · have := hr r (by omega) (by omega)
    unfold rowFault at this
    by_cases hl : L r < 1 ∨ 60 < L r
    · rw [if_pos hl] at this; omega
    · omega
  · have := hr r (by omega) (by omega)
    unfold rowFault at this
    by_cases hl : L r < 1 ∨ 60 < L r
    · rw [if_pos hl] at this; omega
    · rw [if_neg hl] at this
      exact first_nought (L r) 0 this i (by omega) (by omega)

theorem rowV_ok {G : Nat} {L : Nat → Nat} {X : Nat → Nat → Nat → Int} (h : progFault G L X = 0) {r : Nat} (hr : r < G) : RowOk (L r) (X r) := by
  obtain ⟨_, hl, hi⟩ := progV_ok h
  have I := fun i hi' => insOk_of (hi r i hr hi')
  refine ⟨hl r hr, fun i hi' => (I i hi').op, fun i hi' => (I i hi').a, fun i hi' => (I i hi').b, fun i hi' ho => ?_, fun i hi' j hj => ?_⟩
  · have := (I i hi').n
    have ho' : X r i 0 = 5 ∨ X r i 0 = 6 := ho
    simp only [loOf, hiOf] at this
    rw [if_neg (by omega), if_pos ho'] at this
    rw [if_neg (by omega), if_pos ho'] at this
    exact this
  · unfold vGoes at hj
    by_cases h0 : X r i 0 = 0 ∨ X r i 0 = 19
    · rw [if_pos h0] at hj; cases hj
    rw [if_neg h0] at hj
    by_cases h6 : X r i 0 = 6
    · rw [if_pos h6] at hj
      simp at hj
      subst hj
      exact (I i hi').jump (Or.inr h6)
    rw [if_neg h6] at hj
    have hnl : (i : Int) ≠ (L r : Int) - 1 := fun e => by have := (I i hi').last e; simp only at this; omega
    by_cases h5 : X r i 0 = 5
    · rw [if_pos h5] at hj
      simp at hj
      rcases hj with rfl | rfl
      · omega
      · exact (I i hi').jump (Or.inl h5)
    · rw [if_neg h5] at hj
      simp at hj
      subst hj
      omega

/-- An instruction that may not be done with what is known. -/
def badAt (x : Nat → Nat → Int) (st : List Pt) (i : Nat) : Bool := match vPt st i with
  | none => false
  | some k => !vMayDo (x i 0) (x i 1) (x i 2) k

def firstBad (f : Nat → Bool) : Nat → Nat → Option Nat
  | 0, _ => none
  | n + 1, i => if f i = true then some i else firstBad f n (i + 1)

theorem firstBad_hit (f : Nat → Bool) (n i : Nat) (h : i < n) (hf : f i = true) : firstBad f (n - i) i = some i := by
  obtain ⟨k, hk⟩ : ∃ k, n - i = k + 1 := ⟨n - i - 1, by omega⟩
  rw [hk, firstBad, if_pos hf]

theorem firstBad_pass (f : Nat → Bool) (n i : Nat) (h : i < n) (hf : f i = false) : firstBad f (n - i) i = firstBad f (n - (i + 1)) (i + 1) := by
  obtain ⟨k, hk⟩ : ∃ k, n - i = k + 1 := ⟨n - i - 1, by omega⟩
  rw [hk, firstBad, if_neg (by simp [hf]), show n - (i + 1) = k by omega]

theorem firstBad_none {f : Nat → Bool} : ∀ (n i : Nat), firstBad f n i = none → ∀ j, i ≤ j → j < i + n → f j = false
  | 0, i, _, j, h1, h2 => by omega
  | n + 1, i, h, j, h1, h2 => by
    rw [firstBad] at h
    by_cases e : f i = true
    · rw [if_pos e] at h; cases h
    · rw [if_neg e] at h
      by_cases hj : j = i
      · subst hj; simpa using e
      · exact firstBad_none n (i + 1) h j (by omega) (by omega)

def rowBad (x : Nat → Nat → Int) (L : Nat) : Option Nat := firstBad (badAt x (flowS x L)) L 0

def verRows (L : Nat → Nat) (X : Nat → Nat → Nat → Int) : Nat → Nat → Int × Int × Int
  | 0, _ => (0, 0, 0)
  | n + 1, r => match rowBad (X r) (L r) with
    | some i => ((r : Int), (i : Int), 9)
    | none => verRows L X n (r + 1)

theorem verRows_hit {L : Nat → Nat} {X : Nat → Nat → Nat → Int} {G r i : Nat} (h : r < G) (hb : rowBad (X r) (L r) = some i) : verRows L X (G - r) r = ((r : Int), (i : Int), 9) := by
  obtain ⟨k, hk⟩ : ∃ k, G - r = k + 1 := ⟨G - r - 1, by omega⟩
  rw [hk, verRows, hb]

theorem verRows_pass {L : Nat → Nat} {X : Nat → Nat → Nat → Int} {G r : Nat} (h : r < G) (hb : rowBad (X r) (L r) = none) : verRows L X (G - r) r = verRows L X (G - (r + 1)) (r + 1) := by
  obtain ⟨k, hk⟩ : ∃ k, G - r = k + 1 := ⟨G - r - 1, by omega⟩
  rw [hk, verRows, hb, show G - (r + 1) = k by omega]

theorem verRows_ok {L : Nat → Nat} {X : Nat → Nat → Nat → Int} : ∀ (n r : Nat), (verRows L X n r).2.2 = 0 → ∀ k, r ≤ k → k < r + n → rowBad (X k) (L k) = none
  | 0, r, _, k, h1, h2 => by omega
  | n + 1, r, h, k, h1, h2 => by
    rw [verRows] at h
    cases hb : rowBad (X r) (L r) with
    | some i => rw [hb] at h; simp at h
    | none =>
      rw [hb] at h
      by_cases hk : k = r
      · subst hk; exact hb
      · exact verRows_ok n (r + 1) h k (by omega) (by omega)

/-- What Check answers: the behavior, the instruction, the error. -/
def ckS (G : Nat) (L : Nat → Nat) (X : Nat → Nat → Nat → Int) : Int × Int × Int := if progFault G L X ≠ 0 then (0, 0, progFault G L X) else verRows L X G 0

theorem ver_of {G : Nat} {L : Nat → Nat} {X : Nat → Nat → Nat → Int} (h : (ckS G L X).2.2 = 0) : progFault G L X = 0 ∧ Ver G L X (fun r => flowS (X r) (L r)) := by
  unfold ckS at h
  by_cases hp : progFault G L X ≠ 0
  · rw [if_pos hp] at h; exact absurd h hp
  rw [if_neg hp] at h
  have hp0 : progFault G L X = 0 := Classical.byContradiction hp
  obtain ⟨_, hl, hi⟩ := progV_ok hp0
  refine ⟨hp0, hl, fun k i hk hi' => hi k i hk hi', fun k _ => flowS_is _ _, fun k i kk hk hi' hkk => ?_⟩
  have := verRows_ok G 0 h k (by omega) (by omega)
  have := firstBad_none _ _ this i (by omega) (by omega)
  unfold badAt at this
  have hkk' : vPt (flowS (X k) (L k)) i = some kk := hkk
  rw [hkk'] at this
  simpa using this

end Go.Proofs.YtahcgnmhhgcfmaaDoor

/- Programs as lists of lists of instructions: what is wrong with them, what is verified. -/
namespace Go.Proofs.YtahcgnmhhgcfmaaDoor

def fld (x : Ins) : Nat → Int
  | 0 => x.op
  | 1 => x.a
  | 2 => x.b
  | _ => x.n

def lenOf (rows : List (List Ins)) (r : Nat) : Nat := (rows.getD r []).length
def xOf (rows : List (List Ins)) (r i f : Nat) : Int := fld ((rows.getD r []).getD i noIns) f
def rowsFault (rows : List (List Ins)) : Int := progFault rows.length (lenOf rows) (xOf rows)

/-- What a verifier says of them. -/
def ckL (rows : List (List Ins)) : Int × Int × Int := ckS rows.length (lenOf rows) (xOf rows)

end Go.Proofs.YtahcgnmhhgcfmaaDoor

/- Raw things, what is picked by them, and the programs that they make: plain functions. -/
namespace Go.Proofs.YtahcgnmhhgcfmaaDoor

/-- A number from 0 to many - 1. -/
def pick (n many : Int) : Int := (if n < 0 then -(n + 1) else n) % many

theorem pick_bd {n many : Int} (h : 0 < many) : 0 ≤ pick n many ∧ pick n many < many := ⟨Int.emod_nonneg _ (by omega), Int.emod_lt_of_pos _ h⟩

/-- A raw thing: four numbers. -/
structure Rw where
  k : Int
  a : Int
  b : Int
  c : Int

def fit64 (n : Int) : Prop := -9223372036854775808 ≤ n ∧ n ≤ 9223372036854775807


def doneI : Ins := ⟨0, 0, 0, 0⟩

/-- An instruction of a raw thing, in a program of three behaviors. -/
def instrS (r : Rw) : Ins :=
  if pick r.k 26 < 3 then ⟨1, pick r.a 6, 0, pick r.c 12 - 3⟩
  else if pick r.k 26 < 5 then ⟨2 + pick r.c 3, pick r.a 6, pick r.b 6, 0⟩
  else if pick r.k 26 < 8 then ⟨7, pick r.a 6, 0, 1 + pick r.c 4⟩
  else if pick r.k 26 < 10 then ⟨8, pick r.a 6, pick r.b 6, pick r.c 3⟩
  else if pick r.k 26 < 12 then ⟨9, pick r.a 6, pick r.b 6, pick r.c 2⟩
  else if pick r.k 26 < 14 then ⟨10, pick r.a 6, pick r.b 6, pick r.c 2⟩
  else if pick r.k 26 < 17 then ⟨11, pick r.a 6, pick r.b 6, pick r.c 2⟩
  else if pick r.k 26 = 17 then ⟨12, pick r.a 6, pick r.b 6, 0⟩
  else if pick r.k 26 < 20 then ⟨13, pick r.a 6, pick r.b 6, 0⟩
  else if pick r.k 26 = 20 then ⟨14, pick r.a 6, pick r.b 6, 0⟩
  else if pick r.k 26 < 23 then ⟨15, pick r.a 6, 0, 0⟩
  else if pick r.k 26 = 23 then ⟨16, pick r.a 6, 0, 0⟩
  else if pick r.k 26 = 24 then ⟨17, pick r.a 6, pick r.b 6, pick r.c 3⟩
  else ⟨18, pick r.a 6, 0, 0⟩

/-- Is code, with an end, verified in a program of three behaviors? -/
def rightS (l : List Ins) : Bool := decide ((ckL [l ++ [doneI], [doneI], [doneI]]).2.2 = 0)

/-- What comes of one raw thing more. -/
def nextK (out : List Ins) (r : Rw) : List Ins := if pick (r.k.tdiv 26) 5 = 0 then out ++ [⟨5, pick r.b 6, 0, 2⟩, instrS r] else out ++ [instrS r]

def stepB (most : Nat) (out : List Ins) (r : Rw) : List Ins := if out.length < most then (if rightS (nextK out r) = true then nextK out r else out) else out

def codeS (most : Nat) (l : List Rw) : List Ins := l.foldl (stepB most) []

def behS (most : Nat) (l : List Rw) : List Ins := codeS most l ++ [doneI]

/-- Each third thing, from the k-th on. -/
def thirds (l : List Rw) : Nat → Nat → List Rw
  | 0, _ => []
  | n + 1, i => match l[i]? with
    | some r => r :: thirds l n (i + 3)
    | none => []

def third (l : List Rw) (k : Nat) : List Rw := thirds l l.length k

def programS (l : List Rw) (most : Nat) : List (List Ins) := [behS most (third l 0), behS most (third l 1), behS most (third l 2)]

end Go.Proofs.YtahcgnmhhgcfmaaDoor

/- What is known ahead of each instruction, when the rounds have ended: behind each way to it, no more; at the begin, no more than of a message. -/
namespace Go.Proofs.YtahcgnmhhgcfmaaDoor

def kBegin : List Int := [3, 3, 0, 0, 0, 0, 0, 0]

theorem tos_fix {L : Nat} {on : List Int} (ho : on.length = 8) : ∀ (tos : List Int) {st : List Pt}, VGood L st → tos.foldl (vTo on) st = st → ∀ t ∈ tos, vTo on st t = st
  | [], _, _, _, t, ht => by cases ht
  | u :: r, st, h, hf, t, ht => by
    have h1 := vTo_mu h ho u
    have h2 := vTos_mu ho r (h.to ho u)
    simp only [List.foldl_cons] at hf
    have e : vTo on st u = st := by
      by_cases e : vTo on st u = st
      · exact e
      · have h3 := h1.2 e
        rw [hf] at h2
        omega
    rcases List.mem_cons.1 ht with rfl | ht
    · exact e
    · rw [e] at hf
      exact tos_fix ho r h hf t ht

theorem turns_fix {L : Nat} {st : List Pt} (h : VGood L st) (x : Nat → Nat → Int) : ∀ n : Nat, vTurns x st n = st → ∀ i : Nat, i < n → vTurn x st i = st
  | 0, _, i, hi => by omega
  | n + 1, hf, i, hi => by
    rw [vTurns_succ] at hf
    have h1 := vTurns_mu h x n
    have h2 := vTurn_mu (VGood.turns h x n) x n
    have e : vTurns x st n = st := by
      by_cases e : vTurns x st n = st
      · exact e
      · have h3 := h1.2 e
        rw [hf] at h2
        omega
    rw [e] at hf
    by_cases hin : i = n
    · subst hin; exact hf
    · exact turns_fix h x n e i (by omega)

theorem good_iter {x : Nat → Nat → Int} {L : Nat} : ∀ (n : Nat) {st : List Pt}, VGood L st → VGood L (vIter x L n st)
  | 0, _, h => h
  | n + 1, _, h => good_iter n (VGood.turns h x L)

theorem IsFlow.good {x : Nat → Nat → Int} {L : Nat} {st : List Pt} (h : IsFlow x L st) : VGood L st := by
  obtain ⟨⟨n, rfl⟩, _⟩ := h
  exact good_iter n (vgood_start L)

theorem zip_at : ∀ {k on : List Int} {r : Nat}, k.length = 8 → on.length = 8 → r < 8 → vAt (List.zipWith vJoin k on) r = vJoin (vAt k r) (vAt on r) := fun {k on r} hk ho hr => by
  unfold vAt
  simp only [Int.toNat_natCast, List.getElem?_zipWith]
  rw [List.getElem?_eq_getElem (by omega), List.getElem?_eq_getElem (by omega)]
  rfl

theorem zip_len {k on : List Int} (hk : k.length = 8) (ho : on.length = 8) : (List.zipWith vJoin k on).length = 8 := by simp [hk, ho]

/-- What is known where an instruction goes on is no more than what is known behind it. -/
theorem IsFlow.goes {x : Nat → Nat → Int} {L : Nat} {st : List Pt} (h : IsFlow x L st) {i : Nat} (hi : i < L) {k : List Int} (hk : vPt st i = some k) {j : Int} (hj : j ∈ vGoes (x i 0) (x i 3) i) (hj0 : 0 ≤ j ∧ j < (L : Int)) :
    ∃ k', vPt st j.toNat = some k' ∧ k'.length = 8 ∧ ∀ r : Nat, r < 8 → vJoin (vAt k' r) (vAt (vBehind (x i 0) (x i 1) (x i 2) k) r) = vAt k' r := by
  have hg := h.good
  have hl : (vBehind (x i 0) (x i 1) (x i 2) k).length = 8 := by rw [vBehind_length]; exact hg.pt hk
  have h1 := turns_fix hg x L h.2 i hi
  unfold vTurn at h1
  rw [hk] at h1
  have h2 := tos_fix hl _ hg h1 j hj
  have hjl : j.toNat < st.length := by rw [hg.1]; omega
  have h3 : vCome (vPt st j.toNat) (vBehind (x i 0) (x i 1) (x i 2) k) = vPt st j.toNat := by
    have := congrArg (fun s => vPt s j.toNat) h2
    simpa [vTo, vPt, hjl] using this
  cases hp : vPt st j.toNat with
  | none => rw [hp] at h3; simp [vCome] at h3
  | some k' =>
    rw [hp] at h3
    simp only [vCome, Option.some.injEq] at h3
    have hk8 := hg.pt hp
    refine ⟨k', rfl, hk8, fun r hr => ?_⟩
    rw [← zip_at hk8 hl hr, h3]

/-- At the begin no more is known than that both are objects of its own. -/
def BeginOk (st : List Pt) : Prop := ∃ k, vPt st 0 = some k ∧ k.length = 8 ∧ ∀ r : Nat, r < 8 → vAt k r = vAt kBegin r ∨ vAt k r = 0 ∨ (vAt k r = 2 ∧ vAt kBegin r = 3)

theorem begin_start {L : Nat} (hL : 0 < L) : BeginOk (vStart L) := by
  refine ⟨kBegin, ?_, rfl, fun r _ => Or.inl rfl⟩
  obtain ⟨n, rfl⟩ : ∃ n, L = n + 1 := ⟨L - 1, by omega⟩
  simp [vStart, vPt, List.replicate_succ, kBegin]

theorem begin_to {st : List Pt} (h : BeginOk st) {on : List Int} (ho : on.length = 8) (to : Int) : BeginOk (vTo on st to) := by
  obtain ⟨k, hk, hl, hr⟩ := h
  unfold vTo
  by_cases e : to.toNat = 0
  · have hlen : 0 < st.length := by
      cases st with
      | nil => simp [vPt] at hk
      | cons _ _ => simp
    rw [e, hk]
    refine ⟨List.zipWith vJoin k on, by simp [vPt, hlen, vCome], zip_len hl ho, fun r hr8 => ?_⟩
    rw [zip_at hl ho hr8]
    have := hr r hr8
    unfold vJoin vObj
    by_cases e1 : vAt k r = vAt on r
    · rw [if_pos e1]; exact this
    · rw [if_neg e1]
      split
      · rename_i h2
        simp only [Bool.and_eq_true, decide_eq_true_eq] at h2
        rcases this with h | h | ⟨h, h'⟩
        · by_cases h3 : vAt k r = 3
          · exact Or.inr (Or.inr ⟨rfl, by omega⟩)
          · exact Or.inl (by omega)
        · omega
        · exact Or.inr (Or.inr ⟨rfl, h'⟩)
      · exact Or.inr (Or.inl rfl)
  · refine ⟨k, ?_, hl, hr⟩
    unfold vPt at hk ⊢
    rw [List.getElem?_set, if_neg (by omega)]
    exact hk

theorem begin_tos {on : List Int} (ho : on.length = 8) : ∀ (tos : List Int) {st : List Pt}, BeginOk st → BeginOk (tos.foldl (vTo on) st)
  | [], _, h => h
  | t :: r, _, h => begin_tos ho r (begin_to h ho t)

theorem begin_turns {L : Nat} {st : List Pt} (hg : VGood L st) (h : BeginOk st) (x : Nat → Nat → Int) : ∀ i, BeginOk (vTurns x st i)
  | 0 => h
  | i + 1 => by
    rw [vTurns_succ]
    have ih := begin_turns hg h x i
    have hgi := hg.turns x i
    unfold vTurn
    cases hi : vPt (vTurns x st i) i with
    | none => exact ih
    | some k => exact begin_tos (by rw [vBehind_length]; exact hgi.pt hi) _ ih

theorem begin_iter {L : Nat} {x : Nat → Nat → Int} : ∀ (n : Nat) {st : List Pt}, VGood L st → BeginOk st → BeginOk (vIter x L n st)
  | 0, _, _, h => h
  | n + 1, _, hg, h => begin_iter n (hg.turns x L) (begin_turns hg h x L)

theorem IsFlow.begins {x : Nat → Nat → Int} {L : Nat} {st : List Pt} (h : IsFlow x L st) (hL : 0 < L) : BeginOk st := by
  obtain ⟨⟨n, rfl⟩, _⟩ := h
  exact begin_iter n (vgood_start L) (begin_start hL)

theorem vJoin_turn (x y : Int) : vJoin x y = vJoin y x := by
  unfold vJoin
  by_cases e : x = y
  · subst e; rfl
  · have e' : ¬ y = x := fun h => e h.symm
    simp only [e, e', if_false, and_comm]

/-- At a Jz: what is known ahead of it, joined to what is known on either way, changes nothing there. -/
theorem flow_jz {x : Nat → Nat → Int} {L : Nat} (hx : RowOk L x) {i : Nat} (hi : i < L) (h5 : x i 0 = 5) {k : List Int} (hk : vPt (flowS x L) i = some k) {n : Int} (hn : n = i + 1 ∨ n = i + x i 3) :
    (0 ≤ n ∧ n < (L : Int)) ∧ ∃ k', vPt (flowS x L) n.toNat = some k' ∧ k'.length = 8 ∧ ∀ r : Nat, r < 8 → vJoin (vAt k r) (vAt k' r) = vAt k' r := by
  have hm : n ∈ vGoes (x i 0) (x i 3) i := by
    rw [h5]
    rcases hn with rfl | rfl <;> simp [vGoes]
  have hb := hx.goes i hi n hm
  obtain ⟨k', h1, h2, h3⟩ := (flowS_is x L).goes hi hk hm hb
  refine ⟨hb, k', h1, h2, fun r hr => ?_⟩
  have e : vBehind (x i 0) (x i 1) (x i 2) k = k := by rw [h5]; simp [vBehind]
  rw [e] at h3
  rw [vJoin_turn]
  exact h3 r hr

end Go.Proofs.YtahcgnmhhgcfmaaDoor

/- The programs of the law TypesKnown, and what is known of their registers. -/
namespace Go.Proofs.YtahcgnmhhgcfmaaDoor

def kwL : List Ins := [⟨7, 2, 0, 2⟩, ⟨7, 3, 0, 1⟩, ⟨11, 2, 3, 0⟩, ⟨10, 4, 2, 0⟩, ⟨1, 5, 0, 1⟩, ⟨13, 1, 5, 0⟩, ⟨0, 0, 0, 0⟩]
def kwOdd : List Ins := [⟨13, 2, 5, 0⟩, ⟨13, 1, 5, 0⟩, ⟨11, 2, 3, 0⟩, ⟨15, 2, 0, 0⟩, ⟨8, 0, 5, 0⟩, ⟨17, 6, 4, 0⟩, ⟨12, 6, 7, 0⟩, ⟨14, 4, 6, 0⟩]
def kwBad (x : Ins) : List Ins := kwL.take 6 ++ [x, ⟨0, 0, 0, 0⟩]

theorem kw_flow : flowS (xOf [kwL] 0) 7 = [some [3, 3, 0, 0, 0, 0, 0, 0], some [3, 3, 3, 0, 0, 0, 0, 0], some [3, 3, 3, 3, 0, 0, 0, 0], some [3, 3, 3, 0, 0, 0, 0, 0], some [3, 3, 2, 0, 2, 0, 0, 0], some [3, 3, 2, 0, 2, 1, 0, 0], some [3, 0, 2, 0, 2, 1, 0, 0]] :=
  (IsFlow.eq ⟨⟨1, by decide +kernel⟩, by decide +kernel⟩).symm

theorem kw_ck : ckS 1 (lenOf [kwL]) (xOf [kwL]) = (0, 0, 0) := by decide +kernel

theorem kw_hit {L : Nat → Nat} {X : Nat → Nat → Nat → Int} (h0 : progFault 2 L X = 0) (h1 : rowBad (X 0) (L 0) = none) (h2 : rowBad (X 1) (L 1) = some 6) : ckS 2 L X = (1, 6, 9) := by
  unfold ckS
  rw [if_neg (by simp [h0])]
  exact (verRows_pass (G := 2) (r := 0) (by omega) h1).trans (verRows_hit (G := 2) (r := 1) (by omega) h2)

theorem kw_row (x : Nat → Nat → Int) (L : Nat) (h : vRound x L (vIter x L 1 (vStart L)) = vIter x L 1 (vStart L)) {o : Option Nat} (hb : firstBad (badAt x (vIter x L 1 (vStart L))) L 0 = o) : rowBad x L = o := by
  unfold rowBad
  rw [← IsFlow.eq ⟨⟨1, rfl⟩, h⟩]
  exact hb

theorem kw_bad : ∀ x ∈ kwOdd, ckS 2 (lenOf [[doneI], kwBad x]) (xOf [[doneI], kwBad x]) = (1, 6, 9) := by
  intro x hx
  simp only [kwOdd, List.mem_cons, List.not_mem_nil, or_false] at hx
  rcases hx with rfl | rfl | rfl | rfl | rfl | rfl | rfl | rfl <;>
    exact kw_hit (by decide +kernel) (kw_row _ _ (by decide +kernel) (by decide +kernel)) (kw_row _ _ (by decide +kernel) (by decide +kernel))

end Go.Proofs.YtahcgnmhhgcfmaaDoor

/- A struct is written whole into a block, cell by cell; rows of structs. -/
namespace Go.Proofs.YtahcgnmhhgcfmaaDoor
open Go.RowKit

/-- These cells are written one behind the other, from o on. -/
def putAt (w : World) (A o : Nat) : List Value → World
  | [] => w
  | x :: r => putAt (w.setCell ⟨A, o, none⟩ x) A (o + 1) r

theorem putAt_nil (w : World) (A o : Nat) : putAt w A o [] = w := rfl
theorem putAt_cons (w : World) (A o : Nat) (x : Value) (r : List Value) : putAt w A o (x :: r) = putAt (w.setCell ⟨A, o, none⟩ x) A (o + 1) r := rfl

theorem setBlk {w : World} {g : Nat} {cur : Array Value} {t : TypeId} {fr : Nat × Nat} (h : w.heap[g]? = some (.cells cur t fr)) (j : Nat) (u : Value) : (w.setCell ⟨g, j, none⟩ u).heap[g]? = some (.cells (cur.setIfInBounds j u) t fr) := by
  simp only [World.setCell, Array.getElem?_modify, h]
  simp

/-- A list with a part of it written anew. -/
def overAt (c : List Value) (o : Nat) : List Value → List Value
  | [] => c
  | x :: r => overAt (c.set o x) (o + 1) r

theorem overAt_length (c : List Value) (o : Nat) : ∀ xs : List Value, (overAt c o xs).length = c.length := by
  intro xs
  induction xs generalizing c o with
  | nil => rfl
  | cons x r ih => rw [overAt, ih]; simp

theorem overAt_get (c : List Value) (o : Nat) : ∀ (xs : List Value) (j : Nat), o + xs.length ≤ c.length → (overAt c o xs)[j]? = if o ≤ j ∧ j < o + xs.length then xs[j - o]? else c[j]? := by
  intro xs
  induction xs generalizing c o with
  | nil => intro j _; rw [overAt, if_neg (by simp)]
  | cons x r ih =>
    intro j hl
    rw [overAt, ih _ _ j (by simp at hl ⊢; omega)]
    simp only [List.length_cons] at hl ⊢
    by_cases h1 : o + 1 ≤ j ∧ j < o + 1 + r.length
    · rw [if_pos h1, if_pos (by omega), show j - o = (j - (o + 1)) + 1 by omega, List.getElem?_cons_succ]
    · rw [if_neg h1, List.getElem?_set]
      by_cases h2 : o = j
      · subst h2
        rw [if_pos rfl, if_pos (by omega), if_pos (by omega), Nat.sub_self]
        rfl
      · rw [if_neg h2, if_neg (by omega)]

theorem putAt_blk {g : Nat} {t : TypeId} {fr : Nat × Nat} : ∀ (xs : List Value) (o : Nat) {w : World} {cur : Array Value}, w.heap[g]? = some (.cells cur t fr) → (putAt w g o xs).heap[g]? = some (.cells (overAt cur.toList o xs).toArray t fr)
  | [], _, _, cur, h => by simpa [putAt, overAt] using h
  | x :: r, o, w, cur, h => by
    rw [putAt, putAt_blk r (o + 1) (setBlk h o x)]
    simp [overAt]

theorem cellBlk {w : World} {k : Nat} {c : Array Value} {t' : TypeId} (h : w.heap[k]? = some (.cells c t' (0, 0))) (j : Nat) : w.cell? ⟨k, j, none⟩ = c[j]? := by simp [World.cell?, h]

theorem overAt_whole (c : List Value) (xs : List Value) (h : xs.length = c.length) : overAt c 0 xs = xs := by
  refine List.ext_getElem? fun j => ?_
  rw [overAt_get _ _ _ _ (by omega)]
  by_cases hj : j < xs.length
  · rw [if_pos (by omega), Nat.sub_zero]
  · rw [if_neg (by omega), List.getElem?_eq_none (by omega), List.getElem?_eq_none (by omega)]

/-- A block that is written whole. -/
theorem putAt_whole {g : Nat} {t : TypeId} {fr : Nat × Nat} {w : World} {cur : Array Value} (h : w.heap[g]? = some (.cells cur t fr)) (xs : List Value) (hx : xs.length = cur.size) : (putAt w g 0 xs).heap[g]? = some (.cells xs.toArray t fr) := by
  rw [putAt_blk xs 0 h, overAt_whole _ _ (by simpa using hx)]

theorem putAt_other {g k : Nat} (hk : k ≠ g) : ∀ (xs : List Value) (o : Nat) {w : World}, (putAt w g o xs).heap[k]? = w.heap[k]?
  | [], _, _ => rfl
  | x :: r, o, w => by rw [putAt, putAt_other hk r]; exact Deep.blk_setCell_other w ⟨g, o, none⟩ x k hk

theorem putAt_below {B : Nat} {w0 : World} {A : Nat} (hA : B ≤ A) : ∀ (xs : List Value) (o : Nat) {w : World}, Below B w0 w → Below B w0 (putAt w A o xs)
  | [], _, _, h => h
  | x :: r, o, _, h => putAt_below hA r (o + 1) (h.setCell hA x)

theorem putAt_grown {g : Nat} : ∀ (xs : List Value) (o : Nat) {w0 w : World}, w0.grownBy w (some g) → w0.grownBy (putAt w g o xs) (some g)
  | [], _, _, _, h => h
  | x :: r, o, w0, w, h => putAt_grown r (o + 1) ⟨h.os, h.tape, h.output, by simpa [World.setCell] using h.size, fun k hk hn => (Below.heap_setCell _ _ _ _ (fun e => hn (by rw [e]))).trans (h.block k hk hn)⟩

theorem putAt_size : ∀ (xs : List Value) (g o : Nat) (w : World), (putAt w g o xs).heap.size = w.heap.size
  | [], _, _, _ => rfl
  | x :: r, g, o, w => by rw [putAt, putAt_size r]; simp [World.setCell]

section
variable {α : Type} {f : α → List Value} {s : Nat}

theorem flat_length (hf : ∀ x, (f x).length = s) : ∀ l : List α, (l.flatMap f).length = l.length * s
  | [] => by simp
  | x :: r => by simp [hf, flat_length hf r, Nat.add_mul]; omega

theorem flat_get (hf : ∀ x, (f x).length = s) : ∀ (l : List α) (j i : Nat) {x : α}, l[j]? = some x → i < s → (l.flatMap f)[j * s + i]? = (f x)[i]?
  | [], j, i, x, h, _ => by simp at h
  | y :: r, 0, i, x, h, hi => by
    simp at h
    subst h
    simp only [List.flatMap_cons, Nat.zero_mul, Nat.zero_add]
    rw [List.getElem?_append_left (by rw [hf]; exact hi)]
  | y :: r, j + 1, i, x, h, hi => by
    simp only [List.getElem?_cons_succ] at h
    simp only [List.flatMap_cons]
    rw [List.getElem?_append_right (by rw [hf, Nat.add_mul]; omega), hf, show (j + 1) * s + i - s = j * s + i by rw [Nat.add_mul]; omega]
    exact flat_get hf r j i h hi

theorem overAt_app (a b : List Value) : ∀ (xs : List Value) (o : Nat), a.length ≤ o → overAt (a ++ b) o xs = a ++ overAt b (o - a.length) xs := by
  intro xs
  induction xs generalizing b with
  | nil => intro o _; rfl
  | cons x r ih =>
    intro o ho
    rw [overAt, overAt, List.set_append, if_neg (by omega), ih _ _ (by omega), show o + 1 - a.length = o - a.length + 1 by omega]

theorem overAt_first : ∀ (a b xs : List Value), a.length = xs.length → overAt (a ++ b) 0 xs = xs ++ b := by
  intro a b xs h
  refine List.ext_getElem? fun j => ?_
  rw [overAt_get _ _ _ _ (by simp; omega)]
  by_cases hj : j < xs.length
  · rw [if_pos (by omega), List.getElem?_append_left hj, Nat.sub_zero]
  · rw [if_neg (by omega), List.getElem?_append_right (by omega), List.getElem?_append_right (by omega), h]

theorem flat_set (hf : ∀ x, (f x).length = s) : ∀ (l : List α) (j : Nat) (y : α), j < l.length → overAt (l.flatMap f) (j * s) (f y) = (l.set j y).flatMap f
  | [], j, y, h => by simp at h
  | x :: r, 0, y, h => by
    simp only [List.flatMap_cons, Nat.zero_mul, List.set_cons_zero]
    exact overAt_first _ _ _ (by rw [hf, hf])
  | x :: r, j + 1, y, h => by
    simp only [List.flatMap_cons, List.set_cons_succ]
    rw [overAt_app _ _ _ _ (by rw [hf, Nat.add_mul]; omega), hf, show (j + 1) * s - s = j * s by rw [Nat.add_mul]; omega, flat_set hf r j y (by simpa using h)]
end

section
variable {w : World} {base : Nat} {e : TypeId} {size : Nat} {v : Value} {n : Nat} {xs : List Value}

theorem ownsRow_at (h : w.ownsRow base e size v n xs) {g : Nat} (hg : v.ownBlock = some g) {j : Nat} {u : Value} (hu : xs[j]? = some u) : w.cell? ⟨g, j, none⟩ = some u := by
  have := h.cells hg j u hu
  have hadd : (⟨g, 0, none⟩ : Addr).add j = ⟨g, j, none⟩ := by unfold Addr.add; split <;> simp_all
  rwa [hadd] at this

theorem overAt_take (c : List Value) (o m : Nat) : ∀ ys : List Value, o + ys.length ≤ m → m ≤ c.length → (overAt c o ys).take m = overAt (c.take m) o ys := by
  intro ys hm hc
  refine List.ext_getElem? fun j => ?_
  rw [List.getElem?_take, overAt_get _ _ _ _ (by omega), overAt_get _ _ _ _ (by rw [List.length_take]; omega), List.getElem?_take]
  by_cases hj : j < m
  · rw [if_pos hj, if_pos hj]
  · rw [if_neg hj, if_neg hj, if_neg (by omega)]

/-- Cells of a row are written. -/
theorem ownsRow_putAt (h : w.ownsRow base e size v n xs) {g : Nat} (hg : v.ownBlock = some g) (o : Nat) (ys : List Value) (ho : o + ys.length ≤ xs.length) : (putAt w g o ys).ownsRow base e size v n (overAt xs o ys) := by
  rcases h.2 with ⟨rfl, _⟩ | ⟨g', cap, cur, rfl, hb, hgg, h1, h2, h3, h4⟩
  · simp [Value.ownBlock] at hg
  · simp only [Value.ownBlock, Option.some.injEq] at hg
    subst hg
    have hx := h.1
    refine ⟨by rw [overAt_length]; exact h.1, .inr ⟨g', cap, (overAt cur.toList o ys).toArray, rfl, hb, putAt_blk ys o hgg, h1, h2, by simpa [overAt_length] using h3, ?_⟩⟩
    have hc : n * size ≤ cur.toList.length := by simp [h3]; exact Nat.mul_le_mul_right _ h1
    rw [List.toList_toArray, overAt_take _ _ _ _ (by omega) hc, h4]

theorem ownsRow_frozenAt (h : w.ownsRow base e size v n xs) {g : Nat} (hg : v.ownBlock = some g) (j : Nat) : w.frozen? ⟨g, j, none⟩ = false := by
  rcases h.2 with ⟨rfl, _⟩ | ⟨g', cap, cur, rfl, hb, hgg, _⟩
  · simp [Value.ownBlock] at hg
  · simp only [Value.ownBlock, Option.some.injEq] at hg
    subst hg
    simp [World.frozen?, hgg]

theorem ownsRow_shape (h : w.ownsRow base e size v n xs) : (v = .slice none 0 0 ∧ n = 0) ∨ ∃ g cap, v = .slice (some ⟨g, 0, none⟩) n cap ∧ base ≤ g ∧ g < w.heap.size := by
  rcases h.2 with ⟨rfl, hn⟩ | ⟨g, cap, cur, rfl, hb, hg, _⟩
  · exact Or.inl ⟨rfl, hn⟩
  · exact Or.inr ⟨g, cap, rfl, hb, (Array.getElem?_eq_some_iff.1 hg).1⟩

end
end Go.Proofs.YtahcgnmhhgcfmaaDoor

/- 'make' of rows of structs. -/
namespace Go.Proofs.YtahcgnmhhgcfmaaDoor
open Go.RowKit

section
variable {P : Program}
/-- 'make([]T, n)', T of k cells. -/
theorem run_make_wide (k : Nat) (t e : TypeId) (z : Value) (bytes : Nat) (ht : P.underlying t = some (.slice e)) (hinfo : (P.info? e).map (fun i => (i.zero, i.size, i.bytes)) = some (some z, k, bytes))
    (kl kc : IntKind) (n : Nat) (hbytes : bytes * n ≤ 281474976710656) (h63 : n ≤ 9223372036854775807) (w : World) :
    (Instr.makeSlice t (.int kl (n : Int)) (.int kc (n : Int))).run P w = .ok (.slice (some ⟨w.heap.size, 0, none⟩) n n) (w.alloc (.cells (madeCells z.cells (n * k)) e)) := by
  obtain ⟨i, hi, hzz⟩ := Option.map_eq_some_iff.1 hinfo
  simp only [Prod.mk.injEq] at hzz
  obtain ⟨hz, hs, hb⟩ := hzz
  have hb' : (i.bytes : Int) * (n : Int) ≤ 281474976710656 := by
    have h : ((i.bytes * n : Nat) : Int) ≤ 281474976710656 := by rw [hb]; omega
    rwa [Int.natCast_mul] at h
  have hr := run_make (P := P) w t e i z ht hi hz kl kc n n (by omega) (Int.le_refl _) hb' (by omega)
  simp only [Int.toNat_natCast, hs] at hr
  exact hr
end

theorem made_flat {α : Type} {f : α → List Value} {s : Nat} (hf : ∀ x, (f x).length = s) (hs : 0 < s) (z : Array Value) (x : α) (hz : z.toList = f x) (n : Nat) : (madeCells z (n * s)).toList = (List.replicate n x).flatMap f := by
  have hlen : ((List.replicate n x).flatMap f).length = n * s := by rw [flat_length hf]; simp
  have hzs : z.size = s := by rw [← Array.length_toList, hz, hf]
  refine List.ext_getElem? fun j => ?_
  by_cases hj : j < n * s
  · have hjs : j % s < s := Nat.mod_lt _ hs
    have hjd : j / s < n := Nat.div_lt_of_lt_mul (by rw [Nat.mul_comm]; exact hj)
    have h1 : ((List.replicate n x).flatMap f)[j / s * s + j % s]? = (f x)[j % s]? := flat_get hf _ _ _ (by simp [hjd]) hjs
    rw [Nat.div_add_mod'] at h1
    rw [h1, ← hz]
    simp only [madeCells, Array.toList_map, Array.toList_range, List.getElem?_map, List.getElem?_range hj, Option.map_some, hzs]
    rw [Array.getElem?_toList, Array.getElem?_eq_getElem (by rw [hzs]; exact hjs)]
    simp [hzs, hjs]
  · rw [List.getElem?_eq_none (by simp [size_madeCells]; omega), List.getElem?_eq_none (by rw [hlen]; omega)]

/-- A row of structs that 'make' made. -/
theorem ownsRow_made {α : Type} {f : α → List Value} {s : Nat} (hf : ∀ x, (f x).length = s) (hs : 0 < s) (z : Array Value) (x : α) (hz : z.toList = f x) (w : World) (base n : Nat) (e : TypeId) (hb : base ≤ w.heap.size) (hn : n ≤ maxLen) :
    (w.alloc (.cells (madeCells z (n * s)) e)).ownsRow base e s (.slice (some ⟨w.heap.size, 0, none⟩) n n) n ((List.replicate n x).flatMap f) :=
  ⟨by rw [flat_length hf]; simp, .inr ⟨w.heap.size, n, _, rfl, hb, Deep.blk_alloc_new w _, Nat.le_refl _, hn, by simp [size_madeCells], by rw [List.take_of_length_le (by simp [size_madeCells]), made_flat hf hs z x hz]⟩⟩

end Go.Proofs.YtahcgnmhhgcfmaaDoor

/- Boxes that are made one behind the other. -/
namespace Go.Proofs.YtahcgnmhhgcfmaaDoor
open Go.RowKit

theorem boxes1 (w : World) (o0 : Obj) : (w.alloc o0).heap[w.heap.size]? = some o0 ∧ Keeps w (w.alloc o0) ∧ Below w.heap.size w (w.alloc o0) ∧ (w.alloc o0).heap.size = w.heap.size + 1 := by
  exact ⟨Deep.blk_alloc_new w o0, Keeps.alloc w o0, below_box w o0, by simp⟩

theorem boxes2 (w : World) (o0 o1 : Obj) : ((w.alloc o0).alloc o1).heap[w.heap.size]? = some o0 ∧ ((w.alloc o0).alloc o1).heap[w.heap.size + 1]? = some o1 ∧ Keeps w ((w.alloc o0).alloc o1) ∧ Below w.heap.size w ((w.alloc o0).alloc o1) ∧ ((w.alloc o0).alloc o1).heap.size = w.heap.size + 1 + 1 := by
  obtain ⟨h0, hk, hb, hs⟩ := boxes1 w o0
  exact ⟨(Deep.blk_alloc_lt _ _ _ (by rw [hs]; omega)).trans h0, by rw [← hs]; exact Deep.blk_alloc_new _ _, hk.trans (Keeps.alloc _ _), hb.alloc (by rw [hs]; omega) _, by simp [hs]⟩

theorem boxes3 (w : World) (o0 o1 o2 : Obj) : (((w.alloc o0).alloc o1).alloc o2).heap[w.heap.size]? = some o0 ∧ (((w.alloc o0).alloc o1).alloc o2).heap[w.heap.size + 1]? = some o1 ∧ (((w.alloc o0).alloc o1).alloc o2).heap[w.heap.size + 1 + 1]? = some o2 ∧ Keeps w (((w.alloc o0).alloc o1).alloc o2) ∧ Below w.heap.size w (((w.alloc o0).alloc o1).alloc o2) ∧ (((w.alloc o0).alloc o1).alloc o2).heap.size = w.heap.size + 1 + 1 + 1 := by
  obtain ⟨h0, h1, hk, hb, hs⟩ := boxes2 w o0 o1
  exact ⟨(Deep.blk_alloc_lt _ _ _ (by rw [hs]; omega)).trans h0, (Deep.blk_alloc_lt _ _ _ (by rw [hs]; omega)).trans h1, by rw [← hs]; exact Deep.blk_alloc_new _ _, hk.trans (Keeps.alloc _ _), hb.alloc (by rw [hs]; omega) _, by simp [hs]⟩

theorem boxes4 (w : World) (o0 o1 o2 o3 : Obj) : ((((w.alloc o0).alloc o1).alloc o2).alloc o3).heap[w.heap.size]? = some o0 ∧ ((((w.alloc o0).alloc o1).alloc o2).alloc o3).heap[w.heap.size + 1]? = some o1 ∧ ((((w.alloc o0).alloc o1).alloc o2).alloc o3).heap[w.heap.size + 1 + 1]? = some o2 ∧ ((((w.alloc o0).alloc o1).alloc o2).alloc o3).heap[w.heap.size + 1 + 1 + 1]? = some o3 ∧ Keeps w ((((w.alloc o0).alloc o1).alloc o2).alloc o3) ∧ Below w.heap.size w ((((w.alloc o0).alloc o1).alloc o2).alloc o3) ∧ ((((w.alloc o0).alloc o1).alloc o2).alloc o3).heap.size = w.heap.size + 1 + 1 + 1 + 1 := by
  obtain ⟨h0, h1, h2, hk, hb, hs⟩ := boxes3 w o0 o1 o2
  exact ⟨(Deep.blk_alloc_lt _ _ _ (by rw [hs]; omega)).trans h0, (Deep.blk_alloc_lt _ _ _ (by rw [hs]; omega)).trans h1, (Deep.blk_alloc_lt _ _ _ (by rw [hs]; omega)).trans h2, by rw [← hs]; exact Deep.blk_alloc_new _ _, hk.trans (Keeps.alloc _ _), hb.alloc (by rw [hs]; omega) _, by simp [hs]⟩

theorem boxes5 (w : World) (o0 o1 o2 o3 o4 : Obj) : (((((w.alloc o0).alloc o1).alloc o2).alloc o3).alloc o4).heap[w.heap.size]? = some o0 ∧ (((((w.alloc o0).alloc o1).alloc o2).alloc o3).alloc o4).heap[w.heap.size + 1]? = some o1 ∧ (((((w.alloc o0).alloc o1).alloc o2).alloc o3).alloc o4).heap[w.heap.size + 1 + 1]? = some o2 ∧ (((((w.alloc o0).alloc o1).alloc o2).alloc o3).alloc o4).heap[w.heap.size + 1 + 1 + 1]? = some o3 ∧ (((((w.alloc o0).alloc o1).alloc o2).alloc o3).alloc o4).heap[w.heap.size + 1 + 1 + 1 + 1]? = some o4 ∧ Keeps w (((((w.alloc o0).alloc o1).alloc o2).alloc o3).alloc o4) ∧ Below w.heap.size w (((((w.alloc o0).alloc o1).alloc o2).alloc o3).alloc o4) ∧ (((((w.alloc o0).alloc o1).alloc o2).alloc o3).alloc o4).heap.size = w.heap.size + 1 + 1 + 1 + 1 + 1 := by
  obtain ⟨h0, h1, h2, h3, hk, hb, hs⟩ := boxes4 w o0 o1 o2 o3
  exact ⟨(Deep.blk_alloc_lt _ _ _ (by rw [hs]; omega)).trans h0, (Deep.blk_alloc_lt _ _ _ (by rw [hs]; omega)).trans h1, (Deep.blk_alloc_lt _ _ _ (by rw [hs]; omega)).trans h2, (Deep.blk_alloc_lt _ _ _ (by rw [hs]; omega)).trans h3, by rw [← hs]; exact Deep.blk_alloc_new _ _, hk.trans (Keeps.alloc _ _), hb.alloc (by rw [hs]; omega) _, by simp [hs]⟩

theorem boxes6 (w : World) (o0 o1 o2 o3 o4 o5 : Obj) : ((((((w.alloc o0).alloc o1).alloc o2).alloc o3).alloc o4).alloc o5).heap[w.heap.size]? = some o0 ∧ ((((((w.alloc o0).alloc o1).alloc o2).alloc o3).alloc o4).alloc o5).heap[w.heap.size + 1]? = some o1 ∧ ((((((w.alloc o0).alloc o1).alloc o2).alloc o3).alloc o4).alloc o5).heap[w.heap.size + 1 + 1]? = some o2 ∧ ((((((w.alloc o0).alloc o1).alloc o2).alloc o3).alloc o4).alloc o5).heap[w.heap.size + 1 + 1 + 1]? = some o3 ∧ ((((((w.alloc o0).alloc o1).alloc o2).alloc o3).alloc o4).alloc o5).heap[w.heap.size + 1 + 1 + 1 + 1]? = some o4 ∧ ((((((w.alloc o0).alloc o1).alloc o2).alloc o3).alloc o4).alloc o5).heap[w.heap.size + 1 + 1 + 1 + 1 + 1]? = some o5 ∧ Keeps w ((((((w.alloc o0).alloc o1).alloc o2).alloc o3).alloc o4).alloc o5) ∧ Below w.heap.size w ((((((w.alloc o0).alloc o1).alloc o2).alloc o3).alloc o4).alloc o5) ∧ ((((((w.alloc o0).alloc o1).alloc o2).alloc o3).alloc o4).alloc o5).heap.size = w.heap.size + 1 + 1 + 1 + 1 + 1 + 1 := by
  obtain ⟨h0, h1, h2, h3, h4, hk, hb, hs⟩ := boxes5 w o0 o1 o2 o3 o4
  exact ⟨(Deep.blk_alloc_lt _ _ _ (by rw [hs]; omega)).trans h0, (Deep.blk_alloc_lt _ _ _ (by rw [hs]; omega)).trans h1, (Deep.blk_alloc_lt _ _ _ (by rw [hs]; omega)).trans h2, (Deep.blk_alloc_lt _ _ _ (by rw [hs]; omega)).trans h3, (Deep.blk_alloc_lt _ _ _ (by rw [hs]; omega)).trans h4, by rw [← hs]; exact Deep.blk_alloc_new _ _, hk.trans (Keeps.alloc _ _), hb.alloc (by rw [hs]; omega) _, by simp [hs]⟩

end Go.Proofs.YtahcgnmhhgcfmaaDoor

/- Programs of raw things are verified. -/
namespace Go.Proofs.YtahcgnmhhgcfmaaDoor

/-- Small numbers. -/
def insB1 (x : Ins) : Prop := (0 ≤ x.op ∧ x.op ≤ 19) ∧ (0 ≤ x.a ∧ x.a ≤ 7) ∧ (0 ≤ x.b ∧ x.b ≤ 7) ∧ (-1099511627776 ≤ x.n ∧ x.n ≤ 1099511627776)

/-- The numbers of a behavior. -/
def rowX (l : List Ins) (i f : Nat) : Int := fld (l.getD i noIns) f

theorem xOf_row (rows : List (List Ins)) (r : Nat) : xOf rows r = rowX (rows.getD r []) := rfl

/-- A behavior that is right in a program of three. -/
structure RightRow (l : List Ins) : Prop where
  fault : rowFault 3 l.length (rowX l) = 0
  bad : rowBad (rowX l) l.length = none

theorem right_row {c : List Ins} (h : rightS c = true) : RightRow (c ++ [doneI]) := by
  have h0 := of_decide_eq_true h
  unfold ckL ckS at h0
  by_cases hp : progFault [c ++ [doneI], [doneI], [doneI]].length (lenOf [c ++ [doneI], [doneI], [doneI]]) (xOf [c ++ [doneI], [doneI], [doneI]]) ≠ 0
  · rw [if_pos hp] at h0; exact absurd h0 hp
  rw [if_neg hp] at h0
  have hp0 := Classical.byContradiction hp
  have hb := verRows_ok 3 0 h0 0 (by omega) (by omega)
  refine ⟨?_, hb⟩
  have e : progFault 3 (lenOf [c ++ [doneI], [doneI], [doneI]]) (xOf [c ++ [doneI], [doneI], [doneI]]) = first (fun r => rowFault 3 (lenOf [c ++ [doneI], [doneI], [doneI]] r) (xOf [c ++ [doneI], [doneI], [doneI]] r)) 3 0 := by
    unfold progFault
    rw [if_neg (by decide), if_neg (by decide)]
  have hp1 : progFault 3 (lenOf [c ++ [doneI], [doneI], [doneI]]) (xOf [c ++ [doneI], [doneI], [doneI]]) = 0 := hp0
  rw [e] at hp1
  exact first_nought 3 0 hp1 0 (by omega) (by omega)

theorem right_done : RightRow [doneI] := by
  refine ⟨by decide, ?_⟩
  have hf : flowS (rowX [doneI]) 1 = [some [3, 3, 0, 0, 0, 0, 0, 0]] := (show IsFlow (rowX [doneI]) 1 [some [3, 3, 0, 0, 0, 0, 0, 0]] from ⟨⟨0, by decide⟩, by decide⟩).eq.symm
  unfold rowBad
  rw [show [doneI].length = 1 from rfl, hf]
  decide

/-- Three of them make a program that is verified. -/
theorem three_ok {a b c : List Ins} (ha : RightRow a) (hb : RightRow b) (hc : RightRow c) : ckL [a, b, c] = (0, 0, 0) := by
  have hp : progFault 3 (lenOf [a, b, c]) (xOf [a, b, c]) = 0 := by
    unfold progFault
    rw [if_neg (by decide), if_neg (by decide)]
    show first (fun r => rowFault 3 (lenOf [a, b, c] r) (xOf [a, b, c] r)) 3 0 = 0
    have h0 : rowFault 3 (lenOf [a, b, c] 0) (xOf [a, b, c] 0) = 0 := ha.fault
    have h1 : rowFault 3 (lenOf [a, b, c] 1) (xOf [a, b, c] 1) = 0 := hb.fault
    have h2 : rowFault 3 (lenOf [a, b, c] 2) (xOf [a, b, c] 2) = 0 := hc.fault
    simp [first, h0, h1, h2]
  show (if progFault 3 (lenOf [a, b, c]) (xOf [a, b, c]) ≠ 0 then _ else _) = _
  rw [if_neg (by simp [hp])]
  have h0 : rowBad (xOf [a, b, c] 0) (lenOf [a, b, c] 0) = none := ha.bad
  have h1 : rowBad (xOf [a, b, c] 1) (lenOf [a, b, c] 1) = none := hb.bad
  have h2 : rowBad (xOf [a, b, c] 2) (lenOf [a, b, c] 2) = none := hc.bad
  show verRows (lenOf [a, b, c]) (xOf [a, b, c]) 3 0 = (0, 0, 0)
  simp [verRows, h0, h1, h2]

theorem nextK_len (out : List Ins) (r : Rw) : (nextK out r).length ≤ out.length + 2 := by
  unfold nextK
  split <;> simp

theorem stepB_inv {most : Nat} {out : List Ins} (h : (out = [] ∨ rightS out = true) ∧ out.length ≤ most + 1) (r : Rw) : (stepB most out r = [] ∨ rightS (stepB most out r) = true) ∧ (stepB most out r).length ≤ most + 1 := by
  unfold stepB
  split
  · split
    · rename_i h1 h2
      exact ⟨Or.inr h2, by have := nextK_len out r; omega⟩
    · exact h
  · exact h

theorem code_inv (most : Nat) (l : List Rw) : (codeS most l = [] ∨ rightS (codeS most l) = true) ∧ (codeS most l).length ≤ most + 1 := by
  unfold codeS
  suffices h : ∀ (l : List Rw) (out : List Ins), ((out = [] ∨ rightS out = true) ∧ out.length ≤ most + 1) → ((l.foldl (stepB most) out = [] ∨ rightS (l.foldl (stepB most) out) = true) ∧ (l.foldl (stepB most) out).length ≤ most + 1) from h l [] ⟨Or.inl rfl, by simp⟩
  intro l
  induction l with
  | nil => intro out h; exact h
  | cons r l ih => intro out h; exact ih _ (stepB_inv h r)

theorem beh_right (most : Nat) (l : List Rw) : RightRow (behS most l) := by
  unfold behS
  rcases (code_inv most l).1 with h | h
  · rw [h]; exact right_done
  · exact right_row h

theorem program_ok (l : List Rw) (most : Nat) : ckL (programS l most) = (0, 0, 0) := three_ok (beh_right _ _) (beh_right _ _) (beh_right _ _)

theorem ite_of {α : Type} {P : α → Prop} {c : Prop} [Decidable c] {a b : α} (h1 : c → P a) (h2 : ¬ c → P b) : P (if c then a else b) := by
  by_cases h : c
  · rw [if_pos h]; exact h1 h
  · rw [if_neg h]; exact h2 h

theorem instrS_bd (r : Rw) : insB1 (instrS r) := by
  have hk := pick_bd (n := r.k) (many := 26) (by omega)
  have ha := pick_bd (n := r.a) (many := 6) (by omega)
  have hb := pick_bd (n := r.b) (many := 6) (by omega)
  have c12 := pick_bd (n := r.c) (many := 12) (by omega)
  have c3 := pick_bd (n := r.c) (many := 3) (by omega)
  have c4 := pick_bd (n := r.c) (many := 4) (by omega)
  have c2 := pick_bd (n := r.c) (many := 2) (by omega)
  unfold instrS
  repeat' (refine ite_of (fun _ => ?_) (fun _ => ?_))
  all_goals (unfold insB1; simp only; omega)

theorem nextK_bd {out : List Ins} (h : ∀ x ∈ out, insB1 x) (r : Rw) : ∀ x ∈ nextK out r, insB1 x := by
  have hb := pick_bd (n := r.b) (many := 6) (by omega)
  have hi := instrS_bd r
  unfold nextK
  intro x hx
  split at hx
  · simp only [List.mem_append, List.mem_cons, List.not_mem_nil, or_false] at hx
    rcases hx with hx | rfl | rfl
    · exact h x hx
    · unfold insB1; simp only; omega
    · exact hi
  · simp only [List.mem_append, List.mem_cons, List.not_mem_nil, or_false] at hx
    rcases hx with hx | rfl
    · exact h x hx
    · exact hi

theorem code_bd (most : Nat) (l : List Rw) : ∀ x ∈ codeS most l, insB1 x := by
  unfold codeS
  suffices h : ∀ (l : List Rw) (out : List Ins), (∀ x ∈ out, insB1 x) → ∀ x ∈ l.foldl (stepB most) out, insB1 x from h l [] (by simp)
  intro l
  induction l with
  | nil => intro out h; exact h
  | cons r l ih =>
    intro out h
    refine ih _ ?_
    unfold stepB
    split
    · split
      · exact nextK_bd h r
      · exact h
    · exact h

end Go.Proofs.YtahcgnmhhgcfmaaDoor

/- A region that draws its order, whose loads may be taken first though its last store writes a cell that was loaded: what the loads read must stand behind every operation that does not wait for them. -/
namespace Go.Proofs.YtahcgnmhhgcfmaaDoor

section
variable {P : Program} {ops : Array Oper} {Q : Exit → Act → World → Prop} {md : Region.Mode} {S : World → Prop} {need : Nat → Bool}

/-- Whatever order is picked from here on; S holds behind every operation that is carried out and is asked for it. -/
def wpAnyN (P : Program) (md : Region.Mode) (ops : Array Oper) (Q : Exit → Act → World → Prop) (S : World → Prop) (need : Nat → Bool) : Nat → Array Bool → Act → World → Prop
  | 0, listed, a, w => Region.ready md ops listed = [] ∧ Q .normal a w
  | fuel + 1, listed, a, w =>
    (Region.ready md ops listed = [] → Q .normal a w) ∧
    ∀ i ∈ Region.ready md ops listed, wpOp P ops Q i (fun a' w' => (need i = true → S w') ∧ wpAnyN P md ops Q S need fuel (listed.setIfInBounds i true) a' w') a w

theorem wpAny_of_need : ∀ (fuel : Nat) (listed : Array Bool) (a : Act) (w : World), wpAnyN P md ops Q S need fuel listed a w → wpAny P md ops Q fuel listed a w
  | 0, _, _, _, h => h
  | fuel + 1, _, _, _, h => ⟨h.1, fun i hi => wpOp_mono (fun a' w' h' => wpAny_of_need fuel _ a' w' h'.2) (h.2 i hi)⟩

/-- What has come up had all come up that it waits for. -/
def Closed (md : Region.Mode) (ops : Array Oper) (listed : Array Bool) : Prop :=
  ∀ (j : Nat) oj, ops[j]? = some oj → listed.getD j false = true → ∀ e ∈ oj.after, Region.binds md e = true → listed.getD e.on false = true

def closedB (md : Region.Mode) (ops : Array Oper) (listed : Array Bool) : Bool :=
  (List.range ops.size).all fun j => !listed.getD j false || match ops[j]? with
    | some oj => oj.after.all fun e => !Region.binds md e || listed.getD e.on false
    | none => true

theorem closed_spec {listed : Array Bool} (h : closedB md ops listed = true) : Closed md ops listed := fun j oj hj hl e he hb => by
  have hlt : j < ops.size := (Array.getElem?_eq_some_iff.1 hj).1
  have := List.all_eq_true.1 h j (List.mem_range.2 hlt)
  simp only [hl, hj, Bool.not_true, Bool.false_or, Array.all_eq_true'] at this
  have := this e he
  simpa [hb] using this

/-- Number j waits for number i, at first or at second hand. -/
def dep (md : Region.Mode) (ops : Array Oper) (i : Nat) : Nat → Nat → Bool
  | 0, _ => false
  | n + 1, j => match ops[j]? with
    | some oj => oj.after.any fun e => Region.binds md e && (e.on == i || dep md ops i n e.on)
    | none => false

theorem dep_listed {i : Nat} {listed : Array Bool} (hc : Closed md ops listed) : ∀ (n j : Nat) (oj : Oper), ops[j]? = some oj → (∀ e ∈ oj.after, Region.binds md e = true → listed.getD e.on false = true) → dep md ops i n j = true → listed.getD i false = true
  | 0, _, _, _, _, h => by simp [dep] at h
  | n + 1, j, oj, hj, hall, h => by
    simp only [dep, hj, Array.any_eq_true', Bool.and_eq_true, Bool.or_eq_true, beq_iff_eq] at h
    obtain ⟨e, he, hb, hon⟩ := h
    have hl := hall e he hb
    rcases hon with hon | hon
    · rw [hon] at hl; exact hl
    · cases ho : ops[e.on]? with
      | none =>
        cases n with
        | zero => simp [dep] at hon
        | succ n => simp [dep, ho] at hon
      | some o => exact dep_listed hc n e.on o ho (hc e.on o ho hl) hon

theorem wpAnyN_first {i : Nat} {oi : Oper} {v : Value} (hi : ops[i]? = some oi) (hsel : ∀ (j : Nat) (o : Oper) cs b, ops[j]? = some o → o.op ≠ .select cs b)
    (hQ : ∀ c a w, Q (.panic c) (a.put oi.dst v) w → Q (.panic c) a w) (hneed : ∀ (j : Nat) oj, ops[j]? = some oj → need j = false → ∃ n, dep md ops i n j = true) :
    ∀ (fuel : Nat) (listed : Array Bool) (a : Act) (w : World), Closed md ops listed →
      (∀ j oj, ops[j]? = some oj → j ≠ i → listed.getD j true = false → (∀ e ∈ oj.after, Region.binds md e = true → e.on ≠ i) → oi.apart ops oj = true) →
      i ∈ Region.ready md ops listed → YieldsIf P ops S oi v a → S w →
      wpAnyN P md ops Q S need fuel (listed.setIfInBounds i true) (a.put oi.dst v) w → wpAnyN P md ops Q S need (fuel + 1) listed a w := by
  intro fuel
  induction fuel with
  | zero =>
    intro listed a w _ _ hr hy hS H
    refine ⟨fun h => (by rw [h] at hr; cases hr), fun j hj => ?_⟩
    by_cases hji : j = i
    · subst hji; exact hy.wpOp hi hS ⟨fun _ => hS, H⟩
    · have := ready_mono hj hji
      rw [H.1] at this
      cases this
  | succ fuel ih =>
    intro listed a w hcl hfree hr hy hS H
    refine ⟨fun h => (by rw [h] at hr; cases hr), fun j hj => ?_⟩
    by_cases hji : j = i
    · subst hji; exact hy.wpOp hi hS ⟨fun _ => hS, H⟩
    · have h1 := H.2 j (ready_mono hj hji)
      obtain ⟨hjun, oj, hoj, hall⟩ := mem_ready.1 hj
      have hinot : listed.getD i false = false := by
        have h0 := (mem_ready.1 hr).1
        rcases Nat.lt_or_ge i listed.size with h' | h'
        · simp [h'] at h0 ⊢; exact h0
        · simp [Array.getElem?_eq_none h'] at h0
      have hnot : ∀ e ∈ oj.after, Region.binds md e = true → e.on ≠ i := fun e he hb heq => by
        have h1 := hall e he hb
        rw [heq, hinot] at h1
        cases h1
      have hnj : need j = true := by
        cases hn : need j with
        | true => rfl
        | false =>
          obtain ⟨n, hd⟩ := hneed j oj hoj hn
          have := dep_listed hcl n j oj hoj hall hd
          rw [hinot] at this
          cases this
      have hcl' : Closed md ops (listed.setIfInBounds j true) := fun k ok hk hlk e he hb => by
        refine getD_set_true ?_
        by_cases hkj : j = k
        · subst hkj
          rw [hoj] at hk
          simp only [Option.some.injEq] at hk
          subst hk
          exact hall e he hb
        · rw [getD_set_ne false hkj] at hlk
          exact hcl k ok hk hlk e he hb
      have h2 := wpOp_putIf hoj (hfree j oj hoj hji hjun hnot) (fun cs b => hsel i oi cs b hi) (fun cs b => hsel j oj cs b hoj) hQ hy h1
      have hfree' : ∀ k ok, ops[k]? = some ok → k ≠ i → (listed.setIfInBounds j true).getD k true = false →
          (∀ e ∈ ok.after, Region.binds md e = true → e.on ≠ i) → oi.apart ops ok = true := fun k ok hk hki hun hno => by
        refine hfree k ok hk hki ?_ hno
        by_cases hjk : j = k
        · subst hjk; exact hjun
        · rw [getD_set_ne true hjk] at hun; exact hun
      refine wpOp_mono (fun a' w' h3 => ⟨fun _ => h3.2.1 hnj, ih (listed.setIfInBounds j true) a' w' hcl' hfree' (ready_mono hr (Ne.symm hji)) h3.1 (h3.2.1 hnj) ?_⟩) h2
      rw [Array.setIfInBounds_comm _ _ hji]
      exact h3.2.2

/-- Operations that are not asked for S wait for number i. -/
def waits (md : Region.Mode) (ops : Array Oper) (need : Nat → Bool) (i : Nat) : Bool :=
  (List.range ops.size).all fun j => need j || dep md ops i ops.size j

theorem waits_spec {i : Nat} (h : waits md ops need i = true) (j : Nat) (oj : Oper) (hj : ops[j]? = some oj) (hn : need j = false) : ∃ n, dep md ops i n j = true := by
  have hlt : j < ops.size := (Array.getElem?_eq_some_iff.1 hj).1
  have := List.all_eq_true.1 h j (List.mem_range.2 hlt)
  simp only [hn, Bool.false_or] at this
  exact ⟨_, this⟩

/-- Take number i first. -/
theorem wpAnyN_take {i : Nat} {oi : Oper} {v : Value} {fuel : Nat} {listed : Array Bool} {a : Act} {w : World} (hi : ops[i]? = some oi)
    (hs : Region.noSelect ops = true) (hf : Region.free md ops listed i = true) (hr : (Region.ready md ops listed).contains i = true) (hn : (waits md ops need i && closedB md ops listed) = true)
    (hQ : ∀ c a w, Q (.panic c) (a.put oi.dst v) w → Q (.panic c) a w) (hw : Region.wanted oi (yielded ops a.tmps) = true) (hy : ∀ w, S w → (execOp a.eval oi).run P w = .ok (.value v) w) (hS : S w)
    (h : wpAnyN P md ops Q S need fuel (listed.setIfInBounds i true) (a.put oi.dst v) w) : wpAnyN P md ops Q S need (fuel + 1) listed a w :=
  have hn' := Bool.and_eq_true_iff.1 hn
  wpAnyN_first hi (Region.noSelect_spec hs) hQ (waits_spec hn'.1) fuel listed a w (closed_spec hn'.2) (Region.free_spec hi hf) (by simpa using hr) (Or.inl ⟨hw, hy⟩) hS h

/-- Number i alone may come up. -/
theorem wpAnyN_one {i : Nat} {o : Oper} {fuel : Nat} {listed : Array Bool} {a : Act} {w : World} (hr : Region.ready md ops listed = [i]) (ho : ops[i]? = some o)
    (h : ∀ K' : Act → World → Prop, Shut (∀ a w, (need i = true → S w) → wpAnyN P md ops Q S need fuel (listed.setIfInBounds i true) a w → K' a w) → if Region.wanted o (yielded ops a.tmps) = true then Oper.wp P o a w K' Q else K' (a.put o.dst undef) w) :
    wpAnyN P md ops Q S need (fuel + 1) listed a w :=
  ⟨fun h0 => (by rw [hr] at h0; cases h0), fun j hj => by
    rw [hr] at hj
    simp only [List.mem_singleton] at hj
    subst hj
    exact wpOp_step ho (fun K' hK => h K' (fun a w hS hW => hK a w ⟨hS, hW⟩))⟩

/-- One of two comes up next. -/
theorem wpAnyN_two {i j : Nat} {oi oj : Oper} {fuel : Nat} {listed : Array Bool} {a : Act} {w : World} (hr : Region.ready md ops listed = [i, j]) (hi : ops[i]? = some oi) (hj : ops[j]? = some oj)
    (h1 : ∀ K' : Act → World → Prop, Shut (∀ a w, (need i = true → S w) → wpAnyN P md ops Q S need fuel (listed.setIfInBounds i true) a w → K' a w) → if Region.wanted oi (yielded ops a.tmps) = true then Oper.wp P oi a w K' Q else K' (a.put oi.dst undef) w)
    (h2 : ∀ K' : Act → World → Prop, Shut (∀ a w, (need j = true → S w) → wpAnyN P md ops Q S need fuel (listed.setIfInBounds j true) a w → K' a w) → if Region.wanted oj (yielded ops a.tmps) = true then Oper.wp P oj a w K' Q else K' (a.put oj.dst undef) w) :
    wpAnyN P md ops Q S need (fuel + 1) listed a w :=
  ⟨fun h0 => (by rw [hr] at h0; cases h0), fun k hk => by
    rw [hr] at hk
    simp only [List.mem_cons, List.not_mem_nil, or_false] at hk
    rcases hk with rfl | rfl
    · exact wpOp_step hi (fun K' hK => h1 K' (fun a w hS hW => hK a w ⟨hS, hW⟩))
    · exact wpOp_step hj (fun K' hK => h2 K' (fun a w hS hW => hK a w ⟨hS, hW⟩))⟩

/-- One of three comes up next. -/
theorem wpAnyN_three {i j l : Nat} {oi oj ol : Oper} {fuel : Nat} {listed : Array Bool} {a : Act} {w : World} (hr : Region.ready md ops listed = [i, j, l]) (hi : ops[i]? = some oi) (hj : ops[j]? = some oj) (hl : ops[l]? = some ol)
    (h1 : ∀ K' : Act → World → Prop, Shut (∀ a w, (need i = true → S w) → wpAnyN P md ops Q S need fuel (listed.setIfInBounds i true) a w → K' a w) → if Region.wanted oi (yielded ops a.tmps) = true then Oper.wp P oi a w K' Q else K' (a.put oi.dst undef) w)
    (h2 : ∀ K' : Act → World → Prop, Shut (∀ a w, (need j = true → S w) → wpAnyN P md ops Q S need fuel (listed.setIfInBounds j true) a w → K' a w) → if Region.wanted oj (yielded ops a.tmps) = true then Oper.wp P oj a w K' Q else K' (a.put oj.dst undef) w)
    (h3 : ∀ K' : Act → World → Prop, Shut (∀ a w, (need l = true → S w) → wpAnyN P md ops Q S need fuel (listed.setIfInBounds l true) a w → K' a w) → if Region.wanted ol (yielded ops a.tmps) = true then Oper.wp P ol a w K' Q else K' (a.put ol.dst undef) w) :
    wpAnyN P md ops Q S need (fuel + 1) listed a w :=
  ⟨fun h0 => (by rw [hr] at h0; cases h0), fun k hk => by
    rw [hr] at hk
    simp only [List.mem_cons, List.not_mem_nil, or_false] at hk
    rcases hk with rfl | rfl | rfl
    · exact wpOp_step hi (fun K' hK => h1 K' (fun a w hS hW => hK a w ⟨hS, hW⟩))
    · exact wpOp_step hj (fun K' hK => h2 K' (fun a w hS hW => hK a w ⟨hS, hW⟩))
    · exact wpOp_step hl (fun K' hK => h3 K' (fun a w hS hW => hK a w ⟨hS, hW⟩))⟩

theorem wpAnyN_done {listed : Array Bool} {a : Act} {w : World} (hr : Region.ready md ops listed = []) (h : Q .normal a w) : ∀ fuel, wpAnyN P md ops Q S need fuel listed a w
  | 0 => ⟨hr, h⟩
  | _ + 1 => ⟨fun _ => h, by rw [hr]; simp⟩

theorem wp_region_need {id : Nat} {a : Act} {w : World} (need : Nat → Bool) (S : World → Prop) (hm : P.follows .mixedOrders = true) (hS : S w.drew)
    (h : S w.drew → wpAnyN P .any ops (NoPanic Q) S need ops.size (Array.replicate ops.size false) a w.drew) : (Code.region id ops true).wp P Q a w :=
  wp_region_noPanic (wp_region_any hm (wpAny_of_need _ _ _ _ (h hS)))

end
end Go.Proofs.YtahcgnmhhgcfmaaDoor

/- 'copy' into a row of the call's own. -/
namespace Go.Proofs.YtahcgnmhhgcfmaaDoor
open Go.RowKit
variable {P : Program}

theorem run_copy_rowk (k : Nat) (w : World) (dT sT ty elem : TypeId) (g o dLen dCap : Nat) (a : Addr) (sLen sCap : Nat) (cur : Array Value) (t : TypeId) (cs : List Value)
    (hu : P.underlying dT = some (.slice elem)) (hs : (P.info? elem).map (·.size) = some k)
    (hg : w.heap[g]? = some (.cells cur t (0, 0))) (hn : cs.length = Nat.min sLen dLen * k)
    (hsrc : ∀ j v, cs[j]? = some v → w.cell? (a.add j) = some v) (hfit : o + cs.length ≤ cur.size) (h1 : ∀ v ∈ cs, v.oneCell' = true) :
    (Builtin.copy_ #[dT, sT] ty #[.slice (some ⟨g, o, none⟩) dLen dCap, .slice (some a) sLen sCap]).run P w =
      .ok (goInt (Nat.min sLen dLen)) (w.setRow g (cur.toList.take o ++ cs ++ cur.toList.drop (o + cs.length)).toArray) := by
  have hl := run_loadCells_list (P := P) w a cs hsrc
  have hst := run_storeCells_at P g o t cs 0 cur w hg (by simpa using hfit) h1
  cases hq : P.info? elem with
  | none => simp [hq] at hs
  | some i =>
    have hi : i.size = k := by simpa [hq] using hs
    simp [Builtin.copy_, run_underlying hu, Builtin.lenOf, Builtin.firstCells, sizeOf, typeInfo, hq, hi, ← hn, hl, hst]

theorem run_copy_nonek (k : Nat) (w : World) (dT sT ty elem : TypeId) (d a : Option Addr) (dLen dCap sLen sCap : Nat) (hu : P.underlying dT = some (.slice elem)) (hs : (P.info? elem).map (·.size) = some k) (hn : Nat.min sLen dLen = 0) :
    (Builtin.copy_ #[dT, sT] ty #[.slice d dLen dCap, .slice a sLen sCap]).run P w = .ok (goInt 0) w := by
  cases hq : P.info? elem with
  | none => simp [hq] at hs
  | some i =>
    have hl : ∀ (x : Addr), (loadCells x 0).run P w = .ok #[] w := fun x => by simpa using run_loadCells_list (P := P) w x [] (by simp)
    cases d <;> cases a <;> simp [Builtin.copy_, run_underlying hu, Builtin.lenOf, Builtin.firstCells, sizeOf, typeInfo, hq, hn, storeCells, hl]

/-- 'copy(dst, src)' where dst is a whole row of the call's own, of n elements of k cells, and src has n elements: the row then holds what src holds. -/
theorem run_copy_full (k : Nat) (w : World) (dT sT ty elem : TypeId) (hu : P.underlying dT = some (.slice elem)) (hsz : (P.info? elem).map (·.size) = some k)
    (g n dCap : Nat) (sp : Option Addr) (sCap : Nat) (cur : Array Value) (t : TypeId) (hg : w.heap[g]? = some (.cells cur t (0, 0))) (cs : List Value) (hn : cs.length = n * k) (hcur : cur.size = cs.length)
    (hsrc : 0 < n → ∃ ad, sp = some ad ∧ ∀ j v, cs[j]? = some v → w.cell? (ad.add j) = some v) (h1 : ∀ v ∈ cs, v.oneCell' = true) :
    (Builtin.copy_ #[dT, sT] ty #[.slice (some ⟨g, 0, none⟩) n dCap, .slice sp n sCap]).run P w = .ok (goInt n) (w.setRow g cs.toArray) := by
  have hmin : Nat.min n n = n := Nat.min_self n
  by_cases h0 : n = 0
  · subst h0
    have hcs : cs = [] := List.eq_nil_of_length_eq_zero (by simpa using hn)
    subst hcs
    have hc0 : cur = #[] := Array.eq_empty_of_size_eq_zero (by simpa using hcur)
    subst hc0
    have hrun := run_copy_nonek (P := P) k w dT sT ty elem (some ⟨g, 0, none⟩) sp 0 dCap 0 sCap hu hsz rfl
    rw [hrun, setRow_self w g #[] t (0, 0) hg]; rfl
  · obtain ⟨ad, rfl, hc⟩ := hsrc (by omega)
    have hrun := run_copy_rowk (P := P) k w dT sT ty elem g 0 n dCap ad n sCap cur t cs hu hsz hg (by rw [hmin]; exact hn) hc (by omega) h1
    have e : (cur.toList.take 0 ++ cs ++ cur.toList.drop (0 + cs.length)).toArray = cs.toArray := by
      have : cur.toList.drop (0 + cs.length) = [] := List.drop_eq_nil_of_le (by simp; omega)
      rw [this]; simp
    rw [e, hmin] at hrun
    exact hrun

/-- 'copy' as one step of a region that draws. -/
theorem step_copy {ops : Array Oper} {o : Oper} {a : Act} {w : World} {K : Act → World → Prop} {Q : Exit → Act → World → Prop} {E : Prop} (hg : o.guard = none) (d s : Operand) (dT sT : TypeId)
    (hop : o.op = Op.call { callee := Callee.builtin Builtin.copy, args := #[d, s], argTypes := #[dT, sT] }) (dv sv : Value) (hd : a.eval d = dv) (hs : a.eval s = sv) (r : Value) (w' : World)
    (hrun : (Builtin.copy_ #[dT, sT] o.type #[dv, sv]).run P w = .ok r w') (hK : K (a.put o.dst r) w') :
    if Region.wanted o (yielded ops a.tmps) = true then Oper.wp P o a w K Q else E := by
  have hw : Region.wanted o (yielded ops a.tmps) = true := by simp [Region.wanted, hg]
  rw [if_pos hw]
  unfold Oper.wp
  simp [execOp, hop, resolve, invoke, builtin, hd, hs, hrun, Result.andThen]
  exact hK

end Go.Proofs.YtahcgnmhhgcfmaaDoor

/- The reference's questions of an instruction, as a plain function, come to the same fault. -/
namespace Go.Proofs.YtahcgnmhhgcfmaaDoor

/-- The same, as the reference asks it. -/
def special (op : Int) : Bool := op == 5 || op == 6 || op == 17
def farN (op n : Int) : Int := if special op then 0 else n
def farBad (op n : Int) : Bool := special op && (!(decide (-60 ≤ n) && decide (n ≤ 60)) || (op == 17 && !(decide (0 ≤ n) && decide (n ≤ 5))))
def formBad (op a b : Int) : Bool := (!aOf op && a != 0) || (!bOf op && b != 0)
def lastBad (op place many : Int) : Bool := place + 1 == many && op != 0 && op != 19 && op != 6
def refIns (kinds many place op a b n : Int) : Int :=
  if okOp op = false then 3
  else if farBad op n = true then 2
  else if okReg a = false ∨ okReg b = false ∨ nMay op (farN op n) 0 1 1 = false then 2
  else if formBad op a b = true then 4
  else if nMay op n place many kinds = false then 2
  else if lastBad op place many = true then 5
  else 0

theorem far_may (op n : Int) (h : okOp op = true) (hf : farBad op n = false) : nMay op (farN op n) 0 1 1 = (decide (loOf op ≤ n) && decide (n ≤ hiOf op)) := by
  simp only [okOp, Bool.and_eq_true, decide_eq_true_eq] at h
  by_cases o5 : op = 5
  · subst o5; simp [farBad, special, nMay, farN, loOf, hiOf] at hf ⊢; omega
  by_cases o6 : op = 6
  · subst o6; simp [farBad, special, nMay, farN, loOf, hiOf] at hf ⊢; omega
  by_cases o17 : op = 17
  · subst o17; simp [farBad, special, nMay, farN, loOf, hiOf] at hf ⊢; omega
  have hs : special op = false := by simp [special, o5, o6, o17]
  simp only [farN, hs, nMay, loOf, hiOf]
  by_cases o1 : op = 1
  · simp [o1]
  by_cases o7 : op = 7
  · simp [o7]
  by_cases o8 : 8 ≤ op ∧ op ≤ 11
  · simp [o1, o5, o6, o7, o8]
  · simp [o1, o5, o6, o7, o8, o17]
    rw [Bool.eq_iff_iff]
    simp
    omega

theorem far_bad (op n : Int) (hf : farBad op n = true) : n < loOf op ∨ hiOf op < n := by
  by_cases o5 : op = 5
  · subst o5; simp [farBad, special, loOf, hiOf] at hf ⊢; omega
  by_cases o6 : op = 6
  · subst o6; simp [farBad, special, loOf, hiOf] at hf ⊢; omega
  by_cases o17 : op = 17
  · subst o17; simp [farBad, special, loOf, hiOf] at hf ⊢; omega
  simp [farBad, special, o5, o6, o17] at hf

theorem may_rest (op n place many kinds : Int) (hl : ¬ n < loOf op) (hh : ¬ hiOf op < n) : nMay op n place many kinds = false ↔ (beside op n place many = true ∨ (op = 17 ∧ kinds ≤ n)) := by
  by_cases o5 : op = 5
  · subst o5; simp [nMay, beside, loOf, hiOf] at hl hh ⊢; omega
  by_cases o6 : op = 6
  · subst o6; simp [nMay, beside, loOf, hiOf] at hl hh ⊢; omega
  by_cases o17 : op = 17
  · subst o17; simp [nMay, beside, loOf, hiOf] at hl hh ⊢; omega
  by_cases o1 : op = 1
  · subst o1; simp [nMay, beside, loOf, hiOf] at hl hh ⊢; omega
  by_cases o7 : op = 7
  · subst o7; simp [nMay, beside, loOf, hiOf] at hl hh ⊢; omega
  by_cases o8 : 8 ≤ op ∧ op ≤ 11
  · simp [nMay, beside, loOf, hiOf, o1, o5, o6, o7, o8, o17] at hl hh ⊢; omega
  · simp [nMay, beside, loOf, hiOf, o1, o5, o6, o7, o8, o17] at hl hh ⊢; omega

theorem refIns_eq (kinds many place op a b n : Int) : refIns kinds many place op a b n = insFault kinds many place op a b n := by
  unfold refIns
  by_cases h1 : okOp op = false
  · rw [if_pos h1, ins_parts] <;> simp [partsFault, h1]
  have h1' : okOp op = true := by simpa using h1
  rw [if_neg h1]
  by_cases h2 : farBad op n = true
  · have := far_bad op n h2
    have hp : partsFault op a b n = 2 := by rw [partsFault, if_neg h1, if_pos (by omega)]
    rw [if_pos h2, ins_parts (by rw [hp]; decide), hp]
  have h2' : farBad op n = false := by simpa using h2
  rw [if_neg h2, far_may op n h1' h2']
  by_cases h3 : okReg a = false ∨ okReg b = false ∨ (decide (loOf op ≤ n) && decide (n ≤ hiOf op)) = false
  · have hp : partsFault op a b n = 2 := by
      rw [partsFault, if_neg h1, if_pos]
      rcases h3 with h | h | h
      · exact Or.inl h
      · exact Or.inr (Or.inl h)
      · simp at h; omega
    rw [if_pos h3, ins_parts (by rw [hp]; decide), hp]
  rw [if_neg h3]
  have h3' : ¬ (okReg a = false ∨ okReg b = false ∨ n < loOf op ∨ hiOf op < n) := by
    intro h
    apply h3
    rcases h with h | h | h | h
    · exact Or.inl h
    · exact Or.inr (Or.inl h)
    · exact Or.inr (Or.inr (by simp; omega))
    · exact Or.inr (Or.inr (by simp; omega))
  have hl : ¬ n < loOf op := fun h => h3' (Or.inr (Or.inr (Or.inl h)))
  have hh : ¬ hiOf op < n := fun h => h3' (Or.inr (Or.inr (Or.inr h)))
  by_cases h4 : formBad op a b = true
  · have hp : partsFault op a b n = 4 := by
      rw [partsFault, if_neg h1, if_neg h3', if_pos]
      simp [formBad] at h4
      rcases h4 with h | h
      · exact Or.inl ⟨h.2, h.1⟩
      · exact Or.inr ⟨h.2, h.1⟩
    rw [if_pos h4, ins_parts (by rw [hp]; decide), hp]
  rw [if_neg h4]
  have hp : partsFault op a b n = 0 := by
    rw [partsFault, if_neg h1, if_neg h3', if_neg]
    intro h
    apply h4
    simp [formBad]
    rcases h with h | h
    · exact Or.inl ⟨h.2, h.1⟩
    · exact Or.inr ⟨h.2, h.1⟩
  have e : insFault kinds many place op a b n = if beside op n place many = true ∨ (op = 17 ∧ kinds ≤ n) then 2 else if place = many - 1 ∧ op ≠ 0 ∧ op ≠ 19 ∧ op ≠ 6 then 5 else 0 := by
    rw [insFault, if_neg (by simp [hp])]
  rw [e]
  by_cases h5 : nMay op n place many kinds = false
  · rw [if_pos h5, if_pos ((may_rest op n place many kinds hl hh).1 h5)]
  · rw [if_neg h5, if_neg (fun h => h5 ((may_rest op n place many kinds hl hh).2 h))]
    by_cases h6 : lastBad op place many = true
    · rw [if_pos h6, if_pos]
      simp [lastBad] at h6
      omega
    · rw [if_neg h6, if_neg]
      intro h
      apply h6
      simp [lastBad]
      omega

end Go.Proofs.YtahcgnmhhgcfmaaDoor

/- A region that draws its order, by what holds at whatever point of it. -/
namespace Go.Proofs.YtahcgnmhhgcfmaaDoor

section
variable {P : Program} {ops : Array Oper} {Q : Exit → Act → World → Prop} {md : Region.Mode}

theorem mem_ready {listed : Array Bool} {i : Nat} (h : i ∈ Region.ready md ops listed) : ∃ o, ops[i]? = some o ∧ listed.getD i true = false ∧ ∀ e ∈ o.after, Region.binds md e = true → listed.getD e.on false = true := by
  unfold Region.ready at h
  simp only [List.mem_filter, List.mem_range, Bool.and_eq_true, Bool.not_eq_true'] at h
  obtain ⟨hi, h1, h2⟩ := h
  have ho : ops[i]? = some ops[i] := Array.getElem?_eq_getElem hi
  refine ⟨ops[i], ho, h1, fun e he hb => ?_⟩
  rw [ho] at h2
  simp only [Option.map_some, Option.getD_some, Array.all_eq_true'] at h2
  have := h2 e he
  simpa [hb] using this

theorem ready_mem {listed : Array Bool} {i : Nat} {o : Oper} (ho : ops[i]? = some o) (hl : listed.getD i true = false) (ha : ∀ e ∈ o.after, Region.binds md e = true → listed.getD e.on false = true) : i ∈ Region.ready md ops listed := by
  unfold Region.ready
  simp only [List.mem_filter, List.mem_range, Bool.and_eq_true, Bool.not_eq_true']
  refine ⟨(Array.getElem?_eq_some_iff.1 ho).1, hl, ?_⟩
  rw [ho]
  simp only [Option.map_some, Option.getD_some, Array.all_eq_true']
  intro e he
  cases hb : Region.binds md e with
  | false => rfl
  | true => simpa using ha e he hb

theorem count_set : ∀ (l : List Bool) (i : Nat), l[i]? = some false → (l.set i true).count false + 1 = l.count false
  | [], i, h => by simp at h
  | b :: l, 0, h => by
    simp only [List.getElem?_cons_zero, Option.some.injEq] at h
    subst h
    simp
  | b :: l, i + 1, h => by
    simp only [List.getElem?_cons_succ] at h
    have := count_set l i h
    simp only [List.set_cons_succ, List.count_cons]
    omega

/-- WHATEVER ORDER IS PICKED: what is kept by each operation holds at the end. -/
theorem wpAny_inv (Inv : Array Bool → Act → World → Prop)
    (hstep : ∀ (listed : Array Bool) (a : Act) (w : World) (i : Nat) (o : Oper), Inv listed a w → ops[i]? = some o → listed.getD i true = false → (∀ e ∈ o.after, Region.binds md e = true → listed.getD e.on false = true) →
      wpOp P ops Q i (fun a' w' => Inv (listed.setIfInBounds i true) a' w') a w)
    (hend : ∀ (listed : Array Bool) (a : Act) (w : World), Inv listed a w → Region.ready md ops listed = [] → Q .normal a w) :
    ∀ (fuel : Nat) (listed : Array Bool) (a : Act) (w : World), listed.toList.count false ≤ fuel → Inv listed a w → wpAny P md ops Q fuel listed a w
  | 0, listed, a, w, hc, hI => by
    have hr : Region.ready md ops listed = [] := by
      rcases List.eq_nil_or_concat (Region.ready md ops listed) with h | ⟨l, x, h⟩
      · exact h
      · exfalso
        have hx : x ∈ Region.ready md ops listed := by rw [h]; simp
        obtain ⟨_, _, hl, _⟩ := mem_ready hx
        have hm : false ∈ listed.toList := by
          by_cases hlt : x < listed.size
          · have : listed.getD x true = listed[x] := by simp [Array.getD, hlt]
            rw [this] at hl
            rw [← hl]
            simp
          · simp [Array.getD, hlt] at hl
        have := List.count_pos_iff.2 hm
        omega
    exact ⟨hr, hend listed a w hI hr⟩
  | fuel + 1, listed, a, w, hc, hI => by
    refine ⟨fun hr => hend listed a w hI hr, fun i hi => ?_⟩
    obtain ⟨o, ho, hl, ha⟩ := mem_ready hi
    refine wpOp_mono (fun a' w' hI' => wpAny_inv Inv hstep hend fuel _ a' w' ?_ hI') (hstep listed a w i o hI ho hl ha)
    have hlt : i < listed.size := by
      by_cases hlt : i < listed.size
      · exact hlt
      · simp [Array.getD, hlt] at hl
    have hg : listed.toList[i]? = some false := by
      have : listed.getD i true = listed[i] := by simp [Array.getD, hlt]
      rw [this] at hl
      rw [Array.getElem?_toList, Array.getElem?_eq_getElem hlt, hl]
    have := count_set listed.toList i hg
    rw [Array.toList_setIfInBounds]
    omega

/-- Each operation waits for elder ones alone. -/
def ordB (ops : Array Oper) : Bool := (List.range ops.size).all fun i => match ops[i]? with
  | some o => o.after.all fun e => decide (e.on < i)
  | none => true

/-- Where nothing may come up any more all has come up. -/
theorem all_listed {listed : Array Bool} (hr : Region.ready md ops listed = []) (ho : ordB ops = true) (hsz : listed.size = ops.size) : ∀ i, i < ops.size → listed.getD i false = true := by
  have key : ∀ m i, i < m → i < ops.size → listed.getD i false = true := by
    intro m
    induction m with
    | zero => intro i h; omega
    | succ m ih =>
      intro i him hi
      by_cases h : listed.getD i false = true
      · exact h
      · exfalso
        have hlt : i < listed.size := by omega
        have hf : listed.getD i true = false := by
          simp only [Array.getD, hlt, dif_pos] at h ⊢
          simpa using h
        have hoi := Array.getElem?_eq_getElem hi
        have hb : (ops[i]).after.all (fun e => decide (e.on < i)) = true := by
          have := List.all_eq_true.1 ho i (List.mem_range.2 hi)
          rw [hoi] at this
          exact this
        have := ready_mem (md := md) (listed := listed) hoi hf (fun e he _ => by
          have h1 : e.on < i := by simpa using Array.all_eq_true'.1 hb e he
          exact ih e.on (by omega) (by omega))
        rw [hr] at this
        cases this
  exact fun i hi => key (i + 1) i (by omega) hi

end
end Go.Proofs.YtahcgnmhhgcfmaaDoor

/- What values lead to: one by one, behind each other; and row by row: the same. -/
namespace Go.Proofs.YtahcgnmhhgcfmaaDoor

/-- A place that is come to stands behind all that were. -/
def visit (order : List Int) (v : Vl) : List Int := if v.k = 2 then (if v.n ∈ order then order else order ++ [v.n]) else order

def visits (order : List Int) (vs : List Vl) : List Int := vs.foldl visit order

def fieldsOf (l : List Ob) (p : Int) : List Vl := match l[p.toNat]? with
  | none => []
  | some o => o.fs

def bfs (l : List Ob) : Nat → Nat → List Int → List Int
  | 0, _, o => o
  | f + 1, i, o => match o[i]? with
    | none => o
    | some p => bfs l f (i + 1) (visits o (fieldsOf l p))

def reach (l : List Ob) (roots : List Vl) : List Int := bfs l (l.length + 1) 0 (visits [] roots)

/-- Places of a heap of so many objects, none twice. -/
def Ok (L : Nat) (o : List Int) : Prop := o.Nodup ∧ ∀ p ∈ o, 0 ≤ p ∧ p < (L : Int)

theorem Ok.nil (L : Nat) : Ok L [] := ⟨List.nodup_nil, fun p hp => by cases hp⟩

theorem Ok.len {L : Nat} {o : List Int} (h : Ok L o) : o.length ≤ L := by
  have hs : o ⊆ (List.range L).map Int.ofNat := fun p hp => by
    obtain ⟨h1, h2⟩ := h.2 p hp
    refine List.mem_map.2 ⟨p.toNat, List.mem_range.2 (by omega), ?_⟩
    show ((p.toNat : Nat) : Int) = p
    omega
  have := List.Nodup.length_le_of_subset h.1 hs
  simpa using this

theorem vMay_ref {L : Int} {v : Vl} (h : vMay L v = true) (hk : v.k = 2) : 0 ≤ v.n ∧ v.n < L := by
  simp [vMay, hk] at h
  exact h

theorem Ok.visit {L : Nat} {o : List Int} (h : Ok L o) {v : Vl} (hv : vMay L v = true) : Ok L (visit o v) := by
  unfold Go.Proofs.YtahcgnmhhgcfmaaDoor.visit
  by_cases hk : v.k = 2
  · rw [if_pos hk]
    by_cases hm : v.n ∈ o
    · rw [if_pos hm]; exact h
    · rw [if_neg hm]
      refine ⟨?_, fun p hp => ?_⟩
      · rw [List.nodup_append]
        refine ⟨h.1, by simp, fun a ha b hb => ?_⟩
        simp at hb
        subst hb
        intro e
        subst e
        exact hm ha
      · rcases List.mem_append.1 hp with hp | hp
        · exact h.2 p hp
        · simp at hp
          subst hp
          exact vMay_ref hv hk
  · rw [if_neg hk]; exact h

theorem Ok.visits {L : Nat} {vs : List Vl} : ∀ {o : List Int}, Ok L o → vs.all (vMay L) = true → Ok L (visits o vs) := by
  induction vs with
  | nil => intro o h _; exact h
  | cons v r ih =>
    intro o h hv
    simp only [List.all_cons, Bool.and_eq_true] at hv
    exact ih (h.visit hv.1) hv.2

theorem visit_ext (o : List Int) (v : Vl) : ∃ t, visit o v = o ++ t := by
  unfold visit
  split
  · split
    · exact ⟨[], by simp⟩
    · exact ⟨_, rfl⟩
  · exact ⟨[], by simp⟩

theorem visits_ext (vs : List Vl) : ∀ o : List Int, ∃ t, visits o vs = o ++ t := by
  induction vs with
  | nil => intro o; exact ⟨[], by simp [visits]⟩
  | cons v r ih =>
    intro o
    obtain ⟨t, ht⟩ := visit_ext o v
    obtain ⟨t', ht'⟩ := ih (visit o v)
    exact ⟨t ++ t', by show visits (visit o v) r = _; rw [ht', ht, List.append_assoc]⟩

theorem visits_append (o : List Int) (a b : List Vl) : visits o (a ++ b) = visits (visits o a) b := by simp [visits, List.foldl_append]
theorem visits_snoc (o : List Int) (a : List Vl) (v : Vl) : visits o (a ++ [v]) = visit (visits o a) v := by simp [visits, List.foldl_append]

theorem visits_len (o : List Int) (vs : List Vl) : o.length ≤ (visits o vs).length := by
  obtain ⟨t, ht⟩ := visits_ext vs o
  rw [ht, List.length_append]
  omega

theorem bfs_many (l : List Ob) : ∀ (ps : List Int) (F i : Nat) (o : List Int), (o.drop i).take ps.length = ps → ps.length ≤ F → bfs l F i o = bfs l (F - ps.length) (i + ps.length) (visits o (ps.flatMap (fieldsOf l)))
  | [], F, i, o, _, _ => by simp [visits]
  | p :: ps, F, i, o, h, hF => by
    obtain ⟨f, rfl⟩ : ∃ f, F = f + 1 := ⟨F - 1, by simp at hF; omega⟩
    have hi : o[i]? = some p := by
      have h0 := congrArg (·[0]?) h
      simp only [List.length_cons, List.getElem?_take, List.getElem?_drop, List.getElem?_cons_zero] at h0
      simpa using h0
    have hilt : i < o.length := (List.getElem?_eq_some_iff.1 hi).1
    have hlen : i + 1 + ps.length ≤ o.length := by
      have := congrArg List.length h
      simp only [List.length_take, List.length_drop, List.length_cons] at this
      omega
    obtain ⟨t, ht⟩ := visits_ext (fieldsOf l p) o
    have hnext : ((visits o (fieldsOf l p)).drop (i + 1)).take ps.length = ps := by
      rw [ht, List.drop_append_of_le_length (by omega), List.take_append_of_le_length (by rw [List.length_drop]; omega)]
      have h1 := congrArg List.tail h
      rw [List.drop_eq_getElem_cons hilt, List.length_cons, List.take_succ_cons, List.tail_cons, List.tail_cons] at h1
      exact h1
    rw [bfs, hi]
    simp only
    rw [bfs_many l ps f (i + 1) _ hnext (by simp at hF; omega), List.flatMap_cons, visits_append, List.length_cons]
    congr 1 <;> omega

/-- One row more. -/
theorem rows_next (l : List Ob) (L : Nat) (out : List Int) (row : List Vl) (hL : (visits out row).length ≤ L) :
    bfs l (L + 1 - out.length) out.length (visits out row) = bfs l (L + 1 - (visits out row).length) (visits out row).length (visits (visits out row) (((visits out row).drop out.length).flatMap (fieldsOf l))) := by
  have hle := visits_len out row
  have := bfs_many l ((visits out row).drop out.length) (L + 1 - out.length) out.length (visits out row) (List.take_length) (by rw [List.length_drop]; omega)
  rw [this, List.length_drop]
  congr 1 <;> omega

theorem bfs_end (l : List Ob) (F : Nat) (o : List Int) : bfs l F o.length o = o := by
  cases F with
  | zero => rfl
  | succ f => rw [bfs, List.getElem?_eq_none (Nat.le_refl _)]

theorem bfs_step (l : List Ob) {F i : Nat} {o : List Int} {p : Int} (h : o[i]? = some p) (hF : 0 < F) : bfs l F i o = bfs l (F - 1) (i + 1) (visits o (fieldsOf l p)) := by
  obtain ⟨f, rfl⟩ : ∃ f, F = f + 1 := ⟨F - 1, by omega⟩
  rw [bfs, h]
  rfl

/-- Fields of a heap that may be are values of it. -/
theorem fields_may {M : Int} {l : List Ob} {r : List Vl} (h : hMay M l r = true) (p : Int) : (fieldsOf l p).all (vMay l.length) = true := by
  unfold fieldsOf
  split
  · rfl
  · rename_i o ho
    simp only [hMay, Bool.and_eq_true] at h
    have := List.all_eq_true.1 h.1.2 o (List.mem_of_getElem? ho)
    unfold oMay at this
    split at this
    · have h0 : o.fs = [] := List.eq_nil_of_length_eq_zero (by simpa using this)
      rw [h0]; rfl
    · simp only [Bool.and_eq_true] at this
      exact this.2

theorem bfs_ok {M : Int} {l : List Ob} {r : List Vl} (h : hMay M l r = true) : ∀ (F i : Nat) (o : List Int), Ok l.length o → Ok l.length (bfs l F i o)
  | 0, _, _, ho => ho
  | F + 1, i, o, ho => by
    rw [bfs]
    split
    · exact ho
    · exact bfs_ok h F (i + 1) _ (ho.visits (fields_may h _))

theorem reach_ok {M : Int} {l : List Ob} {r : List Vl} (h : hMay M l r = true) (roots : List Vl) (hr : roots.all (vMay l.length) = true) : Ok l.length (reach l roots) :=
  bfs_ok h _ _ _ ((Ok.nil _).visits hr)

end Go.Proofs.YtahcgnmhhgcfmaaDoor

/- What is led to is closed: fields of it lead nowhere else. -/
namespace Go.Proofs.YtahcgnmhhgcfmaaDoor

theorem visit_mem {o : List Int} {v : Vl} (hk : v.k = 2) : v.n ∈ visit o v := by
  unfold visit
  rw [if_pos hk]
  by_cases hm : v.n ∈ o
  · rw [if_pos hm]; exact hm
  · rw [if_neg hm]; simp

theorem visits_sub {o : List Int} (vs : List Vl) {p : Int} (hp : p ∈ o) : p ∈ visits o vs := by
  obtain ⟨t, ht⟩ := visits_ext vs o
  rw [ht]
  exact List.mem_append_left _ hp

theorem visits_mem {vs : List Vl} : ∀ {o : List Int} {v : Vl}, v ∈ vs → v.k = 2 → v.n ∈ visits o vs := by
  induction vs with
  | nil => intro o v hv; cases hv
  | cons u r ih =>
    intro o v hv hk
    rcases List.mem_cons.1 hv with rfl | h
    · exact visits_sub r (visit_mem hk)
    · exact ih (o := visit o u) h hk

theorem visits_at {o : List Int} (vs : List Vl) {i : Nat} {p : Int} (hp : o[i]? = some p) : (visits o vs)[i]? = some p := by
  obtain ⟨t, ht⟩ := visits_ext vs o
  rw [ht, List.getElem?_append_left (List.getElem?_eq_some_iff.1 hp).1]
  exact hp

theorem bfs_at (l : List Ob) : ∀ (F i : Nat) (o : List Int) {j : Nat} {p : Int}, o[j]? = some p → (bfs l F i o)[j]? = some p
  | 0, _, _, _, _, h => h
  | F + 1, i, o, j, p, h => by
    rw [bfs]
    split
    · exact h
    · exact bfs_at l F (i + 1) _ (visits_at _ h)

theorem bfs_sub (l : List Ob) (F i : Nat) {o : List Int} {p : Int} (h : p ∈ o) : p ∈ bfs l F i o := by
  obtain ⟨j, hj⟩ := List.getElem?_of_mem h
  exact List.mem_of_getElem? (bfs_at l F i o hj)

/-- What lies ahead of i has been looked at. -/
def Seen (l : List Ob) (i : Nat) (o : List Int) : Prop := ∀ (j : Nat) p, j < i → o[j]? = some p → ∀ v ∈ fieldsOf l p, v.k = 2 → v.n ∈ o

theorem bfs_seen {M : Int} {l : List Ob} {r : List Vl} (h : hMay M l r = true) : ∀ (F i : Nat) (o : List Int), Ok l.length o → l.length ≤ F + i → Seen l i o → ∀ p ∈ bfs l F i o, ∀ v ∈ fieldsOf l p, v.k = 2 → v.n ∈ bfs l F i o
  | 0, i, o, ho, hF, hs => fun p hp v hv hk => by
    obtain ⟨j, hj⟩ := List.getElem?_of_mem hp
    have h1 := (List.getElem?_eq_some_iff.1 hj).1
    have h2 : o.length ≤ l.length := ho.len
    simp only [bfs] at h1 hj ⊢
    exact hs j p (by omega) hj v hv hk
  | F + 1, i, o, ho, hF, hs => fun p hp v hv hk => by
    rw [bfs] at hp ⊢
    cases hi : o[i]? with
    | none =>
      rw [hi] at hp
      simp only at hp ⊢
      obtain ⟨j, hj⟩ := List.getElem?_of_mem hp
      have h1 := (List.getElem?_eq_some_iff.1 hj).1
      have h2 := List.getElem?_eq_none_iff.1 hi
      exact hs j p (by omega) hj v hv hk
    | some q =>
      rw [hi] at hp
      simp only at hp ⊢
      refine bfs_seen h F (i + 1) _ (ho.visits (fields_may h _)) (by omega) ?_ p hp v hv hk
      intro j p' hj hp' v' hv' hk'
      by_cases hji : j = i
      · subst hji
        have h3 := visits_at (fieldsOf l q) hi
        rw [h3] at hp'
        cases hp'
        exact visits_mem hv' hk'
      · have hlt := (List.getElem?_eq_some_iff.1 hi).1
        have hjo : o[j]? = some p' := by
          obtain ⟨t, ht⟩ := visits_ext (fieldsOf l q) o
          rw [ht, List.getElem?_append_left (by omega)] at hp'
          exact hp'
        exact visits_sub _ (hs j p' (by omega) hjo v' hv' hk')

/-- Fields of what is led to lead nowhere else. -/
theorem reach_closed {M : Int} {l : List Ob} {r : List Vl} (h : hMay M l r = true) {roots : List Vl} (hr : roots.all (vMay l.length) = true) {p : Int} (hp : p ∈ reach l roots) {v : Vl} (hv : v ∈ fieldsOf l p) (hk : v.k = 2) : v.n ∈ reach l roots :=
  bfs_seen h _ _ _ ((Ok.nil _).visits hr) (by omega) (fun j p hj => by omega) p hp v hv hk

theorem reach_root {l : List Ob} {roots : List Vl} {v : Vl} (hv : v ∈ roots) (hk : v.k = 2) : v.n ∈ reach l roots :=
  bfs_sub l _ _ (visits_mem hv hk)

theorem reach_first {l : List Ob} {v : Vl} {rest : List Vl} (hk : v.k = 2) : (reach l (v :: rest))[0]? = some v.n := by
  refine bfs_at l _ _ _ ?_
  show (visits (visit [] v) rest)[0]? = some v.n
  refine visits_at rest ?_
  simp [visit, hk]

end Go.Proofs.YtahcgnmhhgcfmaaDoor

/- What is cleared up, and what goes to another heap, as lists: places in the heap's order; values and objects at their new places. -/
namespace Go.Proofs.YtahcgnmhhgcfmaaDoor

/-- All places of a heap. -/
def spots (n : Nat) : List Int := (List.range n).map Int.ofNat

theorem mem_spots {n : Nat} {p : Int} : p ∈ spots n ↔ 0 ≤ p ∧ p < (n : Int) := by
  simp only [spots, List.mem_map, List.mem_range]
  constructor
  · rintro ⟨a, ha, rfl⟩
    exact ⟨Int.natCast_nonneg a, by show (a : Int) < n; omega⟩
  · rintro ⟨h0, h1⟩
    exact ⟨p.toNat, by omega, by show ((p.toNat : Nat) : Int) = p; omega⟩

theorem spots_succ (n : Nat) : spots (n + 1) = spots n ++ [(n : Int)] := by simp [spots, List.range_succ]

theorem spots_sorted (n : Nat) : (spots n).Pairwise (fun a b => a < b) := by
  induction n with
  | zero => simp [spots]
  | succ n ih =>
    rw [spots_succ, List.pairwise_append]
    refine ⟨ih, by simp, fun a ha b hb => ?_⟩
    simp at hb
    subst hb
    exact (mem_spots.1 ha).2

/-- Those of a list, in the heap's order. -/
def keptOf (order : List Int) (n : Nat) : List Int := (spots n).filter (fun p => decide (p ∈ order))

theorem mem_keptOf {order : List Int} {n : Nat} {p : Int} : p ∈ keptOf order n ↔ (0 ≤ p ∧ p < (n : Int)) ∧ p ∈ order := by
  simp [keptOf, mem_spots]

theorem keptOf_sorted (order : List Int) (n : Nat) : (keptOf order n).Pairwise (fun a b => a < b) := (spots_sorted n).filter _

theorem keptOf_nodup (order : List Int) (n : Nat) : (keptOf order n).Nodup := (keptOf_sorted order n).imp (fun h => by omega)

theorem keptOf_succ (order : List Int) (n : Nat) : keptOf order (n + 1) = if (n : Int) ∈ order then keptOf order n ++ [(n : Int)] else keptOf order n := by
  unfold keptOf
  rw [spots_succ, List.filter_append]
  by_cases h : (n : Int) ∈ order <;> simp [h]

theorem keptOf_perm {order : List Int} {n : Nat} (h : Ok n order) : order.Perm (keptOf order n) :=
  (List.perm_ext_iff_of_nodup h.1 (keptOf_nodup order n)).2 fun p => ⟨fun hp => mem_keptOf.2 ⟨h.2 p hp, hp⟩, fun hp => (mem_keptOf.1 hp).2⟩

theorem keptOf_length {order : List Int} {n : Nat} (h : Ok n order) : (keptOf order n).length = order.length := (keptOf_perm h).length_eq.symm

theorem sort_kept {order : List Int} {n : Nat} (h : Ok n order) : order.mergeSort (fun x y => decide (x ≤ y)) = keptOf order n := by
  refine List.Perm.eq_of_pairwise (le := fun a b : Int => a ≤ b) (fun a b _ _ h1 h2 => by omega) ?_ ((keptOf_sorted order n).imp (fun h => by omega)) ((List.mergeSort_perm _ _).trans (keptOf_perm h))
  have := List.pairwise_mergeSort (le := fun x y : Int => decide (x ≤ y)) (fun a b c h1 h2 => by simp at *; omega) (fun a b => by simp; omega) order
  exact this.imp (fun h => by simpa using h)

theorem keptOf_ok {order : List Int} {n : Nat} : Ok n (keptOf order n) := ⟨keptOf_nodup _ _, fun _ hp => (mem_keptOf.1 hp).1⟩

theorem idx_of {order : List Int} (h : order.Nodup) {i : Nat} {p : Int} (hi : order[i]? = some p) : order.idxOf p = i := by
  obtain ⟨hlt, rfl⟩ := List.getElem?_eq_some_iff.1 hi
  exact List.Nodup.idxOf_getElem h i hlt

theorem idx_at {order : List Int} {p : Int} (h : p ∈ order) : order[order.idxOf p]? = some p := by
  have hlt := List.idxOf_lt_length_iff.2 h
  rw [List.getElem?_eq_getElem hlt, List.getElem_idxOf]

theorem Ok.mono {n m : Nat} {o : List Int} (h : Ok n o) (hm : n ≤ m) : Ok m o := ⟨h.1, fun p hp => ⟨(h.2 p hp).1, by have := (h.2 p hp).2; omega⟩⟩

/-- A value at its new place. -/
def mvV (order : List Int) (b : Int) (v : Vl) : Vl := if v.k = 2 then ⟨2, b + (order.idxOf v.n : Nat)⟩ else v

def mvO (order : List Int) (b : Int) (o : Ob) : Ob := ⟨o.fs.map (mvV order b), o.dead⟩

def obAt (l : List Ob) (p : Int) : Ob := (l[p.toNat]?).getD ⟨[], false⟩

/-- Objects, one behind the other, at their new places. -/
def mvObs (l : List Ob) (order : List Int) (b : Int) (ps : List Int) : List Ob := ps.map fun p => mvO order b (obAt l p)

theorem mvObs_length' (l : List Ob) (order : List Int) (b : Int) (ps : List Int) : (mvObs l order b ps).length = ps.length := by simp [mvObs]

theorem fieldsOf_obAt (l : List Ob) (p : Int) : fieldsOf l p = (obAt l p).fs := by
  unfold fieldsOf obAt
  cases l[p.toNat]? <;> rfl

theorem hMay_roots' {M : Int} {l : List Ob} {r : List Vl} (h : hMay M l r = true) : r.all (vMay l.length) = true := by
  simp only [hMay, Bool.and_eq_true] at h; exact h.2

/-- What Collect answers: Most, the objects, the values, the error. -/
def collectS (M : Int) (l : List Ob) (roots : List Vl) : (Int × List Ob) × List Vl × Int :=
  if hMay M l roots = true then ((M, mvObs l (keptOf (reach l roots) l.length) 0 (keptOf (reach l roots) l.length)), roots.map (mvV (keptOf (reach l roots) l.length) 0), 0) else ((0, []), [], 8)

/-- All that values lead to is known. -/
def Leads (order : List Int) (vs : List Vl) : Prop := ∀ v ∈ vs, v.k = 2 → v.n ∈ order

theorem leads_roots {l : List Ob} {roots : List Vl} : Leads (reach l roots) roots := fun _ hv hk => reach_root hv hk

theorem leads_fields {M : Int} {l : List Ob} {roots : List Vl} (h : hMay M l roots = true) {p : Int} (hp : p ∈ reach l roots) : Leads (reach l roots) (obAt l p).fs := fun v hv hk => by
  have hr : roots.all (vMay l.length) = true := by simp only [hMay, Bool.and_eq_true] at h; exact h.2
  refine reach_closed h hr hp ?_ hk
  rw [fieldsOf_obAt]
  exact hv

theorem Leads.kept {order : List Int} {n : Nat} (ho : Ok n order) {vs : List Vl} (h : Leads order vs) : Leads (keptOf order n) vs := fun v hv hk => mem_keptOf.2 ⟨ho.2 _ (h v hv hk), h v hv hk⟩

end Go.Proofs.YtahcgnmhhgcfmaaDoor

/- Heaps that are the same but for places: what values lead to is told alike. -/
namespace Go.Proofs.YtahcgnmhhgcfmaaDoor

def ren (f : Int → Int) (v : Vl) : Vl := if v.k = 2 then ⟨2, f v.n⟩ else v

theorem mvV_ren (order : List Int) (b : Int) : mvV order b = ren (fun p => b + (order.idxOf p : Nat)) := rfl

/-- What S has of l stands in l' at f. -/
structure Sim (l l' : List Ob) (f : Int → Int) (S : Int → Prop) : Prop where
  inj : ∀ p q, S p → S q → f p = f q → p = q
  fields : ∀ p, S p → fieldsOf l' (f p) = (fieldsOf l p).map (ren f)
  closed : ∀ p, S p → ∀ v ∈ fieldsOf l p, v.k = 2 → S v.n

section
variable {l l' : List Ob} {f : Int → Int} {S : Int → Prop}

theorem mem_ren (h : Sim l l' f S) {o : List Int} (ho : ∀ p ∈ o, S p) {q : Int} (hq : S q) : f q ∈ o.map f ↔ q ∈ o := by
  constructor
  · intro hm
    obtain ⟨p, hp, e⟩ := List.mem_map.1 hm
    have := h.inj p q (ho p hp) hq e
    rw [← this]
    exact hp
  · exact fun hm => List.mem_map_of_mem hm

theorem visit_ren (h : Sim l l' f S) {o : List Int} (ho : ∀ p ∈ o, S p) {v : Vl} (hv : v.k = 2 → S v.n) : visit (o.map f) (ren f v) = (visit o v).map f := by
  unfold visit ren
  by_cases hk : v.k = 2
  · simp only [hk, if_true]
    have hm := mem_ren h ho (hv hk)
    by_cases hin : v.n ∈ o
    · rw [if_pos hin, if_pos (hm.2 hin)]
    · rw [if_neg hin, if_neg (fun x => hin (hm.1 x))]
      simp
  · simp only [hk, if_false]

theorem visit_all {o : List Int} (ho : ∀ p ∈ o, S p) {v : Vl} (hv : v.k = 2 → S v.n) : ∀ p ∈ visit o v, S p := by
  unfold visit
  by_cases hk : v.k = 2
  · rw [if_pos hk]
    by_cases hin : v.n ∈ o
    · rw [if_pos hin]; exact ho
    · rw [if_neg hin]
      intro p hp
      rcases List.mem_append.1 hp with hp | hp
      · exact ho p hp
      · simp at hp; subst hp; exact hv hk
  · rw [if_neg hk]; exact ho

theorem visits_all : ∀ {vs : List Vl} {o : List Int}, (∀ p ∈ o, S p) → (∀ v ∈ vs, v.k = 2 → S v.n) → ∀ p ∈ visits o vs, S p
  | [], _, ho, _ => ho
  | v :: r, o, ho, hv => visits_all (vs := r) (o := visit o v) (visit_all ho (hv v (by simp))) (fun u hu => hv u (by simp [hu]))

theorem visits_ren (h : Sim l l' f S) : ∀ {vs : List Vl} {o : List Int}, (∀ p ∈ o, S p) → (∀ v ∈ vs, v.k = 2 → S v.n) → visits (o.map f) (vs.map (ren f)) = (visits o vs).map f
  | [], _, _, _ => rfl
  | v :: r, o, ho, hv => by
    show visits (visit (o.map f) (ren f v)) (r.map (ren f)) = (visits (visit o v) r).map f
    rw [visit_ren h ho (hv v (by simp))]
    exact visits_ren h (visit_all ho (hv v (by simp))) (fun u hu => hv u (by simp [hu]))

theorem bfs_ren (h : Sim l l' f S) : ∀ (F i : Nat) (o : List Int), (∀ p ∈ o, S p) → bfs l' F i (o.map f) = (bfs l F i o).map f
  | 0, _, _, _ => rfl
  | F + 1, i, o, ho => by
    rw [bfs, bfs, List.getElem?_map]
    cases hi : o[i]? with
    | none => rfl
    | some p =>
      have hp := ho p (List.mem_of_getElem? hi)
      simp only [Option.map_some]
      rw [h.fields p hp, visits_ren h ho (h.closed p hp)]
      exact bfs_ren h F (i + 1) _ (visits_all ho (h.closed p hp))

theorem bfs_all (h : Sim l l' f S) : ∀ (F i : Nat) (o : List Int), (∀ p ∈ o, S p) → ∀ p ∈ bfs l F i o, S p
  | 0, _, _, ho => ho
  | F + 1, i, o, ho => by
    rw [bfs]
    cases hi : o[i]? with
    | none => exact ho
    | some p => exact bfs_all h F (i + 1) _ (visits_all ho (h.closed p (ho p (List.mem_of_getElem? hi))))

end

theorem bfs_fuel {M : Int} {l : List Ob} {r : List Vl} (h : hMay M l r = true) : ∀ (F F' i : Nat) (o : List Int), Ok l.length o → l.length ≤ F + i → F ≤ F' → bfs l F' i o = bfs l F i o
  | 0, F', i, o, ho, hF, _ => by
    have := ho.len
    cases F' with
    | zero => rfl
    | succ F' =>
      have hn : o[i]? = none := List.getElem?_eq_none (by omega)
      show (match o[i]? with | none => o | some p => bfs l F' (i + 1) (visits o (fieldsOf l p))) = o
      rw [hn]
  | F + 1, F', i, o, ho, hF, hle => by
    obtain ⟨G, rfl⟩ : ∃ G, F' = G + 1 := ⟨F' - 1, by omega⟩
    rw [bfs, bfs]
    cases hi : o[i]? with
    | none => rfl
    | some p => exact bfs_fuel h F G (i + 1) _ (ho.visits (fields_may h p)) (by omega) (by omega)

theorem hMay_roots {M : Int} {l : List Ob} {r : List Vl} (h : hMay M l r = true) : r.all (vMay l.length) = true := by
  simp only [hMay, Bool.and_eq_true] at h; exact h.2

theorem reach_ren {l l' : List Ob} {f : Int → Int} {S : Int → Prop} {M M' : Int} {roots : List Vl} (h : Sim l l' f S) (hm : hMay M l roots = true) (hm' : hMay M' l' (roots.map (ren f)) = true) (hr : ∀ v ∈ roots, v.k = 2 → S v.n) : reach l' (roots.map (ren f)) = (reach l roots).map f := by
  have e0 : visits [] (roots.map (ren f)) = (visits [] roots).map f := visits_ren h (o := []) (fun p hp => by cases hp) hr
  have ok : Ok l.length (visits [] roots) := (Ok.nil _).visits (hMay_roots hm)
  have ok' : Ok l'.length (visits [] (roots.map (ren f))) := (Ok.nil _).visits (hMay_roots hm')
  unfold reach
  rw [← bfs_fuel hm' (l'.length + 1) (l.length + 1 + (l'.length + 1)) 0 _ ok' (by omega) (by omega), ← bfs_fuel hm (l.length + 1) (l.length + 1 + (l'.length + 1)) 0 _ ok (by omega) (by omega), e0]
  exact bfs_ren h _ _ _ (visits_all (fun p hp => by cases hp) hr)

theorem reach_all {l l' : List Ob} {f : Int → Int} {S : Int → Prop} {roots : List Vl} (h : Sim l l' f S) (hr : ∀ v ∈ roots, v.k = 2 → S v.n) : ∀ p ∈ reach l roots, S p :=
  bfs_all h _ _ _ (visits_all (fun p hp => by cases hp) hr)

theorem idxOf_map_inj {f : Int → Int} : ∀ {R : List Int} {q : Int}, (∀ p ∈ R, f p = f q → p = q) → (R.map f).idxOf (f q) = R.idxOf q
  | [], _, _ => rfl
  | p :: R, q, h => by
    rw [List.map_cons, List.idxOf_cons, List.idxOf_cons]
    by_cases e : p = q
    · subst e; simp
    · have e' : f p ≠ f q := fun x => e (h p (by simp) x)
      have e1 : (p == q) = false := by simp [e]
      have e2 : (f p == f q) = false := by simp [e']
      rw [e1, e2, idxOf_map_inj (fun r hr => h r (by simp [hr]))]

/-- How a value is told. -/
def tell (R : List Int) (v : Vl) : List Int := if v.k = 2 then [2, (R.idxOf v.n : Nat)] else [v.k, v.n]

def tellOb (R : List Int) (fs : List Vl) : List Int := [-1, (fs.length : Int)] ++ fs.flatMap (tell R)

/-- The form of what values lead to. -/
def form (l : List Ob) (roots : List Vl) : List Int := roots.flatMap (tell (reach l roots)) ++ (reach l roots).flatMap (fun p => tellOb (reach l roots) (fieldsOf l p))

theorem tell_ren {l l' : List Ob} {f : Int → Int} {S : Int → Prop} (h : Sim l l' f S) {R : List Int} (hR : ∀ p ∈ R, S p) {v : Vl} (hv : v.k = 2 → S v.n) : tell (R.map f) (ren f v) = tell R v := by
  unfold tell ren
  by_cases hk : v.k = 2
  · simp only [hk, if_true]
    rw [idxOf_map_inj (fun p hp e => h.inj p v.n (hR p hp) (hv hk) e)]
  · simp only [hk, if_false]

theorem flatMap_congr' {α β : Type} {f g : α → List β} : ∀ {l : List α}, (∀ x ∈ l, f x = g x) → l.flatMap f = l.flatMap g
  | [], _ => rfl
  | x :: r, h => by rw [List.flatMap_cons, List.flatMap_cons, h x (by simp), flatMap_congr' (fun y hy => h y (by simp [hy]))]

theorem form_ren {l l' : List Ob} {f : Int → Int} {S : Int → Prop} {M M' : Int} {roots : List Vl} (h : Sim l l' f S) (hm : hMay M l roots = true) (hm' : hMay M' l' (roots.map (ren f)) = true) (hr : ∀ v ∈ roots, v.k = 2 → S v.n) : form l' (roots.map (ren f)) = form l roots := by
  have hR := reach_all h hr
  unfold form
  rw [reach_ren h hm hm' hr, List.flatMap_map, List.flatMap_map]
  congr 1
  · exact flatMap_congr' (fun v hv => tell_ren h hR (hr v hv))
  · refine flatMap_congr' (fun p hp => ?_)
    rw [h.fields p (hR p hp)]
    unfold tellOb
    rw [List.length_map, List.flatMap_map]
    congr 1
    exact flatMap_congr' (fun v hv => tell_ren h hR (h.closed p (hR p hp) v hv))

/-- What is cleared up is the same. -/
theorem mv_sim {M : Int} {l pre : List Ob} {roots : List Vl} {order : List Int} (h : hMay M l roots = true) (hmem : ∀ p, p ∈ order ↔ p ∈ reach l roots) :
    Sim l (pre ++ mvObs l order (pre.length : Int) order) (fun p => (pre.length : Int) + (order.idxOf p : Nat)) (fun p => p ∈ order) where
  inj := fun p q hp hq e => by
    have e1 : order.idxOf p = order.idxOf q := by omega
    have a := idx_at hp
    have b := idx_at hq
    rw [e1, b] at a
    simpa using a.symm
  fields := fun p hp => by
    have a := idx_at hp
    have e : ((pre.length : Int) + (order.idxOf p : Nat)).toNat = pre.length + order.idxOf p := by omega
    rw [fieldsOf_obAt l p]
    unfold fieldsOf
    simp only [e]
    rw [List.getElem?_append_right (by omega), Nat.add_sub_cancel_left, mvObs, List.getElem?_map, a]
    rfl
  closed := fun p hp v hv hk => (hmem _).2 (reach_closed h (hMay_roots h) ((hmem p).1 hp) hv hk)

theorem vMay_mv {n : Nat} {order : List Int} {b : Nat} {v : Vl} (m : Nat) (hm : b + order.length ≤ m) (hv : vMay n v = true) (hk : v.k = 2 → v.n ∈ order) : vMay m (mvV order b v) = true := by
  unfold mvV
  by_cases h2 : v.k = 2
  · have := List.idxOf_lt_length_iff.2 (hk h2)
    simp [h2, vMay]
    omega
  · rw [if_neg h2]
    unfold vMay at hv ⊢
    simp only [h2, if_false] at hv ⊢
    exact hv

theorem oMay_mv {n : Nat} {order : List Int} {b : Nat} {o : Ob} (m : Nat) (hm : b + order.length ≤ m) (ho : oMay n o = true) (hk : Leads order o.fs) : oMay m (mvO order b o) = true := by
  unfold oMay mvO at *
  by_cases hd : o.dead = true
  · simp only [hd, if_true, List.length_map] at ho ⊢
    exact ho
  · simp only [hd, List.length_map] at ho ⊢
    simp only [Bool.false_eq_true, if_false, Bool.and_eq_true] at ho ⊢
    refine ⟨ho.1, List.all_eq_true.2 fun u hu => ?_⟩
    obtain ⟨v, hv, rfl⟩ := List.mem_map.1 hu
    exact vMay_mv m hm (List.all_eq_true.1 ho.2 v hv) (hk v hv)

theorem oMay_obAt {M : Int} {l : List Ob} {roots : List Vl} (h : hMay M l roots = true) {p : Int} (hp : 0 ≤ p ∧ p < (l.length : Int)) : oMay l.length (obAt l p) = true := by
  simp only [hMay, Bool.and_eq_true] at h
  unfold obAt
  have hlt : p.toNat < l.length := by omega
  rw [List.getElem?_eq_getElem hlt]
  exact List.all_eq_true.1 h.1.2 _ (List.getElem_mem hlt)

theorem mvObs_length (l : List Ob) (order : List Int) (b : Int) (ps : List Int) : (mvObs l order b ps).length = ps.length := by simp [mvObs]

/-- A heap with what goes to it may be. -/
theorem mv_may {M M' : Int} {l pre : List Ob} {roots vs : List Vl} {order : List Int} (h : hMay M l roots = true) (hmem : ∀ p, p ∈ order ↔ p ∈ reach l roots) (hpre : hMay M' pre [] = true) (hfit : ((pre.length + order.length : Nat) : Int) ≤ M') (hvs : vs.all (vMay l.length) = true) (hl : Leads order vs) :
    hMay M' (pre ++ mvObs l order (pre.length : Int) order) (vs.map (mvV order (pre.length : Int))) = true := by
  have hlen : (pre ++ mvObs l order (pre.length : Int) order).length = pre.length + order.length := by rw [List.length_append, mvObs_length]
  have hok := reach_ok h roots (hMay_roots h)
  simp only [hMay, Bool.and_eq_true] at hpre
  simp only [hMay, Bool.and_eq_true]
  rw [hlen]
  refine ⟨⟨?_, List.all_eq_true.2 fun o ho => ?_⟩, List.all_eq_true.2 fun u hu => ?_⟩
  · have := hpre.1.1
    simp only [mMay, Bool.and_eq_true, decide_eq_true_eq] at this ⊢
    exact ⟨this.1, hfit⟩
  · rcases List.mem_append.1 ho with ho | ho
    · have := List.all_eq_true.1 hpre.1.2 o ho
      unfold oMay at this ⊢
      split at this
      · rename_i hd; rw [if_pos hd]; exact this
      · rename_i hd
        rw [if_neg hd]
        simp only [Bool.and_eq_true] at this ⊢
        refine ⟨this.1, List.all_eq_true.2 fun v hv => ?_⟩
        have h1 := List.all_eq_true.1 this.2 v hv
        unfold vMay at h1 ⊢
        split
        · rename_i h0; rw [if_pos h0] at h1; exact h1
        · rename_i h0
          rw [if_neg h0] at h1
          split
          · rename_i h2; rw [if_pos h2] at h1; exact h1
          · rename_i h2
            rw [if_neg h2] at h1
            split
            · rename_i h3; rw [if_pos h3] at h1; simp only [Bool.and_eq_true, decide_eq_true_eq] at h1 ⊢; omega
            · rename_i h3; rw [if_neg h3] at h1; exact h1
    · obtain ⟨p, hp, rfl⟩ := List.mem_map.1 ho
      have hp' := (hmem p).1 hp
      exact oMay_mv _ (Nat.le_refl _) (oMay_obAt h (hok.2 p hp')) (fun v hv hk => (hmem _).2 (leads_fields h hp' v hv hk))
  · obtain ⟨v, hv, rfl⟩ := List.mem_map.1 hu
    exact vMay_mv _ (Nat.le_refl _) (List.all_eq_true.1 hvs v hv) (hl v hv)

end Go.Proofs.YtahcgnmhhgcfmaaDoor

/- What the calls of a heap answer, as plain functions: Alloc, Get, Set, Transfer; and what is easily seen of them. -/
namespace Go.Proofs.YtahcgnmhhgcfmaaDoor

def zeroVals (n : Nat) : List Vl := List.replicate n ⟨0, 0⟩

/-- What Alloc answers: Most, the objects, the value, the error. -/
structure AR where
  M : Int
  obs : List Ob
  k : Int
  n : Int
  e : Int

def allocS (M : Int) (l : List Ob) (n : Int) : AR :=
  if hMay M l [] = false then ⟨0, [], 0, 0, 8⟩
  else if (decide (1 ≤ n) && decide (n ≤ 4)) = false then ⟨0, [], 0, 0, 2⟩
  else if (l.length : Int) = M then ⟨0, [], 0, 0, 7⟩
  else ⟨M, l ++ [⟨zeroVals n.toNat, false⟩], 2, l.length, 0⟩

/-- What is wrong with a field that is asked for: the heap and the value may be. -/
def fieldErr (l : List Ob) (v : Vl) (f : Int) : Int :=
  if v.k ≠ 2 then 9 else match l[v.n.toNat]? with
    | none => 0
    | some o => if o.dead then 10 else if f < 0 ∨ (o.fs.length : Int) ≤ f then 2 else 0

theorem ref_place {l : List Ob} {v : Vl} (h : vMay l.length v = true) (hk : v.k = 2) : ∃ (p : Nat) (o : Ob), v.n = p ∧ p < l.length ∧ l[p]? = some o := by
  simp [vMay, hk] at h
  obtain ⟨p, hp⟩ := Int.eq_ofNat_of_zero_le h.1
  have hlt : p < l.length := by omega
  exact ⟨p, l[p], hp, hlt, List.getElem?_eq_getElem hlt⟩

/-- What Get answers: the value, the error. -/
def getS (M : Int) (l : List Ob) (v : Vl) (f : Int) : Vl × Int :=
  if hMay M l [v] = false then (⟨0, 0⟩, 8) else if fieldErr l v f ≠ 0 then (⟨0, 0⟩, fieldErr l v f)
  else match l[v.n.toNat]? with
    | none => (⟨0, 0⟩, 0)
    | some o => match o.fs[f.toNat]? with
      | none => (⟨0, 0⟩, 0)
      | some x => (x, 0)

theorem hMay_vMay {M : Int} {l : List Ob} {r : List Vl} (h : hMay M l r = true) {v : Vl} (hv : v ∈ r) : vMay l.length v = true := by
  simp only [hMay, Bool.and_eq_true] at h
  exact List.all_eq_true.1 h.2 v hv

/-- Where no error is, there is a field. -/
theorem field_there {l : List Ob} {v : Vl} {f : Int} (hv : vMay l.length v = true) (he : fieldErr l v f = 0) : v.k = 2 ∧ ∃ (p q : Nat) (o : Ob) (x : Vl), v.n = p ∧ f = q ∧ l[p]? = some o ∧ o.fs[q]? = some x ∧ o.dead = false := by
  by_cases hk : v.k = 2
  · obtain ⟨p, o, hp, hlt, ho⟩ := ref_place hv hk
    simp only [fieldErr, hk, hp, Int.toNat_natCast, ho] at he
    cases hd : o.dead with
    | true => simp [hd] at he
    | false =>
      simp only [hd] at he
      by_cases hf : f < 0 ∨ (o.fs.length : Int) ≤ f
      · simp [hf] at he
      · obtain ⟨q, hq⟩ := Int.eq_ofNat_of_zero_le (show 0 ≤ f by omega)
        have hql : q < o.fs.length := by omega
        exact ⟨hk, p, q, o, o.fs[q], hp, hq, ho, List.getElem?_eq_getElem hql, hd⟩
  · simp [fieldErr, hk] at he

/-- The objects, with a field that is set. -/
def setObs (l : List Ob) (p q : Nat) (x : Vl) : List Ob :=
  match l[p]? with
  | none => l
  | some o => l.set p ⟨o.fs.set q x, o.dead⟩

/-- What Set answers: Most, the objects, the error. -/
def setS (M : Int) (l : List Ob) (v : Vl) (f : Int) (x : Vl) : Int × List Ob × Int :=
  if hMay M l [v, x] = false then (0, [], 8) else if fieldErr l v f ≠ 0 then (0, [], fieldErr l v f)
  else (M, setObs l v.n.toNat f.toNat x, 0)

theorem setObs_length (l : List Ob) (p q : Nat) (x : Vl) : (setObs l p q x).length = l.length := by
  unfold setObs
  split <;> simp

/-- What transferable answers. -/
def trS (M : Int) (l : List Ob) (v : Vl) (M' : Int) (l' : List Ob) : List Int × Int :=
  if (hMay M l [v] && hMay M' l' []) = true then
    if (reach l [v]).any (fun p => (obAt l p).dead) = true then ([], 10)
    else if M' < ((l'.length + (reach l [v]).length : Nat) : Int) then ([], 7)
    else (reach l [v], 0)
  else ([], 8)

theorem mMay_of {M : Int} {l : List Ob} {r : List Vl} (h : hMay M l r = true) : 0 ≤ M ∧ M ≤ 60 := by
  simp only [hMay, mMay, Bool.and_eq_true, decide_eq_true_eq] at h
  omega

def buryL (l : List Ob) (ps : List Int) : List Ob := ps.foldl (fun r p => r.set p.toNat (⟨[], true⟩ : Ob)) l

theorem buryL_length (l : List Ob) : ∀ ps : List Int, (buryL l ps).length = l.length := by
  intro ps
  induction ps generalizing l with
  | nil => rfl
  | cons p r ih => show (buryL _ r).length = _; rw [ih]; simp

theorem buryL_snoc (l : List Ob) (ps : List Int) (p : Int) : buryL l (ps ++ [p]) = (buryL l ps).set p.toNat ⟨[], true⟩ := by simp [buryL, List.foldl_append]

/-- What Transfer answers: both heaps, the value, the error. -/
structure TrR where
  M1 : Int
  o1 : List Ob
  M2 : Int
  o2 : List Ob
  v : Vl
  e : Int

def transferS (M : Int) (l : List Ob) (v : Vl) (M' : Int) (l' : List Ob) (move : Bool) : TrR :=
  if (trS M l v M' l').2 = 0 then ⟨M, if move then buryL l (trS M l v M' l').1 else l, M', l' ++ mvObs l (trS M l v M' l').1 l'.length (trS M l v M' l').1, mvV (trS M l v M' l').1 l'.length v, 0⟩
  else ⟨0, [], 0, [], ⟨0, 0⟩, (trS M l v M' l').2⟩

theorem trS_ok {M : Int} {l : List Ob} {v : Vl} {M' : Int} {l' : List Ob} (h : (trS M l v M' l').2 = 0) : hMay M l [v] = true ∧ hMay M' l' [] = true ∧ (trS M l v M' l').1 = reach l [v] ∧ (∀ p ∈ reach l [v], (obAt l p).dead = false) ∧ ((l'.length + (reach l [v]).length : Nat) : Int) ≤ M' := by
  unfold trS at h ⊢
  by_cases h1 : (hMay M l [v] && hMay M' l' []) = true
  · rw [if_pos h1] at h ⊢
    by_cases h2 : (reach l [v]).any (fun p => (obAt l p).dead) = true
    · rw [if_pos h2] at h; simp at h
    · rw [if_neg h2] at h ⊢
      by_cases h3 : M' < ((l'.length + (reach l [v]).length : Nat) : Int)
      · rw [if_pos h3] at h; simp at h
      · rw [if_neg h3]
        have h1' := Bool.and_eq_true_iff.1 h1
        refine ⟨h1'.1, h1'.2, rfl, fun p hp => ?_, by omega⟩
        have := (List.any_eq_false.1 (Bool.not_eq_true _ ▸ h2)) p hp
        simpa using this
  · rw [if_neg h1] at h; simp at h

theorem vMay_mono {m m' : Int} {v : Vl} (h : vMay m v = true) (hm : m ≤ m') : vMay m' v = true := by
  unfold vMay at h ⊢
  split
  · rename_i h0; simpa [h0] using h
  · rename_i h0
    split
    · rename_i h1; simpa [h0, h1] using h
    · rename_i h1
      split
      · rename_i h2
        simp [h2] at h ⊢
        omega
      · rename_i h2
        simp [h0, h1, h2] at h

theorem oMay_mono {m m' : Int} {o : Ob} (h : oMay m o = true) (hm : m ≤ m') : oMay m' o = true := by
  unfold oMay at h ⊢
  split
  · rename_i hd; simpa [hd] using h
  · rename_i hd
    simp only [hd, if_false, Bool.and_eq_true, Bool.false_eq_true] at h ⊢
    exact ⟨h.1, List.all_eq_true.2 fun x hx => vMay_mono (List.all_eq_true.1 h.2 x hx) hm⟩

theorem hMay_parts {M : Int} {l : List Ob} {r : List Vl} : hMay M l r = true ↔ (0 ≤ M ∧ M ≤ 60 ∧ (l.length : Int) ≤ M) ∧ (∀ o ∈ l, oMay l.length o = true) ∧ ∀ v ∈ r, vMay l.length v = true := by
  simp only [hMay, mMay, Bool.and_eq_true, decide_eq_true_eq, List.all_eq_true]
  exact ⟨fun h => ⟨⟨h.1.1.1.1, h.1.1.1.2, h.1.1.2⟩, h.1.2, h.2⟩, fun h => ⟨⟨⟨⟨h.1.1, h.1.2.1⟩, h.1.2.2⟩, h.2.1⟩, h.2.2⟩⟩

theorem buryL_at (l : List Ob) : ∀ (ps : List Int), (∀ p ∈ ps, 0 ≤ p) → ∀ i : Nat, (buryL l ps)[i]? = if (i : Int) ∈ ps ∧ i < l.length then some ⟨[], true⟩ else l[i]? := by
  intro ps
  induction ps generalizing l with
  | nil => intro _ i; simp [buryL]
  | cons p r ih =>
    intro hp i
    have h0 := hp p (by simp)
    show (buryL (l.set p.toNat ⟨[], true⟩) r)[i]? = _
    rw [ih _ (fun q hq => hp q (by simp [hq])) i, List.length_set]
    by_cases hr : (i : Int) ∈ r ∧ i < l.length
    · rw [if_pos hr, if_pos ⟨by simp [hr.1], hr.2⟩]
    · rw [if_neg hr, List.getElem?_set]
      by_cases he : p.toNat = i
      · have hpi : (i : Int) = p := by omega
        rw [if_pos he]
        by_cases hl : i < l.length
        · rw [if_pos (by omega), if_pos ⟨by simp [hpi], hl⟩]
        · rw [if_neg (by omega), if_neg (fun x => hl x.2), List.getElem?_eq_none (by omega)]
      · have hpi : (i : Int) ≠ p := by omega
        rw [if_neg he, if_neg]
        intro x
        exact hr ⟨by simpa [hpi] using x.1, x.2⟩

theorem bury_may {M : Int} {l : List Ob} {ps : List Int} {roots : List Vl} (h : hMay M l roots = true) (hp : ∀ p ∈ ps, 0 ≤ p) : hMay M (buryL l ps) roots = true := by
  simp only [hMay, Bool.and_eq_true] at h ⊢
  rw [buryL_length]
  refine ⟨⟨h.1.1, List.all_eq_true.2 fun o ho => ?_⟩, h.2⟩
  obtain ⟨i, hi⟩ := List.getElem?_of_mem ho
  rw [buryL_at l ps hp i] at hi
  split at hi
  · cases hi
    rfl
  · exact List.all_eq_true.1 h.1.2 o (List.mem_of_getElem? hi)

/-- What was there stays where it was. -/
theorem pre_sim (pre more : List Ob) (hcl : ∀ p : Int, 0 ≤ p ∧ p < (pre.length : Int) → ∀ v ∈ fieldsOf pre p, v.k = 2 → 0 ≤ v.n ∧ v.n < (pre.length : Int)) : Sim pre (pre ++ more) id (fun p => 0 ≤ p ∧ p < (pre.length : Int)) where
  inj := fun p q _ _ e => e
  fields := fun p hp => by
    have e : ren id = id := by
      funext v
      unfold ren
      by_cases hk : v.k = 2
      · rw [if_pos hk]
        obtain ⟨k, n⟩ := v
        simp at hk
        subst hk
        rfl
      · rw [if_neg hk]; rfl
    rw [e, List.map_id]
    unfold fieldsOf
    show (match (pre ++ more)[p.toNat]? with | none => [] | some o => o.fs) = _
    rw [List.getElem?_append_left (by omega)]
    all_goals rfl
  closed := hcl

theorem ren_id_map (vs : List Vl) : vs.map (ren id) = vs := by
  have e : ren id = id := by
    funext v
    unfold ren
    by_cases hk : v.k = 2
    · rw [if_pos hk]
      obtain ⟨k, n⟩ := v
      simp at hk
      subst hk
      rfl
    · rw [if_neg hk]; rfl
  rw [e, List.map_id]

end Go.Proofs.YtahcgnmhhgcfmaaDoor

/- Worlds of actors as data, and what an act makes of them: plain functions. -/
namespace Go.Proofs.YtahcgnmhhgcfmaaDoor

/-- An actor. -/
structure Ac where
  kind : Int
  par : Int
  M : Int
  obs : List Ob
  regs : List Vl
  pc : Int
  box : List Vl
  fin : Int

/-- A world: its actors, and what was told. -/
structure Wd where
  acts : List Ac
  prints : List (Int × Int)

/-- An act. -/
structure Ax where
  kind : Int
  who : Int
  n : Int
  m : Int

def numV (n : Int) : Vl := ⟨1, n⟩
def nilV : Vl := ⟨0, 0⟩
def isW (n : Int) : Bool := decide (-1099511627776 ≤ n) && decide (n ≤ 1099511627776)
def noAc : Ac := ⟨0, 0, 0, [], [], 0, [], 0⟩

def Ac.reg (a : Ac) (r : Int) : Vl := (a.regs[r.toNat]?).getD nilV
def Ac.put (a : Ac) (r : Int) (v : Vl) : Ac := { a with regs := a.regs.set r.toNat v }
def Ac.heap (a : Ac) (M : Int) (l : List Ob) : Ac := { a with M := M, obs := l }
def Ac.push (a : Ac) (v : Vl) : Ac := { a with box := a.box ++ [v] }
def Ac.roots (a : Ac) : List Vl := a.regs ++ a.box

def Wd.at (w : Wd) (n : Int) : Ac := (w.acts[n.toNat]?).getD noAc
def Wd.put (w : Wd) (n : Int) (a : Ac) : Wd := { w with acts := w.acts.set n.toNat a }

/-- A heap is cleared up. -/
def clearS (a : Ac) : Ac :=
  if (collectS a.M a.obs a.roots).2.2 = 0 then { a with M := (collectS a.M a.obs a.roots).1.1, obs := (collectS a.M a.obs a.roots).1.2, regs := (collectS a.M a.obs a.roots).2.1.take a.regs.length, box := (collectS a.M a.obs a.roots).2.1.drop a.regs.length } else a

/-- An object is given, if there is room. -/
def giveS (a : Ac) (n : Int) : Ac × Option Vl :=
  if (allocS a.M a.obs n).e = 0 then (a.heap (allocS a.M a.obs n).M (allocS a.M a.obs n).obs, some ⟨(allocS a.M a.obs n).k, (allocS a.M a.obs n).n⟩)
  else if (allocS a.M a.obs n).e = 7 then
    (if (allocS (clearS a).M (clearS a).obs n).e = 0 then ((clearS a).heap (allocS (clearS a).M (clearS a).obs n).M (allocS (clearS a).M (clearS a).obs n).obs, some ⟨(allocS (clearS a).M (clearS a).obs n).k, (allocS (clearS a).M (clearS a).obs n).n⟩)
    else (clearS a, none))
  else (a, none)

def livesS (w : Wd) (n : Int) : Bool := (decide (0 ≤ n) && decide (n < (w.acts.length : Int))) && decide ((w.at n).fin = 0)
def takesS (w : Wd) (n : Int) : Bool := livesS w n && decide ((w.at n).box.length < 6)

/-- An actor that takes it is told two numbers. -/
def toldS (a : Ac) (n m : Int) : Ac := match giveS a 2 with
  | (b, none) => b
  | (b, some v) => { b with obs := setObs (setObs b.obs v.n.toNat 0 (numV n)) v.n.toNat 1 (numV m), box := b.box ++ [v] }

def tellS (w : Wd) (to n m : Int) : Wd := if takesS w to = true then w.put to (toldS (w.at to) n m) else w

def endedS (a : Ac) (way : Int) : Ac := { a with regs := a.regs.map (fun _ => nilV), box := [], obs := [], pc := -1, fin := way }

def endS (w : Wd) (who : Nat) (way : Int) : Wd := tellS (w.put who (endedS (w.at who) way)) (w.at who).par who way

def faultS (e : Int) : Int := if e = 2 then 4 else 8

def keep1 : List Vl → List Vl
  | [] => []
  | v :: r => v :: r.map (fun _ => nilV)

def resultS (op x y : Int) : Int := if op = 2 then x + y else if op = 3 then x - y else if x < y then 1 else 0

def reckonS (a : Ac) (i : Ins) : Ac × Int :=
  if (a.reg i.a).k ≠ 1 ∨ (a.reg i.b).k ≠ 1 then (a, 8)
  else if isW (resultS i.op (a.reg i.a).n (a.reg i.b).n) = false then (a, 7)
  else (a.put i.a (numV (resultS i.op (a.reg i.a).n (a.reg i.b).n)), 0)

def makeS (a : Ac) (i : Ins) : Ac × Int := match giveS a i.n with
  | (b, none) => (b, 5)
  | (b, some v) => (b.put i.a v, 0)

def getsS (a : Ac) (i : Ins) (kind way : Int) : Ac × Int :=
  if (getS a.M a.obs (a.reg i.b) i.n).2 ≠ 0 then (a, faultS (getS a.M a.obs (a.reg i.b) i.n).2)
  else if (getS a.M a.obs (a.reg i.b) i.n).1.k ≠ kind then (a, way)
  else (a.put i.a (getS a.M a.obs (a.reg i.b) i.n).1, 0)

def putsS (a : Ac) (i : Ins) (kind : Int) : Ac × Int :=
  if (setS a.M a.obs (a.reg i.a) i.n (a.reg i.b)).2.2 ≠ 0 then (a, faultS (setS a.M a.obs (a.reg i.a) i.n (a.reg i.b)).2.2)
  else if (a.reg i.b).k ≠ kind then (a, 8)
  else (a.heap (setS a.M a.obs (a.reg i.a) i.n (a.reg i.b)).1 (setS a.M a.obs (a.reg i.a) i.n (a.reg i.b)).2.1, 0)

/-- Instructions that concern an actor alone. -/
def aloneS (a : Ac) (who : Nat) (i : Ins) : Ac × Int :=
  if i.op = 0 then (if (a.reg 0).k ≠ 2 then (a, 8) else ({ a with regs := keep1 a.regs }, 0))
  else if i.op = 1 then (a.put i.a (numV i.n), 0)
  else if i.op = 2 ∨ i.op = 3 ∨ i.op = 4 then reckonS a i
  else if i.op = 5 then (a, if (a.reg i.a).k ≠ 1 then 8 else 0)
  else if i.op = 7 then makeS a i
  else if i.op = 8 then getsS a i 1 2
  else if i.op = 10 then getsS a i 2 3
  else if i.op = 9 then putsS a i 1
  else if i.op = 11 then putsS a i 2
  else if i.op = 12 then (a.put i.a (a.reg i.b), 0)
  else if i.op = 16 then (a.put i.a (numV who), 0)
  else if i.op = 18 then (a.put i.a nilV, 0)
  else if i.op = 19 then (a, 1)
  else (a, 0)

def leadsDead (a : Ac) (v : Vl) : Bool := (reach a.obs [v]).any fun p => (obAt a.obs p).dead

/-- What was transferred is there. -/
def arriveS (w : Wd) (who : Nat) (to : Int) (t : TrR) : Wd :=
  if t.e ≠ 0 then w else (w.put who ((w.at who).heap t.M1 t.o1)).put to ((((w.put who ((w.at who).heap t.M1 t.o1)).at to).heap t.M2 t.o2).push t.v)

def trW (w : Wd) (who : Nat) (r to : Int) (move : Bool) : TrR := transferS (w.at who).M (w.at who).obs ((w.at who).reg r) (w.at to).M (w.at to).obs move

def deliverS (w : Wd) (who : Nat) (r to : Int) (move : Bool) : Wd :=
  if (trW w who r to move).e = 7 then arriveS (w.put to (clearS (w.at to))) who to (trW (w.put to (clearS (w.at to))) who r to move)
  else arriveS w who to (trW w who r to move)

def goneS (w : Wd) (who : Nat) (i : Ins) : Wd :=
  if takesS w ((w.at who).reg i.b).n = false then w
  else if i.op = 13 ∧ ((w.at who).reg i.b).n = who then w.put who ((w.at who).push ((w.at who).reg i.a))
  else deliverS w who i.a ((w.at who).reg i.b).n (decide (i.op = 13))

def sendS (w : Wd) (who : Nat) (i : Ins) : Wd × Int :=
  if ((w.at who).reg i.a).k ≠ 2 ∨ ((w.at who).reg i.b).k ≠ 1 ∨ leadsDead (w.at who) ((w.at who).reg i.a) = true then (w, 8)
  else if i.op = 13 then ((goneS w who i).put who (((goneS w who i).at who).put i.a nilV), 0)
  else (goneS w who i, 0)

def reportS (w : Wd) (who : Nat) (i : Ins) : Wd × Int :=
  if ((w.at who).reg i.a).k ≠ 1 then (w, 8)
  else if w.prints.length < 500 then ({ w with prints := w.prints ++ [((who : Int), ((w.at who).reg i.a).n)] }, 0)
  else (w, 0)

def beginS (kind par M : Int) (l : List Ob) (v : Vl) : Ac := ⟨kind, par, M, l, [v, nilV, nilV, nilV, nilV, nilV, nilV, nilV], -1, [], 0⟩

def spawnS (w : Wd) (who : Nat) (i : Ins) : Wd × Int :=
  if ((w.at who).reg i.b).k ≠ 2 then (w, 8)
  else if 8 ≤ w.acts.length then (w, 6)
  else if (transferS (w.at who).M (w.at who).obs ((w.at who).reg i.b) (w.at who).M [] true).e ≠ 0 then (w, 8)
  else
    (⟨(w.put who ((((w.at who).heap (transferS (w.at who).M (w.at who).obs ((w.at who).reg i.b) (w.at who).M [] true).M1 (transferS (w.at who).M (w.at who).obs ((w.at who).reg i.b) (w.at who).M [] true).o1).put i.b nilV).put i.a (numV w.acts.length))).acts ++
      [beginS i.n who (transferS (w.at who).M (w.at who).obs ((w.at who).reg i.b) (w.at who).M [] true).M2 (transferS (w.at who).M (w.at who).obs ((w.at who).reg i.b) (w.at who).M [] true).o2 (transferS (w.at who).M (w.at who).obs ((w.at who).reg i.b) (w.at who).M [] true).v], w.prints⟩, 0)

/-- An instruction: the world behind it, and how the actor ends. -/
def performS (w : Wd) (who : Nat) (i : Ins) : Wd × Int :=
  if i.op = 13 ∨ i.op = 14 then sendS w who i
  else if i.op = 15 then reportS w who i
  else if i.op = 17 then spawnS w who i
  else (w.put who (aloneS (w.at who) who i).1, (aloneS (w.at who) who i).2)

def nextS (a : Ac) (i : Ins) : Int :=
  if i.op = 0 then -1 else if i.op = 6 ∨ (i.op = 5 ∧ (a.reg i.a).k = 1 ∧ (a.reg i.a).n = 0) then a.pc + i.n else a.pc + 1

def takeS (a : Ac) : Ac := match a.box with
  | [] => a
  | v :: r => { (a.put 1 v) with box := r, pc := 0 }

def insAt (X : Nat → Nat → Nat → Int) (k i : Int) : Ins := ⟨X k.toNat i.toNat 0, X k.toNat i.toNat 1, X k.toNat i.toNat 2, X k.toNat i.toNat 3⟩

def doneS (w : Wd) (who : Nat) (i : Ins) : Wd :=
  if (performS w who i).2 ≠ 0 then endS (performS w who i).1 who (performS w who i).2 else (performS w who i).1

def stepS (X : Nat → Nat → Nat → Int) (w : Wd) (who : Nat) : Wd :=
  if livesS w who = false then w
  else if (w.at who).pc = -1 then w.put who (takeS (w.at who))
  else doneS (w.put who { (w.at who) with pc := nextS (w.at who) (insAt X (w.at who).kind (w.at who).pc) }) who (insAt X (w.at who).kind (w.at who).pc)

def actS (X : Nat → Nat → Nat → Int) (w : Wd) (a : Ax) : Wd :=
  if (w.acts.length : Int) ≤ a.who then w
  else if a.kind = 1 then stepS X w a.who.toNat
  else if a.kind = 2 then w.put a.who (clearS (w.at a.who))
  else tellS w a.who a.n a.m

def axFault (a : Ax) : Int :=
  if a.kind ≠ 1 ∧ a.kind ≠ 2 ∧ a.kind ≠ 3 then 3
  else if a.who < 0 ∨ 8 ≤ a.who ∨ isW a.n = false ∨ isW a.m = false then 2
  else 0

/-- May an actor of that number be? -/
def acMay (G : Nat) (L : Nat → Nat) (a : Ac) (num : Nat) : Bool :=
  ((((((decide (0 ≤ a.kind) && decide (a.kind < (G : Int))) && (decide (-1 ≤ a.par) && decide (a.par < (num : Int)))) && (decide (-1 ≤ a.pc) && decide (a.pc < (L a.kind.toNat : Int)))) && (decide (0 ≤ a.fin) && decide (a.fin ≤ 8))) &&
    (decide (a.regs.length = 8) && decide (a.box.length ≤ 6))) && a.box.all (fun v => decide (v.k = 2))) && (hMay a.M a.obs a.roots && (decide (a.fin = 0) || (decide (a.box.length = 0) && (decide (a.obs.length = 0) && decide (a.pc = -1)))))

def prMay (n : Nat) (t : Int × Int) : Bool := (decide (0 ≤ t.1) && decide (t.1 < (n : Int))) && isW t.2

def acsMay (G : Nat) (L : Nat → Nat) : List Ac → Nat → Bool
  | [], _ => true
  | a :: r, i => acMay G L a i && acsMay G L r (i + 1)

def wdMay (G : Nat) (L : Nat → Nat) (w : Wd) : Bool :=
  ((decide (1 ≤ w.acts.length) && decide (w.acts.length ≤ 8)) && decide (w.prints.length ≤ 500)) && (w.prints.all (prMay w.acts.length) && acsMay G L w.acts 0)

def newW (M : Int) : Wd := ⟨[beginS 0 (-1) M [⟨[numV 0, numV 0], false⟩] ⟨2, 0⟩], []⟩

/-- A script from a world on: the world, and the fault. -/
def runS (X : Nat → Nat → Nat → Int) : Wd → List Ax → Wd × Int
  | w, [] => (w, 0)
  | w, a :: r => if axFault a ≠ 0 then (⟨[], []⟩, axFault a) else runS X (actS X w a) r

end Go.Proofs.YtahcgnmhhgcfmaaDoor

/- Worlds of actors as they lie in memory. -/
namespace Go.Proofs.YtahcgnmhhgcfmaaDoor
open Go.RowKit

/-- An actor lies here. -/
structure AcAt (w : World) (b o : Nat) (x : Ac) (oa : Option Addr) (oc : Nat) (ra : Option Addr) (rc : Nat) (ba : Option Addr) (bc : Nat) : Prop where
  c0 : w.cell? ⟨b, o, none⟩ = some (.int .i64 x.kind)
  c1 : w.cell? ⟨b, o + 1, none⟩ = some (.int .i64 x.par)
  c2 : w.cell? ⟨b, o + 2, none⟩ = some (.int .i64 x.M)
  c3 : w.cell? ⟨b, o + 3, none⟩ = some (.slice oa x.obs.length oc)
  c4 : w.cell? ⟨b, o + 4, none⟩ = some (.slice ra x.regs.length rc)
  c5 : w.cell? ⟨b, o + 5, none⟩ = some (.int .i64 x.pc)
  c6 : w.cell? ⟨b, o + 6, none⟩ = some (.slice ba x.box.length bc)
  c7 : w.cell? ⟨b, o + 7, none⟩ = some (.int .i64 x.fin)
  obs : ObsAt w oa x.obs
  regs : ValsAt w ra x.regs
  box : ValsAt w ba x.box
  rlen : 16 * x.regs.length ≤ 140737488351232
  blen : 16 * x.box.length ≤ 140737488351232

theorem AcAt.keeps {w w' : World} {b o : Nat} {x : Ac} {oa ra ba : Option Addr} {oc rc bc : Nat} (h : AcAt w b o x oa oc ra rc ba bc) (k : Keeps w w') : AcAt w' b o x oa oc ra rc ba bc :=
  ⟨k _ _ h.c0, k _ _ h.c1, k _ _ h.c2, k _ _ h.c3, k _ _ h.c4, k _ _ h.c5, k _ _ h.c6, k _ _ h.c7, h.obs.keeps k, h.regs.keeps k, h.box.keeps k, h.rlen, h.blen⟩

/-- These actors lie in a row. -/
structure ActsAt (w : World) (ao : Option Addr) (l : List Ac) : Prop where
  cell : ∀ i x, l[i]? = some x → ∃ b o oa oc ra rc ba bc, ao = some ⟨b, o, none⟩ ∧ AcAt w b (o + i * 8) x oa oc ra rc ba bc
  many : 112 * l.length ≤ 140737488351232

theorem ActsAt.keeps {w w' : World} {ao : Option Addr} {l : List Ac} (h : ActsAt w ao l) (k : Keeps w w') : ActsAt w' ao l :=
  ⟨fun i x hi => by
    obtain ⟨b, o, oa, oc, ra, rc, ba, bc, e, h1⟩ := h.cell i x hi
    exact ⟨b, o, oa, oc, ra, rc, ba, bc, e, h1.keeps k⟩, h.many⟩

/-- What was told lies in a row. -/
structure ToldAt (w : World) (ao : Option Addr) (l : List (Int × Int)) : Prop where
  cell : ∀ i x, l[i]? = some x → ∃ b o, ao = some ⟨b, o, none⟩ ∧ w.cell? ⟨b, o + i * 2, none⟩ = some (.int .i64 x.1) ∧ w.cell? ⟨b, o + i * 2 + 1, none⟩ = some (.int .i64 x.2)
  many : 16 * l.length ≤ 140737488351232

theorem ToldAt.keeps {w w' : World} {ao : Option Addr} {l : List (Int × Int)} (h : ToldAt w ao l) (k : Keeps w w') : ToldAt w' ao l :=
  ⟨fun i x hi => by
    obtain ⟨b, o, e, h1, h2⟩ := h.cell i x hi
    exact ⟨b, o, e, k _ _ h1, k _ _ h2⟩, h.many⟩

theorem ActsAt.nil (w : World) (ao : Option Addr) : ActsAt w ao [] := ⟨fun i x hi => by simp at hi, by show 112 * 0 ≤ 140737488351232; omega⟩
theorem ToldAt.nil (w : World) (ao : Option Addr) : ToldAt w ao [] := ⟨fun i x hi => by simp at hi, by show 16 * 0 ≤ 140737488351232; omega⟩

end Go.Proofs.YtahcgnmhhgcfmaaDoor

/- Bytes that are gathered by append in memory of the call's own: what one append makes of them. -/
namespace Go.Proofs.YtahcgnmhhgcfmaaDoor
open Go.RowKit

/-- The slice v, in memory from block base on, holds the bytes bs (e: the type of a byte). -/
def Buf (w : World) (base : Nat) (e : TypeId) (v : Value) (bs : List Int) : Prop := w.ownsRow base e 1 v bs.length (bs.map (Value.int .u8))

/-- What a byte is in the program's table of ctypes. -/
structure ByteType (P : Program) (t e : TypeId) (i : TypeInfo) : Prop where
  ht : P.underlying t = some (.slice e)
  hi : P.info? e = some i
  hz : i.zero = some (.int .u8 0)
  hsize : i.size = 1
  hby : i.bytes = 1

section
variable {P : Program} {w : World} {base : Nat} {t e : TypeId} {v : Value} {bs : List Int}

theorem Buf.alloc (h : Buf w base e v bs) (o : Obj) : Buf (w.alloc o) base e v bs := World.ownsRow.alloc h o

theorem Buf.below {w' : World} (h : Buf w base e v bs) (hb : Below w.heap.size w w') : Buf w' base e v bs :=
  World.ownsRow.kept h ⟨hb.os, hb.tape, hb.output, hb.size, fun k hk _ => hb.block k hk⟩ (row := none) (by cases hv : v.ownBlock <;> simp)

theorem Buf.le {base' : Nat} (h : Buf w base e v bs) (hb : base' ≤ base) : Buf w base' e v bs :=
  ⟨h.1, h.2.elim Or.inl (fun ⟨g, cap, cur, hv, hg, r⟩ => Or.inr ⟨g, cap, cur, hv, Nat.le_trans hb hg, r⟩)⟩

/-- Bytes that a literal lays. -/
theorem Buf.lit (w : World) (base : Nat) (e : TypeId) (bs : List Int) (hb : base ≤ w.heap.size) (hm : bs.length ≤ 1000000) :
    Buf (w.alloc (.cells (bs.map (Value.int .u8)).toArray e)) base e (.slice (some ⟨w.heap.size, 0, none⟩) bs.length bs.length) bs := by
  have := World.ownsRow_lit (base := base) (e := e) (size := 1) w (bs.map (Value.int .u8)).toArray bs.length hb (by unfold maxLen; omega) (by simp)
  simpa [Buf] using this

theorem Buf.nil (w : World) (base : Nat) (e : TypeId) : Buf w base e (.slice none 0 0) [] := World.ownsRow_nil w base e 1

/-- A block of another type is none of the bytes'. -/
theorem Buf.other (h : Buf w base e v bs) {k : Nat} {c : Array Value} {t' : TypeId} {fr : Nat × Nat} (hk : w.heap[k]? = some (.cells c t' fr)) (hne : t' ≠ e) : some k ≠ v.ownBlock := by
  rcases h.2 with ⟨rfl, _⟩ | ⟨g, cap, cur, rfl, _, hg, _⟩
  · simp [Value.ownBlock]
  · simp only [Value.ownBlock]
    intro e'
    simp only [Option.some.injEq] at e'
    subst e'
    rw [hk] at hg
    simp only [Option.some.injEq, Obj.cells.injEq] at hg
    exact hne hg.2.1

theorem Buf.form (h : Buf w base e v bs) : (v = .slice none 0 0 ∧ bs = []) ∨ ∃ g cap, v = .slice (some ⟨g, 0, none⟩) bs.length cap ∧ base ≤ g := by
  rcases h.2 with ⟨hv, hn⟩ | ⟨g, cap, _, hv, hb, _⟩
  · exact Or.inl ⟨hv, List.eq_nil_of_length_eq_zero hn⟩
  · exact Or.inr ⟨g, cap, hv, hb⟩

theorem Buf.cells (h : Buf w base e v bs) {g cap n : Nat} (hv : v = .slice (some ⟨g, 0, none⟩) n cap) : ∀ j u, (bs.map (Value.int .u8))[j]? = some u → w.cell? ((⟨g, 0, none⟩ : Addr).add j) = some u :=
  World.ownsRow.cells h (by rw [hv]; rfl)

theorem below_grown (h : Buf w base e v bs) {w' : World} (hg : w.grownBy w' v.ownBlock) (hb : base ≤ w.heap.size) : Below base w w' :=
  (Below.refl _ _).grown hg hb (fun k hk => (World.ownsRow.lt h k hk).1)

/-- A block of another type is as it was behind an append. -/
theorem Buf.keep (h : Buf w base e v bs) {w' : World} (hg : w.grownBy w' v.ownBlock) {k : Nat} {c : Array Value} {t' : TypeId} (hk : w.heap[k]? = some (.cells c t' (0, 0))) (hne : t' ≠ e) : w'.heap[k]? = some (.cells c t' (0, 0)) :=
  (hg.block k (Array.getElem?_eq_some_iff.1 hk).1 (h.other hk hne)).trans hk

theorem cell_new_at (w : World) (x : Value) (e : TypeId) (m : Nat) (h : m = w.heap.size) : (w.alloc (.cells #[x] e)).cell? ⟨m, 0, none⟩ = some x := by subst h; simp
theorem block_new (w : World) (o : Obj) : (w.alloc o).heap[w.heap.size]? = some o := Deep.blk_alloc_new w o
theorem block_old {w : World} {k : Nat} {x : Obj} (h : w.heap[k]? = some x) (o : Obj) : (w.alloc o).heap[k]? = some x :=
  (Deep.blk_alloc_lt w o k (Array.getElem?_eq_some_iff.1 h).1).trans h
theorem ccell_blk {w : World} {k : Nat} {c : Array Value} {t' : TypeId} (h : w.heap[k]? = some (.cells c t' (0, 0))) (j : Nat) : w.cell? ⟨k, j, none⟩ = c[j]? := by simp [World.cell?, h]

/-- 'append(v, x...)' where x holds the bytes ys. -/
theorem wpList_gather {i : TypeInfo} (B : ByteType P t e i) {ops : Array Oper} {rest : List Oper} {o : Oper} {a : Act} {Q : Exit → Act → World → Prop} (hgd : o.guard = none) (s x : Operand)
    (ho : o.op = .call { callee := .builtin .append, args := #[s, x], argTypes := #[t, t] }) (hs : a.eval s = v) (hB : Buf w base e v bs)
    (ys : List Int) (ad : Addr) (c : Nat) (hx : a.eval x = .slice (some ad) ys.length c) (hy : ∀ j u, (ys.map (Value.int .u8))[j]? = some u → w.cell? (ad.add j) = some u)
    (hl : bs.length ≤ 1000000) (hl' : ys.length ≤ 1000000) (hbase : base ≤ w.heap.size)
    (h : ∀ v' w', Buf w' base e v' (bs ++ ys) → w.grownBy w' v.ownBlock → Below base w w' → wpList P ops Q rest (a.put o.dst v') w') : wpList P ops Q (o :: rest) a w := by
  refine wpList_append_own w hgd s x t ho base e i (.int .u8 0) 1 1 B.ht B.hi B.hz B.hsize B.hby rfl (by decide) v bs.length (bs.map (Value.int .u8)) hs hB ad ys.length c (ys.map (Value.int .u8)) hx (by simp) hy ?_ (by unfold maxLen; omega) (by omega) hbase ?_
  · intro u hu
    simp only [List.mem_map] at hu
    obtain ⟨n, _, rfl⟩ := hu
    rfl
  · intro v' w' h1 h2 _
    refine h v' w' ?_ h2 (below_grown hB h2 hbase)
    simpa [Buf] using h1

/-- 'append(v, c)': one byte. -/
theorem wpList_push {i : TypeInfo} (B : ByteType P t e i) {ops : Array Oper} {rest : List Oper} {o : Oper} {a : Act} {Q : Exit → Act → World → Prop} (hgd : o.guard = none) (s x : Operand)
    (ho : o.op = .call { callee := .builtin .append, args := #[s, x], argTypes := #[t, t] }) (hs : a.eval s = v) (hB : Buf w base e v bs)
    (c : Int) (n0 : Nat) (hx : a.eval x = .slice (some ⟨n0, 0, none⟩) 1 1) (hc : w.cell? ⟨n0, 0, none⟩ = some (.int .u8 c)) (hl : bs.length ≤ 1000000) (hbase : base ≤ w.heap.size)
    (h : ∀ v' w', Buf w' base e v' (bs ++ [c]) → w.grownBy w' v.ownBlock → Below base w w' → wpList P ops Q rest (a.put o.dst v') w') : wpList P ops Q (o :: rest) a w := by
  refine wpList_gather B hgd s x ho hs hB [c] ⟨n0, 0, none⟩ 1 hx ?_ hl (by simp) hbase h
  intro j u hj
  match j, hj with
  | 0, hj =>
    simp at hj
    subst hj
    simpa [Addr.add] using hc

/-- 'string(v)'. -/
theorem Buf.str (h : Buf w base e v bs) (hs : P.underlying t = some (.slice e)) (he : P.underlying e = some (.int .u8)) {dst : TypeId} (hd : P.underlying dst = some .string) :
    (convert t dst v).run P w = .ok (.string (strOfNums bs)) w := by
  rcases h.form with ⟨rfl, rfl⟩ | ⟨g, cap, rfl, _⟩
  · rw [run_convert_bytes_nil w t e hs he 0 0 dst hd]
    rfl
  · refine run_convert_bytes_arg w t e hs he g 0 bs.length cap bs rfl ?_ dst hd
    intro i hi
    have := h.cells rfl i (.int .u8 (bs.getD i 0)) (by simp [hi])
    rw [← this]
    congr 1
    unfold Addr.add; split <;> simp_all

end
end Go.Proofs.YtahcgnmhhgcfmaaDoor
