/- Programs as lists of lists of instructions; how they lie in memory. -/
import Derived.Test.YtahcgnmhhgcfmaaDoorCHApp
import Derived.Test.YtahcgnmhhgcfmaaDoorCPlain
namespace Go.Proofs.YtahcgnmhhgcfmaaDoor
open Go.RowKit

def insCells (l : List Ins) : List Value := l.flatMap fun x => [.int .i64 x.op, .int .i64 x.a, .int .i64 x.b, .int .i64 x.n]

theorem insCells_get : ∀ (l : List Ins) (i f : Nat), i < l.length → f < 4 → (insCells l)[i * 4 + f]? = some (.int .i64 (fld (l.getD i noIns) f))
  | x :: l, 0, f, _, hf => by
    match f, hf with
    | 0, _ => rfl
    | 1, _ => rfl
    | 2, _ => rfl
    | 3, _ => rfl
  | x :: l, i + 1, f, hi, hf => by
    have := insCells_get l i f (by simpa using hi) hf
    show ([Value.int .i64 x.op, .int .i64 x.a, .int .i64 x.b, .int .i64 x.n] ++ insCells l)[(i + 1) * 4 + f]? = _
    rw [List.getElem?_append_right (by simp; omega)]
    simp only [List.length_cons, List.length_nil]
    rw [show (i + 1) * 4 + f - (0 + 1 + 1 + 1 + 1) = i * 4 + f by omega, this]
    simp


/-- The cells of an instruction. -/
def fIns (x : Ins) : List Value := [.int .i64 x.op, .int .i64 x.a, .int .i64 x.b, .int .i64 x.n]
theorem fIns_len (x : Ins) : (fIns x).length = 4 := rfl
theorem Tryd.rowIns : RowT Tryd.prog fIns 4 37 40 32 := ⟨fun _ => rfl, fun x v hv => by simp [fIns] at hv; rcases hv with h | h | h | h <;> rw [h] <;> rfl, by decide, Tryd.underlying37, _, (show (Tryd.prog.info? 40).map (fun i => (i.zero, i.size, i.bytes)) = some (some (.agg #[.int .i64 0, .int .i64 0, .int .i64 0, .int .i64 0]), 4, 32) by kernel_rfl), rfl⟩

/-- Behaviors lie in a row. -/
def KindsAt (w : World) (ao : Option Addr) (rows : List (List Ins)) : Prop :=
  ∀ (r : Nat) l, rows[r]? = some l → ∃ b o ra rc, ao = some ⟨b, o, none⟩ ∧ w.cell? ⟨b, o + r, none⟩ = some (.slice ra l.length rc) ∧ SeqAt fIns 4 w ra l

theorem KindsAt.keeps {w w' : World} {ao : Option Addr} {rows : List (List Ins)} (h : KindsAt w ao rows) (k : Keeps w w') : KindsAt w' ao rows := fun r l hl => by
  obtain ⟨b, o, ra, rc, e, h1, h2⟩ := h r l hl
  exact ⟨b, o, ra, rc, e, k _ _ h1, h2.keeps k⟩

def insFit (x : Ins) : Prop := ∀ f, f < 4 → -9223372036854775808 ≤ fld x f ∧ fld x f ≤ 9223372036854775807

theorem rowAt_seq {w : World} {ra : Option Addr} {l : List Ins} (h : SeqAt fIns 4 w ra l) : RowAt w ra l.length (fun i f => fld (l.getD i noIns) f) := fun i hi => by
  have hx := List.getElem?_eq_getElem hi
  obtain ⟨b, o, e, hc⟩ := h i _ hx
  refine ⟨b, o, e, fun f hf => ?_⟩
  have eg : l.getD i noIns = l[i] := by simp [List.getD_eq_getElem?_getD, hx]
  show w.cell? ⟨b, o + i * 4 + f, none⟩ = some (.int .i64 (fld (l.getD i noIns) f))
  rw [eg]
  refine hc f _ ?_
  match f, hf with
  | 0, _ => rfl
  | 1, _ => rfl
  | 2, _ => rfl
  | 3, _ => rfl

theorem kinds_choose {w : World} {ao : Option Addr} {rows : List (List Ins)} (h : KindsAt w ao rows) : ∃ (A : Nat → Option Addr) (C : Nat → Nat), ∀ r, r < rows.length → (∃ b o, ao = some ⟨b, o, none⟩ ∧ w.cell? ⟨b, o + r, none⟩ = some (.slice (A r) (rows.getD r []).length (C r))) ∧ SeqAt fIns 4 w (A r) (rows.getD r []) := by
  have hp : ∀ r, ∃ p : Option Addr × Nat, r < rows.length → (∃ b o, ao = some ⟨b, o, none⟩ ∧ w.cell? ⟨b, o + r, none⟩ = some (.slice p.1 (rows.getD r []).length p.2)) ∧ SeqAt fIns 4 w p.1 (rows.getD r []) := fun r => by
    by_cases hr : r < rows.length
    · have hx := List.getElem?_eq_getElem hr
      have eg : rows.getD r [] = rows[r] := by simp [List.getD_eq_getElem?_getD, hx]
      obtain ⟨b, o, ra, rc, e, h1, h2⟩ := h r _ hx
      exact ⟨(ra, rc), fun _ => ⟨⟨b, o, e, by rw [eg]; exact h1⟩, by rw [eg]; exact h2⟩⟩
    · exact ⟨(none, 0), fun h => absurd h hr⟩
  refine ⟨fun r => (hp r).choose.1, fun r => (hp r).choose.2, fun r hr => ?_⟩
  exact (hp r).choose_spec hr

/-- Such a program is one as the walks ask for it. -/
theorem prog_of {w : World} {ao : Option Addr} {rows : List (List Ins)} (h : KindsAt w ao rows) (hm : rows.length ≤ 1000000) (hl : ∀ l ∈ rows, l.length ≤ 1000000 ∧ ∀ x ∈ l, insFit x) : ∃ A C, ProgAt w ao rows.length A (lenOf rows) C (xOf rows) := by
  obtain ⟨A, C, hAC⟩ := kinds_choose h
  have hin : ∀ r, r < rows.length → rows.getD r [] ∈ rows := fun r hr => by
    have hx := List.getElem?_eq_getElem hr
    have eg : rows.getD r [] = rows[r] := by simp [List.getD_eq_getElem?_getD, hx]
    rw [eg]
    exact List.getElem_mem hr
  refine ⟨A, C, fun r hr => (hAC r hr).1, fun r hr => rowAt_seq (hAC r hr).2, by omega, fun r hr => ?_, fun r hr i hi f hf => ?_⟩
  · have := (hl _ (hin r hr)).1
    unfold lenOf
    omega
  · have hx := List.getElem?_eq_getElem (show i < (rows.getD r []).length from hi)
    have eg : (rows.getD r []).getD i noIns = (rows.getD r [])[i]'hi := by rw [List.getD_eq_getElem?_getD, hx]; rfl
    have := (hl _ (hin r hr)).2 _ (List.getElem_mem hi)
    unfold xOf
    rw [eg]
    exact this f hf

end Go.Proofs.YtahcgnmhhgcfmaaDoor
