/- What is no program: twelve of them, and how each is refused. -/
import Derived.Test.YtahcgnmhhgcfmaaDoorCKKnownW
import Derived.Test.YtahcgnmhhgcfmaaDoorCPlain
namespace Go.Proofs.YtahcgnmhhgcfmaaDoor
open Go.RowKit

def bdRows (k : Nat) : List (List (List Ins)) := [[], List.replicate (6 + k) [], [[]], [[⟨19 + k, 0, 0, 0⟩]], [[⟨15, 7 + k, 0, 0⟩, ⟨0, 0, 0, 0⟩]], [[⟨18, 0, 1, 0⟩, ⟨0, 0, 0, 0⟩]], [[⟨6, 0, 0, k⟩]], [[⟨5, 0, 0, -1⟩, ⟨0, 0, 0, 0⟩]], [[⟨17, 0, 0, 1⟩, ⟨0, 0, 0, 0⟩]], [[⟨1, 0, 0, 0⟩]], [[⟨7, 0, 0, 0⟩, ⟨0, 0, 0, 0⟩]], [List.replicate (60 + k) noIns]]
def bdErr : List Int := [6, 1, 1, 3, 2, 4, 2, 2, 2, 5, 2, 1]

theorem bad_fault : ∀ k, k < 51 → 1 ≤ k → ∀ j, j < 12 → rowsFault ((bdRows k).getD j []) = bdErr.getD j 0 := by decide +kernel

def insFb (x : Ins) : Bool := (decide (-1000 ≤ x.op) && decide (x.op ≤ 1000)) && ((decide (-1000 ≤ x.a) && decide (x.a ≤ 1000)) && ((decide (-1000 ≤ x.b) && decide (x.b ≤ 1000)) && (decide (-1000 ≤ x.n) && decide (x.n ≤ 1000))))
def fitB (r : List (List Ins)) : Bool := decide (r.length ≤ 1000) && r.all (fun l => decide (l.length ≤ 1000) && l.all insFb)

theorem bad_fitB : ∀ k, k < 51 → ∀ j, j < 12 → fitB ((bdRows k).getD j []) = true := by decide +kernel

theorem fit_of {r : List (List Ins)} (h : fitB r = true) : r.length ≤ 1000000 ∧ ∀ l ∈ r, l.length ≤ 1000000 ∧ ∀ x ∈ l, insFit x := by
  simp only [fitB, Bool.and_eq_true, decide_eq_true_eq, List.all_eq_true] at h
  refine ⟨by omega, fun l hl => ?_⟩
  obtain ⟨h1, h2⟩ := h.2 l hl
  refine ⟨by omega, fun x hx f hf => ?_⟩
  have := h2 x hx
  simp only [insFb, Bool.and_eq_true, decide_eq_true_eq] at this
  match f, hf with
  | 0, _ => show -9223372036854775808 ≤ x.op ∧ x.op ≤ 9223372036854775807; omega
  | 1, _ => show -9223372036854775808 ≤ x.a ∧ x.a ≤ 9223372036854775807; omega
  | 2, _ => show -9223372036854775808 ≤ x.b ∧ x.b ≤ 9223372036854775807; omega
  | 3, _ => show -9223372036854775808 ≤ x.n ∧ x.n ≤ 9223372036854775807; omega

/-- What a slot holds. -/
structure Sp where
  ok : Value → World → Prop
  stays : ∀ {v : Value} {w w' : World}, ok v w → Keeps w w' → ok v w'

abbrev Sp.num (z : Int) : Sp := ⟨fun v _ => v = .int .i64 z, fun h _ => h⟩
abbrev Sp.ins (x : Ins) : Sp := ⟨fun v _ => v = .agg #[.int .i64 x.op, .int .i64 x.a, .int .i64 x.b, .int .i64 x.n], fun h _ => h⟩
abbrev Sp.row (l : List Ins) : Sp := ⟨fun v w => ∃ ao c, v = .slice ao l.length c ∧ SeqAt fIns 4 w ao l, fun h k => by obtain ⟨ao, c, e, hs⟩ := h; exact ⟨ao, c, e, hs.keeps k⟩⟩
abbrev Sp.kinds (r : List (List Ins)) : Sp := ⟨fun v w => ∃ ao c, v = .slice ao r.length c ∧ KindsAt w ao r, fun h k => by obtain ⟨ao, c, e, hs⟩ := h; exact ⟨ao, c, e, hs.keeps k⟩⟩
abbrev Sp.prog (r : List (List Ins)) : Sp := ⟨fun v w => ∃ ao c, v = .agg #[.slice ao r.length c] ∧ KindsAt w ao r, fun h k => by obtain ⟨ao, c, e, hs⟩ := h; exact ⟨ao, c, e, hs.keeps k⟩⟩
abbrev Sp.all (rs : List (List (List Ins))) : Sp :=
  ⟨fun v w => ∃ b, v = .slice (some ⟨b, 0, none⟩) rs.length rs.length ∧ ∀ (j : Nat) r, rs[j]? = some r → ∃ ao c, w.cell? ⟨b, j, none⟩ = some (.slice ao r.length c) ∧ KindsAt w ao r, fun h k => by
    obtain ⟨b, e, hs⟩ := h
    exact ⟨b, e, fun j r hj => by obtain ⟨ao, c, h1, h2⟩ := hs j r hj; exact ⟨ao, c, k _ _ h1, h2.keeps k⟩⟩⟩

theorem Sp.ok.keeps {s : Sp} {v : Value} {w w' : World} (h : s.ok v w) (k : Keeps w w') : s.ok v w' := s.stays h k

def bdSp (k : Nat) : List Sp := [.prog [], .num k, .num (6 + k), .kinds (List.replicate (6 + k) []), .prog (List.replicate (6 + k) []), .kinds [[]], .prog [[]],
  .num k, .num (19 + k), .ins ⟨19 + k, 0, 0, 0⟩, .row [⟨19 + k, 0, 0, 0⟩], .kinds [[⟨19 + k, 0, 0, 0⟩]], .prog [[⟨19 + k, 0, 0, 0⟩]],
  .num k, .num (7 + k), .ins ⟨15, 7 + k, 0, 0⟩, .ins ⟨0, 0, 0, 0⟩, .row [⟨15, 7 + k, 0, 0⟩, ⟨0, 0, 0, 0⟩], .kinds [[⟨15, 7 + k, 0, 0⟩, ⟨0, 0, 0, 0⟩]], .prog [[⟨15, 7 + k, 0, 0⟩, ⟨0, 0, 0, 0⟩]],
  .ins ⟨18, 0, 1, 0⟩, .ins ⟨0, 0, 0, 0⟩, .row [⟨18, 0, 1, 0⟩, ⟨0, 0, 0, 0⟩], .kinds [[⟨18, 0, 1, 0⟩, ⟨0, 0, 0, 0⟩]], .prog [[⟨18, 0, 1, 0⟩, ⟨0, 0, 0, 0⟩]],
  .num k, .ins ⟨6, 0, 0, k⟩, .row [⟨6, 0, 0, k⟩], .kinds [[⟨6, 0, 0, k⟩]], .prog [[⟨6, 0, 0, k⟩]],
  .ins ⟨5, 0, 0, -1⟩, .ins ⟨0, 0, 0, 0⟩, .row [⟨5, 0, 0, -1⟩, ⟨0, 0, 0, 0⟩], .kinds [[⟨5, 0, 0, -1⟩, ⟨0, 0, 0, 0⟩]], .prog [[⟨5, 0, 0, -1⟩, ⟨0, 0, 0, 0⟩]],
  .ins ⟨17, 0, 0, 1⟩, .ins ⟨0, 0, 0, 0⟩, .row [⟨17, 0, 0, 1⟩, ⟨0, 0, 0, 0⟩], .kinds [[⟨17, 0, 0, 1⟩, ⟨0, 0, 0, 0⟩]], .prog [[⟨17, 0, 0, 1⟩, ⟨0, 0, 0, 0⟩]],
  .ins ⟨1, 0, 0, 0⟩, .row [⟨1, 0, 0, 0⟩], .kinds [[⟨1, 0, 0, 0⟩]], .prog [[⟨1, 0, 0, 0⟩]],
  .ins ⟨7, 0, 0, 0⟩, .ins ⟨0, 0, 0, 0⟩, .row [⟨7, 0, 0, 0⟩, ⟨0, 0, 0, 0⟩], .kinds [[⟨7, 0, 0, 0⟩, ⟨0, 0, 0, 0⟩]], .prog [[⟨7, 0, 0, 0⟩, ⟨0, 0, 0, 0⟩]],
  .num k, .num (60 + k), .row (List.replicate (60 + k) noIns), .kinds [List.replicate (60 + k) noIns], .prog [List.replicate (60 + k) noIns], .all (bdRows k), .all (bdRows k)]

/-- What has come up holds what it should. -/
def BadG (k : Nat) (listed : Array Bool) (vs : Nat → Value) (w : World) : Prop := ∀ (i : Nat) s, listed.getD i false = true → (bdSp k)[i]? = some s → s.ok (vs i) w

theorem BadG.put {k : Nat} {listed : Array Bool} {vs : Nat → Value} {w w' : World} (h : BadG k listed vs w) (kp : Keeps w w') {i : Nat} {s : Sp} (hs : (bdSp k)[i]? = some s) {v : Value} (hv : s.ok v w') :
    BadG k (listed.setIfInBounds i true) (fun j => if j = i then v else vs j) w' := fun j t hj ht => by
  by_cases e : j = i
  · subst e
    rw [hs] at ht
    simp only [Option.some.injEq] at ht
    subst ht
    simpa using hv
  · simp only [e, if_false]
    refine Sp.ok.keeps (h j t ?_ ht) kp
    have : (listed.setIfInBounds i true).getD j false = listed.getD j false := by
      simp only [Array.getD_eq_getD_getElem?, Array.getElem?_setIfInBounds, if_neg (Ne.symm e)]
    rw [← this]
    exact hj

theorem kinds_nil (w : World) : KindsAt w none [] := fun r l hl => by simp at hl

theorem kinds_made {w : World} {B n : Nat} {z : Array Value} {t : TypeId} (h : w.heap[B]? = some (.cells z t (0, 0))) (hz : ∀ r, r < n → z[r]? = some (.slice none 0 0)) : KindsAt w (some ⟨B, 0, none⟩) (List.replicate n []) := fun r l hl => by
  obtain ⟨hlt, e⟩ := List.getElem?_eq_some_iff.1 hl
  simp only [List.length_replicate] at hlt
  simp only [List.getElem_replicate] at e
  subst e
  exact ⟨B, 0, none, 0, rfl, by rw [cellBlk h, Nat.zero_add]; exact hz r hlt, fun i x hx => by simp at hx⟩

end Go.Proofs.YtahcgnmhhgcfmaaDoor
