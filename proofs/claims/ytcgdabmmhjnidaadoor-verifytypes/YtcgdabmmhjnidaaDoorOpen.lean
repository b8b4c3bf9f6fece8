/- A program that is handed in, read as data, lies in memory as ProgAt says; and the form's own reach bounds its lengths. -/
import Derived.Test.YtcgdabmmhjnidaaDoorViews
import Derived.ProofKit
import Derived.SizedLaws
import Derived.OpenShut
import Derived.Deep.Slices
import Derived.Lib.SmallJoins
namespace Go.Proofs.YtcgdabmmhjnidaaDoor
open Go.ChangeShapes Go.WideShapes Go.ChangeAt Go.RowKit Go.Deep

theorem cweightsAll_mem {H : Type} {P : Program} {e : TypeId} : ∀ {l : List (DataW H)} {d : DataW H}, d ∈ l → ∀ n ∈ d.weights P e, n ∈ DataW.weightsAll P e l
  | d' :: r, d, hd, n, hn => by
    simp only [DataW.weightsAll, List.mem_append]
    rcases List.mem_cons.1 hd with rfl | h
    · exact Or.inl hn
    · exact Or.inr (cweightsAll_mem h n hn)

theorem creach_eq : reachBytes = 140737488351232 := rfl

/-- The ctypes of a program: the struct, its list of behaviors, a behavior, an instruction, a number. -/
structure ProgTypes (P : Program) (tP tKK tK tI tN : TypeId) (f f0 f1 f2 f3 : Field) : Prop where
  hP : P.underlying tP = some (.struct #[f])
  hf : f.type = tKK ∧ f.offset = 0
  cP : P.cellsOf tP = 1
  cKK : P.cellsOf tKK = 1
  hKK : P.underlying tKK = some (.slice tK)
  cK : P.cellsOf tK = 1
  hK : P.underlying tK = some (.slice tI)
  cI : P.cellsOf tI = 4
  hI : P.underlying tI = some (.struct #[f0, f1, f2, f3])
  h0 : f0.type = tN ∧ f0.offset = 0
  h1 : f1.type = tN ∧ f1.offset = 1
  h2 : f2.type = tN ∧ f2.offset = 2
  h3 : f3.type = tN ∧ f3.offset = 3
  hN : P.underlying tN = some (.int .i64)
  cN : P.cellsOf tN = 1
  bK : P.bytesOf tK = 24
  bI : P.bytesOf tI = 32

section
variable {H : Type} {enc : TypeId × Value → H} {P : Program} {w : World} {base : Nat} {spare : Nat → Bool} {held : Bool}
variable {tP tKK tK tI tN : TypeId} {f f0 f1 f2 f3 : Field}

theorem open_ins (T : ProgTypes P tP tKK tK tI tN f f0 f1 f2 f3) {fuel : Nat} {cs : List Value} {x : DataW H × List MemPlace} (h : DataW.trod enc P w base spare held fuel tI cs = some x) :
    ∃ z : Nat → Int, cs = [.int .i64 (z 0), .int .i64 (z 1), .int .i64 (z 2), .int .i64 (z 3)] ∧ ∀ j, j < 4 → -9223372036854775808 ≤ z j ∧ z j ≤ 9223372036854775807 := by
  obtain ⟨y0, y1, y2, y3, n, _, hl, g0, g1, g2, g3⟩ := Joins.trod_struct4 T.hI h
  rw [T.cI] at hl
  match cs, hl with
  | [c0, c1, c2, c3], _ =>
    rw [T.h0.1, T.h0.2, T.cN] at g0
    rw [T.h1.1, T.h1.2, T.cN] at g1
    rw [T.h2.1, T.h2.2, T.cN] at g2
    rw [T.h3.1, T.h3.2, T.cN] at g3
    obtain ⟨a0, e0, _, w0⟩ := DataW.trod_int T.hN g0
    obtain ⟨a1, e1, _, w1⟩ := DataW.trod_int T.hN g1
    obtain ⟨a2, e2, _, w2⟩ := DataW.trod_int T.hN g2
    obtain ⟨a3, e3, _, w3⟩ := DataW.trod_int T.hN g3
    simp at e0 e1 e2 e3
    subst e0 e1 e2 e3
    refine ⟨fun j => if j = 0 then a0 else if j = 1 then a1 else if j = 2 then a2 else a3, by simp, fun j hj => ?_⟩
    have b0 := bounds_i64 w0
    have b1 := bounds_i64 w1
    have b2 := bounds_i64 w2
    have b3 := bounds_i64 w3
    match j, hj with
    | 0, _ => exact b0
    | 1, _ => exact b1
    | 2, _ => exact b2
    | 3, _ => exact b3

theorem open_row (T : ProgTypes P tP tKK tK tI tN f f0 f1 f2 f3) {fuel : Nat} {v : Value} {x : DataW H × List MemPlace} (h : DataW.trod enc P w base (fun _ => true) held fuel tK [v] = some x) :
    ∃ y : Option Addr × Nat × Nat × (Nat → Nat → Int), v = .slice y.1 y.2.1 y.2.2.1 ∧ RowAt w y.1 y.2.1 y.2.2.2 ∧ (∀ i, i < y.2.1 → ∀ j, j < 4 → -9223372036854775808 ≤ y.2.2.2 i j ∧ y.2.2.2 i j ≤ 9223372036854775807) ∧
      ((∀ n ∈ x.1.weights P tK, n ≤ reachBytes) → 32 * y.2.1 ≤ 140737488351232) := by
  rcases open_slice T.hK h with ⟨hcs, hx⟩ | ⟨a, len, cap, m, n, D, Pl, hcs, _, hl, hm, hmm, hx, hel⟩
  · simp at hcs
    subst hcs
    exact ⟨(none, 0, 0, fun _ _ => 0), rfl, fun i hi => absurd hi (Nat.not_lt_zero _), fun i hi => absurd hi (Nat.not_lt_zero _), fun _ => by show 32 * 0 ≤ 140737488351232; omega⟩
  · simp only [List.cons.injEq, and_true] at hcs
    subst hcs
    simp only [if_true] at hmm
    rw [T.cI] at hel
    obtain ⟨z, hz⟩ := choose_lt (α := Nat → Int) (n := m) (p := fun i z => w.cells? base (a.add (i * 4)) 4 = some [.int .i64 (z 0), .int .i64 (z 1), .int .i64 (z 2), .int .i64 (z 3)] ∧ ∀ j, j < 4 → -9223372036854775808 ≤ z j ∧ z j ≤ 9223372036854775807) (fun i hi => by
      obtain ⟨cs', hc, ht⟩ := hel i hi
      obtain ⟨z, rfl, hb⟩ := open_ins T ht
      exact ⟨z, hc, hb⟩)
    refine ⟨(some a, len, cap, z), rfl, fun i hi => ?_, fun i hi j hj => (hz i (by have : i < len := hi; omega)).2 j hj, fun hw => ?_⟩
    · have hi' : i < len := hi
      obtain ⟨_, _, hc0⟩ := World.cells?_some (hz 0 (by omega)).1
      obtain ⟨_, _, hc⟩ := World.cells?_some (hz i (by omega)).1
      obtain ⟨b, o, sp⟩ := a
      have hsp : sp = none := by
        have := World.cell?_spot ((hc0 0 (by omega)).trans rfl)
        simpa [Addr.add] using this
      subst hsp
      refine ⟨b, o, rfl, fun j hj => ?_⟩
      have := hc j hj
      rw [add_plain, add_plain] at this
      rw [this]
      match j, hj with
      | 0, _ => rfl
      | 1, _ => rfl
      | 2, _ => rfl
      | 3, _ => rfl
    · subst hx
      have := hw ((((List.range len).map D).length + ((List.range (m - len)).map fun j => D (len + j)).length) * P.bytesOf tI) (by simp [DataW.weights, T.hK])
      simp only [List.length_map, List.length_range, T.bI, creach_eq] at this
      show 32 * len ≤ _
      omega

theorem open_prog (T : ProgTypes P tP tKK tK tI tN f f0 f1 f2 f3) {r : Reach} {b0 : Nat} {v : Value} {d : DataW H} {p : List MemPlace} (hv : Value.okWide P w r b0 tP v) (h : DataW.Trod enc P w base (fun _ => true) held tP v d p)
    (hsz : ∀ n ∈ d.weights P tP, n ≤ reachBytes) :
    ∃ (ao : Option Addr) (G cap : Nat) (A : Nat → Option Addr) (L C : Nat → Nat) (X : Nat → Nat → Nat → Int), v = .agg #[.slice ao G cap] ∧ ProgAt w ao G A L C X := by
  obtain ⟨cs, rfl, hcs⟩ := okWide_struct T.hP hv
  rw [T.cP] at hcs
  obtain ⟨l⟩ := cs
  match l, hcs with
  | [c0], _ =>
    obtain ⟨fuel, hf⟩ := h
    obtain ⟨y0, n, hx, _, h0⟩ := trod_struct1 T.hP hf
    rw [T.hf.1, T.hf.2, T.cKK] at h0
    simp only [Value.cells, List.drop_zero, List.take_succ_cons, List.take_zero] at h0
    simp only [Prod.mk.injEq] at hx
    obtain ⟨rfl, rfl⟩ := hx
    have hw0 : ∀ n ∈ y0.1.weights P tKK, n ≤ reachBytes := fun n hn => hsz n (by simp [DataW.weights, T.hP, DataW.weightsEach, T.hf.1, hn])
    rcases open_slice1 T.hKK T.cK h0 with ⟨hcs, _⟩ | ⟨a, len, cap, m, n', V, D, Pl, hcs, _, hl, hm, hmm, hx, hel⟩
    · simp at hcs
      subst hcs
      exact ⟨none, 0, 0, fun _ => none, fun _ => 0, fun _ => 0, fun _ _ _ => 0, rfl, fun r hr => absurd hr (Nat.not_lt_zero _), fun r hr => absurd hr (Nat.not_lt_zero _), by omega, fun r hr => absurd hr (Nat.not_lt_zero _), fun r hr => absurd hr (Nat.not_lt_zero _)⟩
    · simp only [List.cons.injEq, and_true] at hcs
      subst hcs
      simp only [if_true] at hmm
      obtain ⟨y, hy⟩ := choose_lt (α := Option Addr × Nat × Nat × (Nat → Nat → Int)) (n := len) (p := fun r y => V r = .slice y.1 y.2.1 y.2.2.1 ∧ RowAt w y.1 y.2.1 y.2.2.2 ∧ (∀ i, i < y.2.1 → ∀ j, j < 4 → -9223372036854775808 ≤ y.2.2.2 i j ∧ y.2.2.2 i j ≤ 9223372036854775807) ∧
        ((∀ n ∈ (D r).weights P tK, n ≤ reachBytes) → 32 * y.2.1 ≤ 140737488351232)) (fun r hr => open_row T (hel r (by omega)).2)
      subst hx
      refine ⟨some a, len, cap, fun r => (y r).1, fun r => (y r).2.1, fun r => (y r).2.2.1, fun r => (y r).2.2.2, rfl, fun r hr => ?_, fun r hr => (hy r hr).2.1, ?_, fun r hr => ?_, fun r hr => (hy r hr).2.2.1⟩
      · obtain ⟨b, o, sp⟩ := a
        have hc := (hel r (by omega)).1
        have hsp : sp = none := by
          have := World.cell?_spot (hel 0 (by omega)).1
          simpa [Addr.add] using this
        subst hsp
        rw [add_plain, (hy r hr).1] at hc
        exact ⟨b, o, rfl, hc⟩
      · have := hw0 ((((List.range len).map D).length + ((List.range (m - len)).map fun j => D (len + j)).length) * P.bytesOf tK) (by simp [DataW.weights, T.hKK])
        simp only [List.length_map, List.length_range, T.bK, creach_eq] at this
        omega
      · have := (hy r hr).2.2.2 (fun n hn => hw0 n (by
          simp only [DataW.weights, T.hKK, List.mem_cons, List.mem_append]
          exact Or.inr (Or.inl (cweightsAll_mem (List.mem_map.2 ⟨r, List.mem_range.2 hr, rfl⟩) n hn))))
        show 32 * (y r).2.1 ≤ _
        omega

end
end Go.Proofs.YtcgdabmmhjnidaaDoor
