/- A heap and values that are handed in, read as data, lie in memory as ObsAt and ValsAt say; and the form's own reach bounds their lengths. -/
import Derived.Test.YtahcgnmhhgcfmaaDoorCPlain
import Derived.Test.YtahcgnmhhgcfmaaDoorCHStays
import Derived.Test.YtahcgnmhhgcfmaaDoorChecked
import Derived.ProofKit
import Derived.SizedLaws
import Derived.OpenShut
import Derived.Deep.Slices
import Derived.Lib.SmallJoins
namespace Go.Proofs.YtahcgnmhhgcfmaaDoor
open Go.ChangeShapes Go.WideShapes Go.ChangeAt Go.RowKit Go.Deep

theorem weightsAll_mem {H : Type} {P : Program} {e : TypeId} : ∀ {l : List (DataW H)} {d : DataW H}, d ∈ l → ∀ n ∈ d.weights P e, n ∈ DataW.weightsAll P e l
  | d' :: r, d, hd, n, hn => by
    simp only [DataW.weightsAll, List.mem_append]
    rcases List.mem_cons.1 hd with rfl | h
    · exact Or.inl hn
    · exact Or.inr (weightsAll_mem h n hn)

theorem reach_eq : reachBytes = 140737488351232 := rfl

/-- The types of a heap: the struct, its list of objects, an object, its list of values, a value, a number, a truth. -/
structure HeapTypes (P : Program) (tH tOO tO tVV tV tN tB : TypeId) (h0 h1 o0 o1 v0 v1 : Field) : Prop where
  hH : P.underlying tH = some (.struct #[h0, h1])
  hh0 : h0.type = tN ∧ h0.offset = 0
  hh1 : h1.type = tOO ∧ h1.offset = 1
  cH : P.cellsOf tH = 2
  cOO : P.cellsOf tOO = 1
  hOO : P.underlying tOO = some (.slice tO)
  cO : P.cellsOf tO = 2
  hO : P.underlying tO = some (.struct #[o0, o1])
  ho0 : o0.type = tVV ∧ o0.offset = 0
  ho1 : o1.type = tB ∧ o1.offset = 1
  cVV : P.cellsOf tVV = 1
  hVV : P.underlying tVV = some (.slice tV)
  cV : P.cellsOf tV = 2
  hV : P.underlying tV = some (.struct #[v0, v1])
  hv0 : v0.type = tN ∧ v0.offset = 0
  hv1 : v1.type = tN ∧ v1.offset = 1
  hN : P.underlying tN = some (.int .i64)
  cN : P.cellsOf tN = 1
  hB : P.underlying tB = some .bool
  cB : P.cellsOf tB = 1
  bO : P.bytesOf tO = 32
  bV : P.bytesOf tV = 16

theorem getElem?_ofRange {α : Type} {f : Nat → α} {n i : Nat} {v : α} (h : ((List.range n).map f)[i]? = some v) : i < n ∧ f i = v := by
  rw [List.getElem?_map] at h
  obtain ⟨j, hj, rfl⟩ := Option.map_eq_some_iff.1 h
  obtain ⟨hi, rfl⟩ := List.getElem?_eq_some_iff.1 hj
  rw [List.length_range] at hi
  exact ⟨hi, by simp⟩

section
variable {H : Type} {enc : TypeId × Value → H} {P : Program} {w : World} {base : Nat} {spare : Nat → Bool} {held : Bool}
variable {tH tOO tO tVV tV tN tB : TypeId} {h0 h1 o0 o1 v0 v1 : Field}

theorem open_valc (T : HeapTypes P tH tOO tO tVV tV tN tB h0 h1 o0 o1 v0 v1) {fuel : Nat} {cs : List Value} {x : DataW H × List MemPlace} (h : DataW.trod enc P w base spare held fuel tV cs = some x) :
    ∃ v : Vl, cs = [.int .i64 v.k, .int .i64 v.n] ∧ (-9223372036854775808 ≤ v.n ∧ v.n ≤ 9223372036854775807) := by
  obtain ⟨y0, y1, n, _, hl, g0, g1⟩ := trod_struct2 T.hV h
  rw [T.cV] at hl
  match cs, hl with
  | [c0, c1], _ =>
    rw [T.hv0.1, T.hv0.2, T.cN] at g0
    rw [T.hv1.1, T.hv1.2, T.cN] at g1
    obtain ⟨a0, e0, _, _⟩ := DataW.trod_int T.hN g0
    obtain ⟨a1, e1, _, w1⟩ := DataW.trod_int T.hN g1
    simp at e0 e1
    subst e0 e1
    exact ⟨⟨a0, a1⟩, rfl, bounds_i64 w1⟩

theorem open_vals (T : HeapTypes P tH tOO tO tVV tV tN tB h0 h1 o0 o1 v0 v1) {fuel : Nat} {v : Value} {x : DataW H × List MemPlace} (h : DataW.trod enc P w base (fun _ => true) held fuel tVV [v] = some x) :
    ∃ (ao : Option Addr) (l : List Vl) (cap : Nat), v = .slice ao l.length cap ∧ ValsAt w ao l ∧ ((∀ n ∈ x.1.weights P tVV, n ≤ reachBytes) → 16 * l.length ≤ 140737488351232) := by
  rcases open_slice T.hVV h with ⟨hcs, hx⟩ | ⟨a, len, cap, m, n, D, Pl, hcs, _, hl, hm, hmm, hx, hel⟩
  · simp at hcs
    subst hcs
    exact ⟨none, [], 0, rfl, fun i v hi => by simp at hi, fun _ => by show 16 * 0 ≤ 140737488351232; omega⟩
  · simp only [List.cons.injEq, and_true] at hcs
    subst hcs
    simp only [if_true] at hmm
    rw [T.cV] at hel
    obtain ⟨z, hz⟩ := choose_lt (α := Int × Int) (n := m) (p := fun i z => w.cells? base (a.add (i * 2)) 2 = some [.int .i64 z.1, .int .i64 z.2]) (fun i hi => by
      obtain ⟨cs', hc, ht⟩ := hel i hi
      obtain ⟨⟨k, n⟩, rfl, _⟩ := open_valc T ht
      exact ⟨(k, n), hc⟩)
    refine ⟨some a, (List.range len).map (fun i => ⟨(z i).1, (z i).2⟩), cap, by simp, fun i v hi => ?_, fun hw => ?_⟩
    · obtain ⟨hi', rfl⟩ := getElem?_ofRange hi
      obtain ⟨_, _, hc0⟩ := World.cells?_some (hz 0 (by omega))
      obtain ⟨_, _, hc⟩ := World.cells?_some (hz i (by omega))
      obtain ⟨b, o, sp⟩ := a
      have hsp : sp = none := by
        have := World.cell?_spot ((hc0 0 (by omega)).trans rfl)
        simpa [Addr.add] using this
      subst hsp
      have d0 := hc 0 (by omega)
      have d1 := hc 1 (by omega)
      rw [add_plain, add_plain] at d0 d1
      exact ⟨b, o, rfl, by simpa using d0, by simpa using d1⟩
    · subst hx
      have := hw ((((List.range len).map D).length + ((List.range (m - len)).map fun j => D (len + j)).length) * P.bytesOf tV) (by simp [DataW.weights, T.hVV])
      simp only [List.length_map, List.length_range, T.bV, reach_eq] at this ⊢
      omega

/-- An object as a pair, and back. -/
def lay (p : List (Int × Int) × Bool) : Ob := ⟨p.1.map fun q => ⟨q.1, q.2⟩, p.2⟩
def unlay (o : Ob) : List (Int × Int) × Bool := (o.fs.map fun v => (v.k, v.n), o.dead)
theorem lay_unlay (o : Ob) : lay (unlay o) = o := by
  obtain ⟨fs, d⟩ := o
  simp only [lay, unlay, List.map_map]
  congr 1
  exact List.map_id _

theorem open_obc (T : HeapTypes P tH tOO tO tVV tV tN tB h0 h1 o0 o1 v0 v1) {fuel : Nat} {cs : List Value} {x : DataW H × List MemPlace} (h : DataW.trod enc P w base (fun _ => true) held fuel tO cs = some x) :
    ∃ (fa : Option Addr) (fc : Nat) (ob : Ob), cs = [.slice fa ob.fs.length fc, .bool ob.dead] ∧ ValsAt w fa ob.fs ∧ ((∀ n ∈ x.1.weights P tO, n ≤ reachBytes) → 16 * ob.fs.length ≤ 140737488351232) := by
  obtain ⟨y0, y1, n, hx, hl, g0, g1⟩ := trod_struct2 T.hO h
  rw [T.cO] at hl
  match cs, hl with
  | [c0, c1], _ =>
    rw [T.ho0.1, T.ho0.2, T.cVV] at g0
    rw [T.ho1.1, T.ho1.2, T.cB] at g1
    simp only [List.drop_zero, List.take_succ_cons, List.take_zero] at g0
    obtain ⟨ao, l, cap, rfl, hv, hw⟩ := open_vals T g0
    obtain ⟨b, e1, _⟩ := DataW.trod_bool T.hB g1
    simp at e1
    subst e1
    refine ⟨ao, cap, ⟨l, b⟩, rfl, hv, fun hwt => hw fun n hn => hwt n ?_⟩
    subst hx
    simp [DataW.weights, T.hO, DataW.weightsEach, T.ho0.1, hn]

theorem open_obs (T : HeapTypes P tH tOO tO tVV tV tN tB h0 h1 o0 o1 v0 v1) {fuel : Nat} {v : Value} {x : DataW H × List MemPlace} (h : DataW.trod enc P w base (fun _ => true) held fuel tOO [v] = some x) (hw : ∀ n ∈ x.1.weights P tOO, n ≤ reachBytes) :
    ∃ (ao : Option Addr) (l : List Ob) (cap : Nat), v = .slice ao l.length cap ∧ ObsAt w ao l := by
  rcases open_slice T.hOO h with ⟨hcs, hx⟩ | ⟨a, len, cap, m, n, D, Pl, hcs, _, hl, hm, hmm, hx, hel⟩
  · simp at hcs
    subst hcs
    exact ⟨none, [], 0, rfl, fun i v hi => by simp at hi, by show 32 * 0 ≤ 140737488351232; omega⟩
  · simp only [List.cons.injEq, and_true] at hcs
    subst hcs
    simp only [if_true] at hmm
    rw [T.cO] at hel
    subst hx
    obtain ⟨z, hz⟩ := choose_lt (α := Option Addr × Nat × List (Int × Int) × Bool) (n := len) (p := fun i z => w.cells? base (a.add (i * 2)) 2 = some [.slice z.1 (lay z.2.2).fs.length z.2.1, .bool (lay z.2.2).dead] ∧ ValsAt w z.1 (lay z.2.2).fs ∧ 16 * (lay z.2.2).fs.length ≤ 140737488351232) (fun i hi => by
      obtain ⟨cs', hc, ht⟩ := hel i (by omega)
      obtain ⟨fa, fc, ob, rfl, hv, hb⟩ := open_obc T ht
      have hin : ∀ n ∈ (D i).weights P tO, n ≤ reachBytes := fun n hn => hw n (by
        simp only [DataW.weights, T.hOO, List.mem_append, List.mem_cons]
        exact Or.inr (Or.inl (weightsAll_mem (List.mem_map.2 ⟨i, List.mem_range.2 hi, rfl⟩) n hn)))
      exact ⟨(fa, fc, unlay ob), by rw [lay_unlay]; exact hc, by rw [lay_unlay]; exact hv, by rw [lay_unlay]; exact hb hin⟩)
    refine ⟨some a, (List.range len).map (fun i => lay (z i).2.2), cap, by simp, fun i v hi => ?_, ?_⟩
    · obtain ⟨hi', rfl⟩ := getElem?_ofRange hi
      obtain ⟨hc1, hv, hb⟩ := hz i hi'
      obtain ⟨_, _, hc0⟩ := World.cells?_some (hz 0 (by omega)).1
      obtain ⟨_, _, hc⟩ := World.cells?_some hc1
      obtain ⟨b, o, sp⟩ := a
      have hsp : sp = none := by
        have := World.cell?_spot ((hc0 0 (by omega)).trans rfl)
        simpa [Addr.add] using this
      subst hsp
      have d0 := hc 0 (by omega)
      have d1 := hc 1 (by omega)
      rw [add_plain, add_plain] at d0 d1
      exact ⟨b, o, (z i).1, (z i).2.1, rfl, by simpa using d0, by simpa using d1, hv, hb⟩
    · have := hw ((((List.range len).map D).length + ((List.range (m - len)).map fun j => D (len + j)).length) * P.bytesOf tO) (by simp [DataW.weights, T.hOO])
      simp only [List.length_map, List.length_range, T.bO, reach_eq] at this ⊢
      omega

/-- A heap that is handed in. -/
theorem open_heap (T : HeapTypes P tH tOO tO tVV tV tN tB h0 h1 o0 o1 v0 v1) {r : Reach} {b0 : Nat} {v : Value} {d : DataW H} {p : List MemPlace} (hv : Value.okWide P w r b0 tH v) (h : DataW.Trod enc P w base (fun _ => true) held tH v d p)
    (hsz : ∀ n ∈ d.weights P tH, n ≤ reachBytes) :
    ∃ (M : Int) (ao : Option Addr) (l : List Ob) (cap : Nat), v = .agg #[.int .i64 M, .slice ao l.length cap] ∧ ObsAt w ao l := by
  obtain ⟨cs, rfl, hcs⟩ := okWide_struct T.hH hv
  rw [T.cH] at hcs
  obtain ⟨l⟩ := cs
  match l, hcs with
  | [c0, c1], _ =>
    obtain ⟨fuel, hf⟩ := h
    obtain ⟨y0, y1, n, hx, _, g0, g1⟩ := trod_struct2 T.hH hf
    rw [T.hh0.1, T.hh0.2, T.cN] at g0
    rw [T.hh1.1, T.hh1.2, T.cOO] at g1
    simp only [Value.cells, List.drop_zero, List.take_succ_cons, List.take_zero, List.drop_succ_cons] at g0 g1
    simp only [Prod.mk.injEq] at hx
    obtain ⟨rfl, rfl⟩ := hx
    obtain ⟨a0, e0, _, _⟩ := DataW.trod_int T.hN g0
    simp at e0
    subst e0
    obtain ⟨ao, l, cap, rfl, ho⟩ := open_obs T g1 (fun n hn => hsz n (by simp [DataW.weights, T.hH, DataW.weightsEach, T.hh1.1, hn]))
    exact ⟨a0, ao, l, cap, rfl, ho⟩

/-- Values that are handed in. -/
theorem open_roots (T : HeapTypes P tH tOO tO tVV tV tN tB h0 h1 o0 o1 v0 v1) {v : Value} {d : DataW H} {p : List MemPlace} {r : Reach} {b0 : Nat} (hv : Value.okWide P w r b0 tVV v) (h : DataW.Trod enc P w base (fun _ => true) held tVV v d p)
    (hsz : ∀ n ∈ d.weights P tVV, n ≤ reachBytes) :
    ∃ (ao : Option Addr) (l : List Vl) (cap : Nat), v = .slice ao l.length cap ∧ ValsAt w ao l ∧ 16 * l.length ≤ 140737488351232 := by
  obtain ⟨a0, n0, c0, rfl⟩ := okWide_slice T.hVV hv
  obtain ⟨fuel, hf⟩ := h
  obtain ⟨ao, l, cap, e, hv, hb⟩ := open_vals T hf
  exact ⟨ao, l, cap, e, hv, hb hsz⟩

/-- A value that is handed in. -/
theorem open_value (T : HeapTypes P tH tOO tO tVV tV tN tB h0 h1 o0 o1 v0 v1) {r : Reach} {b0 : Nat} {v : Value} {d : DataW H} {p : List MemPlace} (hv : Value.okWide P w r b0 tV v) (h : DataW.Trod enc P w base spare held tV v d p) :
    ∃ (x : Vl), v = .agg #[.int .i64 x.k, .int .i64 x.n] := by
  obtain ⟨cs, rfl, hcs⟩ := okWide_struct T.hV hv
  obtain ⟨fuel, hf⟩ := h
  obtain ⟨x, hx, _⟩ := open_valc T hf
  refine ⟨x, ?_⟩
  simp only [Value.cells] at hx
  rw [← hx]

/-- A number that is handed in. -/
theorem open_num (T : HeapTypes P tH tOO tO tVV tV tN tB h0 h1 o0 o1 v0 v1) {r : Reach} {b0 : Nat} {v : Value} {d : DataW H} {p : List MemPlace} (hv : Value.okWide P w r b0 tN v) (h : DataW.Trod enc P w base spare held tN v d p) :
    ∃ n : Int, v = .int .i64 n ∧ (-9223372036854775808 ≤ n ∧ n ≤ 9223372036854775807) := by
  obtain ⟨n, rfl⟩ := okWide_int T.hN hv
  obtain ⟨fuel, hf⟩ := h
  obtain ⟨a, e, _, w1⟩ := DataW.trod_int T.hN hf
  simp [Value.cells] at e
  subst e
  exact ⟨_, rfl, bounds_i64 w1⟩

end

theorem Tryd.own : ownKnob Tryd.prog.godebug = none := by kernel_rfl
theorem Tryd.laidOut : laidOutB Tryd.prog = true := by kernel_rfl
theorem Tryd.cellsH : Tryd.prog.cellsOf 85 = 2 := by kernel_rfl
theorem Tryd.cellsOO : Tryd.prog.cellsOf 83 = 1 := by kernel_rfl
theorem Tryd.cellsO : Tryd.prog.cellsOf 82 = 2 := by kernel_rfl
theorem Tryd.cellsVV : Tryd.prog.cellsOf 80 = 1 := by kernel_rfl
theorem Tryd.cellsV : Tryd.prog.cellsOf 78 = 2 := by kernel_rfl
theorem Tryd.cellsN : Tryd.prog.cellsOf 3 = 1 := by kernel_rfl
theorem Tryd.cellsB : Tryd.prog.cellsOf 4 = 1 := by kernel_rfl
theorem Tryd.bytesO : Tryd.prog.bytesOf 82 = 32 := by kernel_rfl
theorem Tryd.bytesV : Tryd.prog.bytesOf 78 = 16 := by kernel_rfl

theorem types : ∃ h0 h1 o0 o1 v0 v1, HeapTypes Tryd.prog 85 83 82 80 78 3 4 h0 h1 o0 o1 v0 v1 :=
  ⟨_, _, _, _, _, _, Tryd.underlying85, ⟨rfl, rfl⟩, ⟨rfl, rfl⟩, Tryd.cellsH, Tryd.cellsOO, Tryd.underlying83, Tryd.cellsO, Tryd.underlying82, ⟨rfl, rfl⟩, ⟨rfl, rfl⟩, Tryd.cellsVV, Tryd.underlying80, Tryd.cellsV, Tryd.underlying78,
    ⟨rfl, rfl⟩, ⟨rfl, rfl⟩, Tryd.underlying3, Tryd.cellsN, Tryd.underlying4, Tryd.cellsB, Tryd.bytesO, Tryd.bytesV⟩

end Go.Proofs.YtahcgnmhhgcfmaaDoor
