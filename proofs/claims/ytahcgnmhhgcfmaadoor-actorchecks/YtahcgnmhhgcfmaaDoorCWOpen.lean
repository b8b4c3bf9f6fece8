/- A world that is handed in lies in memory as ActsAt and ToldAt say. -/
import Derived.Test.YtahcgnmhhgcfmaaDoorCHOpen
import Derived.Test.YtahcgnmhhgcfmaaDoorCPlain
namespace Go.Proofs.YtahcgnmhhgcfmaaDoor
open Go.ChangeShapes Go.WideShapes Go.ChangeAt Go.RowKit Go.Deep


/-- The types of a world beside those of a heap. -/
structure WorldTypes (P : Program) (tW tAA tA tTT tT tH tVV tN : TypeId) (w0 w1 a0 a1 a2 a3 a4 a5 a6 t0 t1 : Field) : Prop where
  hW : P.underlying tW = some (.struct #[w0, w1])
  hw0 : w0.type = tAA ∧ w0.offset = 0
  hw1 : w1.type = tTT ∧ w1.offset = 1
  cW : P.cellsOf tW = 2
  cAA : P.cellsOf tAA = 1
  cTT : P.cellsOf tTT = 1
  hAA : P.underlying tAA = some (.slice tA)
  hTT : P.underlying tTT = some (.slice tT)
  hA : P.underlying tA = some (.struct #[a0, a1, a2, a3, a4, a5, a6])
  ha0 : a0.type = tN ∧ a0.offset = 0
  ha1 : a1.type = tN ∧ a1.offset = 1
  ha2 : a2.type = tH ∧ a2.offset = 2
  ha3 : a3.type = tVV ∧ a3.offset = 4
  ha4 : a4.type = tN ∧ a4.offset = 5
  ha5 : a5.type = tVV ∧ a5.offset = 6
  ha6 : a6.type = tN ∧ a6.offset = 7
  cA : P.cellsOf tA = 8
  hT : P.underlying tT = some (.struct #[t0, t1])
  ht0 : t0.type = tN ∧ t0.offset = 0
  ht1 : t1.type = tN ∧ t1.offset = 1
  cT : P.cellsOf tT = 2
  bA : P.bytesOf tA = 112
  bT : P.bytesOf tT = 16

section
variable {H : Type} {enc : TypeId × Value → H} {P : Program} {w : World} {base : Nat} {spare : Nat → Bool} {held : Bool}
variable {tH tOO tO tVV tV tN tB : TypeId} {h0 h1 o0 o1 v0 v1 : Field}
variable {tW tAA tA tTT tT : TypeId} {w0 w1 a0 a1 a2 a3 a4 a5 a6 t0 t1 : Field}

theorem trod_struct7 {t : TypeId} {f0 f1 f2 f3 f4 f5 f6 : Field} {fuel : Nat} {cs : List Value} {x : DataW H × List MemPlace} (ht : P.underlying t = some (.struct #[f0, f1, f2, f3, f4, f5, f6])) (h : DataW.trod enc P w base spare held fuel t cs = some x) :
    ∃ y0 y1 y2 y3 y4 y5 y6 n, x.1 = .agg [y0.1, y1.1, y2.1, y3.1, y4.1, y5.1, y6.1] ∧ cs.length = P.cellsOf t ∧ DataW.trod enc P w base spare held n f0.type ((cs.drop f0.offset).take (P.cellsOf f0.type)) = some y0 ∧
      DataW.trod enc P w base spare held n f1.type ((cs.drop f1.offset).take (P.cellsOf f1.type)) = some y1 ∧ DataW.trod enc P w base spare held n f2.type ((cs.drop f2.offset).take (P.cellsOf f2.type)) = some y2 ∧
      DataW.trod enc P w base spare held n f3.type ((cs.drop f3.offset).take (P.cellsOf f3.type)) = some y3 ∧ DataW.trod enc P w base spare held n f4.type ((cs.drop f4.offset).take (P.cellsOf f4.type)) = some y4 ∧
      DataW.trod enc P w base spare held n f5.type ((cs.drop f5.offset).take (P.cellsOf f5.type)) = some y5 ∧ DataW.trod enc P w base spare held n f6.type ((cs.drop f6.offset).take (P.cellsOf f6.type)) = some y6 := by
  obtain ⟨xs, n, _, rfl, hl, hlen, hf⟩ := DataW.trod_struct ht h
  match xs, hlen with
  | [y0, y1, y2, y3, y4, y5, y6], _ => exact ⟨y0, y1, y2, y3, y4, y5, y6, n, by simp, hl, by simpa using hf 0 f0 rfl, by simpa using hf 1 f1 rfl, by simpa using hf 2 f2 rfl, by simpa using hf 3 f3 rfl, by simpa using hf 4 f4 rfl, by simpa using hf 5 f5 rfl, by simpa using hf 6 f6 rfl⟩

theorem open_toldc (T : WorldTypes P tW tAA tA tTT tT tH tVV tN w0 w1 a0 a1 a2 a3 a4 a5 a6 t0 t1) (hN : P.underlying tN = some (.int .i64)) (cN : P.cellsOf tN = 1) {fuel : Nat} {cs : List Value} {x : DataW H × List MemPlace} (h : DataW.trod enc P w base spare held fuel tT cs = some x) :
    ∃ v : Int × Int, cs = [.int .i64 v.1, .int .i64 v.2] := by
  obtain ⟨y0, y1, n, _, hl, g0, g1⟩ := trod_struct2 T.hT h
  rw [T.cT] at hl
  match cs, hl with
  | [c0, c1], _ =>
    rw [T.ht0.1, T.ht0.2, cN] at g0
    rw [T.ht1.1, T.ht1.2, cN] at g1
    obtain ⟨a0, e0, _, _⟩ := DataW.trod_int hN g0
    obtain ⟨a1, e1, _, _⟩ := DataW.trod_int hN g1
    simp at e0 e1
    subst e0 e1
    exact ⟨(a0, a1), rfl⟩

theorem open_told (T : WorldTypes P tW tAA tA tTT tT tH tVV tN w0 w1 a0 a1 a2 a3 a4 a5 a6 t0 t1) (hN : P.underlying tN = some (.int .i64)) (cN : P.cellsOf tN = 1) {fuel : Nat} {v : Value} {x : DataW H × List MemPlace} (h : DataW.trod enc P w base (fun _ => true) held fuel tTT [v] = some x) (hw : ∀ n ∈ x.1.weights P tTT, n ≤ reachBytes) :
    ∃ (ao : Option Addr) (l : List (Int × Int)) (cap : Nat), v = .slice ao l.length cap ∧ ToldAt w ao l := by
  rcases open_slice T.hTT h with ⟨hcs, hx⟩ | ⟨a, len, cap, m, n, D, Pl, hcs, _, hl, hm, hmm, hx, hel⟩
  · simp at hcs
    subst hcs
    exact ⟨none, [], 0, rfl, ToldAt.nil _ _⟩
  · simp only [List.cons.injEq, and_true] at hcs
    subst hcs
    simp only [if_true] at hmm
    rw [T.cT] at hel
    obtain ⟨z, hz⟩ := choose_lt (α := Int × Int) (n := m) (p := fun i z => w.cells? base (a.add (i * 2)) 2 = some [.int .i64 z.1, .int .i64 z.2]) (fun i hi => by
      obtain ⟨cs', hc, ht⟩ := hel i hi
      obtain ⟨⟨k, n⟩, rfl⟩ := open_toldc T hN cN ht
      exact ⟨(k, n), hc⟩)
    refine ⟨some a, (List.range len).map z, cap, by simp, fun i v hi => ?_, ?_⟩
    · obtain ⟨hi', rfl⟩ := getElem?_ofRange hi
      obtain ⟨_, _, hc0⟩ := World.cells?_some (hz 0 (by omega))
      obtain ⟨_, _, hc⟩ := World.cells?_some (hz i (by omega))
      obtain ⟨b, o, sp⟩ := a
      have hsp : sp = none := by
        have := World.cell?_spot ((hc0 0 (by omega)).trans rfl)
        simpa [Addr.add] using this
      subst hsp
      have d0 := hc 0 (by omega)
      have d1 := hc 1 (by omega)
      rw [add_plain, add_plain] at d0 d1
      exact ⟨b, o, rfl, by simpa using d0, by simpa using d1⟩
    · subst hx
      have := hw ((((List.range len).map D).length + ((List.range (m - len)).map fun j => D (len + j)).length) * P.bytesOf tT) (by simp [DataW.weights, T.hTT])
      simp only [List.length_map, List.length_range, T.bT, reach_eq] at this ⊢
      omega

theorem open_acc (T : WorldTypes P tW tAA tA tTT tT tH tVV tN w0 w1 a0 a1 a2 a3 a4 a5 a6 t0 t1) (U : HeapTypes P tH tOO tO tVV tV tN tB h0 h1 o0 o1 v0 v1) {fuel : Nat} {cs : List Value} {x : DataW H × List MemPlace} (h : DataW.trod enc P w base (fun _ => true) held fuel tA cs = some x) (hw : ∀ n ∈ x.1.weights P tA, n ≤ reachBytes) :
    ∃ (oa : Option Addr) (oc : Nat) (ra : Option Addr) (rc : Nat) (ba : Option Addr) (bc : Nat) (y : Ac), cs = [.int .i64 y.kind, .int .i64 y.par, .int .i64 y.M, .slice oa y.obs.length oc, .slice ra y.regs.length rc, .int .i64 y.pc, .slice ba y.box.length bc, .int .i64 y.fin] ∧
      ObsAt w oa y.obs ∧ ValsAt w ra y.regs ∧ ValsAt w ba y.box ∧ 16 * y.regs.length ≤ 140737488351232 ∧ 16 * y.box.length ≤ 140737488351232 := by
  obtain ⟨y0, y1, y2, y3, y4, y5, y6, n, hx, hl, g0, g1, g2, g3, g4, g5, g6⟩ := trod_struct7 T.hA h
  rw [T.cA] at hl
  match cs, hl with
  | [c0, c1, c2, c3, c4, c5, c6, c7], _ =>
    rw [T.ha0.1, T.ha0.2, U.cN] at g0
    rw [T.ha1.1, T.ha1.2, U.cN] at g1
    rw [T.ha2.1, T.ha2.2, U.cH] at g2
    rw [T.ha3.1, T.ha3.2, U.cVV] at g3
    rw [T.ha4.1, T.ha4.2, U.cN] at g4
    rw [T.ha5.1, T.ha5.2, U.cVV] at g5
    rw [T.ha6.1, T.ha6.2, U.cN] at g6
    simp only [List.drop_zero, List.take_succ_cons, List.take_zero, List.drop_succ_cons] at g0 g1 g2 g3 g4 g5 g6
    obtain ⟨k0, e0, _, _⟩ := DataW.trod_int U.hN g0
    obtain ⟨k1, e1, _, _⟩ := DataW.trod_int U.hN g1
    obtain ⟨k4, e4, _, _⟩ := DataW.trod_int U.hN g4
    obtain ⟨k6, e6, _, _⟩ := DataW.trod_int U.hN g6
    simp at e0 e1 e4 e6
    subst e0 e1 e4 e6
    rw [hx] at hw
    have hwt : ∀ (j : Nat) (t : TypeId) (d : DataW H), [a0.type, a1.type, a2.type, a3.type, a4.type, a5.type, a6.type][j]? = some t → [y0.1, y1.1, y2.1, y3.1, y4.1, y5.1, y6.1][j]? = some d → ∀ n ∈ d.weights P t, n ≤ reachBytes := fun j t d ht hd n hn => hw n (by
      simp only [DataW.weights, T.hA]
      exact DataW.weights_mem_each (j := j) ht hd n hn)
    obtain ⟨z0, z1, n2, hz, _, q0, q1⟩ := trod_struct2 U.hH g2
    rw [U.hh0.1, U.hh0.2, U.cN] at q0
    rw [U.hh1.1, U.hh1.2, U.cOO] at q1
    simp only [List.drop_zero, List.take_succ_cons, List.take_zero, List.drop_succ_cons] at q0 q1
    obtain ⟨m0, e2, _, _⟩ := DataW.trod_int U.hN q0
    simp at e2
    subst e2
    have hw2 := hwt 2 _ _ rfl rfl
    rw [T.ha2.1, hz] at hw2
    obtain ⟨oa, ol, oc, rfl, ho⟩ := open_obs U q1 (fun n hn => hw2 n (by simp [DataW.weights, U.hH, DataW.weightsEach, U.hh1.1, hn]))
    have hw3 := hwt 3 _ _ rfl rfl
    have hw5 := hwt 5 _ _ rfl rfl
    rw [T.ha3.1] at hw3
    rw [T.ha5.1] at hw5
    obtain ⟨ra, rl, rc, rfl, hr, hrl⟩ := open_vals U g3
    obtain ⟨ba, bl, bc, rfl, hb, hbl⟩ := open_vals U g5
    exact ⟨oa, oc, ra, rc, ba, bc, ⟨k0, k1, m0, ol, rl, k4, bl, k6⟩, rfl, ho, hr, hb, hrl hw3, hbl hw5⟩

theorem open_acts (T : WorldTypes P tW tAA tA tTT tT tH tVV tN w0 w1 a0 a1 a2 a3 a4 a5 a6 t0 t1) (U : HeapTypes P tH tOO tO tVV tV tN tB h0 h1 o0 o1 v0 v1) {fuel : Nat} {v : Value} {x : DataW H × List MemPlace} (h : DataW.trod enc P w base (fun _ => true) held fuel tAA [v] = some x) (hw : ∀ n ∈ x.1.weights P tAA, n ≤ reachBytes) :
    ∃ (ao : Option Addr) (l : List Ac) (cap : Nat), v = .slice ao l.length cap ∧ ActsAt w ao l := by
  rcases open_slice T.hAA h with ⟨hcs, hx⟩ | ⟨a, len, cap, m, n, D, Pl, hcs, _, hl, hm, hmm, hx, hel⟩
  · simp at hcs
    subst hcs
    exact ⟨none, [], 0, rfl, ActsAt.nil _ _⟩
  · simp only [List.cons.injEq, and_true] at hcs
    subst hcs
    simp only [if_true] at hmm
    rw [T.cA] at hel
    subst hx
    haveI : Inhabited Ac := ⟨noAc⟩
    obtain ⟨z, hz⟩ := choose_lt (α := Option Addr × Nat × Option Addr × Nat × Option Addr × Nat × Ac) (n := len) (p := fun i z => w.cells? base (a.add (i * 8)) 8 = some [.int .i64 z.2.2.2.2.2.2.kind, .int .i64 z.2.2.2.2.2.2.par, .int .i64 z.2.2.2.2.2.2.M, .slice z.1 z.2.2.2.2.2.2.obs.length z.2.1, .slice z.2.2.1 z.2.2.2.2.2.2.regs.length z.2.2.2.1, .int .i64 z.2.2.2.2.2.2.pc, .slice z.2.2.2.2.1 z.2.2.2.2.2.2.box.length z.2.2.2.2.2.1, .int .i64 z.2.2.2.2.2.2.fin] ∧
      ObsAt w z.1 z.2.2.2.2.2.2.obs ∧ ValsAt w z.2.2.1 z.2.2.2.2.2.2.regs ∧ ValsAt w z.2.2.2.2.1 z.2.2.2.2.2.2.box ∧ 16 * z.2.2.2.2.2.2.regs.length ≤ 140737488351232 ∧ 16 * z.2.2.2.2.2.2.box.length ≤ 140737488351232) (fun i hi => by
      obtain ⟨cs', hc, ht⟩ := hel i (by omega)
      have hin : ∀ n ∈ (D i).weights P tA, n ≤ reachBytes := fun n hn => hw n (by
        simp only [DataW.weights, T.hAA, List.mem_append, List.mem_cons]
        exact Or.inr (Or.inl (weightsAll_mem (List.mem_map.2 ⟨i, List.mem_range.2 hi, rfl⟩) n hn)))
      obtain ⟨oa, oc, ra, rc, ba, bc, y, rfl, hq⟩ := open_acc T U ht hin
      exact ⟨(oa, oc, ra, rc, ba, bc, y), hc, hq⟩)
    refine ⟨some a, (List.range len).map (fun i => (z i).2.2.2.2.2.2), cap, by simp, fun i v hi => ?_, ?_⟩
    · obtain ⟨hi', rfl⟩ := getElem?_ofRange hi
      obtain ⟨hc1, q1, q2, q3, q4, q5⟩ := hz i hi'
      obtain ⟨_, _, hc0⟩ := World.cells?_some (hz 0 (by omega)).1
      obtain ⟨_, _, hc⟩ := World.cells?_some hc1
      obtain ⟨b, o, sp⟩ := a
      have hsp : sp = none := by
        have := World.cell?_spot ((hc0 0 (by omega)).trans rfl)
        simpa [Addr.add] using this
      subst hsp
      have d0 := hc 0 (by omega)
      have d1 := hc 1 (by omega)
      have d2 := hc 2 (by omega)
      have d3 := hc 3 (by omega)
      have d4 := hc 4 (by omega)
      have d5 := hc 5 (by omega)
      have d6 := hc 6 (by omega)
      have d7 := hc 7 (by omega)
      rw [add_plain, add_plain] at d0 d1 d2 d3 d4 d5 d6 d7
      exact ⟨b, o, _, _, _, _, _, _, rfl, by simpa using d0, by simpa using d1, by simpa using d2, by simpa using d3, by simpa using d4, by simpa using d5, by simpa using d6, by simpa using d7, q1, q2, q3, q4, q5⟩
    · have := hw ((((List.range len).map D).length + ((List.range (m - len)).map fun j => D (len + j)).length) * P.bytesOf tA) (by simp [DataW.weights, T.hAA])
      simp only [List.length_map, List.length_range, T.bA, reach_eq] at this ⊢
      omega

/-- A world that is handed in. -/
theorem open_world (T : WorldTypes P tW tAA tA tTT tT tH tVV tN w0 w1 a0 a1 a2 a3 a4 a5 a6 t0 t1) (U : HeapTypes P tH tOO tO tVV tV tN tB h0 h1 o0 o1 v0 v1) {r : Reach} {b0 : Nat} {v : Value} {d : DataW H} {p : List MemPlace} (hv : Value.okWide P w r b0 tW v) (h : DataW.Trod enc P w base (fun _ => true) held tW v d p)
    (hsz : ∀ n ∈ d.weights P tW, n ≤ reachBytes) :
    ∃ (V : Wd) (aa pa : Option Addr) (ac pc : Nat), v = .agg #[.slice aa V.acts.length ac, .slice pa V.prints.length pc] ∧ ActsAt w aa V.acts ∧ ToldAt w pa V.prints := by
  obtain ⟨cs, rfl, hcs⟩ := okWide_struct T.hW hv
  rw [T.cW] at hcs
  obtain ⟨l⟩ := cs
  match l, hcs with
  | [c0, c1], _ =>
    obtain ⟨fuel, hf⟩ := h
    obtain ⟨y0, y1, n, hx, _, g0, g1⟩ := trod_struct2 T.hW hf
    rw [T.hw0.1, T.hw0.2, T.cAA] at g0
    rw [T.hw1.1, T.hw1.2, T.cTT] at g1
    simp only [Value.cells, List.drop_zero, List.take_succ_cons, List.take_zero, List.drop_succ_cons] at g0 g1
    simp only [Prod.mk.injEq] at hx
    obtain ⟨rfl, rfl⟩ := hx
    obtain ⟨aa, al, ac, rfl, ha⟩ := open_acts T U g0 (fun n hn => hsz n (by simp [DataW.weights, T.hW, DataW.weightsEach, T.hw0.1, hn]))
    obtain ⟨pa, pl, pc, rfl, hp⟩ := open_told T U.hN U.cN g1 (fun n hn => hsz n (by simp [DataW.weights, T.hW, DataW.weightsEach, T.hw1.1, hn]))
    exact ⟨⟨al, pl⟩, aa, pa, ac, pc, rfl, ha, hp⟩

end

theorem Tryd.cellsWd : Tryd.prog.cellsOf 54 = 2 := by kernel_rfl
theorem Tryd.cellsAA : Tryd.prog.cellsOf 51 = 1 := by kernel_rfl
theorem Tryd.cellsTT : Tryd.prog.cellsOf 52 = 1 := by kernel_rfl
theorem Tryd.cellsAc : Tryd.prog.cellsOf 87 = 8 := by kernel_rfl
theorem Tryd.cellsTl : Tryd.prog.cellsOf 92 = 2 := by kernel_rfl
theorem Tryd.bytesAc : Tryd.prog.bytesOf 87 = 112 := by kernel_rfl
theorem Tryd.bytesTl : Tryd.prog.bytesOf 92 = 16 := by kernel_rfl

theorem worldTypes : ∃ w0 w1 a0 a1 a2 a3 a4 a5 a6 t0 t1, WorldTypes Tryd.prog 54 51 87 52 92 85 80 3 w0 w1 a0 a1 a2 a3 a4 a5 a6 t0 t1 :=
  ⟨_, _, _, _, _, _, _, _, _, _, _, Tryd.underlying54, ⟨rfl, rfl⟩, ⟨rfl, rfl⟩, Tryd.cellsWd, Tryd.cellsAA, Tryd.cellsTT, Tryd.underlying51, Tryd.underlying52, Tryd.underlying87, ⟨rfl, rfl⟩, ⟨rfl, rfl⟩, ⟨rfl, rfl⟩, ⟨rfl, rfl⟩, ⟨rfl, rfl⟩, ⟨rfl, rfl⟩, ⟨rfl, rfl⟩, Tryd.cellsAc, Tryd.underlying92, ⟨rfl, rfl⟩, ⟨rfl, rfl⟩, Tryd.cellsTl, Tryd.bytesAc, Tryd.bytesTl⟩

end Go.Proofs.YtahcgnmhhgcfmaaDoor
