/- The walk of the reference's CollectedOf, whole. -/
import Derived.Test.YtbifdcchdoflpacHColOf
namespace Go.Proofs.Ytbifdcchdoflpac
open Go.RowKit Go.Maps

theorem madeCells_one (n : Nat) : (madeCells #[.int .i64 0] n).toList = (List.replicate n (0 : Int)).map (Value.int .i64) := by
  refine List.ext_getElem? fun j => ?_
  by_cases hj : j < n
  · have h1 : (madeCells #[Value.int .i64 0] n).toList[j]? = some (.int .i64 0) := by
      simp only [madeCells, Array.toList_map, Array.toList_range, List.getElem?_map, List.getElem?_range hj, Option.map_some]
      simp [Nat.mod_one]
    rw [h1]
    simp [hj]
  · rw [List.getElem?_eq_none (by simp [size_madeCells]; omega), List.getElem?_eq_none (by simp; omega)]

theorem ints_made (w : World) (base n : Nat) (hb : base ≤ w.heap.size) (hn : n ≤ 60) : IntsOwn (w.alloc (.cells (madeCells #[.int .i64 0] n) 3)) base (.slice (some ⟨w.heap.size, 0, none⟩) n n) (List.replicate n 0) := by
  refine ⟨by simp, .inr ⟨w.heap.size, n, _, by simp, hb, Deep.blk_alloc_new w _, by simp, by unfold maxLen; omega, by simp [size_madeCells], ?_⟩⟩
  rw [List.take_of_length_le (by simp [size_madeCells])]
  exact madeCells_one n

theorem IntsOwn.set {w : World} {base g n cap : Nat} {l : List Int} (h : IntsOwn w base (.slice (some ⟨g, 0, none⟩) n cap) l) (i : Nat) (x : Int) : IntsOwn (w.setCell ⟨g, i, none⟩ (.int .i64 x)) base (.slice (some ⟨g, 0, none⟩) n cap) (l.set i x) := by
  have := ownsRow_set h (g := g) rfl i (.int .i64 x)
  unfold IntsOwn
  rw [List.length_set, List.map_set]
  exact this

/-- In the middle of the list of places: i places are told. -/
structure PlMid (w2 wr : World) (L : Nat) (pl : List Int) : Prop where
  below : Below w2.heap.size w2 wr
  box : wr.heap[w2.heap.size + 1]? = some (.cells #[.slice (some ⟨w2.heap.size, 0, none⟩) L L] 52 (0, 0))
  own : IntsOwn wr w2.heap.size (.slice (some ⟨w2.heap.size, 0, none⟩) L L) pl

theorem plMid_start (w2 : World) (L : Nat) (hL : L ≤ 60) : PlMid w2 ((w2.alloc (Obj.cells (madeCells #[Value.int IntKind.i64 0] L) 3)).alloc (Obj.cells #[Value.slice (some ⟨w2.heap.size, 0, none⟩) L L] 52)) L (List.replicate L 0) := by
  obtain ⟨_, n1, _, b, _⟩ := boxes2 w2 (Obj.cells (madeCells #[Value.int IntKind.i64 0] L) 3) (Obj.cells #[Value.slice (some ⟨w2.heap.size, 0, none⟩) L L] 52)
  exact ⟨b, n1, World.ownsRow.alloc (ints_made w2 w2.heap.size L (Nat.le_refl _) hL) _⟩

theorem PlMid.set {w2 wr : World} {L : Nat} {pl : List Int} (h : PlMid w2 wr L pl) (i : Nat) (x : Int) : PlMid w2 (wr.setCell ⟨w2.heap.size, i, none⟩ (.int .i64 x)) L (pl.set i x) :=
  ⟨h.below.setCell (Nat.le_refl _) _, (Deep.blk_setCell_other _ _ _ _ (by show w2.heap.size + 1 ≠ w2.heap.size; omega)).trans h.box, IntsOwn.set h.own i x⟩

theorem IntsOwn.cell1 {w : World} {base g n cap : Nat} {l : List Int} (h : IntsOwn w base (.slice (some ⟨g, 0, none⟩) n cap) l) {i : Nat} {x : Int} (hi : l[i]? = some x) : w.cell? ⟨g, i, none⟩ = some (.int .i64 x) :=
  ownsRow_cell h rfl (by simp [hi])

/-- Objects that are laid one behind the other into the heap at C. -/
structure OutMid (w0 wr : World) (C : Nat) (M : Int) (obs : List Ob) : Prop where
  below : Below C w0 wr
  big : C + 1 ≤ wr.heap.size
  own : ∃ va vc rows, HeapOwn wr (C + 1) (.slice va rows.length vc) rows ∧ rows.map (·.2) = obs ∧ wr.heap[C]? = some (.cells #[.int .i64 M, .slice va rows.length vc] 24 (0, 0))

theorem outMid_start (w0 : World) (M : Int) : OutMid w0 (w0.alloc (Obj.cells #[Value.int IntKind.i64 M, Value.slice none 0 0] 24)) w0.heap.size M [] :=
  ⟨below_box _ _, by simp, none, 0, [], ⟨World.ownsRow_nil _ _ _ _, fun i p hp => by simp at hp, fun i j p q hp => by simp at hp, by simp⟩, rfl, Deep.blk_alloc_new _ _⟩

theorem OutMid.next {w0 wr w1 w2 : World} {C : Nat} {M : Int} {obs : List Ob} (h : OutMid w0 wr C M obs) {va : Option Addr} {vc g gc : Nat} {rows : List (Value × Ob)} {nv : Value} {ob : Ob}
    (hres : wr.heap[C]? = some (.cells #[.int .i64 M, .slice va rows.length vc] 24 (0, 0))) (hrows : rows.map (·.2) = obs)
    (hb1 : Below wr.heap.size wr w1) (hO2 : HeapOwn w2 (C + 1) (.slice (some ⟨g, 0, none⟩) (rows.length + 1) gc) (rows ++ [(nv, ob)])) (hb2 : Below (C + 1) w1 w2) :
    OutMid w0 (w2.setCell ⟨C, 1, none⟩ (.slice (some ⟨g, 0, none⟩) (rows.length + 1) gc)) C M (obs ++ [ob]) := by
  have hs := h.big
  have hs2 := hb2.size
  have hs1 := hb1.size
  have hold : w2.heap[C]? = wr.heap[C]? := (hb2.block C (by omega)).trans (hb1.block C (by omega))
  refine ⟨((h.below.trans (hb1.mono (by omega))).trans (hb2.mono (by omega))).setCell (Nat.le_refl _) _, by simp [World.setCell]; omega, some ⟨g, 0, none⟩, gc, rows ++ [(nv, ob)], ?_, by rw [← hrows]; simp, ?_⟩
  · rw [show (rows ++ [(nv, ob)]).length = rows.length + 1 by simp]
    exact hO2.setLow (by show C < _; omega) _
  · have := setCell_blk (hold.trans hres) 1 (.slice (some ⟨g, 0, none⟩) (rows.length + 1) gc)
    rw [this]
    simp

/-- What the reference lays, i objects gone through. -/
theorem keptObs_succ (l : List Ob) (order : List Int) (f : Ob → Ob) (n : Nat) : (keptOf order (n + 1)).map (fun p => f (obAt l p)) = if (n : Int) ∈ order then (keptOf order n).map (fun p => f (obAt l p)) ++ [f (obAt l n)] else (keptOf order n).map (fun p => f (obAt l p)) := by
  rw [keptOf_succ]
  by_cases h : (n : Int) ∈ order <;> simp [h]

def fixO (pl : List Int) (o : Ob) : Ob := ⟨o.fs.map (fixV pl), o.dead⟩

theorem fixO_mv {order : List Int} {n : Nat} (o : Ob) (h : Leads (keptOf order n) o.fs) : fixO (placeL order n) o = mvO (keptOf order n) 0 o := by
  unfold fixO mvO
  congr 1
  exact List.map_congr_left fun v hv => fixV_mv v (h v hv)

set_option maxHeartbeats 4000000 in
set_option maxRecDepth 100000 in
theorem collectedOf_any (M : Int) (ao : Option Addr) (cap : Nat) (l : List Ob) (ra : Option Addr) (rc : Nat) (roots : List Vl) (w : World) (h : ObsAt w ao l) (hr : ValsAt w ra roots) (hrl : 16 * roots.length ≤ 140737488351232) :
    Calls Try.prog 11 #[.agg #[.int .i64 M, .slice ao l.length cap], .slice ra roots.length rc] w fun e w' =>
      ∃ ga gc va vc, e = .returned (.tuple #[.agg #[.int .i64 (collectS M l roots).1.1, .slice ga (collectS M l roots).1.2.length gc], .slice va (collectS M l roots).2.1.length vc, .int .i64 (collectS M l roots).2.2]) ∧ Below w.heap.size w w' ∧
        ValsOwn w' w.heap.size (.slice va (collectS M l roots).2.1.length vc) (collectS M l roots).2.1 ∧
        ∃ rows, rows.map (·.2) = (collectS M l roots).1.2 ∧ HeapOwn w' w.heap.size (.slice ga (collectS M l roots).1.2.length gc) rows := by
  cases hq : hMay M l roots with
  | false =>
    rw [collectS_no hq]
    go_enter Try.func11, Try.ntmps11
    go_wp2_with fail
    obtain ⟨_, n1, k1, b1, hs⟩ := boxes2 w (Obj.cells #[.int .i64 M, .slice ao l.length cap] 24) (Obj.cells #[.int .i64 0, .slice none 0 0] 24)
    refine (heapMay_any M ao cap l ra rc roots _ (h.keeps k1) (hr.keeps k1) hrl).mono ?_
    rintro e w1 ⟨rfl, hb⟩
    rw [hq]
    have b2 := b1.trans (hb.mono (by omega))
    have m1 := (hb.block _ (by omega)).trans n1
    clear n1 k1 b1 hs hb
    have r1 := cell_blk m1 0
    have r2 := cell_blk m1 1
    have r3 : ∀ j, w1.frozen? ⟨w.heap.size + 1, j, none⟩ = false := fun j => fz_blk m1 j
    simp at r1 r2
    go_wp2
    have p1 := setCell_blk (setCell_blk m1 0 (.int .i64 0)) 1 (.slice none 0 0)
    have p2 := cell_blk p1 0
    have p3 := cell_blk p1 1
    simp at p2 p3
    refine bodyPost_ret (v := .tuple #[.agg #[.int .i64 0, .slice none 0 0], .slice none 0 0, .int .i64 8]) (by simp [results, Try.results11, go_sem, p2, p3]) rfl ⟨none, 0, none, 0, rfl, (b2.setCell (by show w.heap.size ≤ w.heap.size + 1; omega) _).setCell (by show w.heap.size ≤ w.heap.size + 1; omega) _, World.ownsRow_nil _ _ _ _, [], rfl, ⟨World.ownsRow_nil _ _ _ _, fun i p hp => by simp at hp, fun i j p q hp => by simp at hp, by simp⟩⟩
  | true =>
    have hl60 := hMay_bound hq
    have hrok := reach_ok hq roots (hMay_roots' hq)
    have hrlen := hrok.len
    have HLD1 : Aside (Leads (keptOf (reach l roots) l.length) roots) := (leads_roots (l := l)).kept hrok
    have HLD2 : Aside (∀ p ∈ reach l roots, Leads (keptOf (reach l roots) l.length) (obAt l p).fs) := fun p hp => (leads_fields hq hp).kept hrok
    have HC : Aside (collectS M l roots = ((M, (keptOf (reach l roots) l.length).map (fun p => fixO (placeL (reach l roots) l.length) (obAt l p))), roots.map (fixV (placeL (reach l roots) l.length)), 0)) := by
      show collectS M l roots = _
      rw [collectS_yes hq]
      have e1 : mvObs l (keptOf (reach l roots) l.length) 0 (keptOf (reach l roots) l.length) = (keptOf (reach l roots) l.length).map (fun p => fixO (placeL (reach l roots) l.length) (obAt l p)) :=
        List.map_congr_left fun p hp => (fixO_mv _ (HLD2.out p (mem_keptOf.1 hp).2)).symm
      have e2 : roots.map (mvV (keptOf (reach l roots) l.length) 0) = roots.map (fixV (placeL (reach l roots) l.length)) := List.map_congr_left fun v hv => (fixV_mv v (HLD1.out v hv)).symm
      rw [e1, e2]
    obtain ⟨L, hL⟩ : ∃ L, L = l.length := ⟨_, rfl⟩
    have HL : Aside (L = l.length) := hL
    obtain ⟨rr, hrr⟩ : ∃ rr, rr = reach l roots := ⟨_, rfl⟩
    rw [HC.out]
    simp only
    rw [← hrr] at hrok hrlen HLD1 HLD2 ⊢
    rw [← hL] at hl60 hrok hrlen HLD1 HLD2 ⊢
    have HRR : Aside (rr = reach l roots) := hrr
    clear hrr hL HC
    have HOK : Aside (Ok L rr) := hrok
    clear hrok
    go_enter Try.func11, Try.ntmps11
    go_wp2_with fail
    obtain ⟨n0, n1, k1, b1, hs⟩ := boxes2 w (Obj.cells #[.int .i64 M, .slice ao L cap] 24) (Obj.cells #[.int .i64 0, .slice none 0 0] 24)
    have HC1 := heapMay_any M ao cap l ra rc roots _ (h.keeps k1) (hr.keeps k1) hrl
    rw [← HL.out] at HC1
    refine HC1.mono ?_
    rintro e w1 ⟨rfl, hb⟩
    rw [hq]
    have b2 := b1.trans (hb.mono (by omega))
    have m0 := (hb.block w.heap.size (by omega)).trans n0
    have m1 := (hb.block (w.heap.size + 1) (by omega)).trans n1
    have hs1 : w.heap.size + 1 + 1 ≤ w1.heap.size := by have := hb.size; omega
    have k2 := k1.trans (Keeps.below hb)
    clear n0 n1 k1 b1 hs hb HC1
    have p0 := cell_blk m0 0
    have p1 := cell_blk m0 1
    simp at p0 p1
    have HC2 := ledTo_any M ao cap l ra rc roots _ (h.keeps k2) (hr.keeps k2) hrl hq
    rw [← HL.out, ← HRR.out] at HC2
    go_wp2_with fail
    refine HC2.mono ?_
    rintro e w2 ⟨ov, oc, rfl, hb2, hI⟩
    have hs2 : w.heap.size + 1 + 1 ≤ w2.heap.size := by have := hb2.size; omega
    have k3 := k2.trans (Keeps.below hb2)
    have b3 : Below w.heap.size w w2 := b2.trans (hb2.mono (by omega))
    have e0 := (hb2.cell (p := ⟨w.heap.size, 0, none⟩) (by show w.heap.size < _; omega)).trans p0
    have e1 := (hb2.cell (p := ⟨w.heap.size, 1, none⟩) (by show w.heap.size < _; omega)).trans p1
    have m2 := (hb2.block (w.heap.size + 1) (by omega)).trans m1
    have hIA := hI.at
    clear p0 p1 m0 m1 k2 b2 hb2 hI HC2
    have hmk := run_make_rowk (P := Try.prog) 1 52 3 _ 8 Try.underlying52 Try.infoN .i64 .i64 L (by omega) (by omega)
    go_wp2
    clear hmk
    have hstart : Aside (PlMid w2 ((w2.alloc (Obj.cells (madeCells #[Value.int IntKind.i64 0] L) 3)).alloc (Obj.cells #[Value.slice (some ⟨w2.heap.size, 0, none⟩) L L] 52)) L (List.replicate L 0)) := plMid_start w2 L hl60
    go_loopg [9, 10] L (fun g s9 s10 wr => ∃ i : Nat, i ≤ L ∧ g = L - i ∧ s10 = .int .i64 i ∧ s9 = .int .i64 ((keptOf rr i).length : Nat) ∧ PlMid w2 wr L (placeL rr i ++ List.replicate (L - i) 0))
    case atStart => exact ⟨0, Nat.zero_le _, rfl, rfl, rfl, by simpa [placeL] using hstart.out⟩
    case round =>
      obtain ⟨i, hi, rfl, rfl, rfl, hmid⟩ := hrel
      clear hstart
      have hbk := hmid.below
      have f1 := (hbk.cell (p := ⟨w.heap.size, 1, none⟩) (by show w.heap.size < _; omega)).trans e1
      have c0 := cell_blk hmid.box 0
      simp at c0
      have hkl : (keptOf rr i).length ≤ 60 := by have := (keptOf_ok (order := rr) (n := i)).len; omega
      by_cases hiL : i < L
      · have hiz : (i : Int) < (L : Int) := by omega
        have hIr := hIA.keeps (Keeps.below hbk)
        have hplen := placeL_length rr i
        have HR : Aside (List.replicate (L - i) (0 : Int) = 0 :: List.replicate (L - (i + 1)) 0) := by
          show List.replicate (L - i) (0 : Int) = _
          rw [show L - i = (L - (i + 1)) + 1 by omega]
          rfl
        have HAT : Aside ((placeL rr i ++ List.replicate (L - i) 0)[i]? = some 0) := by
          show (placeL rr i ++ List.replicate (L - i) 0)[i]? = _
          rw [List.getElem?_append_right (by omega), hplen, Nat.sub_self, HR.out]
          rfl
        have q1 := IntsOwn.cell1 hmid.own HAT.out
        have q2 : ∀ j, wr.frozen? ⟨w2.heap.size, j, none⟩ = false := fun j => ownsRow_frozen hmid.own rfl j
        have hmid1 := hmid.set i (-1)
        have hset : ∀ x : Int, (placeL rr i ++ List.replicate (L - i) 0).set i x = (placeL rr i ++ [x]) ++ List.replicate (L - (i + 1)) 0 := fun x => by
          have := set_mid (placeL rr i) (0 : Int) (List.replicate (L - (i + 1)) 0) x
          rw [hplen] at this
          rw [HR.out, this]
          simp
        have HSET : Aside (∀ x : Int, (placeL rr i ++ List.replicate (L - i) 0).set i x = (placeL rr i ++ [x]) ++ List.replicate (L - (i + 1)) 0) := hset
        have HPLEN : Aside ((placeL rr i).length = i) := hplen
        clear hset hplen
        have hIr1 : IntsAt (wr.setCell ⟨w2.heap.size, i, none⟩ (.int .i64 (-1))) ov rr := hIA.keeps (Keeps.below hmid1.below)
        have cb1 := cell_blk hmid1.box 0
        simp at cb1
        have q3 : (wr.setCell ⟨w2.heap.size, i, none⟩ (.int .i64 (-1))).cell? ⟨w2.heap.size, i, none⟩ = some (.int .i64 (-1)) := IntsOwn.cell1 hmid1.own (by rw [List.getElem?_set, if_pos rfl, if_pos (List.getElem?_eq_some_iff.1 HAT.out).1])
        have q4 : ∀ j, (wr.setCell ⟨w2.heap.size, i, none⟩ (.int .i64 (-1))).frozen? ⟨w2.heap.size, j, none⟩ = false := fun j => ownsRow_frozen hmid1.own rfl j
        by_cases hin : (i : Int) ∈ rr
        · have hd : decide ((i : Int) ∈ rr) = true := by simp [hin]
          have HNX : Aside (PlMid w2 ((wr.setCell ⟨w2.heap.size, i, none⟩ (.int .i64 (-1))).setCell ⟨w2.heap.size, i, none⟩ (.int .i64 ((keptOf rr i).length : Nat))) L (placeL rr (i + 1) ++ List.replicate (L - (i + 1)) 0)) := by
            have h2 := hmid1.set i ((keptOf rr i).length : Nat)
            rw [List.set_set, HSET.out] at h2
            rw [placeL_succ, if_pos hin]
            exact h2
          have HKL : Aside ((keptOf rr (i + 1)).length = (keptOf rr i).length + 1) := by show (keptOf rr (i + 1)).length = _; rw [keptOf_succ, if_pos hin]; simp
          clear hmid1 hmid hin
          go_wp2_with (go_at_call 37; refine (has_any ov oc rr i _ hIr1 (by omega)).mono ?_; rintro e w' ⟨rfl, rfl⟩; rw [hd])
          go_roundg (L - (i + 1))
          case measure => go_light; omega
          case rel => go_light; exact ⟨i + 1, by omega, rfl, by go_num, by rw [HKL.out]; go_num, HNX.out⟩
        · have hd : decide ((i : Int) ∈ rr) = false := by simp [hin]
          have HNX : Aside (PlMid w2 (wr.setCell ⟨w2.heap.size, i, none⟩ (.int .i64 (-1))) L (placeL rr (i + 1) ++ List.replicate (L - (i + 1)) 0)) := by
            have h2 := hmid1
            rw [HSET.out] at h2
            rw [placeL_succ, if_neg hin]
            exact h2
          have HKL : Aside ((keptOf rr (i + 1)).length = (keptOf rr i).length) := by show (keptOf rr (i + 1)).length = _; rw [keptOf_succ, if_neg hin]
          clear hmid1 hmid hin
          go_wp2_with (go_at_call 37; refine (has_any ov oc rr i _ hIr1 (by omega)).mono ?_; rintro e w' ⟨rfl, rfl⟩; rw [hd])
          go_roundg (L - (i + 1))
          case measure => go_light; omega
          case rel => go_light; exact ⟨i + 1, by omega, rfl, by go_num, by rw [HKL.out], HNX.out⟩
      · obtain rfl : i = L := by omega
        have f0 := (hbk.cell (p := ⟨w.heap.size, 0, none⟩) (by show w.heap.size < _; omega)).trans e0
        have HPL : Aside (PlMid w2 wr i (placeL rr i)) := by
          have h2 := hmid
          rw [Nat.sub_self, List.replicate_zero, List.append_nil] at h2
          exact h2
        clear hmid
        have hs3 : w2.heap.size + 1 < wr.heap.size := (Array.getElem?_eq_some_iff.1 HPL.out.box).1
        have b4 : Below w.heap.size w wr := b3.trans (hbk.mono (by omega))
        have k4 : Keeps w wr := k3.trans (Keeps.below hbk)
        have m4 := (hbk.block (w.heap.size + 1) (by omega)).trans m2
        clear hbk c0 e0 e1 m2 b3 k3 hIA
        go_wp2
        generalize wr = w3 at *
        have hstart : Aside (OutMid w3 (w3.alloc (Obj.cells #[Value.int IntKind.i64 M, Value.slice none 0 0] 24)) w3.heap.size M ((keptOf rr 0).map (fun p => fixO (placeL rr i) (obAt l p)))) := by
          show OutMid _ _ _ _ _
          have := outMid_start w3 M
          simpa [keptOf, spots] using this
        go_loopg [13] i (fun g s13 wq => ∃ j : Nat, j ≤ i ∧ g = i - j ∧ s13 = .int .i64 j ∧ OutMid w3 wq w3.heap.size M ((keptOf rr j).map (fun p => fixO (placeL rr i) (obAt l p))))
        case atStart => exact ⟨0, Nat.zero_le _, rfl, rfl, hstart.out⟩
        case round =>
          obtain ⟨j, hj, rfl, rfl, hmid⟩ := hrel
          clear hstart
          have hb := hmid.below
          have g1 := (hb.cell (p := ⟨w.heap.size, 1, none⟩) (by show w.heap.size < _; omega)).trans f1
          by_cases hjL : j < i
          · have hjz : (j : Int) < (i : Int) := by omega
            have g2 := (hb.block (w2.heap.size + 1) (by omega)).trans HPL.out.box
            have g3 := cell_blk g2 0
            simp at g3
            have g4 := (hb.cell (p := ⟨w2.heap.size, j, none⟩) (by show w2.heap.size < _; omega)).trans (IntsOwn.cell1 HPL.out.own (placeL_at rr hjL))
            have hkl : (keptOf rr j).length ≤ 60 := by have := (keptOf_ok (order := rr) (n := j)).len; omega
            by_cases hin : (j : Int) ∈ rr
            · rw [if_pos hin] at g4
              have HK : Aside ((keptOf rr (j + 1)).map (fun p => fixO (placeL rr i) (obAt l p)) = (keptOf rr j).map (fun p => fixO (placeL rr i) (obAt l p)) ++ [fixO (placeL rr i) (obAt l j)]) := by
                show (keptOf rr (j + 1)).map _ = _
                rw [keptObs_succ, if_pos hin]
              have hldp := HLD2.out (j : Int) hin
              obtain ⟨⟨fs, dead⟩, hx⟩ := at_some (l := l) (i := j) (by rw [← HL.out]; exact hjL)
              have hob : obAt l (j : Int) = ⟨fs, dead⟩ := by simp [obAt, hx]
              rw [hob] at hldp
              have HK2 : Aside ((keptOf rr (j + 1)).map (fun p => fixO (placeL rr i) (obAt l p)) = (keptOf rr j).map (fun p => fixO (placeL rr i) (obAt l p)) ++ [⟨fs.map (fixV (placeL rr i)), dead⟩]) := by
                have := HK.out
                rw [hob] at this
                exact this
              have hinf : ∀ v ∈ fs, v.k = 2 → 0 ≤ v.n ∧ v.n < ((placeL rr i).length : Int) := fun v hv hk => by
                rw [placeL_length]
                exact (mem_keptOf.1 (hldp v hv hk)).1
              obtain ⟨bk, o, fa, fc, rfl, c1, c2, hfs, hfl⟩ := h.cell j _ hx
              simp only at c1 c2 hfs hfl
              have hbl1 := World.block_lt_of_cell? _ _ c1
              simp only at hbl1
              have hsw : w.heap.size ≤ w3.heap.size := by omega
              replace c1 := (hb.cell (p := ⟨bk, o + j * 2, none⟩) (by show bk < _; omega)).trans (k4 _ _ c1)
              replace c2 := (hb.cell (p := ⟨bk, o + j * 2 + 1, none⟩) (by show bk < _; omega)).trans (k4 _ _ c2)
              have hfsq : ValsAt wr fa fs := (hfs.keeps k4).keepLow (B := w3.heap.size) (fun i v hi => by
                obtain ⟨b, o, e, hb⟩ := hfs.low i v hi
                exact ⟨b, o, e, by omega⟩) hb
              have hIq : IntsAt wr (some ⟨w2.heap.size, 0, none⟩) (placeL rr i) := fun t z hz => ⟨_, _, rfl, by rw [Nat.zero_add]; exact (hb.cell (p := ⟨w2.heap.size, t, none⟩) (by show w2.heap.size < _; omega)).trans (IntsOwn.cell1 HPL.out.own hz)⟩
              obtain ⟨va, vc, rows, hO, hrows, hres⟩ := hmid.own
              have hbig := hmid.big
              have hrl60 : rows.length ≤ 60 := by
                have := congrArg List.length hrows
                rw [List.length_map, List.length_map] at this
                omega
              have q1 := cell_blk hres 1
              have q2 : ∀ t, wr.frozen? ⟨w3.heap.size, t, none⟩ = false := fun t => fz_blk hres t
              simp at q1
              have hpl60 : (placeL rr i).length ≤ 60 := by rw [placeL_length]; exact hl60
              have hbx : wr.heap[w2.heap.size + 1]? = some (.cells #[.slice (some ⟨w2.heap.size, 0, none⟩) (placeL rr i).length i] 52 (0, 0)) := by rw [placeL_length]; exact g2
              clear hfs hx hob HK hldp hin g2
              go_wp2
              clear g3 g4
              refine wp_region_need (fun t => t != 20) (fun w' => w'.cell? ⟨w.heap.size, 1, none⟩ = some (.slice (some ⟨bk, o, none⟩) i cap) ∧ w'.cell? ⟨bk, o + j * 2, none⟩ = some (.slice fa fs.length fc) ∧ w'.cell? ⟨bk, o + j * 2 + 1, none⟩ = some (.bool dead) ∧ w'.cell? ⟨w3.heap.size, 1, none⟩ = some (.slice va rows.length vc)) (by kernel_rfl) ⟨g1, c1, c2, q1⟩ (fun hS => ?_)
              refine wpAnyN_take (i := 0) (v := ?v1) rfl (by kernel_rfl) (by kernel_rfl) (by kernel_rfl) (by kernel_rfl) (fun _ _ _ h => h) (by rfl) ?hy1 hS ?rest1
              case hy1 => (intro wy hSy; (try dsimp only at hSy); go_simp; try (with_reducible rfl))
              simp only [Act.put, List.getElem_toArray, List.getElem_cons_zero, List.setIfInBounds_toArray, List.set_cons_zero, List.set_cons_succ]
              refine wpAnyN_take (i := 1) (v := ?v2) rfl (by kernel_rfl) (by kernel_rfl) (by kernel_rfl) (by kernel_rfl) (fun _ _ _ h => h) (by rfl) ?hy2 hS ?rest2
              case hy2 => (intro wy hSy; (try dsimp only at hSy); go_simp; try (with_reducible rfl))
              simp only [Act.put, List.getElem_toArray, List.getElem_cons_zero, List.getElem_cons_succ, List.setIfInBounds_toArray, List.set_cons_zero, List.set_cons_succ]
              refine wpAnyN_take (i := 2) (v := ?v3) rfl (by kernel_rfl) (by kernel_rfl) (by kernel_rfl) (by kernel_rfl) (fun _ _ _ h => h) (by rfl) ?hy3 hS ?rest3
              case hy3 => (intro wy hSy; (try dsimp only at hSy); go_simp; try (with_reducible rfl))
              simp only [Act.put, List.getElem_toArray, List.getElem_cons_zero, List.getElem_cons_succ, List.setIfInBounds_toArray, List.set_cons_zero, List.set_cons_succ]
              refine wpAnyN_take (i := 3) (v := ?v4) rfl (by kernel_rfl) (by kernel_rfl) (by kernel_rfl) (by kernel_rfl) (fun _ _ _ h => h) (by rfl) ?hy4 hS ?rest4
              case hy4 => (intro wy hSy; (try dsimp only at hSy); go_simp; try (with_reducible rfl))
              simp only [Act.put, List.getElem_toArray, List.getElem_cons_zero, List.getElem_cons_succ, List.setIfInBounds_toArray, List.set_cons_zero, List.set_cons_succ]
              refine wpAnyN_take (i := 4) (v := ?v5) rfl (by kernel_rfl) (by kernel_rfl) (by kernel_rfl) (by kernel_rfl) (fun _ _ _ h => h) (by rfl) ?hy5 hS ?rest5
              case hy5 => (intro wy hSy; (try dsimp only at hSy); go_simp; try (with_reducible rfl))
              simp only [Act.put, List.getElem_toArray, List.getElem_cons_zero, List.getElem_cons_succ, List.setIfInBounds_toArray, List.set_cons_zero, List.set_cons_succ]
              refine wpAnyN_take (i := 5) (v := ?v6) rfl (by kernel_rfl) (by kernel_rfl) (by kernel_rfl) (by kernel_rfl) (fun _ _ _ h => h) (by rfl) ?hy6 hS ?rest6
              case hy6 => (intro wy hSy; (try dsimp only at hSy); go_simp; try (with_reducible rfl))
              simp only [Act.put, List.getElem_toArray, List.getElem_cons_zero, List.getElem_cons_succ, List.setIfInBounds_toArray, List.set_cons_zero, List.set_cons_succ]
              refine wpAnyN_take (i := 6) (v := ?v7) rfl (by kernel_rfl) (by kernel_rfl) (by kernel_rfl) (by kernel_rfl) (fun _ _ _ h => h) (by rfl) ?hy7 hS ?rest7
              case hy7 => (intro wy hSy; (try dsimp only at hSy); go_simp; try (with_reducible rfl))
              simp only [Act.put, List.getElem_toArray, List.getElem_cons_zero, List.getElem_cons_succ, List.setIfInBounds_toArray, List.set_cons_zero, List.set_cons_succ]
              refine wpAnyN_take (i := 7) (v := ?v8) rfl (by kernel_rfl) (by kernel_rfl) (by kernel_rfl) (by kernel_rfl) (fun _ _ _ h => h) (by rfl) ?hy8 hS ?rest8
              case hy8 => (intro wy hSy; (try dsimp only at hSy); go_simp; try (with_reducible rfl))
              simp only [Act.put, List.getElem_toArray, List.getElem_cons_zero, List.getElem_cons_succ, List.setIfInBounds_toArray, List.set_cons_zero, List.set_cons_succ]
              refine wpAnyN_take (i := 8) (v := ?v9) rfl (by kernel_rfl) (by kernel_rfl) (by kernel_rfl) (by kernel_rfl) (fun _ _ _ h => h) (by rfl) ?hy9 hS ?rest9
              case hy9 => (intro wy hSy; (try dsimp only at hSy); go_simp; try (with_reducible rfl))
              simp only [Act.put, List.getElem_toArray, List.getElem_cons_zero, List.getElem_cons_succ, List.setIfInBounds_toArray, List.set_cons_zero, List.set_cons_succ]
              refine wpAnyN_take (i := 10) (v := ?v10) rfl (by kernel_rfl) (by kernel_rfl) (by kernel_rfl) (by kernel_rfl) (fun _ _ _ h => h) (by rfl) ?hy10 hS ?rest10
              case hy10 => (intro wy hSy; (try dsimp only at hSy); go_simp; try (with_reducible rfl))
              simp only [Act.put, List.getElem_toArray, List.getElem_cons_zero, List.getElem_cons_succ, List.setIfInBounds_toArray, List.set_cons_zero, List.set_cons_succ]
              refine wpAnyN_take (i := 11) (v := ?v11) rfl (by kernel_rfl) (by kernel_rfl) (by kernel_rfl) (by kernel_rfl) (fun _ _ _ h => h) (by rfl) ?hy11 hS ?rest11
              case hy11 => (intro wy hSy; (try dsimp only at hSy); go_simp; try (with_reducible rfl))
              simp only [Act.put, List.getElem_toArray, List.getElem_cons_zero, List.getElem_cons_succ, List.setIfInBounds_toArray, List.set_cons_zero, List.set_cons_succ]
              refine wpAnyN_take (i := 12) (v := ?v12) rfl (by kernel_rfl) (by kernel_rfl) (by kernel_rfl) (by kernel_rfl) (fun _ _ _ h => h) (by rfl) ?hy12 hS ?rest12
              case hy12 => (intro wy hSy; (try dsimp only at hSy); go_simp; try (with_reducible rfl))
              simp only [Act.put, List.getElem_toArray, List.getElem_cons_zero, List.getElem_cons_succ, List.setIfInBounds_toArray, List.set_cons_zero, List.set_cons_succ]
              refine wpAnyN_take (i := 13) (v := ?v13) rfl (by kernel_rfl) (by kernel_rfl) (by kernel_rfl) (by kernel_rfl) (fun _ _ _ h => h) (by rfl) ?hy13 hS ?rest13
              case hy13 => (intro wy hSy; (try dsimp only at hSy); go_simp; try (with_reducible rfl))
              simp only [Act.put, List.getElem_toArray, List.getElem_cons_zero, List.getElem_cons_succ, List.setIfInBounds_toArray, List.set_cons_zero, List.set_cons_succ]
              refine wpAnyN_take (i := 14) (v := ?v14) rfl (by kernel_rfl) (by kernel_rfl) (by kernel_rfl) (by kernel_rfl) (fun _ _ _ h => h) (by rfl) ?hy14 hS ?rest14
              case hy14 => (intro wy hSy; (try dsimp only at hSy); go_simp; try (with_reducible rfl))
              simp only [Act.put, List.getElem_toArray, List.getElem_cons_zero, List.getElem_cons_succ, List.setIfInBounds_toArray, List.set_cons_zero, List.set_cons_succ]
              refine wpAnyN_take (i := 15) (v := ?v15) rfl (by kernel_rfl) (by kernel_rfl) (by kernel_rfl) (by kernel_rfl) (fun _ _ _ h => h) (by rfl) ?hy15 hS ?rest15
              case hy15 => (intro wy hSy; (try dsimp only at hSy); go_simp; try (with_reducible rfl))
              simp only [Act.put, List.getElem_toArray, List.getElem_cons_zero, List.getElem_cons_succ, List.setIfInBounds_toArray, List.set_cons_zero, List.set_cons_succ]
              refine wpAnyN_one (i := 9) (by kernel_rfl) rfl (fun K hK => ?_)
              simp only [List.getElem_toArray, List.getElem_cons_zero, List.getElem_cons_succ]
              go_simp
              refine (fix_any fa fc fs (w2.heap.size + 1) (some ⟨w2.heap.size, 0, none⟩) i (placeL rr i) wr.drew (hfsq.keeps (fun _ _ h => h)) hfl hbx (hIq.keeps (fun _ _ h => h)) hpl60 hinf).mono ?_
              rintro e w5 ⟨na, nc, rfl, hv1, hb1⟩
              have hk1 : Keeps wr w5 := fun a v e => Keeps.below hb1 a v e
              have hb5 : Below wr.heap.size wr w5 := ((Below.refl wr.heap.size wr).drew).trans hb1
              have hS1 := (⟨hk1 _ _ g1, hk1 _ _ c1, hk1 _ _ c2, hk1 _ _ q1⟩ : w5.cell? ⟨w.heap.size, 1, none⟩ = some (.slice (some ⟨bk, o, none⟩) i cap) ∧ w5.cell? ⟨bk, o + j * 2, none⟩ = some (.slice fa fs.length fc) ∧ w5.cell? ⟨bk, o + j * 2 + 1, none⟩ = some (.bool dead) ∧ w5.cell? ⟨w3.heap.size, 1, none⟩ = some (.slice va rows.length vc))
              refine hK.out _ _ (fun _ => hS1) ?_
              replace hS := hS1
              clear hK hS1 hk1
              refine wpAnyN_take (i := 16) (v := ?v16) rfl (by kernel_rfl) (by kernel_rfl) (by kernel_rfl) (by kernel_rfl) (fun _ _ _ h => h) (by rfl) ?hy16 hS ?rest16
              case hy16 => (intro wy hSy; (try dsimp only at hSy); go_simp; try (with_reducible rfl))
              simp only [Act.put, List.getElem_toArray, List.getElem_cons_zero, List.getElem_cons_succ, List.setIfInBounds_toArray, List.set_cons_zero, List.set_cons_succ]
              refine wpAnyN_one (i := 17) (by kernel_rfl) rfl (fun K2 hK2 => ?_)
              simp only [List.getElem_toArray, List.getElem_cons_zero, List.getElem_cons_succ]
              go_simp
              refine hK2.out _ _ (fun _ => ⟨Keeps.alloc _ _ _ _ hS.1, Keeps.alloc _ _ _ _ hS.2.1, Keeps.alloc _ _ _ _ hS.2.2.1, Keeps.alloc _ _ _ _ hS.2.2.2⟩) ?_
              clear hK2
              have hlen : fs.length = (fs.map (fixV (placeL rr i))).length := by simp
              have hv2 : ValsOwn w5 (w3.heap.size + 1) (.slice na fs.length nc) (fs.map (fixV (placeL rr i))) := ownsRow_le hv1 (by show w3.heap.size + 1 ≤ wr.heap.size; omega)
              have hO5 := hO.below hb5
              have hap := apart_new hO hv1 (Nat.le_refl _)
              refine wpAnyN_one (i := 18) (by kernel_rfl) rfl (fun K3 hK3 => ?_)
              refine step_pushOb (by rfl) _ _ (by rfl) (by rfl) hO5 (by have := hb5.size; omega) (.slice na fs.length nc) ⟨fs.map (fixV (placeL rr i)), dead⟩ rfl hv2 (by rw [← hlen]; exact hfl) hap (by omega) (by rfl) ?_
              intro gg gc w6 hO6 hb6 hgx
              clear hgx hap hv2 hO5 hv1 hlen
              have k6 : ∀ a v, a.block < w3.heap.size + 1 → w5.cell? a = some v → w6.cell? a = some v := fun a v ha hv => (hb6.cell ha).trans hv
              have hS2 := (⟨k6 _ _ (by show w.heap.size < _; omega) hS.1, k6 _ _ (by show bk < _; omega) hS.2.1, k6 _ _ (by show bk < _; omega) hS.2.2.1, k6 _ _ (by show w3.heap.size < _; omega) hS.2.2.2⟩ : w6.cell? ⟨w.heap.size, 1, none⟩ = some (.slice (some ⟨bk, o, none⟩) i cap) ∧ w6.cell? ⟨bk, o + j * 2, none⟩ = some (.slice fa fs.length fc) ∧ w6.cell? ⟨bk, o + j * 2 + 1, none⟩ = some (.bool dead) ∧ w6.cell? ⟨w3.heap.size, 1, none⟩ = some (.slice va rows.length vc))
              refine hK3.out _ _ (fun _ => hS2) ?_
              replace hS := hS2
              clear hK3 hS2 k6
              simp only [Act.put, List.getElem_toArray, List.getElem_cons_zero, List.getElem_cons_succ, List.setIfInBounds_toArray, List.set_cons_zero, List.set_cons_succ]
              refine wpAnyN_take (i := 19) (v := ?v17) rfl (by kernel_rfl) (by kernel_rfl) (by kernel_rfl) (by kernel_rfl) (fun _ _ _ h => h) (by rfl) ?hy17 hS ?rest17
              case hy17 => (intro wy hSy; (try dsimp only at hSy); go_simp; try (with_reducible rfl))
              simp only [Act.put, List.getElem_toArray, List.getElem_cons_zero, List.getElem_cons_succ, List.setIfInBounds_toArray, List.set_cons_zero, List.set_cons_succ]
              have hst := hS.2.2.2
              have hfz : ∀ t, w6.frozen? ⟨w3.heap.size, t, none⟩ = false := fun t => (hb6.frozen (p := ⟨w3.heap.size, t, none⟩) (by show w3.heap.size < _; omega)).trans ((hb5.frozen (p := ⟨w3.heap.size, t, none⟩) (by show w3.heap.size < wr.heap.size; omega)).trans (q2 t))
              have hnext := hmid.next (w2 := w6) (ob := ⟨fs.map (fixV (placeL rr i)), dead⟩) hres hrows hb5 hO6 hb6
              rw [← HK2.out] at hnext
              have HNX : Aside (OutMid w3 (w6.setCell ⟨w3.heap.size, 1, none⟩ (.slice (some ⟨gg, 0, none⟩) (rows.length + 1) gc)) w3.heap.size M ((keptOf rr (j + 1)).map (fun p => fixO (placeL rr i) (obAt l p)))) := hnext
              clear hnext hO6 hb6 hb5 hO hres hmid
              refine wpAnyN_one (i := 20) (by kernel_rfl) rfl (fun K4 hK4 => ?_)
              simp only [List.getElem_toArray, List.getElem_cons_zero, List.getElem_cons_succ]
              go_simp
              refine hK4.out _ _ (fun h => absurd h (by decide)) ?_
              clear hK4
              refine wpAnyN_done (by kernel_rfl) ?_ _
              refine NoPanic.normal ?_
              clear hfz hst hS q1 q2 c1 c2 hfsq hIq hbx g1 hinf
              go_wp2
              go_roundg (i - (j + 1))
              case measure => go_light; omega
              case rel => go_light; exact ⟨j + 1, by omega, rfl, by go_num, HNX.out⟩
            · rw [if_neg hin] at g4
              have HK : Aside ((keptOf rr (j + 1)).map (fun p => fixO (placeL rr i) (obAt l p)) = (keptOf rr j).map (fun p => fixO (placeL rr i) (obAt l p))) := by
                show (keptOf rr (j + 1)).map _ = _
                rw [keptObs_succ, if_neg hin]
              clear hin
              go_wp2
              go_roundg (i - (j + 1))
              case measure => go_light; omega
              case rel => go_light; exact ⟨j + 1, by omega, rfl, by go_num, by rw [HK.out]; exact hmid⟩
          · obtain rfl : j = i := by omega
            obtain ⟨va, vc, rows, hO, hrows, hres⟩ := hmid.own
            have hbig := hmid.big
            have q0 := cell_blk hres 0
            have q1 := cell_blk hres 1
            simp at q0 q1
            have k5 : Keeps w wr := k4.trans (Keeps.below hb)
            have b5 : Below w.heap.size w wr := b4.trans (hb.mono (by omega))
            have m5 := (hb.block (w.heap.size + 1) (by omega)).trans m4
            have hIq : IntsAt wr (some ⟨w2.heap.size, 0, none⟩) (placeL rr j) := fun t z hz => ⟨_, _, rfl, by rw [Nat.zero_add]; exact (hb.cell (p := ⟨w2.heap.size, t, none⟩) (by show w2.heap.size < _; omega)).trans (IntsOwn.cell1 HPL.out.own hz)⟩
            have g2 := (hb.block (w2.heap.size + 1) (by omega)).trans HPL.out.box
            have hpl60 : (placeL rr j).length ≤ 60 := by rw [placeL_length]; exact hl60
            have hbx : wr.heap[w2.heap.size + 1]? = some (.cells #[.slice (some ⟨w2.heap.size, 0, none⟩) (placeL rr j).length j] 52 (0, 0)) := by rw [placeL_length]; exact g2
            have hinf : ∀ v ∈ roots, v.k = 2 → 0 ≤ v.n ∧ v.n < ((placeL rr j).length : Int) := fun v hv hk => by
              rw [placeL_length]
              exact (mem_keptOf.1 (HLD1.out v hv hk)).1
            clear g2 hmid
            go_wp2
            refine wp_region_need (fun _ => true) (fun w' => w'.cell? ⟨w3.heap.size, 0, none⟩ = some (.int .i64 M) ∧ w'.cell? ⟨w3.heap.size, 1, none⟩ = some (.slice va rows.length vc)) (by kernel_rfl) ⟨q0, q1⟩ (fun hS => ?_)
            refine wpAnyN_take (i := 0) (v := ?v18) rfl (by kernel_rfl) (by kernel_rfl) (by kernel_rfl) (by kernel_rfl) (fun _ _ _ h => h) (by rfl) ?hy18 hS ?rest18
            case hy18 => (intro wy hSy; (try dsimp only at hSy); go_simp; try (with_reducible rfl))
            simp only [Act.put, List.getElem_toArray, List.getElem_cons_zero, List.setIfInBounds_toArray, List.set_cons_zero, List.set_cons_succ]
            refine wpAnyN_take (i := 1) (v := ?v19) rfl (by kernel_rfl) (by kernel_rfl) (by kernel_rfl) (by kernel_rfl) (fun _ _ _ h => h) (by rfl) ?hy19 hS ?rest19
            case hy19 => (intro wy hSy; (try dsimp only at hSy); go_simp; try (with_reducible rfl))
            simp only [Act.put, List.getElem_toArray, List.getElem_cons_zero, List.getElem_cons_succ, List.setIfInBounds_toArray, List.set_cons_zero, List.set_cons_succ]
            refine wpAnyN_take (i := 2) (v := ?v20) rfl (by kernel_rfl) (by kernel_rfl) (by kernel_rfl) (by kernel_rfl) (fun _ _ _ h => h) (by rfl) ?hy20 hS ?rest20
            case hy20 => (intro wy hSy; (try dsimp only at hSy); go_simp; try (with_reducible rfl))
            simp only [Act.put, List.getElem_toArray, List.getElem_cons_zero, List.getElem_cons_succ, List.setIfInBounds_toArray, List.set_cons_zero, List.set_cons_succ]
            refine wpAnyN_one (i := 3) (by kernel_rfl) rfl (fun K hK => ?_)
            simp only [List.getElem_toArray, List.getElem_cons_zero, List.getElem_cons_succ]
            go_simp
            refine (fix_any ra rc roots (w2.heap.size + 1) (some ⟨w2.heap.size, 0, none⟩) j (placeL rr j) wr.drew ((hr.keeps k5).keeps (fun _ _ h => h)) hrl hbx (hIq.keeps (fun _ _ h => h)) hpl60 hinf).mono ?_
            rintro e w5 ⟨na, nc, rfl, hv1, hb1⟩
            have hk1 : Keeps wr w5 := fun a v e => Keeps.below hb1 a v e
            have hb5 : Below wr.heap.size wr w5 := ((Below.refl wr.heap.size wr).drew).trans hb1
            have hS1 := (⟨hk1 _ _ q0, hk1 _ _ q1⟩ : w5.cell? ⟨w3.heap.size, 0, none⟩ = some (.int .i64 M) ∧ w5.cell? ⟨w3.heap.size, 1, none⟩ = some (.slice va rows.length vc))
            refine hK.out _ _ (fun _ => hS1) ?_
            replace hS := hS1
            clear hK hS1 hk1
            have m7 := (hb5.block (w.heap.size + 1) (by omega)).trans m5
            have r1 := cell_blk m7 0
            have r2 := cell_blk m7 1
            have r3 : ∀ j, w5.frozen? ⟨w.heap.size + 1, j, none⟩ = false := fun j => fz_blk m7 j
            simp at r1 r2
            have b7 : Below w.heap.size w w5 := b5.trans (hb5.mono (by have := hb.size; omega))
            have hO7 : HeapOwn w5 (w3.heap.size + 1) (.slice va rows.length vc) rows := hO.below hb5
            have hv7 : ValsOwn w5 (w3.heap.size + 1) (.slice na roots.length nc) (roots.map (fixV (placeL rr j))) := ownsRow_le hv1 (by show w3.heap.size + 1 ≤ wr.heap.size; omega)
            clear hv1 hb1 hb5 m5 b5 k5 hIq hbx hO hres q0 q1
            refine wpAnyN_one (i := 4) (by kernel_rfl) rfl (fun K3 hK3 => ?_)
            simp only [List.getElem_toArray, List.getElem_cons_zero, List.getElem_cons_succ]
            go_simp
            have hS8 : ((w5.setCell ⟨w.heap.size + 1, 0, none⟩ (.int .i64 M)).setCell ⟨w.heap.size + 1, 1, none⟩ (.slice va rows.length vc)).cell? ⟨w3.heap.size, 0, none⟩ = some (.int .i64 M) ∧ ((w5.setCell ⟨w.heap.size + 1, 0, none⟩ (.int .i64 M)).setCell ⟨w.heap.size + 1, 1, none⟩ (.slice va rows.length vc)).cell? ⟨w3.heap.size, 1, none⟩ = some (.slice va rows.length vc) :=
              ⟨(cell_set2 _ _ _ _ _ _ _ _ (by omega)).trans hS.1, (cell_set2 _ _ _ _ _ _ _ _ (by omega)).trans hS.2⟩
            refine hK3.out _ _ (fun _ => hS8) ?_
            replace hS := hS8
            clear hK3 hS8
            refine wpAnyN_take (i := 5) (v := ?v21) rfl (by kernel_rfl) (by kernel_rfl) (by kernel_rfl) (by kernel_rfl) (fun _ _ _ h => h) (by rfl) ?hy21 hS ?rest21
            case hy21 => (intro wy hSy; (try dsimp only at hSy); go_simp; try (with_reducible rfl))
            simp only [Act.put, List.getElem_toArray, List.getElem_cons_zero, List.getElem_cons_succ, List.setIfInBounds_toArray, List.set_cons_zero, List.set_cons_succ]
            refine wpAnyN_take (i := 6) (v := ?v22) rfl (by kernel_rfl) (by kernel_rfl) (by kernel_rfl) (by kernel_rfl) (fun _ _ _ h => h) (by rfl) ?hy22 hS ?rest22
            case hy22 => (intro wy hSy; (try dsimp only at hSy); go_simp; try (with_reducible rfl))
            simp only [Act.put, List.getElem_toArray, List.getElem_cons_zero, List.getElem_cons_succ, List.setIfInBounds_toArray, List.set_cons_zero, List.set_cons_succ]
            refine wpAnyN_done (by kernel_rfl) ?_ _
            refine NoPanic.normal ?_
            have p1 := setCell_blk (setCell_blk m7 0 (.int .i64 M)) 1 (.slice va rows.length vc)
            have p2 := cell_blk p1 0
            have p3 := cell_blk p1 1
            simp at p2 p3
            have hO8 := (hO7.setLow (a := ⟨w.heap.size + 1, 0, none⟩) (by show w.heap.size + 1 < _; omega) (.int .i64 M)).setLow (a := ⟨w.heap.size + 1, 1, none⟩) (by show w.heap.size + 1 < _; omega) (.slice va rows.length vc)
            have hv8 := ownsRow_setCell_below (ownsRow_setCell_below hv7 (a := ⟨w.heap.size + 1, 0, none⟩) (by show w.heap.size + 1 < _; omega) (.int .i64 M)) (a := ⟨w.heap.size + 1, 1, none⟩) (by show w.heap.size + 1 < _; omega) (.slice va rows.length vc)
            have b8 : Below w.heap.size w ((w5.setCell ⟨w.heap.size + 1, 0, none⟩ (.int .i64 M)).setCell ⟨w.heap.size + 1, 1, none⟩ (.slice va rows.length vc)) := (b7.setCell (by show w.heap.size ≤ w.heap.size + 1; omega) _).setCell (by show w.heap.size ≤ w.heap.size + 1; omega) _
            clear r1 r2 r3 hO7 hv7 b7 m7 hS p1
            have hrl2 : rows.length = ((keptOf rr j).map (fun p => fixO (placeL rr j) (obAt l p))).length := by rw [← hrows, List.length_map]
            have HRL2 : Aside (rows.length = ((keptOf rr j).map (fun p => fixO (placeL rr j) (obAt l p))).length) := hrl2
            have HROWS : Aside (rows.map (·.2) = (keptOf rr j).map (fun p => fixO (placeL rr j) (obAt l p))) := hrows
            clear hrl2 hrows
            generalize (w5.setCell ⟨w.heap.size + 1, 0, none⟩ (.int .i64 M)).setCell ⟨w.heap.size + 1, 1, none⟩ (.slice va rows.length vc) = w8 at *
            go_wp2
            refine bodyPost_ret (v := .tuple #[.agg #[.int .i64 M, .slice va rows.length vc], .slice na roots.length nc, .int .i64 0]) (by simp [results, Try.results11, go_sem, p2, p3]) rfl ⟨va, vc, na, nc, by rw [← HRL2.out, List.length_map], b8, ?_, rows, HROWS.out, ?_⟩
            · rw [List.length_map]; exact ownsRow_le hv8 (by omega)
            · rw [← HRL2.out]; exact hO8.le (by omega)

end Go.Proofs.Ytbifdcchdoflpac
