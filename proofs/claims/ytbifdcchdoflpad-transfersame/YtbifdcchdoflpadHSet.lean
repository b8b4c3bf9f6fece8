/- The walk of Set. -/
import Derived.Test.YtbifdcchdoflpadHGot
import Derived.Test.YtbifdcchdoflpadHClone
import Derived.Test.YtbifdcchdoflpadHAlloc
import Derived.Test.YtbifdcchdoflpadHHeld
import Derived.WalkKit
import Derived.WalkSpells
import Derived.WalkLawsBesides
import Derived.Deep.LoopGhost
import Derived.Deep.Light
import Derived.Deep.QuietTactic
import Derived.BigQuiet
import Derived.BigRegion
namespace Go.Proofs.Ytbifdcchdoflpad
open Go.RowKit

/-- The objects, with a field that is set. -/
def setObs (l : List Ob) (p q : Nat) (x : Vl) : List Ob :=
  match l[p]? with
  | none => l
  | some o => l.set p ⟨o.fs.set q x, o.dead⟩

/-- What Set answers: Most, the objects, the error. -/
def setS (M : Int) (l : List Ob) (v : Vl) (f : Int) (x : Vl) : Int × List Ob × Int :=
  if hMay M l [v, x] = false then (0, [], 8) else if fieldErr l v f ≠ 0 then (0, [], fieldErr l v f)
  else (M, setObs l v.n.toNat f.toNat x, 0)

theorem setObs_length (l : List Ob) (p q : Nat) (x : Vl) : (setObs l p q x).length = l.length := by
  unfold setObs
  split <;> simp

theorem vals_two (w : World) (k n k' n' : Int) (t : TypeId) : ValsAt (w.alloc (.cells #[.int .i64 k, .int .i64 n, .int .i64 k', .int .i64 n'] t)) (some ⟨w.heap.size, 0, none⟩) [⟨k, n⟩, ⟨k', n'⟩] := fun i v hi => by
  match i, hi with
  | 0, hi =>
    simp at hi
    subst hi
    exact ⟨_, _, rfl, by simp, by simp⟩
  | 1, hi =>
    simp at hi
    subst hi
    exact ⟨_, _, rfl, by simp, by simp⟩

set_option maxHeartbeats 1600000 in
theorem set_any (M : Int) (ao : Option Addr) (cap : Nat) (l : List Ob) (k n f xk xn : Int) (w : World) (h : ObsAt w ao l) :
    Calls Try.prog 18 #[.agg #[.int .i64 M, .slice ao l.length cap], .agg #[.int .i64 k, .int .i64 n], .int .i64 f, .agg #[.int .i64 xk, .int .i64 xn]] w fun e w' =>
      ∃ va vc, e = .returned (.tuple #[.agg #[.int .i64 (setS M l ⟨k, n⟩ f ⟨xk, xn⟩).1, .slice va (setS M l ⟨k, n⟩ f ⟨xk, xn⟩).2.1.length vc], .int .i64 (setS M l ⟨k, n⟩ f ⟨xk, xn⟩).2.2]) ∧ Below w.heap.size w w' ∧
        ∃ rows, rows.map (·.2) = (setS M l ⟨k, n⟩ f ⟨xk, xn⟩).2.1 ∧ HeapOwn w' w.heap.size (.slice va (setS M l ⟨k, n⟩ f ⟨xk, xn⟩).2.1.length vc) rows := by
  have hm := h.many
  obtain ⟨r, hr⟩ : ∃ r, r = setS M l ⟨k, n⟩ f ⟨xk, xn⟩ := ⟨_, rfl⟩
  have HR : Aside (r = setS M l ⟨k, n⟩ f ⟨xk, xn⟩) := hr
  rw [← hr]
  clear hr
  obtain ⟨L, hL⟩ : ∃ L, L = l.length := ⟨_, rfl⟩
  have HL : Aside (L = l.length) := hL
  rw [← hL] at hm ⊢
  clear hL
  go_enter Try.func18, Try.ntmps18
  go_wp2_with fail
  have HB := boxes5 w (Obj.cells #[.int .i64 M, .slice ao L cap] 25) (Obj.cells #[.int .i64 k, .int .i64 n] 30) (Obj.cells #[.int .i64 xk, .int .i64 xn] 30) (Obj.cells #[.int .i64 0, .slice none 0 0] 25) (Obj.cells #[.int .i64 k, .int .i64 n, .int .i64 xk, .int .i64 xn] 30)
  have hv1 := vals_two ((((w.alloc (Obj.cells #[.int .i64 M, .slice ao L cap] 25)).alloc (Obj.cells #[.int .i64 k, .int .i64 n] 30)).alloc (Obj.cells #[.int .i64 xk, .int .i64 xn] 30)).alloc (Obj.cells #[.int .i64 0, .slice none 0 0] 25)) k n xk xn 30
  simp only [Deep.nblk_alloc] at hv1
  generalize ((((w.alloc (Obj.cells #[.int .i64 M, .slice ao L cap] 25)).alloc (Obj.cells #[.int .i64 k, .int .i64 n] 30)).alloc (Obj.cells #[.int .i64 xk, .int .i64 xn] 30)).alloc (Obj.cells #[.int .i64 0, .slice none 0 0] 25)).alloc (Obj.cells #[.int .i64 k, .int .i64 n, .int .i64 xk, .int .i64 xn] 30) = W at *
  obtain ⟨N0, N1, N2, N3, N4, k1, b1, hs⟩ := HB
  clear N4
  have hck := check_any M ao cap l _ 2 [⟨k, n⟩, ⟨xk, xn⟩] W (h.keeps k1) hv1 (by simp)
  rw [← HL.out] at hck
  refine hck.mono ?_
  clear hck
  rintro e w1 ⟨rfl, hb⟩
  replace N0 := (hb.block _ (by omega)).trans N0
  replace N1 := (hb.block _ (by omega)).trans N1
  replace N2 := (hb.block _ (by omega)).trans N2
  replace N3 := (hb.block _ (by omega)).trans N3
  replace b1 := b1.trans (hb.mono (by omega))
  replace k1 := k1.trans (Keeps.below hb)
  replace hs : w.heap.size + 1 + 1 + 1 + 1 ≤ w1.heap.size := by have := hb.size; omega
  clear hb hv1
  clear W
  have c2 : w1.cell? ⟨w.heap.size + 1 + 1 + 1, 0, none⟩ = some (.int .i64 0) := by simp [World.cell?, N3]
  have c3 : w1.cell? ⟨w.heap.size + 1 + 1 + 1, 1, none⟩ = some (.slice none 0 0) := by simp [World.cell?, N3]
  have f2 : ∀ j, w1.frozen? ⟨w.heap.size + 1 + 1 + 1, j, none⟩ = false := fun j => by simp [World.frozen?, N3]
  cases hq : hMay M l [⟨k, n⟩, ⟨xk, xn⟩] with
  | false =>
    have HE : Aside (r = (0, [], 8)) := by show r = _; rw [HR.out, setS, if_pos hq]
    clear HR
    simp only [erS_false]
    go_wp2
    obtain ⟨m1, m2⟩ := two_cells N3 (.int .i64 0) (.slice none 0 0)
    refine bodyPost_ret (v := .tuple #[.agg #[.int .i64 0, .slice none 0 0], .int .i64 8]) (by simp [results, Try.results18, go_sem, m1, m2]) rfl ⟨none, 0, by rw [HE.out]; rfl, ?_, [], by rw [HE.out]; rfl, by rw [HE.out]; exact heapOwn_nil _ _⟩
    exact (b1.setCell (by show w.heap.size ≤ w.heap.size + 1 + 1 + 1; omega) _).setCell (by show w.heap.size ≤ w.heap.size + 1 + 1 + 1; omega) _
  | true =>
    simp only [erS_true]
    have hvm := hMay_vMay hq (v := ⟨k, n⟩) (by simp)
    have p0 : w1.cell? ⟨w.heap.size, 0, none⟩ = some (.int .i64 M) := by simp [World.cell?, N0]
    have p1 : w1.cell? ⟨w.heap.size, 1, none⟩ = some (.slice ao L cap) := by simp [World.cell?, N0]
    have p2 : w1.cell? ⟨w.heap.size + 1, 0, none⟩ = some (.int .i64 k) := by simp [World.cell?, N1]
    have p3 : w1.cell? ⟨w.heap.size + 1, 1, none⟩ = some (.int .i64 n) := by simp [World.cell?, N1]
    go_wp2_with fail
    have hcf := checkField_any M ao cap l k n f w1 (h.keeps k1) hvm
    rw [← HL.out] at hcf
    refine hcf.mono ?_
    clear hcf
    rintro e w2 ⟨rfl, hb2⟩
    replace N0 := (hb2.block _ (by omega)).trans N0
    replace N1 := (hb2.block _ (by omega)).trans N1
    replace N2 := (hb2.block _ (by omega)).trans N2
    replace N3 := (hb2.block _ (by omega)).trans N3
    replace b1 := b1.trans (hb2.mono (by omega))
    replace k1 := k1.trans (Keeps.below hb2)
    replace hs : w.heap.size + 1 + 1 + 1 + 1 ≤ w2.heap.size := by have := hb2.size; omega
    clear hb2 p0 p1 p2 p3 c2 c3 f2
    have p0 : w2.cell? ⟨w.heap.size, 0, none⟩ = some (.int .i64 M) := by simp [World.cell?, N0]
    have p1 : w2.cell? ⟨w.heap.size, 1, none⟩ = some (.slice ao L cap) := by simp [World.cell?, N0]
    have c2 : w2.cell? ⟨w.heap.size + 1 + 1 + 1, 0, none⟩ = some (.int .i64 0) := by simp [World.cell?, N3]
    have c3 : w2.cell? ⟨w.heap.size + 1 + 1 + 1, 1, none⟩ = some (.slice none 0 0) := by simp [World.cell?, N3]
    have f2 : ∀ j, w2.frozen? ⟨w.heap.size + 1 + 1 + 1, j, none⟩ = false := fun j => by simp [World.frozen?, N3]
    by_cases he : fieldErr l ⟨k, n⟩ f = 0
    · obtain ⟨hk2, p, q, ob, x, hp, hqf, hob, hx, hdead⟩ := field_there hvm he
      simp only at hk2 hp
      have HE : Aside (r = (M, l.set p ⟨ob.fs.set q ⟨xk, xn⟩, ob.dead⟩, 0)) := by show r = _; rw [HR.out, setS, if_neg (by simp [hq]), if_neg (by simp [he])]; simp [setObs, hp, hqf, hob]
      rw [he]
      clear he hq HR hvm
      subst hk2 hp hqf
      go_wp2_with fail
      have hcl := clone_any M ao cap l w2 (h.keeps k1)
      rw [← HL.out] at hcl
      refine hcl.mono ?_
      clear hcl
      rintro e w3 ⟨g, rows, rfl, hrows, hO, hb3⟩
      replace N0 := (hb3.block _ (by omega)).trans N0
      replace N1 := (hb3.block _ (by omega)).trans N1
      replace N2 := (hb3.block _ (by omega)).trans N2
      replace N3 := (hb3.block _ (by omega)).trans N3
      replace b1 := b1.trans (hb3.mono (by omega))
      replace hO := hO.le hs
      replace hs : w.heap.size + 1 + 1 + 1 + 1 ≤ w3.heap.size := by have := hb3.size; omega
      clear hb3 p0 p1 c2 c3 f2
      have p0 : w3.cell? ⟨w.heap.size, 0, none⟩ = some (.int .i64 M) := by simp [World.cell?, N0]
      have p1 : w3.cell? ⟨w.heap.size, 1, none⟩ = some (.slice ao L cap) := by simp [World.cell?, N0]
      have f0 : ∀ j, w3.frozen? ⟨w.heap.size, j, none⟩ = false := fun j => by simp [World.frozen?, N0]
      have HROWS : Aside (rows.map (·.2) = l) := hrows
      have hlen : Aside (rows.length = L) := by show rows.length = L; rw [HL.out, ← hrows, List.length_map]
      have hpL : p < L := by rw [HL.out]; exact (List.getElem?_eq_some_iff.1 hob).1
      obtain ⟨⟨rv, ob'⟩, hpr⟩ := at_some (l := rows) (i := p) (by rw [hlen.out]; exact hpL)
      have hoo : ob' = ob := by
        have e1 : (rows.map (·.2))[p]? = some ob' := by simp [hpr]
        rw [hrows, hob] at e1
        exact (Option.some.inj e1).symm
      subst hoo
      have hqlt : q < ob'.fs.length := (List.getElem?_eq_some_iff.1 hx).1
      obtain ⟨g', gc, hrv⟩ : ∃ g' gc, rv = .slice (some ⟨g', 0, none⟩) ob'.fs.length gc := by
        rcases ownsRow_form (hO.row p _ hpr).1 with ⟨_, hn⟩ | ⟨g', gc, hg', _⟩
        · simp only at hn; omega
        · exact ⟨g', gc, hg'⟩
      subst hrv
      clear hrows
      go_wp2
      have HO3 := (hO.setLow (a := ⟨w.heap.size, 0, none⟩) (by show w.heap.size < _; omega) (.int .i64 M)).setLow (a := ⟨w.heap.size, 1, none⟩) (by show w.heap.size < _; omega) (.slice (some ⟨g, 0, none⟩) L L)
      have M0 : ((w3.setCell ⟨w.heap.size, 0, none⟩ (.int .i64 M)).setCell ⟨w.heap.size, 1, none⟩ (.slice (some ⟨g, 0, none⟩) L L)).heap[w.heap.size]? = some (.cells #[.int .i64 M, .slice (some ⟨g, 0, none⟩) L L] 25 (0, 0)) := by
        rw [setCell_blk (setCell_blk N0 0 (.int .i64 M)) 1 (.slice (some ⟨g, 0, none⟩) L L)]; simp
      have MM : ∀ j x, j ≠ w.heap.size → w3.heap[j]? = some x → ((w3.setCell ⟨w.heap.size, 0, none⟩ (.int .i64 M)).setCell ⟨w.heap.size, 1, none⟩ (.slice (some ⟨g, 0, none⟩) L L)).heap[j]? = some x := fun j x hj hx => by
        rw [Deep.blk_setCell_other _ _ _ _ hj, Deep.blk_setCell_other _ _ _ _ hj, hx]
      have M1 := MM _ _ (by omega) N1
      have M2 := MM _ _ (by omega) N2
      have M3 := MM _ _ (by omega) N3
      have b3 : Below w.heap.size w ((w3.setCell ⟨w.heap.size, 0, none⟩ (.int .i64 M)).setCell ⟨w.heap.size, 1, none⟩ (.slice (some ⟨g, 0, none⟩) L L)) := (b1.setCell (Nat.le_refl _) _).setCell (Nat.le_refl _) _
      clear MM hO b1 N0 N1 N2 N3 p0 p1 f0
      generalize (w3.setCell ⟨w.heap.size, 0, none⟩ (.int .i64 M)).setCell ⟨w.heap.size, 1, none⟩ (.slice (some ⟨g, 0, none⟩) L L) = w4 at *
      have p1 : w4.cell? ⟨w.heap.size, 1, none⟩ = some (.slice (some ⟨g, 0, none⟩) L L) := by simp [World.cell?, M0]
      have p2 : w4.cell? ⟨w.heap.size + 1, 1, none⟩ = some (.int .i64 p) := by simp [World.cell?, M1]
      have p3 : w4.cell? ⟨w.heap.size + 1 + 1, 0, none⟩ = some (.int .i64 xk) := by simp [World.cell?, M2]
      have p4 : w4.cell? ⟨w.heap.size + 1 + 1, 1, none⟩ = some (.int .i64 xn) := by simp [World.cell?, M2]
      have d1 : w4.cell? ⟨g, p * 2, none⟩ = some (.slice (some ⟨g', 0, none⟩) ob'.fs.length gc) := ownsRow_cell HO3.top rfl (by simp [obCells, pairs_fst, hpr, obPair])
      have hrow := (HO3.row p _ hpr).1
      obtain ⟨x0k, x0n⟩ := x
      have d2 : w4.cell? ⟨g', q * 2, none⟩ = some (.int .i64 x0k) := ownsRow_cell hrow rfl (by simp [valCells, pairs_fst, hx, valPair])
      have d3 : w4.cell? ⟨g', q * 2 + 1, none⟩ = some (.int .i64 x0n) := ownsRow_cell hrow rfl (by simp [valCells, pairs_snd, hx, valPair])
      have d4 : ∀ j, w4.frozen? ⟨g', j, none⟩ = false := fun j => ownsRow_frozen hrow rfl j
      have hpz : (p : Int) < (L : Int) := by omega
      have hqz : (q : Int) < (ob'.fs.length : Int) := by omega
      have HX : Aside (ob'.fs[q]? = some ⟨x0k, x0n⟩ ∧ rows[p]? = some (.slice (some ⟨g', 0, none⟩) ob'.fs.length gc, ob')) := ⟨hx, hpr⟩
      clear hx hrow hob hpr
      go_region
      obtain ⟨hx, hpr⟩ := HX.out
      have hg' : w.heap.size + 1 + 1 + 1 + 1 ≤ g' := (World.ownsRow.lt (HO3.row p _ hpr).1 g' rfl).1
      have HO5 : HeapOwn ((w4.setCell ⟨g', q * 2, none⟩ (.int .i64 xk)).setCell ⟨g', q * 2 + 1, none⟩ (.int .i64 xn)).drew (w.heap.size + 1 + 1 + 1 + 1) (.slice (some ⟨g, 0, none⟩) L L) (rows.set p (.slice (some ⟨g', 0, none⟩) ob'.fs.length gc, ⟨ob'.fs.set q ⟨xk, xn⟩, ob'.dead⟩)) :=
        (HO3.setField hpr q ⟨xk, xn⟩).below (Below.refl _ _).drew
      have b5 : Below w.heap.size w ((w4.setCell ⟨g', q * 2, none⟩ (.int .i64 xk)).setCell ⟨g', q * 2 + 1, none⟩ (.int .i64 xn)).drew := ((b3.setCell (by show w.heap.size ≤ g'; omega) _).setCell (by show w.heap.size ≤ g'; omega) _).drew
      have O0 : ((w4.setCell ⟨g', q * 2, none⟩ (.int .i64 xk)).setCell ⟨g', q * 2 + 1, none⟩ (.int .i64 xn)).drew.heap[w.heap.size]? = some (.cells #[.int .i64 M, .slice (some ⟨g, 0, none⟩) L L] 25 (0, 0)) := by
        show ((w4.setCell ⟨g', q * 2, none⟩ (.int .i64 xk)).setCell ⟨g', q * 2 + 1, none⟩ (.int .i64 xn)).heap[w.heap.size]? = _
        rw [Deep.blk_setCell_other _ _ _ _ (by show w.heap.size ≠ g'; omega), Deep.blk_setCell_other _ _ _ _ (by show w.heap.size ≠ g'; omega), M0]
      have O3 : ((w4.setCell ⟨g', q * 2, none⟩ (.int .i64 xk)).setCell ⟨g', q * 2 + 1, none⟩ (.int .i64 xn)).drew.heap[w.heap.size + 1 + 1 + 1]? = some (.cells #[.int .i64 0, .slice none 0 0] 25 (0, 0)) := by
        show ((w4.setCell ⟨g', q * 2, none⟩ (.int .i64 xk)).setCell ⟨g', q * 2 + 1, none⟩ (.int .i64 xn)).heap[w.heap.size + 1 + 1 + 1]? = _
        rw [Deep.blk_setCell_other _ _ _ _ (by show w.heap.size + 1 + 1 + 1 ≠ g'; omega), Deep.blk_setCell_other _ _ _ _ (by show w.heap.size + 1 + 1 + 1 ≠ g'; omega), M3]
      clear p1 p2 p3 p4 d1 d2 d3 d4 M0 M1 M2 M3 HO3 b3
      generalize ((w4.setCell ⟨g', q * 2, none⟩ (.int .i64 xk)).setCell ⟨g', q * 2 + 1, none⟩ (.int .i64 xn)).drew = w5 at *
      have p0 : w5.cell? ⟨w.heap.size, 0, none⟩ = some (.int .i64 M) := by simp [World.cell?, O0]
      have p1 : w5.cell? ⟨w.heap.size, 1, none⟩ = some (.slice (some ⟨g, 0, none⟩) L L) := by simp [World.cell?, O0]
      have c2 : w5.cell? ⟨w.heap.size + 1 + 1 + 1, 0, none⟩ = some (.int .i64 0) := by simp [World.cell?, O3]
      have c3 : w5.cell? ⟨w.heap.size + 1 + 1 + 1, 1, none⟩ = some (.slice none 0 0) := by simp [World.cell?, O3]
      have f2 : ∀ j, w5.frozen? ⟨w.heap.size + 1 + 1 + 1, j, none⟩ = false := fun j => by simp [World.frozen?, O3]
      have hol : Aside (r.2.1.length = L) := by show r.2.1.length = L; rw [HE.out]; simp [HL.out]
      have hmap : Aside ((rows.set p (Value.slice (some ⟨g', 0, none⟩) ob'.fs.length gc, (⟨ob'.fs.set q ⟨xk, xn⟩, ob'.dead⟩ : Ob))).map (·.2) = r.2.1) := by show List.map _ _ = _; rw [HE.out, List.map_set, HROWS.out]
      clear hx hpr
      go_wp2
      obtain ⟨m1, m2⟩ := two_cells O3 (.int .i64 M) (.slice (some ⟨g, 0, none⟩) L L)
      refine bodyPost_ret (v := .tuple #[.agg #[.int .i64 M, .slice (some ⟨g, 0, none⟩) L L], .int .i64 0]) (by simp [results, Try.results18, go_sem, m1, m2]) rfl ⟨some ⟨g, 0, none⟩, L, by rw [hol.out, HE.out], ?_, _, hmap.out, ?_⟩
      · exact (b5.setCell (by show w.heap.size ≤ w.heap.size + 1 + 1 + 1; omega) _).setCell (by show w.heap.size ≤ w.heap.size + 1 + 1 + 1; omega) _
      · rw [hol.out]
        refine HeapOwn.le (base := w.heap.size + 1 + 1 + 1 + 1) ?_ (by omega)
        exact (HO5.setLow (by show w.heap.size + 1 + 1 + 1 < _; omega) _).setLow (by show w.heap.size + 1 + 1 + 1 < _; omega) _
    · have HE : Aside (r = (0, [], fieldErr l ⟨k, n⟩ f)) := by show r = _; rw [HR.out, setS, if_neg (by simp [hq]), if_pos he]
      have hne : (fieldErr l ⟨k, n⟩ f != 0) = true := by simp [he]
      clear HR he hq
      go_wp2
      obtain ⟨m1, m2⟩ := two_cells N3 (.int .i64 0) (.slice none 0 0)
      refine bodyPost_ret (v := .tuple #[.agg #[.int .i64 0, .slice none 0 0], .int .i64 (fieldErr l ⟨k, n⟩ f)]) (by simp [results, Try.results18, go_sem, m1, m2]) rfl ⟨none, 0, by rw [HE.out]; rfl, ?_, [], by rw [HE.out]; rfl, by rw [HE.out]; exact heapOwn_nil _ _⟩
      exact (b1.setCell (by show w.heap.size ≤ w.heap.size + 1 + 1 + 1; omega) _).setCell (by show w.heap.size ≤ w.heap.size + 1 + 1 + 1; omega) _

end Go.Proofs.Ytbifdcchdoflpad
