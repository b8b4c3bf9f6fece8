/- The walk of Clone: the same heap, in memory of its own. -/
import Derived.Test.YtmecmelhmbihoaaCHLaws
import Derived.WalkKit
import Derived.WalkSpells
import Derived.WalkLawsBesides
import Derived.Deep.LoopGhost
import Derived.Deep.Light
import Derived.Deep.QuietTactic
import Derived.BigQuiet
import Derived.BigRegion
import Derived.Deep.DeepCutAuto
namespace Go.Proofs.Ytmecmelhmbihoaa
open Go.RowKit

/-- In the middle of Clone: i objects are done. -/
structure CloneMid (w wr : World) (M : Int) (sv : Value) (L : Nat) (l : List Ob) (i : Nat) : Prop where
  below : Below w.heap.size w wr
  box : wr.heap[w.heap.size]? = some (.cells #[.int .i64 M, sv] 32 (0, 0))
  res : wr.heap[w.heap.size + 1]? = some (.cells #[.int .i64 0, .slice none 0 0] 32 (0, 0))
  own : ∃ rows, HeapOwn wr (w.heap.size + 1 + 1) (.slice (some ⟨w.heap.size + 1 + 1, 0, none⟩) L L) rows ∧ rows.length = L ∧ ∀ j, j < i → (rows[j]?).map (·.2) = l[j]?

theorem cloneMid_start (w : World) (M : Int) (sv : Value) (L : Nat) (l : List Ob) (hL : 32 * L ≤ 140737488351232) :
    CloneMid w (((w.alloc (Obj.cells #[Value.int IntKind.i64 M, sv] 32)).alloc (Obj.cells #[Value.int IntKind.i64 0, Value.slice none 0 0] 32)).alloc (Obj.cells (madeCells #[Value.slice none 0 0, Value.bool false] (L * 2)) 46)) M sv L l 0 := by
  refine ⟨((((Below.refl _ _).alloc (Nat.le_refl _) _).alloc (by simp) _).alloc (by simp; omega) _), ?_, ?_, ⟨List.replicate L (.slice none 0 0, ⟨[], false⟩), ?_, List.length_replicate, fun j hj => absurd hj (Nat.not_lt_zero _)⟩⟩
  · rw [Deep.blk_alloc_lt _ _ _ (by simp; omega), Deep.blk_alloc_lt _ _ _ (by simp)]
    exact Deep.blk_alloc_new w _
  · rw [Deep.blk_alloc_lt _ _ _ (by simp)]
    have := Deep.blk_alloc_new (w.alloc (Obj.cells #[Value.int IntKind.i64 M, sv] 32)) (Obj.cells #[Value.int IntKind.i64 0, Value.slice none 0 0] 32)
    simpa using this
  · have := heap_made ((w.alloc (Obj.cells #[Value.int IntKind.i64 M, sv] 32)).alloc (Obj.cells #[Value.int IntKind.i64 0, Value.slice none 0 0] 32)) (w.heap.size + 1 + 1) L (by simp) hL
    simpa using this

theorem CloneMid.slot {w wr : World} {M : Int} {sv : Value} {L : Nat} {l : List Ob} {i : Nat} (h : CloneMid w wr M sv L l i) (hi : i < L) :
    ∃ (va : Option Addr) (vb vc : Nat) (d : Bool), (∀ o, (wr.alloc o).cell? ⟨w.heap.size + 1 + 1, i * 2, none⟩ = some (.slice va vb vc)) ∧ (∀ o, (wr.alloc o).cell? ⟨w.heap.size + 1 + 1, i * 2 + 1, none⟩ = some (.bool d)) ∧
      (∀ o o', ((wr.alloc o).alloc o').cell? ⟨w.heap.size + 1 + 1, i * 2, none⟩ = some (.slice va vb vc)) ∧ (∀ o o', ((wr.alloc o).alloc o').cell? ⟨w.heap.size + 1 + 1, i * 2 + 1, none⟩ = some (.bool d)) ∧
      (∀ o j, (wr.alloc o).frozen? ⟨w.heap.size + 1 + 1, j, none⟩ = false) ∧ (∀ o o' j, ((wr.alloc o).alloc o').frozen? ⟨w.heap.size + 1 + 1, j, none⟩ = false) := by
  obtain ⟨rows, hO, hl, _⟩ := h.own
  obtain ⟨⟨rv, ob⟩, hp⟩ := at_some (l := rows) (i := i) (by omega)
  obtain ⟨fa, fc, hf⟩ := (hO.row i _ hp).1.form
  simp only at hf
  subst hf
  refine ⟨fa, ob.fs.length, fc, ob.dead, fun o => ?_, fun o => ?_, fun o o' => ?_, fun o o' => ?_, fun o j => ?_, fun o o' j => ?_⟩
  · exact ownsRow_cell (hO.alloc o).top rfl (by simp [obCells, pairs_fst, hp, obPair])
  · exact ownsRow_cell (hO.alloc o).top rfl (by simp [obCells, pairs_snd, hp, obPair])
  · exact ownsRow_cell ((hO.alloc o).alloc o').top rfl (by simp [obCells, pairs_fst, hp, obPair])
  · exact ownsRow_cell ((hO.alloc o).alloc o').top rfl (by simp [obCells, pairs_snd, hp, obPair])
  · exact ownsRow_frozen (hO.alloc o).top rfl j
  · exact ownsRow_frozen ((hO.alloc o).alloc o').top rfl j

/-- The world behind 'objects[i] = api.Object{..}'. -/
def cloneW (w wr : World) (i : Nat) (fa : Option Addr) (F fc : Nat) (dead : Bool) : World :=
  ((((wr.alloc (Obj.cells #[Value.slice fa F fc, Value.bool dead] 46)).alloc (Obj.cells (madeCells #[Value.int IntKind.i64 0, Value.int IntKind.i64 0] (F * 2)) 39)).setCell
    ⟨w.heap.size + 1 + 1, i * 2, none⟩ (Value.slice (some ⟨wr.heap.size + 1, 0, none⟩) F F)).setCell ⟨w.heap.size + 1 + 1, i * 2 + 1, none⟩ (Value.bool dead)).drew

theorem CloneMid.step {w wr : World} {M : Int} {sv : Value} {L : Nat} {l : List Ob} {i : Nat} (h : CloneMid w wr M sv L l i) (hi : i < L) {fs : List Vl} {dead : Bool} (hv : l[i]? = some ⟨fs, dead⟩) {fa : Option Addr} (fc : Nat) (hfs : ValsAt w fa fs)
    (hfl : 16 * fs.length ≤ 140737488351232) :
    (cloneW w wr i fa fs.length fc dead).cell? ⟨w.heap.size + 1 + 1, i * 2, none⟩ = some (.slice (some ⟨wr.heap.size + 1, 0, none⟩) fs.length fs.length) ∧
    (cloneW w wr i fa fs.length fc dead).cell? ⟨wr.heap.size, 0, none⟩ = some (.slice fa fs.length fc) ∧
    (∃ w', (Builtin.copy_ #[33, 33] 3 #[.slice (some ⟨wr.heap.size + 1, 0, none⟩) fs.length fs.length, .slice fa fs.length fc]).run Try.prog (cloneW w wr i fa fs.length fc dead).drew = .ok (goInt fs.length) w' ∧ CloneMid w w' M sv L l (i + 1)) := by
  obtain ⟨rows, hO, hl, hd⟩ := h.own
  have hb := h.below
  have hs : w.heap.size + 1 + 1 ≤ w.heap.size + 1 + 1 ∧ w.heap.size + 1 + 1 < wr.heap.size := hO.top.lt _ rfl
  have hO2 := (hO.alloc (Obj.cells #[Value.slice fa fs.length fc, Value.bool dead] 46)).alloc (Obj.cells (madeCells #[Value.int IntKind.i64 0, Value.int IntKind.i64 0] (fs.length * 2)) 39)
  have hvals := vals_made (wr.alloc (Obj.cells #[Value.slice fa fs.length fc, Value.bool dead] 46)) (w.heap.size + 1 + 1) fs.length (by simp; omega) (by unfold maxLen; omega)
  simp only [Deep.nblk_alloc] at hvals
  have hO3 := hO2.store (i := i) (by omega) (.slice (some ⟨wr.heap.size + 1, 0, none⟩) fs.length fs.length) ⟨zeroVals fs.length, dead⟩ hvals (by simpa [zeroVals] using hfl) (fun j q hq hj => Or.inr (fun e => by
    have h1 := ((hO.row j q hq).1.lt _ e.symm).2
    have h2 : wr.heap.size + 1 < wr.heap.size := h1
    omega))
  have hO4 : HeapOwn (cloneW w wr i fa fs.length fc dead) (w.heap.size + 1 + 1) (.slice (some ⟨w.heap.size + 1 + 1, 0, none⟩) L L) (rows.set i (.slice (some ⟨wr.heap.size + 1, 0, none⟩) fs.length fs.length, ⟨zeroVals fs.length, dead⟩)) := hO3.below (Below.refl _ _).drew
  have hgt : (rows.set i (Value.slice (some ⟨wr.heap.size + 1, 0, none⟩) fs.length fs.length, (⟨zeroVals fs.length, dead⟩ : Ob)))[i]? = some (Value.slice (some ⟨wr.heap.size + 1, 0, none⟩) fs.length fs.length, ⟨zeroVals fs.length, dead⟩) := by
    rw [List.getElem?_set, if_pos rfl, if_pos (by omega)]
  have old : ∀ k, k < wr.heap.size + 1 → k ≠ w.heap.size + 1 + 1 → (cloneW w wr i fa fs.length fc dead).heap[k]? = (wr.alloc (Obj.cells #[Value.slice fa fs.length fc, Value.bool dead] 46)).heap[k]? := fun k hk hne => by
    show ((((wr.alloc (Obj.cells #[Value.slice fa fs.length fc, Value.bool dead] 46)).alloc _).setCell _ _).setCell _ _).heap[k]? = _
    rw [Deep.blk_setCell_other _ _ _ _ hne, Deep.blk_setCell_other _ _ _ _ hne, Deep.blk_alloc_lt _ _ _ (by simp; omega)]
  have hbel : Below w.heap.size w (cloneW w wr i fa fs.length fc dead) :=
    ((((hb.alloc hb.size _).alloc (by simp; omega) _).setCell (by show w.heap.size ≤ w.heap.size + 1 + 1; omega) _).setCell (by show w.heap.size ≤ w.heap.size + 1 + 1; omega) _).drew
  have bwr : Below wr.heap.size wr (wr.alloc (Obj.cells #[Value.slice fa fs.length fc, Value.bool dead] 46)) := below_box _ _
  have hfs' : ValsAt (cloneW w wr i fa fs.length fc dead).drew fa fs := hfs.keeps (Keeps.below hbel.drew)
  refine ⟨?_, ?_, ?_⟩
  · exact ownsRow_cell hO4.top rfl (by simp [obCells, pairs_fst, obPair, hl, hi])
  · have e1 := old wr.heap.size (by omega) (by omega)
    rw [Deep.blk_alloc_new] at e1
    simp [World.cell?, e1]
  · refine ⟨_, run_copy_full 2 _ 33 33 3 39 Try.underlying33 Try.sizeV (wr.heap.size + 1) fs.length fs.length fa fc (madeCells #[Value.int IntKind.i64 0, Value.int IntKind.i64 0] (fs.length * 2)) 39 ?_ (valCells fs) (valCells_length _) (by rw [valCells_length, size_madeCells]) (fun hn => vals_src hfs' hn) (valCells_one _), ?_⟩
    · show ((((wr.alloc (Obj.cells #[Value.slice fa fs.length fc, Value.bool dead] 46)).alloc _).setCell _ _).setCell _ _).heap[wr.heap.size + 1]? = _
      rw [Deep.blk_setCell_other _ _ _ _ (by show wr.heap.size + 1 ≠ w.heap.size + 1 + 1; omega), Deep.blk_setCell_other _ _ _ _ (by show wr.heap.size + 1 ≠ w.heap.size + 1 + 1; omega)]
      have := Deep.blk_alloc_new (wr.alloc (Obj.cells #[Value.slice fa fs.length fc, Value.bool dead] 46)) (Obj.cells (madeCells #[Value.int IntKind.i64 0, Value.int IntKind.i64 0] (fs.length * 2)) 39)
      simpa using this
    · have hO5 := (hO4.below (Below.refl _ _).drew).fill hgt fs (by simp [zeroVals])
      refine ⟨below_setRow hbel.drew (by omega) _, ?_, ?_, ⟨_, hO5, by rw [List.length_set, List.length_set]; exact hl, fun j hj => ?_⟩⟩
      · rw [setRow_other _ _ _ _ (by omega)]
        exact (old _ (by omega) (by omega)).trans ((bwr.block _ (by omega)).trans h.box)
      · rw [setRow_other _ _ _ _ (by omega)]
        exact (old _ (by omega) (by omega)).trans ((bwr.block _ (by omega)).trans h.res)
      · by_cases e : j = i
        · subst e
          rw [List.getElem?_set, if_pos rfl, if_pos (by simp; omega), hv]
          rfl
        · rw [List.getElem?_set, if_neg (Ne.symm e), List.getElem?_set, if_neg (Ne.symm e)]
          exact hd j (by omega)

set_option maxHeartbeats 400000 in
theorem clone_any (M : Int) (ao : Option Addr) (cap : Nat) (l : List Ob) (w : World) (h : ObsAt w ao l) :
    Calls Try.prog 7 #[.agg #[.int .i64 M, .slice ao l.length cap]] w fun e w' => ∃ g rows, e = .returned (.agg #[.int .i64 M, .slice (some ⟨g, 0, none⟩) l.length l.length]) ∧ rows.map (·.2) = l ∧ HeapOwn w' w.heap.size (.slice (some ⟨g, 0, none⟩) l.length l.length) rows ∧ Below w.heap.size w w' := by
  have hm := h.many
  obtain ⟨L, hL⟩ : ∃ L, L = l.length := ⟨_, rfl⟩
  have HL : Aside (L = l.length) := hL
  rw [← hL] at hm ⊢
  clear hL
  have hmk := run_make_rowk (P := Try.prog) 2 30 46 _ 32 Try.underlying30 Try.infoO .i64 .i64 L (by omega) (by omega)
  go_enter Try.func7, Try.ntmps7
  go_wp2
  clear hmk
  have hstart : Aside (CloneMid w (((w.alloc (Obj.cells #[Value.int IntKind.i64 M, Value.slice ao L cap] 32)).alloc (Obj.cells #[Value.int IntKind.i64 0, Value.slice none 0 0] 32)).alloc (Obj.cells (madeCells #[Value.slice none 0 0, Value.bool false] (L * 2)) 46)) M (.slice ao L cap) L l 0) := cloneMid_start w M _ L l hm
  go_loopg [13, 4, 5] L (fun g s13 s4 s5 wr => ∃ i : Nat, i ≤ L ∧ g = L - i ∧ s13 = .int .i64 i ∧ CloneMid w wr M (.slice ao L cap) L l i)
  case atStart => exact ⟨0, Nat.zero_le _, rfl, rfl, hstart.out⟩
  case round =>
    obtain ⟨i, hi, rfl, rfl, hmid⟩ := hrel
    clear hstart
    by_cases hiL : i < L
    · have hiz : (i : Int) < (L : Int) := by omega
      obtain ⟨⟨fs, dead⟩, hv⟩ := at_some (l := l) (i := i) (by rw [← HL.out]; exact hiL)
      obtain ⟨b, o, fa, fc, rfl, c1, c2, hfs, hfl⟩ := h.cell i _ hv
      have hb := hmid.below
      replace c1 := Keeps.below hb _ _ c1
      replace c2 := Keeps.below hb _ _ c2
      simp only at c1 c2 hfs hfl
      have HV : Aside (l[i]? = some ⟨fs, dead⟩) := hv
      clear hv
      obtain ⟨F, hF⟩ : ∃ F, F = fs.length := ⟨_, rfl⟩
      have HF : Aside (F = fs.length) := hF
      rw [← hF] at c1 hfl
      clear hF
      have hmk := run_make_rowk (P := Try.prog) 2 33 39 _ 16 Try.underlying33 Try.infoV .i64 .i64 F (by omega) (by omega)
      obtain ⟨va, vb, vc, vd, s1, s2, s3, s4, s5, s6⟩ := hmid.slot hiL
      have hstep := hmid.step hiL HV.out fc hfs (by rw [← HF.out]; exact hfl)
      rw [← HF.out] at hstep
      have HST : Aside (((cloneW w wr i fa F fc dead).cell? ⟨w.heap.size + 1 + 1, i * 2, none⟩ = some (.slice (some ⟨wr.heap.size + 1, 0, none⟩) F F) ∧
    (cloneW w wr i fa F fc dead).cell? ⟨wr.heap.size, 0, none⟩ = some (.slice fa F fc) ∧
    (∃ w', (Builtin.copy_ #[33, 33] 3 #[.slice (some ⟨wr.heap.size + 1, 0, none⟩) F F, .slice fa F fc]).run Try.prog (cloneW w wr i fa F fc dead).drew = .ok (goInt F) w' ∧ CloneMid w w' M (.slice (some ⟨b, o, none⟩) L cap) L l (i + 1)))) := hstep
      clear hstep
      go_wp2
      go_region
      clear s1 s2 s3 s4 s5 s6 hmk hmid hfs c1 c2
      change Exit.then _ _ _ _ (cloneW w wr i fa F fc dead)
      obtain ⟨t1, t2, w', hrun, hmid2⟩ := HST.out
      clear HST
      generalize cloneW w wr i fa F fc dead = W5 at *
      have HRUN : Aside ((Builtin.copy_ #[33, 33] 3 #[.slice (some ⟨wr.heap.size + 1, 0, none⟩) F F, .slice fa F fc]).run Try.prog W5.drew = .ok (goInt F) w') := hrun
      clear hrun
      go_wp2
      go_region_law (refine step_copy rfl (.tmp 32) (.tmp 34) 33 33 rfl (.slice (some ⟨wr.heap.size + 1, 0, none⟩) F F) (.slice fa F fc) (by simp [Act.eval]) (by simp [Act.eval]) _ _ HRUN.out ?_)
      all_goals
        clear HRUN t1 t2
        go_wp2
        go_roundg (L - (i + 1))
        case measure => go_light; omega
        case rel => go_light; exact ⟨i + 1, by omega, rfl, by go_num, hmid2⟩
    · obtain rfl : i = L := by omega
      have c1 : wr.cell? ⟨w.heap.size, 0, none⟩ = some (.int .i64 M) := by simp [World.cell?, hmid.box]
      have r1 : wr.cell? ⟨w.heap.size + 1, 0, none⟩ = some (.int .i64 0) := by simp [World.cell?, hmid.res]
      have r2 : wr.cell? ⟨w.heap.size + 1, 1, none⟩ = some (.slice none 0 0) := by simp [World.cell?, hmid.res]
      have r3 : ∀ j, wr.frozen? ⟨w.heap.size + 1, j, none⟩ = false := fun j => by simp [World.frozen?, hmid.res]
      go_wp2
      obtain ⟨rows, hO, hl, hd⟩ := hmid.own
      have m1 := setCell_blk (setCell_blk hmid.res 0 (.int .i64 M)) 1 (.slice (some ⟨w.heap.size + 1 + 1, 0, none⟩) i i)
      have m2 : ((wr.setCell ⟨w.heap.size + 1, 0, none⟩ (.int .i64 M)).setCell ⟨w.heap.size + 1, 1, none⟩ (.slice (some ⟨w.heap.size + 1 + 1, 0, none⟩) i i)).cell? ⟨w.heap.size + 1, 0, none⟩ = some (.int .i64 M) := by simp [World.cell?, m1]
      have m3 : ((wr.setCell ⟨w.heap.size + 1, 0, none⟩ (.int .i64 M)).setCell ⟨w.heap.size + 1, 1, none⟩ (.slice (some ⟨w.heap.size + 1 + 1, 0, none⟩) i i)).cell? ⟨w.heap.size + 1, 1, none⟩ = some (.slice (some ⟨w.heap.size + 1 + 1, 0, none⟩) i i) := by simp [World.cell?, m1]
      refine bodyPost_ret (v := .agg #[.int .i64 M, .slice (some ⟨w.heap.size + 1 + 1, 0, none⟩) i i]) (by simp [results, Try.results7, go_sem, m2, m3]) rfl ⟨_, rows, rfl, ?_, ?_, ?_⟩
      · refine List.ext_getElem? fun j => ?_
        rw [List.getElem?_map]
        by_cases hj : j < i
        · exact hd j hj
        · rw [List.getElem?_eq_none (by omega), List.getElem?_eq_none (by rw [← HL.out]; omega)]
          rfl
      · refine (HeapOwn.le ?_ (by omega : w.heap.size ≤ w.heap.size + 1 + 1))
        exact (hO.setLow (by show w.heap.size + 1 < w.heap.size + 1 + 1; omega) _).setLow (by show w.heap.size + 1 < w.heap.size + 1 + 1; omega) _
      · exact (hmid.below.setCell (by show w.heap.size ≤ w.heap.size + 1; omega) _).setCell (by show w.heap.size ≤ w.heap.size + 1; omega) _

end Go.Proofs.Ytmecmelhmbihoaa
