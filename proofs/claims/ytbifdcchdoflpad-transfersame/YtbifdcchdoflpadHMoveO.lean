/- The walk of movedObjects: objects at their new places, in new memory. -/
import Derived.Test.YtbifdcchdoflpadHMove
import Derived.Test.YtbifdcchdoflpadHHeld
import Derived.WalkKit
import Derived.WalkSpells
import Derived.WalkLawsBesides
import Derived.Deep.LoopGhost
import Derived.Deep.Light
import Derived.BigRegion
namespace Go.Proofs.Ytbifdcchdoflpad
open Go.RowKit Go.Maps

/-- In the middle of movedObjects: i objects are done. -/
structure MvMid (w wr : World) (M : Int) (sv : Value) (P : Nat) (out : List Ob) (i : Nat) : Prop where
  below : Below w.heap.size w wr
  box : wr.heap[w.heap.size]? = some (.cells #[.int .i64 M, sv] 25 (0, 0))
  own : ∃ rows, HeapOwn wr (w.heap.size + 1) (.slice (some ⟨w.heap.size + 1, 0, none⟩) P P) rows ∧ rows.length = P ∧ ∀ j, j < i → (rows[j]?).map (·.2) = out[j]?

theorem mvMid_start (w : World) (M : Int) (sv : Value) (P : Nat) (out : List Ob) (hP : 32 * P ≤ 140737488351232) :
    MvMid w ((w.alloc (Obj.cells #[Value.int IntKind.i64 M, sv] 25)).alloc (Obj.cells (madeCells #[Value.slice none 0 0, Value.bool false] (P * 2)) 41)) M sv P out 0 := by
  obtain ⟨n0, _, _, hb, _⟩ := boxes2 w (Obj.cells #[Value.int IntKind.i64 M, sv] 25) (Obj.cells (madeCells #[Value.slice none 0 0, Value.bool false] (P * 2)) 41)
  refine ⟨hb, n0, ⟨List.replicate P (.slice none 0 0, ⟨[], false⟩), ?_, List.length_replicate, fun j hj => absurd hj (Nat.not_lt_zero _)⟩⟩
  have := heap_made (w.alloc (Obj.cells #[Value.int IntKind.i64 M, sv] 25)) (w.heap.size + 1) P (by simp) hP
  simpa using this

theorem MvMid.slot {w wr : World} {M : Int} {sv : Value} {P : Nat} {out : List Ob} {i : Nat} (h : MvMid w wr M sv P out i) (hi : i < P) {w1 : World} (hb : Below wr.heap.size wr w1) :
    ∃ (va : Option Addr) (vb vc : Nat) (d : Bool), w1.cell? ⟨w.heap.size + 1, i * 2, none⟩ = some (.slice va vb vc) ∧ w1.cell? ⟨w.heap.size + 1, i * 2 + 1, none⟩ = some (.bool d) ∧ (∀ j, w1.frozen? ⟨w.heap.size + 1, j, none⟩ = false) := by
  obtain ⟨rows, hO, hl, _⟩ := h.own
  obtain ⟨⟨rv, ob⟩, hp⟩ := at_some (l := rows) (i := i) (by omega)
  obtain ⟨fa, fc, hf⟩ := (hO.row i _ hp).1.form
  simp only at hf
  subst hf
  have hO1 := hO.below hb
  exact ⟨fa, ob.fs.length, fc, ob.dead, ownsRow_cell hO1.top rfl (by simp [obCells, pairs_fst, hp, obPair]), ownsRow_cell hO1.top rfl (by simp [obCells, pairs_snd, hp, obPair]), fun j => ownsRow_frozen hO1.top rfl j⟩

theorem MvMid.step {w wr w1 : World} {M : Int} {sv : Value} {P : Nat} {out : List Ob} {i : Nat} (h : MvMid w wr M sv P out i) (hi : i < P) {B : Nat} (hB : wr.heap.size ≤ B) (hb : Below wr.heap.size wr w1) {ob : Ob} {va : Option Addr} {vc : Nat}
    (hv : ValsOwn w1 B (.slice va ob.fs.length vc) ob.fs) (hl : 16 * ob.fs.length ≤ 140737488351232) (ho : out[i]? = some ob) :
    MvMid w ((w1.setCell ⟨w.heap.size + 1, i * 2, none⟩ (.slice va ob.fs.length vc)).setCell ⟨w.heap.size + 1, i * 2 + 1, none⟩ (.bool ob.dead)) M sv P out (i + 1) := by
  obtain ⟨rows, hO, hlen, hd⟩ := h.own
  have hs : w.heap.size + 1 < wr.heap.size := (hO.top.lt _ rfl).2
  have hO1 := hO.below hb
  have hO2 := hO1.store (i := i) (by omega) (.slice va ob.fs.length vc) ob (ownsRow_le hv (by omega)) hl (fun j q hq _ => apart_new hO hv hB j q hq)
  have hbw : Below w.heap.size w w1 := h.below.trans (hb.mono h.below.size)
  refine ⟨(hbw.setCell (by show w.heap.size ≤ w.heap.size + 1; omega) _).setCell (by show w.heap.size ≤ w.heap.size + 1; omega) _, ?_, ⟨_, hO2, by rw [List.length_set]; exact hlen, fun j hj => ?_⟩⟩
  · rw [Deep.blk_setCell_other _ _ _ _ (by show w.heap.size ≠ w.heap.size + 1; omega), Deep.blk_setCell_other _ _ _ _ (by show w.heap.size ≠ w.heap.size + 1; omega)]
    exact (hb.block _ (by omega)).trans h.box
  · by_cases e : j = i
    · subst e
      rw [List.getElem?_set, if_pos rfl, if_pos (by omega), ho]
      rfl
    · rw [List.getElem?_set, if_neg (Ne.symm e)]
      exact hd j (by omega)

set_option maxHeartbeats 1000000 in
set_option maxRecDepth 100000 in
theorem movedObjects_any (M : Int) (ao : Option Addr) (cap : Nat) (l : List Ob) (oa : Option Addr) (oc : Nat) (ps : List Int) (B : Nat) (order : List Int) (b : Int) (w : World) (h : ObsAt w ao l) (hI : IntsAt w oa ps) (hM : MvAt w B order b)
    (hps : Ok l.length ps) (hl60 : l.length ≤ 60) (hld : ∀ p ∈ ps, Leads order (obAt l p).fs) (hok : Ok 60 order) :
    Calls Try.prog 25 #[.agg #[.int .i64 M, .slice ao l.length cap], .slice oa ps.length oc, .func (.func 38) #[] #[.pointer (some ⟨B, 0, none⟩)]] w fun e w' =>
      ∃ g rows, e = .returned (.slice (some ⟨g, 0, none⟩) ps.length ps.length) ∧ HeapOwn w' w.heap.size (.slice (some ⟨g, 0, none⟩) ps.length ps.length) rows ∧ rows.map (·.2) = mvObs l order b ps ∧ Below w.heap.size w w' := by
  have hp60 := hps.len
  obtain ⟨L, hL⟩ : ∃ L, L = l.length := ⟨_, rfl⟩
  have HL : Aside (L = l.length) := hL
  rw [← hL] at hl60 hp60 ⊢
  clear hL
  obtain ⟨P, hP⟩ : ∃ P, P = ps.length := ⟨_, rfl⟩
  have HP : Aside (P = ps.length) := hP
  rw [← hP] at hp60 ⊢
  clear hP
  have HPS : Aside (Ok l.length ps ∧ (∀ p ∈ ps, Leads order (obAt l p).fs) ∧ Ok 60 order) := ⟨hps, hld, hok⟩
  clear hps hld hok
  have hmk := run_make_rowk (P := Try.prog) 2 23 41 _ 32 Try.underlying23 Try.infoO .i64 .i64 P (by omega) (by omega)
  go_enter Try.func25, Try.ntmps25
  go_wp2
  clear hmk
  have hstart : Aside (MvMid w ((w.alloc (Obj.cells #[Value.int IntKind.i64 M, .slice ao L cap] 25)).alloc (Obj.cells (madeCells #[Value.slice none 0 0, Value.bool false] (P * 2)) 41)) M (.slice ao L cap) P (mvObs l order b ps) 0) := mvMid_start w M _ P _ (by omega)
  go_loopg [16, 8, 9, 10] P (fun g s16 s8 s9 s10 wr => ∃ i : Nat, i ≤ P ∧ g = P - i ∧ s16 = .int .i64 i ∧ MvMid w wr M (.slice ao L cap) P (mvObs l order b ps) i)
  case atStart => exact ⟨0, Nat.zero_le _, rfl, rfl, hstart.out⟩
  case round =>
    obtain ⟨i, hi, rfl, rfl, hmid⟩ := hrel
    clear hstart
    have hb := hmid.below
    by_cases hiP : i < P
    · have hiz : (i : Int) < (P : Int) := by omega
      obtain ⟨p, hp⟩ := at_some (l := ps) (i := i) (by rw [← HP.out]; exact hiP)
      have hpm := List.mem_of_getElem? hp
      have hpb := HPS.out.1.2 p hpm
      rw [← HL.out] at hpb
      have hldp := HPS.out.2.1 p hpm
      obtain ⟨q, rfl⟩ := Int.eq_ofNat_of_zero_le hpb.1
      have hq : q < L := by omega
      have hqz : (q : Int) < (L : Int) := by omega
      obtain ⟨⟨fs, dead⟩, hx⟩ := at_some (l := l) (i := q) (by rw [← HL.out]; exact hq)
      have hob : obAt l (q : Int) = ⟨fs, dead⟩ := by simp [obAt, hx]
      rw [hob] at hldp
      have HO : Aside ((mvObs l order b ps)[i]? = some ⟨fs.map (mvV order b), dead⟩) := by
        show (mvObs l order b ps)[i]? = _
        rw [mvObs, List.getElem?_map, hp]
        simp [hob, mvO]
      obtain ⟨bk, o, fa, fc, rfl, c1, c2, hfs, hfl⟩ := h.cell q _ hx
      simp only at c1 c2 hfs hfl hldp
      replace c1 := Keeps.below hb _ _ c1
      replace c2 := Keeps.below hb _ _ c2
      replace hfs := hfs.keeps (Keeps.below hb)
      obtain ⟨ib, io, rfl, d1⟩ := (hI.keeps (Keeps.below hb)) i _ hp
      have q0 := cell_blk hmid.box 1
      simp at q0
      clear hp hx hob hpm
      go_wp2
      have bb := below_box wr (Obj.cells #[Value.slice fa fs.length fc, Value.bool dead] 41)
      have nb := Deep.blk_alloc_new wr (Obj.cells #[Value.slice fa fs.length fc, Value.bool dead] 41)
      have e1 := cell_blk nb 0
      have e2 := cell_blk nb 1
      simp only [List.getElem?_toArray, List.getElem?_cons_zero, List.getElem?_cons_succ] at e1 e2
      have hfs1 := hfs.keeps (Keeps.below bb)
      have hM1 := (hM.below hb).below bb
      have hsz : (wr.alloc (Obj.cells #[Value.slice fa fs.length fc, Value.bool dead] 41)).heap.size = wr.heap.size + 1 := by simp
      generalize wr.alloc (Obj.cells #[Value.slice fa fs.length fc, Value.bool dead] 41) = W1 at *
      clear c1 c2 hfs nb d1 q0
      refine wp_region_need (fun j => j != 10) (fun w' => w'.cell? ⟨wr.heap.size, 0, none⟩ = some (.slice fa fs.length fc) ∧ w'.cell? ⟨wr.heap.size, 1, none⟩ = some (.bool dead)) (by kernel_rfl) ⟨e1, e2⟩ (fun hS => ?_)
      refine wpAnyN_take (i := 0) (v := ?v1) rfl (by kernel_rfl) (by kernel_rfl) (by kernel_rfl) (by kernel_rfl) (fun _ _ _ h => h) (by rfl) ?hy1 hS ?rest1
      case hy1 => (intro wy hSy; (try dsimp only at hSy); go_simp; try (with_reducible rfl))
      simp only [Act.put, List.getElem_toArray, List.getElem_cons_zero, List.setIfInBounds_toArray, List.set_cons_zero, List.set_cons_succ]
      refine wpAnyN_take (i := 1) (v := ?v2) rfl (by kernel_rfl) (by kernel_rfl) (by kernel_rfl) (by kernel_rfl) (fun _ _ _ h => h) (by rfl) ?hy2 hS ?rest2
      case hy2 => (intro wy hSy; (try dsimp only at hSy); go_simp; try (with_reducible rfl))
      simp only [Act.put, List.getElem_toArray, List.getElem_cons_zero, List.getElem_cons_succ, List.setIfInBounds_toArray, List.set_cons_zero, List.set_cons_succ]
      refine wpAnyN_take (i := 2) (v := ?v3) rfl (by kernel_rfl) (by kernel_rfl) (by kernel_rfl) (by kernel_rfl) (fun _ _ _ h => h) (by rfl) ?hy3 hS ?rest3
      case hy3 => (intro wy hSy; (try dsimp only at hSy); go_simp; try (with_reducible rfl))
      simp only [Act.put, List.getElem_toArray, List.getElem_cons_zero, List.getElem_cons_succ, List.setIfInBounds_toArray, List.set_cons_zero, List.set_cons_succ]
      refine wpAnyN_take (i := 3) (v := ?v4) rfl (by kernel_rfl) (by kernel_rfl) (by kernel_rfl) (by kernel_rfl) (fun _ _ _ h => h) (by rfl) ?hy4 hS ?rest4
      case hy4 => (intro wy hSy; (try dsimp only at hSy); go_simp; try (with_reducible rfl))
      simp only [Act.put, List.getElem_toArray, List.getElem_cons_zero, List.getElem_cons_succ, List.setIfInBounds_toArray, List.set_cons_zero, List.set_cons_succ]
      refine wpAnyN_take (i := 4) (v := ?v5) rfl (by kernel_rfl) (by kernel_rfl) (by kernel_rfl) (by kernel_rfl) (fun _ _ _ h => h) (by rfl) ?hy5 hS ?rest5
      case hy5 => (intro wy hSy; (try dsimp only at hSy); go_simp; try (with_reducible rfl))
      simp only [Act.put, List.getElem_toArray, List.getElem_cons_zero, List.getElem_cons_succ, List.setIfInBounds_toArray, List.set_cons_zero, List.set_cons_succ]
      refine wpAnyN_take (i := 6) (v := ?v6) rfl (by kernel_rfl) (by kernel_rfl) (by kernel_rfl) (by kernel_rfl) (fun _ _ _ h => h) (by rfl) ?hy6 hS ?rest6
      case hy6 => (intro wy hSy; (try dsimp only at hSy); go_simp; try (with_reducible rfl))
      simp only [Act.put, List.getElem_toArray, List.getElem_cons_zero, List.getElem_cons_succ, List.setIfInBounds_toArray, List.set_cons_zero, List.set_cons_succ]
      refine wpAnyN_take (i := 7) (v := ?v7) rfl (by kernel_rfl) (by kernel_rfl) (by kernel_rfl) (by kernel_rfl) (fun _ _ _ h => h) (by rfl) ?hy7 hS ?rest7
      case hy7 => (intro wy hSy; (try dsimp only at hSy); go_simp; try (with_reducible rfl))
      simp only [Act.put, List.getElem_toArray, List.getElem_cons_zero, List.getElem_cons_succ, List.setIfInBounds_toArray, List.set_cons_zero, List.set_cons_succ]
      refine wpAnyN_one (i := 5) (by kernel_rfl) rfl (fun K hK => ?_)
      simp only [List.getElem_toArray, List.getElem_cons_zero, List.getElem_cons_succ]
      go_simp
      refine (movedValues_any fa fc fs B order b W1.drew (hfs1.keeps (fun _ _ h => h)) hfl (hM1.below (Below.refl _ _).drew) hldp HPS.out.2.2).mono ?_
      rintro e w1 ⟨na, nc, rfl, hv1, hb1⟩
      have hk1 : Keeps W1 w1 := fun a v e => Keeps.below hb1 a v e
      refine hK.out _ _ (fun _ => ⟨hk1 _ _ e1, hk1 _ _ e2⟩) ?_
      replace hS := (⟨hk1 _ _ e1, hk1 _ _ e2⟩ : w1.cell? ⟨wr.heap.size, 0, none⟩ = some (.slice fa fs.length fc) ∧ w1.cell? ⟨wr.heap.size, 1, none⟩ = some (.bool dead))
      clear hK
      refine wpAnyN_take (i := 8) (v := ?v8) rfl (by kernel_rfl) (by kernel_rfl) (by kernel_rfl) (by kernel_rfl) (fun _ _ _ h => h) (by rfl) ?hy8 hS ?rest8
      case hy8 => (intro wy hSy; (try dsimp only at hSy); go_simp; try (with_reducible rfl))
      simp only [Act.put, List.getElem_toArray, List.getElem_cons_zero, List.getElem_cons_succ, List.setIfInBounds_toArray, List.set_cons_zero, List.set_cons_succ]
      refine wpAnyN_take (i := 9) (v := ?v9) rfl (by kernel_rfl) (by kernel_rfl) (by kernel_rfl) (by kernel_rfl) (fun _ _ _ h => h) (by rfl) ?hy9 hS ?rest9
      case hy9 => (intro wy hSy; (try dsimp only at hSy); go_simp; try (with_reducible rfl))
      simp only [Act.put, List.getElem_toArray, List.getElem_cons_zero, List.getElem_cons_succ, List.setIfInBounds_toArray, List.set_cons_zero, List.set_cons_succ]
      have hb2 : Below wr.heap.size wr w1 := bb.trans ((((Below.refl W1.heap.size W1).drew).trans hb1).mono (by omega))
      obtain ⟨va, vb, vc, vd, s1, s2, s3⟩ := hmid.slot hiP hb2
      have hlen : fs.length = (fs.map (mvV order b)).length := by simp
      have hstep := hmid.step hiP (B := W1.drew.heap.size) (by show wr.heap.size ≤ W1.heap.size; omega) hb2 (ob := ⟨fs.map (mvV order b), dead⟩) (va := na) (vc := nc) (by rw [hlen] at hv1; exact hv1) (by rw [← hlen]; exact hfl) HO.out
      simp only [List.length_map] at hstep
      have HSTEP : Aside (MvMid w ((w1.setCell ⟨w.heap.size + 1, i * 2, none⟩ (.slice na fs.length nc)).setCell ⟨w.heap.size + 1, i * 2 + 1, none⟩ (.bool dead)) M (.slice (some ⟨bk, o, none⟩) L cap) P (mvObs l order b ps) (i + 1)) := hstep
      clear hstep hv1 hk1 hb1 hb2 hS hlen
      refine wpAnyN_one (i := 10) (by kernel_rfl) rfl (fun K2 hK2 => ?_)
      simp only [List.getElem_toArray, List.getElem_cons_zero, List.getElem_cons_succ]
      go_simp
      refine hK2.out _ _ (fun h => absurd h (by decide)) ?_
      clear hK2
      refine wpAnyN_done (by kernel_rfl) ?_ _
      refine NoPanic.normal ?_
      clear s1 s2 s3 e1 e2 hfs1 hM1 hmid
      go_wp2
      go_roundg (P - (i + 1))
      case measure => go_light; omega
      case rel => go_light; exact ⟨i + 1, by omega, rfl, by go_num, HSTEP.out⟩
    · obtain rfl : i = P := by omega
      go_wp2
      go_ret
      obtain ⟨rows, hO, hlen, hd⟩ := hmid.own
      refine ⟨_, rows, rfl, hO.le (by omega), ?_, hb⟩
      refine List.ext_getElem? fun j => ?_
      rw [List.getElem?_map]
      by_cases hj : j < i
      · exact hd j hj
      · rw [List.getElem?_eq_none (by omega), List.getElem?_eq_none (by rw [mvObs_length', ← HP.out]; omega)]
        rfl

end Go.Proofs.Ytbifdcchdoflpad
