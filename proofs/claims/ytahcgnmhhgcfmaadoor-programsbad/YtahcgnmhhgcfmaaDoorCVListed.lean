/- The program's listed and Types. -/
import Derived.Test.YtahcgnmhhgcfmaaDoorCVPoints
import Derived.Test.YtahcgnmhhgcfmaaDoorCRFlow
import Derived.Test.YtahcgnmhhgcfmaaDoorCCheck
import Derived.Test.YtahcgnmhhgcfmaaDoorCPlain
namespace Go.Proofs.YtahcgnmhhgcfmaaDoor
open Go.RowKit

theorem setRow_blk {w : World} {g : Nat} {cur : Array Value} {t : TypeId} (h : w.heap[g]? = some (.cells cur t (0, 0))) (cs : Array Value) : (w.setRow g cs).heap[g]? = some (.cells cs t (0, 0)) := setRow_heap w g cur _ _ _ h

theorem RfAt.store {w w' : World} {base g cap L : Nat} {st : List Pt} {rows : List Value} (h : RfAt w base g cap L st rows) (hl : st.length = L) {t : Nat} (ht : t < L) {k : List Int} {va : Option Addr} {vc : Nat}
    (hown : w'.ownsRow base 48 1 (.slice (some ⟨g, 0, none⟩) L cap) L (rows.set t (.slice va k.length vc))) (hoth : ∀ b, b < w.heap.size → b ≠ g → w'.heap[b]? = w.heap[b]?) (hV : VInts w' va k) (hg : ∀ b o, va = some ⟨b, o, none⟩ → b ≠ g) :
    RfAt w' base g cap L (st.set t (some k)) (rows.set t (.slice va k.length vc)) where
  own := hown
  row := fun i p hp => by
    have hlen : rows.length = L := by have := h.own.1; omega
    rw [List.getElem?_set] at hp ⊢
    by_cases e : t = i
    · subst e
      rw [if_pos rfl, if_pos (by omega)] at hp
      rw [if_pos rfl, if_pos (by omega)]
      simp only [Option.some.injEq] at hp
      subst hp
      exact ⟨va, vc, rfl, hV, hg⟩
    · rw [if_neg e] at hp ⊢
      obtain ⟨ra, rc, h1, h2, h3⟩ := h.row i p hp
      exact ⟨ra, rc, h1, h2.other (fun b o e hlt => hoth b hlt (h3 b o e)), h3⟩

set_option maxRecDepth 100000 in
set_option maxHeartbeats 2000000 in
theorem listed_any (pg pcap L base : Nat) (st : List Pt) (w : World) (hL : 1 ≤ L ∧ L ≤ 60) (hP : PtsOwn w base pg pcap L st) (hg : VGood L st) :
    Calls Tryd.prog 30 #[.slice (some ⟨pg, 0, none⟩) L pcap] w fun e w' => ∃ g cap, e = .returned (.slice (some ⟨g, 0, none⟩) L cap) ∧ Below w.heap.size w w' ∧ ∃ rows, RfAt w' w.heap.size g cap L st rows := by
  have hmk := run_make_wide (P := Tryd.prog) 1 42 48 _ 24 Tryd.underlying42 Tryd.infoS .i64 .i64 L (by omega) (by omega)
  have hown := ownsRow_made (f := fun u : Value => [u]) (fun _ => rfl) (by decide) #[.slice none 0 0] (.slice none 0 0) rfl w w.heap.size L 48 (Nat.le_refl _) (by unfold maxLen; omega)
  have b1 := below_box w (.cells (madeCells #[.slice none 0 0] (L * 1)) 48)
  have hmk8 : ∀ wy : World, (Instr.makeSlice 48 (.int .i64 8) (.int .i64 8)).run Tryd.prog wy = .ok (.slice (some ⟨wy.heap.size, 0, none⟩) 8 8) (wy.alloc (.cells (regA [0, 0, 0, 0, 0, 0, 0, 0]) 3)) := fun wy => by
    have := run_make_wide (P := Tryd.prog) 1 48 3 (.int .i64 0) 8 Tryd.underlying48 (by kernel_rfl) .i64 .i64 8 (by decide) (by decide) wy
    have e : madeCells (Value.int .i64 0).cells (8 * 1) = regA [0, 0, 0, 0, 0, 0, 0, 0] := by kernel_rfl
    rw [e] at this
    exact this
  go_enter Tryd.func30, Tryd.ntmps30
  go_upto_region 2 with fail
  rw [Nat.mul_one] at hown b1
  obtain ⟨g, hgg⟩ : ∃ g, g = w.heap.size := ⟨_, rfl⟩
  have hgw : w.heap.size ≤ g := by omega
  have hgp : g ≠ pg := by have := hP.lt; omega
  have hR0 : RfAt (w.alloc (Obj.cells (madeCells #[Value.slice none 0 0] L) 48)) w.heap.size g L L (List.replicate L none) (List.replicate L (.slice none 0 0)) := by
    refine ⟨?_, fun i p hp => ?_⟩
    · rw [hgg]
      have e : (List.replicate L (Value.slice none 0 0)).flatMap (fun u : Value => [u]) = List.replicate L (.slice none 0 0) := by simp
      rw [e] at hown
      exact hown
    · rw [List.getElem?_replicate] at hp ⊢
      split at hp
      · rename_i hi
        simp only [Option.some.injEq] at hp
        subst hp
        rw [if_pos hi]
        exact ⟨none, 0, rfl, fun i z hz => by simp at hz, fun b o h => by cases h⟩
      · cases hp
  rw [← hgg]
  clear hmk hown hgg
  have hP1 := hP.below b1
  have hplt := hP.lt.2
  clear hP
  generalize w.alloc (Obj.cells (madeCells #[Value.slice none 0 0] L) 48) = W at *
  go_wp2
  go_loopg [11] L (fun g' s11 wr => ∃ i : Nat, i ≤ L ∧ g' = L - i ∧ s11 = .int .i64 i ∧ Below w.heap.size w wr ∧ PtsOwn wr base pg pcap L st ∧ ∃ rows, RfAt wr w.heap.size g L L (st.take i ++ List.replicate (L - i) none) rows)
  case atStart => exact ⟨0, Nat.zero_le _, rfl, rfl, b1, hP1, _, by simpa using hR0⟩
  case round =>
    clear hR0 b1 hP1
    obtain ⟨i, hi, rfl, rfl, hb, hP, rows, hR⟩ := hrel
    by_cases hiL : i < L
    · have hiz : (i : Int) < (L : Int) := by omega
      have hi0 : (0 : Int) ≤ (i : Int) := Int.natCast_nonneg _
      obtain ⟨p, hpi⟩ : ∃ p, st[i]? = some p := ⟨st[i]'(by rw [hg.1]; exact hiL), List.getElem?_eq_getElem _⟩
      obtain ⟨p0, p1, p2, p3, p4, p5, p6, p7, p8⟩ := hP.cells hpi
      have hlen : (st.take i).length = i := by rw [List.length_take, hg.1]; omega
      have hgr := hR.lt.2
      have hcur : (st.take i ++ List.replicate (L - i) none)[i]? = some none := by
        rw [List.getElem?_append_right (by omega), hlen, Nat.sub_self, List.getElem?_replicate, if_pos (by omega)]
      obtain ⟨za, zc, zcell, _⟩ := hR.cell hcur
      simp only [Option.getD_none, List.length_nil] at zcell
      cases p with
      | none =>
        have HNX : Aside (st.take (i + 1) ++ List.replicate (L - (i + 1)) none = st.take i ++ List.replicate (L - i) none) := by
          show _ = _
          rw [List.take_add_one, hpi, show L - i = (L - (i + 1)) + 1 by omega, List.replicate_succ]
          simp
        have hbx := below_box wr (Obj.cells (ptA false []) 75)
        have HX : Aside (Below w.heap.size w (wr.alloc (Obj.cells (ptA false []) 75)) ∧ PtsOwn (wr.alloc (Obj.cells (ptA false []) 75)) base pg pcap L st ∧ RfAt (wr.alloc (Obj.cells (ptA false []) 75)) w.heap.size g L L (st.take i ++ List.replicate (L - i) none) rows) := ⟨hb.trans (hbx.mono hb.size), hP.below hbx, hR.below hbx⟩
        clear hbx
        go_wp2
        go_roundg (L - (i + 1))
        case measure => go_light; omega
        case rel => go_light; exact ⟨i + 1, by omega, rfl, by go_num, HX.out.1, HX.out.2.1, rows, by rw [HNX.out]; exact HX.out.2.2⟩
      | some k =>
        have hk8 : k.length = 8 := hg.2 k (List.mem_of_getElem? hpi)
        have HNX : Aside (st.take (i + 1) ++ List.replicate (L - (i + 1)) none = (st.take i ++ List.replicate (L - i) none).set i (some k)) := by
          show _ = _
          rw [List.take_add_one, hpi, show L - i = (L - (i + 1)) + 1 by omega, List.replicate_succ, List.set_append, if_neg (by omega), hlen, Nat.sub_self]
          simp
        simp only [Option.getD_some, Option.isSome_some] at p0 p1 p2 p3 p4 p5 p6 p7 p8
        go_upto_region 6 with fail
        obtain ⟨I1, k1, bb1, s1⟩ := boxes1 wr (Obj.cells (ptA true k) 75)
        obtain ⟨B, hB⟩ : ∃ B, B = wr.heap.size := ⟨_, rfl⟩
        have hBl : wr.heap.size ≤ B := by omega
        have hBs : B < (wr.alloc (Obj.cells (ptA true k) 75)).heap.size := by rw [s1]; omega
        rw [← hB] at I1 ⊢
        have hb2 := hb.trans (bb1.mono hb.size)
        have hP2 := hP.below bb1
        have hR2 := hR.below bb1
        replace zcell := k1 _ _ zcell
        clear hB p0 p1 p2 p3 p4 p5 p6 p7 p8 hb hP hR bb1 k1 s1
        generalize wr.alloc (Obj.cells (ptA true k) 75) = W2 at *
        have hgr2 := hR2.lt.2
        have fz2 : ∀ j, W2.frozen? ⟨g, j, none⟩ = false := fun j => ownsRow_frozenAt hR2.own rfl j
        obtain ⟨NB, hNB⟩ : ∃ NB, NB = W2.heap.size := ⟨_, rfl⟩
        have hNBg : g ≠ NB := by omega
        have hNBB : B ≠ NB := by omega
        have hsz : (W2.setCell ⟨g, i, none⟩ (.slice (some ⟨NB, 0, none⟩) 8 8)).heap.size = W2.heap.size := by simp [World.setCell]
        have M1 : ((W2.setCell ⟨g, i, none⟩ (.slice (some ⟨NB, 0, none⟩) 8 8)).alloc (Obj.cells (regA [0, 0, 0, 0, 0, 0, 0, 0]) 3)).heap[NB]? = some (.cells (regA [0, 0, 0, 0, 0, 0, 0, 0]) 3 (0, 0)) := by
          have := Deep.blk_alloc_new (W2.setCell ⟨g, i, none⟩ (.slice (some ⟨NB, 0, none⟩) 8 8)) (Obj.cells (regA [0, 0, 0, 0, 0, 0, 0, 0]) 3)
          rw [hsz, ← hNB] at this
          exact this
        have hoth : ∀ b, b < W2.heap.size → b ≠ g → ((W2.setCell ⟨g, i, none⟩ (.slice (some ⟨NB, 0, none⟩) 8 8)).alloc (Obj.cells (regA [0, 0, 0, 0, 0, 0, 0, 0]) 3)).heap[b]? = W2.heap[b]? := fun b hb' hne => (Deep.blk_alloc_lt _ _ _ (by rw [hsz]; exact hb')).trans (Deep.blk_setCell_other W2 ⟨g, i, none⟩ _ b hne)
        have rlen : rows.length = L := by have := hR2.own.1; omega
        have own3 : ((W2.setCell ⟨g, i, none⟩ (.slice (some ⟨NB, 0, none⟩) 8 8)).alloc (Obj.cells (regA [0, 0, 0, 0, 0, 0, 0, 0]) 3)).ownsRow w.heap.size 48 1 (.slice (some ⟨g, 0, none⟩) L L) L (rows.set i (.slice (some ⟨NB, 0, none⟩) 8 8)) :=
          World.ownsRow.kept (ownsRow_putAt hR2.own rfl i [.slice (some ⟨NB, 0, none⟩) 8 8] (by simp; omega)) (row := none) (let bb := below_box (W2.setCell ⟨g, i, none⟩ (.slice (some ⟨NB, 0, none⟩) 8 8)) (Obj.cells (regA [0, 0, 0, 0, 0, 0, 0, 0]) 3); ⟨bb.os, bb.tape, bb.output, bb.size, fun j hj _ => bb.block j hj⟩) (Or.inr (by simp [Value.ownBlock]))
        have b3 : Below w.heap.size w ((W2.setCell ⟨g, i, none⟩ (.slice (some ⟨NB, 0, none⟩) 8 8)).alloc (Obj.cells (regA [0, 0, 0, 0, 0, 0, 0, 0]) 3)) := (hb2.setCell (by show w.heap.size ≤ g; exact hgw) _).alloc (by rw [hsz]; exact hb2.size) _
        have oc := ownsRow_at own3 (g := g) rfl (j := i) (u := .slice (some ⟨NB, 0, none⟩) 8 8) (by rw [List.getElem?_set, if_pos rfl, if_pos (by omega)])
        have I3 := (hoth B hBs (by omega)).trans I1
        have hNBw : w.heap.size ≤ NB := by have := hb2.size; omega
        go_upto_region 7 with fail
        rw [← hNB]
        clear hmk8 zcell fz2 hsz hgr2 hgr hcur
        have hP3oth := hoth pg (by have := hP2.lt; omega) (fun e => hgp e.symm)
        generalize (W2.setCell ⟨g, i, none⟩ (.slice (some ⟨NB, 0, none⟩) 8 8)).alloc (Obj.cells (regA [0, 0, 0, 0, 0, 0, 0, 0]) 3) = W3 at *
        have bc : ∀ j, W3.cell? ⟨B, j, none⟩ = (ptA true k)[j]? := vCell_blk I3
        have hrun := run_copy_full (P := Tryd.prog) 1 W3.drew 48 48 3 3 Tryd.underlying48 (by kernel_rfl) NB 8 8 (some ⟨B, 1, none⟩) 8 _ _ M1 (regA k).toList rfl rfl (fun _ => ⟨_, rfl, fun j v hv => by
          have hadd : (⟨B, 1, none⟩ : Addr).add j = ⟨B, 1 + j, none⟩ := by unfold Addr.add; split <;> simp_all
          rw [hadd]
          show W3.cell? ⟨B, 1 + j, none⟩ = some v
          have e2 : (ptA true k)[j + 1]? = (regA k).toList[j]? := by rw [← Array.getElem?_toList]; rfl
          rw [bc, Nat.add_comm 1 j, e2]
          exact hv⟩) (fun v hv => by simp at hv; rcases hv with h | h | h | h | h | h | h | h <;> rw [h] <;> rfl)
        have HRUN := show Aside _ from hrun
        clear hrun bc
        refine wp_region_need (fun j => j != 6) (fun w' => w'.cell? ⟨g, i, none⟩ = some (.slice (some ⟨NB, 0, none⟩) 8 8)) (by kernel_rfl) oc (fun hS => ?_)
        refine wpAnyN_take (i := 0) (v := ?v1) rfl (by kernel_rfl) (by kernel_rfl) (by kernel_rfl) (by kernel_rfl) (fun _ _ _ h => h) (by rfl) ?hy1 hS ?rest1
        case hy1 => (intro wy hSy; (try dsimp only at hSy); go_simp; try (with_reducible rfl))
        simp only [Act.put, List.getElem_toArray, List.getElem_cons_zero, List.setIfInBounds_toArray, List.set_cons_zero, List.set_cons_succ]
        refine wpAnyN_take (i := 1) (v := ?v2) rfl (by kernel_rfl) (by kernel_rfl) (by kernel_rfl) (by kernel_rfl) (fun _ _ _ h => h) (by rfl) ?hy2 hS ?rest2
        case hy2 => (intro wy hSy; (try dsimp only at hSy); go_simp; try (with_reducible rfl))
        simp only [Act.put, List.getElem_toArray, List.getElem_cons_zero, List.getElem_cons_succ, List.setIfInBounds_toArray, List.set_cons_zero, List.set_cons_succ]
        refine wpAnyN_take (i := 2) (v := ?v3) rfl (by kernel_rfl) (by kernel_rfl) (by kernel_rfl) (by kernel_rfl) (fun _ _ _ h => h) (by rfl) ?hy3 hS ?rest3
        case hy3 => (intro wy hSy; (try dsimp only at hSy); go_simp; try (with_reducible rfl))
        simp only [Act.put, List.getElem_toArray, List.getElem_cons_zero, List.getElem_cons_succ, List.setIfInBounds_toArray, List.set_cons_zero, List.set_cons_succ]
        refine wpAnyN_take (i := 3) (v := ?v4) rfl (by kernel_rfl) (by kernel_rfl) (by kernel_rfl) (by kernel_rfl) (fun _ _ _ h => h) (by rfl) ?hy4 hS ?rest4
        case hy4 => (intro wy hSy; (try dsimp only at hSy); go_simp; try (with_reducible rfl))
        simp only [Act.put, List.getElem_toArray, List.getElem_cons_zero, List.getElem_cons_succ, List.setIfInBounds_toArray, List.set_cons_zero, List.set_cons_succ]
        refine wpAnyN_take (i := 4) (v := ?v5) rfl (by kernel_rfl) (by kernel_rfl) (by kernel_rfl) (by kernel_rfl) (fun _ _ _ h => h) (by rfl) ?hy5 hS ?rest5
        case hy5 => (intro wy hSy; (try dsimp only at hSy); go_simp; try (with_reducible rfl))
        simp only [Act.put, List.getElem_toArray, List.getElem_cons_zero, List.getElem_cons_succ, List.setIfInBounds_toArray, List.set_cons_zero, List.set_cons_succ]
        refine wpAnyN_take (i := 5) (v := ?v6) rfl (by kernel_rfl) (by kernel_rfl) (by kernel_rfl) (by kernel_rfl) (fun _ _ _ h => h) (by rfl) ?hy6 hS ?rest6
        case hy6 => (intro wy hSy; (try dsimp only at hSy); go_simp; try (with_reducible rfl))
        simp only [Act.put, List.getElem_toArray, List.getElem_cons_zero, List.getElem_cons_succ, List.setIfInBounds_toArray, List.set_cons_zero, List.set_cons_succ]
        refine wpAnyN_one (i := 6) (by kernel_rfl) rfl (fun K hK => ?_)
        refine step_copy rfl (.tmp 25) (.tmp 27) 48 48 rfl (.slice (some ⟨NB, 0, none⟩) 8 8) (.slice (some ⟨B, 1, none⟩) 8 8) (by simp [Act.eval]) (by simp [Act.eval]) _ _ HRUN.out ?_
        refine hK.out _ _ (fun h => absurd h (by decide)) ?_
        clear hK
        refine wpAnyN_done (by kernel_rfl) ?_ _
        refine NoPanic.normal ?_
        try simp only [Act.put, List.getElem_toArray, List.getElem_cons_zero, List.getElem_cons_succ, List.setIfInBounds_toArray, List.set_cons_zero, List.set_cons_succ]
        have hgrown : W3.drew.grownBy (W3.drew.setRow NB (regA k).toList.toArray) (some NB) := ⟨rfl, rfl, rfl, by simp, fun j _ hj => setRow_other W3.drew NB j _ (fun e => hj (by rw [e]))⟩
        have own4 : (W3.drew.setRow NB (regA k).toList.toArray).ownsRow w.heap.size 48 1 (.slice (some ⟨g, 0, none⟩) L L) L (rows.set i (.slice (some ⟨NB, 0, none⟩) k.length 8)) := by
          rw [hk8]
          exact World.ownsRow.kept (w := W3.drew) own3 hgrown (Or.inr (by simp only [Value.ownBlock, ne_eq, Option.some.injEq]; exact hNBg))
        have M4 : (W3.drew.setRow NB (regA k).toList.toArray).heap[NB]? = some (.cells (regA k) 3 (0, 0)) := setRow_blk (w := W3.drew) M1 _
        have hR4 := hR2.store (by rw [List.length_append, hlen, List.length_replicate]; omega) hiL (w' := W3.drew.setRow NB (regA k).toList.toArray) own4 (fun b hb' hne => (setRow_other W3.drew NB b _ (by omega)).trans (hoth b hb' hne)) (vInts_regs M4 hk8) (fun b o e => by simp at e; omega)
        have b4 : Below w.heap.size w (W3.drew.setRow NB (regA k).toList.toArray) := b3.drew.grown hgrown (Nat.le_trans b3.size (Nat.le_refl _)) (fun j hj => by simp at hj; omega)
        have hP4 : PtsOwn (W3.drew.setRow NB (regA k).toList.toArray) base pg pcap L st := by
          refine ⟨hP2.1, ?_⟩
          rcases hP2.2 with ⟨h0, _⟩ | ⟨g', c', cur, h0, h1, h2, h3⟩
          · simp at h0
          · simp only [Value.slice.injEq, Option.some.injEq, Addr.mk.injEq, and_true] at h0
            obtain ⟨rfl, hc⟩ := h0
            refine Or.inr ⟨pg, c', cur, by rw [hc.2], h1, ?_, h3⟩
            exact ((setRow_other W3.drew NB pg _ (by have := hP2.lt; omega)).trans hP3oth).trans h2
        have HF : Aside (Below w.heap.size w (W3.drew.setRow NB (regA k).toList.toArray) ∧ PtsOwn (W3.drew.setRow NB (regA k).toList.toArray) base pg pcap L st ∧ ∃ rows', RfAt (W3.drew.setRow NB (regA k).toList.toArray) w.heap.size g L L (st.take (i + 1) ++ List.replicate (L - (i + 1)) none) rows') := ⟨b4, hP4, _, by rw [HNX.out]; exact hR4⟩
        clear hR4 b4 hP4 M4 own4 hgrown own3 M1 hoth HRUN hS oc I3 hP3oth b3
        generalize W3.drew.setRow NB (regA k).toList.toArray = W5 at *
        go_wp2
        go_roundg (L - (i + 1))
        case measure => go_light; omega
        case rel => go_light; exact ⟨i + 1, by omega, rfl, by go_num, HF.out.1, HF.out.2.1, HF.out.2.2⟩
    · obtain rfl : i = L := by omega
      have HE : Aside (st.take i ++ List.replicate (i - i) none = st) := by
        show _ = _
        rw [Nat.sub_self, List.replicate_zero, List.append_nil, List.take_of_length_le (by rw [hg.1]; exact Nat.le_refl _)]
      go_wp2
      go_ret
      exact ⟨g, i, rfl, hb, rows, by rw [HE.out] at hR; exact hR⟩

end Go.Proofs.YtahcgnmhhgcfmaaDoor
