/- The walk of behavior: the code of raw things. -/
import Derived.Test.YtahcgnmhhgcfmaaDoorCKRight
namespace Go.Proofs.YtahcgnmhhgcfmaaDoor
open Go.RowKit

theorem stepB_full {most : Nat} {out : List Ins} (h : ¬ out.length < most) : ∀ l : List Rw, l.foldl (stepB most) out = out
  | [] => rfl
  | r :: l => by
    rw [List.foldl_cons]
    have : stepB most out r = out := by unfold stepB; rw [if_neg h]
    rw [this]
    exact stepB_full h l

theorem drop_cons {α : Type} {l : List α} {i : Nat} {r : α} (h : l[i]? = some r) : l.drop i = r :: l.drop (i + 1) := by
  obtain ⟨hi, rfl⟩ := List.getElem?_eq_some_iff.1 h
  exact List.drop_eq_getElem_cons hi

theorem seqIns_new2 (w : World) (x y : Ins) (t : TypeId) (B : Nat) (hB : B = w.heap.size) : SeqAt fIns 4 (w.alloc (.cells #[.int .i64 x.op, .int .i64 x.a, .int .i64 x.b, .int .i64 x.n, .int .i64 y.op, .int .i64 y.a, .int .i64 y.b, .int .i64 y.n] t)) (some ⟨B, 0, none⟩) [x, y] := fun i z hz => by
  match i, hz with
  | 0, hz =>
    simp at hz
    subst hz
    refine ⟨B, 0, rfl, fun j u hu => ?_⟩
    rw [cellBlk (by rw [hB]; exact Deep.blk_alloc_new w _)]
    match j, hu with
    | 0, hu => simpa [fIns] using hu
    | 1, hu => simpa [fIns] using hu
    | 2, hu => simpa [fIns] using hu
    | 3, hu => simpa [fIns] using hu
    | j + 4, hu => simp [fIns] at hu
  | 1, hz =>
    simp at hz
    subst hz
    refine ⟨B, 0, rfl, fun j u hu => ?_⟩
    rw [cellBlk (by rw [hB]; exact Deep.blk_alloc_new w _)]
    match j, hu with
    | 0, hu => simpa [fIns] using hu
    | 1, hu => simpa [fIns] using hu
    | 2, hu => simpa [fIns] using hu
    | 3, hu => simpa [fIns] using hu
    | j + 4, hu => simp [fIns] at hu
  | i + 2, hz => simp at hz

theorem tdiv26_bd {k : Int} (h : fit64 k) : fit64 (k.tdiv 26) := by
  unfold fit64 at *
  by_cases h0 : 0 ≤ k
  · rw [Int.tdiv_eq_ediv_of_nonneg h0]
    omega
  · obtain ⟨m, rfl⟩ : ∃ m, k = -m := ⟨-k, by omega⟩
    rw [Int.neg_tdiv, Int.tdiv_eq_ediv_of_nonneg (by omega)]
    omega

set_option maxRecDepth 100000 in
set_option maxHeartbeats 1000000 in
theorem kbehavior_any (l : List Rw) (ra : Option Addr) (rc : Nat) (most : Nat) (w : World) (h : RawsAt w ra l) (hl : 32 * l.length ≤ 140737488355328) (hm : most ≤ 900) (hT : TabAt 0 w) :
    Calls Tryd.prog 26 #[.slice ra l.length rc, .int .i64 most] w fun e w' => ∃ g cap, e = .returned (.slice (some ⟨g, 0, none⟩) (behS most l).length cap) ∧ Below w.heap.size w w' ∧ SeqOwn fIns 4 40 w' w.heap.size (.slice (some ⟨g, 0, none⟩) (behS most l).length cap) (behS most l) := by
  obtain ⟨R, hR⟩ : ∃ R, R = behS most l := ⟨_, rfl⟩
  have HR : Aside (R = codeS most l ++ [doneI]) := hR
  rw [← hR]
  clear hR
  have hmx : maxLen = 9223372036854775807 := rfl
  go_enter Tryd.func26, Tryd.ntmps26
  go_wp2_with fail
  go_loopg [5, 6] l.length (fun gg s5 s6 wr => ∃ (i : Nat) (out : List Ins) (oa : Option Addr) (oc : Nat), i ≤ l.length ∧ gg = l.length - i ∧ s5 = .slice oa out.length oc ∧ s6 = .int .i64 i ∧ SeqOwn fIns 4 40 wr w.heap.size (.slice oa out.length oc) out ∧ Below w.heap.size w wr ∧ out.length ≤ most + 1 ∧ (∀ x ∈ out, insB1 x) ∧ Aside (codeS most l = (l.drop i).foldl (stepB most) out))
  case atStart => exact ⟨0, [], none, 0, Nat.zero_le _, rfl, rfl, rfl, seqOwn_nil _ _, Below.refl _ _, by simp, by simp, rfl⟩
  case round =>
    obtain ⟨i, out, oa, oc, hi, rfl, rfl, rfl, hO, hb, hol, hbd, hA⟩ := hrel
    have hix : ∀ r, l[i]? = some r → i < l.length := fun r hr => (List.getElem?_eq_some_iff.1 hr).1
    cases hr : l[i]? with
    | none =>
      have hge : ¬ (i : Int) < (l.length : Int) := by have := List.getElem?_eq_none_iff.1 hr; omega
      have hile := List.getElem?_eq_none_iff.1 hr
      have HRR : Aside (R = out ++ [doneI]) := by show R = _; rw [HR.out, hA.out, List.drop_eq_nil_of_le hile]; rfl
      clear hA HR hix
      go_wp2_with (first | (at_builtin; refine wpList_seq Tryd.rowIns rfl _ _ (by rfl) (v := .slice oa out.length oc) (by simp [Act.eval]) (hO.below (below_box wr (Obj.cells #[.int .i64 0, .int .i64 0, .int .i64 0, .int .i64 0] 40))) (by have := hb.size; simp; omega) [doneI] (some ⟨wr.heap.size, 0, none⟩) 1 (by simp [Act.eval]) (seqIns_new wr doneI 40 wr.heap.size rfl) (by simp) (by simp; omega) (by simp; omega) ?_; rintro g cap w3 hO3 _ hb3 _) | fail)
      have hbF := (hb.trans ((below_box wr (Obj.cells #[.int .i64 0, .int .i64 0, .int .i64 0, .int .i64 0] 40)).mono hb.size)).trans hb3
      exact bodyPost_ret (v := .slice (some ⟨g, 0, none⟩) (out.length + 1) cap) (by simp [results, Tryd.results26, go_sem]) rfl ⟨g, cap, by rw [HRR.out]; simp, hbF, by rw [HRR.out]; simpa using hO3⟩
    | some r =>
      have hlt := hix r hr
      have hltz : (i : Int) < (l.length : Int) := by omega
      by_cases hmo : out.length < most
      · have hmoz : (out.length : Int) < (most : Int) := by omega
        obtain ⟨RB, RO, hra, _, i0, i1, i2, i3, f0, f1, f2, f3⟩ := (h.keeps (Keeps.below hb)) i r hr
        subst hra
        have hAt := hO.at Tryd.rowIns.len
        obtain ⟨W, hWe⟩ : ∃ W, W = wr := ⟨_, rfl⟩
        subst hWe
        have hSof : ∀ w', Below W.heap.size W w' → (w'.cell? ⟨RB, RO + i * 4, none⟩ = some (.int .i64 r.k) ∧ w'.cell? ⟨RB, RO + i * 4 + 1, none⟩ = some (.int .i64 r.a) ∧ w'.cell? ⟨RB, RO + i * 4 + 2, none⟩ = some (.int .i64 r.b) ∧ w'.cell? ⟨RB, RO + i * 4 + 3, none⟩ = some (.int .i64 r.c)) := fun w' hb' => ⟨Keeps.below hb' _ _ i0, Keeps.below hb' _ _ i1, Keeps.below hb' _ _ i2, Keeps.below hb' _ _ i3⟩
        have hw8 := hb.size
        go_upto_region 5 with fail
        have hBd : Below W.heap.size W W.drew := (Below.refl _ _).drew
        refine wp_region_need (fun j => j != 9) (fun w' => w'.cell? ⟨RB, RO + i * 4, none⟩ = some (.int .i64 r.k) ∧ w'.cell? ⟨RB, RO + i * 4 + 1, none⟩ = some (.int .i64 r.a) ∧ w'.cell? ⟨RB, RO + i * 4 + 2, none⟩ = some (.int .i64 r.b) ∧ w'.cell? ⟨RB, RO + i * 4 + 3, none⟩ = some (.int .i64 r.c)) (by kernel_rfl) (hSof _ hBd) (fun hS => ?_)
        generalize W.drew = wc0 at hS hBd ⊢
        refine wpAnyN_take (i := 0) (v := ?v1) rfl (by kernel_rfl) (by kernel_rfl) (by kernel_rfl) (by kernel_rfl) (fun _ _ _ h => h) (by rfl) ?hy1 hS ?rest1
        case hy1 => (intro wy hSy; (try dsimp only at hSy); go_simp; try (with_reducible rfl))
        simp only [Act.put, List.getElem_toArray, List.getElem_cons_zero, List.setIfInBounds_toArray, List.set_cons_zero, List.set_cons_succ]
        refine wpAnyN_take (i := 2) (v := ?v2) rfl (by kernel_rfl) (by kernel_rfl) (by kernel_rfl) (by kernel_rfl) (fun _ _ _ h => h) (by rfl) ?hy2 hS ?rest2
        case hy2 => (intro wy hSy; (try dsimp only at hSy); go_simp; try (with_reducible rfl))
        simp only [Act.put, List.getElem_toArray, List.getElem_cons_zero, List.getElem_cons_succ, List.setIfInBounds_toArray, List.set_cons_zero, List.set_cons_succ]
        refine wpAnyN_take (i := 3) (v := ?v3) rfl (by kernel_rfl) (by kernel_rfl) (by kernel_rfl) (by kernel_rfl) (fun _ _ _ h => h) (by rfl) ?hy3 hS ?rest3
        case hy3 => (intro wy hSy; (try dsimp only at hSy); go_simp; try (with_reducible rfl))
        simp only [Act.put, List.getElem_toArray, List.getElem_cons_zero, List.getElem_cons_succ, List.setIfInBounds_toArray, List.set_cons_zero, List.set_cons_succ]
        refine wpAnyN_take (i := 4) (v := ?v4) rfl (by kernel_rfl) (by kernel_rfl) (by kernel_rfl) (by kernel_rfl) (fun _ _ _ h => h) (by rfl) ?hy4 hS ?rest4
        case hy4 => (intro wy hSy; (try dsimp only at hSy); go_simp; try (with_reducible rfl))
        simp only [Act.put, List.getElem_toArray, List.getElem_cons_zero, List.getElem_cons_succ, List.setIfInBounds_toArray, List.set_cons_zero, List.set_cons_succ]
        refine wpAnyN_take (i := 5) (v := ?v5) rfl (by kernel_rfl) (by kernel_rfl) (by kernel_rfl) (by kernel_rfl) (fun _ _ _ h => h) (by rfl) ?hy5 hS ?rest5
        case hy5 => (intro wy hSy; (try dsimp only at hSy); go_simp; try (with_reducible rfl))
        simp only [Act.put, List.getElem_toArray, List.getElem_cons_zero, List.getElem_cons_succ, List.setIfInBounds_toArray, List.set_cons_zero, List.set_cons_succ]
        refine wpAnyN_one (i := 1) (by kernel_rfl) rfl (fun K hK => ?_)
        refine step_seqCopy Tryd.rowIns (by rfl) _ _ (by rfl) (by rfl) out oa oc (by simp [Act.eval]) (hAt.keeps (Keeps.below hBd)) (by omega) (by omega) ?_
        rintro va vc wc1 hC hbn
        have hC1 := hC.le hBd.size
        have hB1 := hBd.trans (hbn.mono hBd.size)
        clear hC hbn hBd
        refine hK.out _ _ (fun _ => hSof _ hB1) ?_
        clear hK
        replace hS := hSof _ hB1
        try simp only [Act.put, List.getElem_toArray, List.getElem_cons_zero, List.getElem_cons_succ, List.setIfInBounds_toArray, List.set_cons_zero, List.set_cons_succ]
        refine wpAnyN_one (i := 6) (by kernel_rfl) rfl (fun K hK => ?_)
        simp only [List.getElem_toArray, List.getElem_cons_zero, List.getElem_cons_succ]
        go_simp
        refine (instr_any r _ f0 f1 f2 f3).mono ?_
        rintro e wc2 ⟨rfl, hbn⟩
        have hC2 := hC1.below hbn
        have hB2 := hB1.trans (hbn.mono hB1.size)
        clear hC1 hbn hB1
        refine hK.out _ _ (fun _ => hSof _ hB2) ?_
        clear hK
        replace hS := hSof _ hB2
        try simp only [Act.put, List.getElem_toArray, List.getElem_cons_zero, List.getElem_cons_succ, List.setIfInBounds_toArray, List.set_cons_zero, List.set_cons_succ]
        obtain ⟨X, hX⟩ : ∃ X, X = instrS r := ⟨_, rfl⟩
        rw [← hX]
        have HX : Aside (X = instrS r) := hX
        clear hX
        refine wpAnyN_one (i := 7) (by kernel_rfl) rfl (fun K hK => ?_)
        simp only [List.getElem_toArray, List.getElem_cons_zero, List.getElem_cons_succ]
        go_simp
        have hD3 := seqIns_new wc2 X 40 wc2.heap.size rfl
        have hbn := below_box wc2 (Obj.cells #[.int .i64 X.op, .int .i64 X.a, .int .i64 X.b, .int .i64 X.n] 40)
        generalize wc2.alloc (Obj.cells #[.int .i64 X.op, .int .i64 X.a, .int .i64 X.b, .int .i64 X.n] 40) = wc3 at hD3 hbn ⊢
        have hC3 := hC2.below hbn
        have hB3 := hB2.trans (hbn.mono hB2.size)
        clear hC2 hbn hB2
        generalize wc2.heap.size = GB at hD3 ⊢
        refine hK.out _ _ (fun _ => hSof _ hB3) ?_
        clear hK
        replace hS := hSof _ hB3
        try simp only [Act.put, List.getElem_toArray, List.getElem_cons_zero, List.getElem_cons_succ, List.setIfInBounds_toArray, List.set_cons_zero, List.set_cons_succ]
        refine wpAnyN_one (i := 8) (by kernel_rfl) rfl (fun K hK => ?_)
        refine step_seq Tryd.rowIns (by rfl) _ _ (by rfl) (v := .slice va out.length vc) (by rfl) hC3 hB3.size [X] (some ⟨GB, 0, none⟩) 1 (by rfl) hD3 (by simp) (by simp; omega) (by simp; omega) ?_
        rintro g cap wc4 hO4 _ hbn _
        have hB4 := hB3.trans hbn
        clear hC3 hD3 hbn hB3
        refine hK.out _ _ (fun _ => hSof _ hB4) ?_
        clear hK
        replace hS := hSof _ hB4
        try simp only [Act.put, List.getElem_toArray, List.getElem_cons_zero, List.getElem_cons_succ, List.setIfInBounds_toArray, List.set_cons_zero, List.set_cons_succ]
        refine wpAnyN_one (i := 9) (by kernel_rfl) rfl (fun K hK => ?_)
        simp only [List.getElem_toArray, List.getElem_cons_zero, List.getElem_cons_succ]
        go_simp
        refine hK.out _ _ (fun h => absurd h (by decide)) ?_
        clear hK
        refine wpAnyN_done (by kernel_rfl) ?_ _
        refine NoPanic.normal ?_
        try simp only [Act.put, List.getElem_toArray, List.getElem_cons_zero, List.getElem_cons_succ, List.setIfInBounds_toArray, List.set_cons_zero, List.set_cons_succ]
        have kk := Keeps.below hB4
        have hT4 := hT.keeps (Keeps.below (hb.trans (hB4.mono hb.size)))
        have hAt4 := hAt.keeps kk
        replace i0 := kk _ _ i0
        replace i1 := kk _ _ i1
        replace i2 := kk _ _ i2
        replace i3 := kk _ _ i3
        clear hS kk hSof hAt
        have ft := tdiv26_bd f0
        have hwr : wrap64 (r.k.tdiv 26) = r.k.tdiv 26 := IntWalk.wrap64_in _ ft
        by_cases hz : pick (r.k.tdiv 26) 5 = 0
        · have HN : Aside (nextK out r = out ++ [⟨5, pick r.b 6, 0, 2⟩, X]) := by show nextK out r = _; unfold nextK; rw [if_pos hz, HX.out]
          go_wp2_with fail
          rw [hwr]
          refine (picked_any (r.k.tdiv 26) 5 _ ft.1 ft.2 (by omega) (by omega)).mono ?_
          rintro e w' ⟨rfl, rfl⟩
          have hSof : ∀ w', Below wc4.heap.size wc4 w' → (w'.cell? ⟨RB, RO + i * 4, none⟩ = some (.int .i64 r.k) ∧ w'.cell? ⟨RB, RO + i * 4 + 1, none⟩ = some (.int .i64 r.a) ∧ w'.cell? ⟨RB, RO + i * 4 + 2, none⟩ = some (.int .i64 r.b) ∧ w'.cell? ⟨RB, RO + i * 4 + 3, none⟩ = some (.int .i64 r.c)) := fun w' hb' => ⟨Keeps.below hb' _ _ i0, Keeps.below hb' _ _ i1, Keeps.below hb' _ _ i2, Keeps.below hb' _ _ i3⟩
          go_upto_region 7 with fail
          have hBd : Below wc4.heap.size wc4 wc4.drew := (Below.refl _ _).drew
          refine wp_region_need (fun j => j != 16) (fun w' => w'.cell? ⟨RB, RO + i * 4, none⟩ = some (.int .i64 r.k) ∧ w'.cell? ⟨RB, RO + i * 4 + 1, none⟩ = some (.int .i64 r.a) ∧ w'.cell? ⟨RB, RO + i * 4 + 2, none⟩ = some (.int .i64 r.b) ∧ w'.cell? ⟨RB, RO + i * 4 + 3, none⟩ = some (.int .i64 r.c)) (by kernel_rfl) (hSof _ hBd) (fun hS => ?_)
          have hsz4 := hB4.size
          have HB4 : Aside (Below W.heap.size W wc4) := hB4
          generalize wc4.drew = wd0 at hS hBd ⊢
          refine wpAnyN_take (i := 0) (v := ?v6) rfl (by kernel_rfl) (by kernel_rfl) (by kernel_rfl) (by kernel_rfl) (fun _ _ _ h => h) (by rfl) ?hy6 hS ?rest6
          case hy6 => (intro wy hSy; (try dsimp only at hSy); go_simp; try (with_reducible rfl))
          simp only [Act.put, List.getElem_toArray, List.getElem_cons_zero, List.setIfInBounds_toArray, List.set_cons_zero, List.set_cons_succ]
          refine wpAnyN_take (i := 2) (v := ?v7) rfl (by kernel_rfl) (by kernel_rfl) (by kernel_rfl) (by kernel_rfl) (fun _ _ _ h => h) (by rfl) ?hy7 hS ?rest7
          case hy7 => (intro wy hSy; (try dsimp only at hSy); go_simp; try (with_reducible rfl))
          simp only [Act.put, List.getElem_toArray, List.getElem_cons_zero, List.getElem_cons_succ, List.setIfInBounds_toArray, List.set_cons_zero, List.set_cons_succ]
          refine wpAnyN_take (i := 3) (v := ?v8) rfl (by kernel_rfl) (by kernel_rfl) (by kernel_rfl) (by kernel_rfl) (fun _ _ _ h => h) (by rfl) ?hy8 hS ?rest8
          case hy8 => (intro wy hSy; (try dsimp only at hSy); go_simp; try (with_reducible rfl))
          simp only [Act.put, List.getElem_toArray, List.getElem_cons_zero, List.getElem_cons_succ, List.setIfInBounds_toArray, List.set_cons_zero, List.set_cons_succ]
          refine wpAnyN_take (i := 4) (v := ?v9) rfl (by kernel_rfl) (by kernel_rfl) (by kernel_rfl) (by kernel_rfl) (fun _ _ _ h => h) (by rfl) ?hy9 hS ?rest9
          case hy9 => (intro wy hSy; (try dsimp only at hSy); go_simp; try (with_reducible rfl))
          simp only [Act.put, List.getElem_toArray, List.getElem_cons_zero, List.getElem_cons_succ, List.setIfInBounds_toArray, List.set_cons_zero, List.set_cons_succ]
          refine wpAnyN_take (i := 5) (v := ?v10) rfl (by kernel_rfl) (by kernel_rfl) (by kernel_rfl) (by kernel_rfl) (fun _ _ _ h => h) (by rfl) ?hy10 hS ?rest10
          case hy10 => (intro wy hSy; (try dsimp only at hSy); go_simp; try (with_reducible rfl))
          simp only [Act.put, List.getElem_toArray, List.getElem_cons_zero, List.getElem_cons_succ, List.setIfInBounds_toArray, List.set_cons_zero, List.set_cons_succ]
          refine wpAnyN_take (i := 6) (v := ?v11) rfl (by kernel_rfl) (by kernel_rfl) (by kernel_rfl) (by kernel_rfl) (fun _ _ _ h => h) (by rfl) ?hy11 hS ?rest11
          case hy11 => (intro wy hSy; (try dsimp only at hSy); go_simp; try (with_reducible rfl))
          simp only [Act.put, List.getElem_toArray, List.getElem_cons_zero, List.getElem_cons_succ, List.setIfInBounds_toArray, List.set_cons_zero, List.set_cons_succ]
          refine wpAnyN_take (i := 9) (v := ?v12) rfl (by kernel_rfl) (by kernel_rfl) (by kernel_rfl) (by kernel_rfl) (fun _ _ _ h => h) (by rfl) ?hy12 hS ?rest12
          case hy12 => (intro wy hSy; (try dsimp only at hSy); go_simp; try (with_reducible rfl))
          simp only [Act.put, List.getElem_toArray, List.getElem_cons_zero, List.getElem_cons_succ, List.setIfInBounds_toArray, List.set_cons_zero, List.set_cons_succ]
          refine wpAnyN_take (i := 10) (v := ?v13) rfl (by kernel_rfl) (by kernel_rfl) (by kernel_rfl) (by kernel_rfl) (fun _ _ _ h => h) (by rfl) ?hy13 hS ?rest13
          case hy13 => (intro wy hSy; (try dsimp only at hSy); go_simp; try (with_reducible rfl))
          simp only [Act.put, List.getElem_toArray, List.getElem_cons_zero, List.getElem_cons_succ, List.setIfInBounds_toArray, List.set_cons_zero, List.set_cons_succ]
          refine wpAnyN_take (i := 11) (v := ?v14) rfl (by kernel_rfl) (by kernel_rfl) (by kernel_rfl) (by kernel_rfl) (fun _ _ _ h => h) (by rfl) ?hy14 hS ?rest14
          case hy14 => (intro wy hSy; (try dsimp only at hSy); go_simp; try (with_reducible rfl))
          simp only [Act.put, List.getElem_toArray, List.getElem_cons_zero, List.getElem_cons_succ, List.setIfInBounds_toArray, List.set_cons_zero, List.set_cons_succ]
          refine wpAnyN_take (i := 12) (v := ?v15) rfl (by kernel_rfl) (by kernel_rfl) (by kernel_rfl) (by kernel_rfl) (fun _ _ _ h => h) (by rfl) ?hy15 hS ?rest15
          case hy15 => (intro wy hSy; (try dsimp only at hSy); go_simp; try (with_reducible rfl))
          simp only [Act.put, List.getElem_toArray, List.getElem_cons_zero, List.getElem_cons_succ, List.setIfInBounds_toArray, List.set_cons_zero, List.set_cons_succ]
          refine wpAnyN_one (i := 1) (by kernel_rfl) rfl (fun K hK => ?_)
          refine step_seqCopy Tryd.rowIns (by rfl) _ _ (by rfl) (by rfl) out oa oc (by simp [Act.eval]) (hAt4.keeps (Keeps.below hBd)) (by omega) (by omega) ?_
          rintro va2 vc2 wd1 hC hbn
          have hC1 := hC.le hBd.size
          have hB1 := hBd.trans (hbn.mono hBd.size)
          clear hC hbn hBd
          refine hK.out _ _ (fun _ => hSof _ hB1) ?_
          clear hK
          replace hS := hSof _ hB1
          try simp only [Act.put, List.getElem_toArray, List.getElem_cons_zero, List.getElem_cons_succ, List.setIfInBounds_toArray, List.set_cons_zero, List.set_cons_succ]
          refine wpAnyN_one (i := 7) (by kernel_rfl) rfl (fun K hK => ?_)
          simp only [List.getElem_toArray, List.getElem_cons_zero, List.getElem_cons_succ]
          go_simp
          refine (picked_any r.b 6 _ f2.1 f2.2 (by omega) (by omega)).mono ?_
          rintro e w' ⟨rfl, rfl⟩
          refine hK.out _ _ (fun _ => hSof _ hB1) ?_
          clear hK
          replace hS := hSof _ hB1
          try simp only [Act.put, List.getElem_toArray, List.getElem_cons_zero, List.getElem_cons_succ, List.setIfInBounds_toArray, List.set_cons_zero, List.set_cons_succ]
          refine wpAnyN_take (i := 8) (v := ?v16) rfl (by kernel_rfl) (by kernel_rfl) (by kernel_rfl) (by kernel_rfl) (fun _ _ _ h => h) (by rfl) ?hy16 hS ?rest16
          case hy16 => (intro wy hSy; (try dsimp only at hSy); go_simp; try (with_reducible rfl))
          simp only [Act.put, List.getElem_toArray, List.getElem_cons_zero, List.getElem_cons_succ, List.setIfInBounds_toArray, List.set_cons_zero, List.set_cons_succ]
          refine wpAnyN_one (i := 13) (by kernel_rfl) rfl (fun K hK => ?_)
          simp only [List.getElem_toArray, List.getElem_cons_zero, List.getElem_cons_succ]
          go_simp
          refine (instr_any r _ f0 f1 f2 f3).mono ?_
          rintro e wd2 ⟨rfl, hbn⟩
          have hC2 := hC1.below hbn
          have hB2 := hB1.trans (hbn.mono hB1.size)
          clear hC1 hbn hB1
          refine hK.out _ _ (fun _ => hSof _ hB2) ?_
          clear hK
          replace hS := hSof _ hB2
          try simp only [Act.put, List.getElem_toArray, List.getElem_cons_zero, List.getElem_cons_succ, List.setIfInBounds_toArray, List.set_cons_zero, List.set_cons_succ]
          rw [← HX.out]
          refine wpAnyN_one (i := 14) (by kernel_rfl) rfl (fun K hK => ?_)
          simp only [List.getElem_toArray, List.getElem_cons_zero, List.getElem_cons_succ]
          go_simp
          have hD3 := seqIns_new2 wd2 ⟨5, pick r.b 6, 0, 2⟩ X 40 wd2.heap.size rfl
          have hbn := below_box wd2 (Obj.cells #[.int .i64 5, .int .i64 (pick r.b 6), .int .i64 0, .int .i64 2, .int .i64 X.op, .int .i64 X.a, .int .i64 X.b, .int .i64 X.n] 40)
          generalize wd2.alloc (Obj.cells #[.int .i64 5, .int .i64 (pick r.b 6), .int .i64 0, .int .i64 2, .int .i64 X.op, .int .i64 X.a, .int .i64 X.b, .int .i64 X.n] 40) = wd3 at hD3 hbn ⊢
          have hC3 := hC2.below hbn
          have hB3 := hB2.trans (hbn.mono hB2.size)
          clear hC2 hbn hB2
          generalize wd2.heap.size = GB2 at hD3 ⊢
          refine hK.out _ _ (fun _ => hSof _ hB3) ?_
          clear hK
          replace hS := hSof _ hB3
          try simp only [Act.put, List.getElem_toArray, List.getElem_cons_zero, List.getElem_cons_succ, List.setIfInBounds_toArray, List.set_cons_zero, List.set_cons_succ]
          refine wpAnyN_one (i := 15) (by kernel_rfl) rfl (fun K hK => ?_)
          refine step_seq Tryd.rowIns (by rfl) _ _ (by rfl) (v := .slice va2 out.length vc2) (by rfl) hC3 hB3.size [⟨5, pick r.b 6, 0, 2⟩, X] (some ⟨GB2, 0, none⟩) 2 (by rfl) hD3 (by simp) (by simp; omega) (by simp; omega) ?_
          rintro g7 cap7 wd4 hO6 _ hbn _
          have hB6 := hB3.trans hbn
          clear hC3 hD3 hbn hB3
          refine hK.out _ _ (fun _ => hSof _ hB6) ?_
          clear hK
          replace hS := hSof _ hB6
          try simp only [Act.put, List.getElem_toArray, List.getElem_cons_zero, List.getElem_cons_succ, List.setIfInBounds_toArray, List.set_cons_zero, List.set_cons_succ]
          refine wpAnyN_one (i := 16) (by kernel_rfl) rfl (fun K hK => ?_)
          simp only [List.getElem_toArray, List.getElem_cons_zero, List.getElem_cons_succ]
          go_simp
          refine hK.out _ _ (fun h => absurd h (by decide)) ?_
          clear hK
          refine wpAnyN_done (by kernel_rfl) ?_ _
          refine NoPanic.normal ?_
          try simp only [Act.put, List.getElem_toArray, List.getElem_cons_zero, List.getElem_cons_succ, List.setIfInBounds_toArray, List.set_cons_zero, List.set_cons_succ]
          have hT7 := hT4.keeps (Keeps.below hB6)
          have hO7 := hO6.le HB4.out.size
          have hB7 := HB4.out.trans (hB6.mono HB4.out.size)
          clear hS hSof hO6 hB6 hT4 hB4 HB4 hO4 hAt4
          go_wp2_with fail
          have eN : out.length + 2 = (nextK out r).length := by rw [HN.out]; simp
          rw [eN]
          have hOn : SeqOwn fIns 4 40 wd4 W.heap.size (.slice (some ⟨g7, 0, none⟩) (nextK out r).length cap7) (nextK out r) := by rw [HN.out]; simpa using hO7
          have hnl := nextK_len out r
          have hnb := nextK_bd hbd r
          have HST : Aside (stepB most out r = if rightS (nextK out r) = true then nextK out r else out) := by show stepB most out r = _; unfold stepB; rw [if_pos hmo]
          clear hO7 HN eN
          generalize nextK out r = nx at *
          refine (right_any nx _ _ _ (hOn.at Tryd.rowIns.len) (by omega) hnb hT7).mono ?_
          rintro e w5 ⟨rfl, hb5⟩
          have hbA := (hb.trans (hB7.mono hb.size)).trans (hb5.mono (Nat.le_trans hb.size hB7.size))
          cases hq : rightS nx with
          | true =>
            go_wp2
            go_roundg (l.length - (i + 1))
            case measure => go_light; omega
            case rel =>
              go_light
              refine ⟨i + 1, nx, _, _, by omega, rfl, rfl, by simp, (hOn.below hb5).le hw8, hbA, by omega, hnb, ?_⟩
              show codeS most l = _
              rw [hA.out, drop_cons hr, List.foldl_cons, HST.out, if_pos hq]
          | false =>
            go_wp2
            go_roundg (l.length - (i + 1))
            case measure => go_light; omega
            case rel =>
              go_light
              refine ⟨i + 1, out, oa, oc, by omega, rfl, rfl, by simp, (hO.below hB7).below hb5, hbA, by omega, hbd, ?_⟩
              show codeS most l = _
              rw [hA.out, drop_cons hr, List.foldl_cons, HST.out, if_neg (by simp [hq])]
        · have HN : Aside (nextK out r = out ++ [X]) := by show nextK out r = _; unfold nextK; rw [if_neg hz, HX.out]
          go_wp2_with fail
          rw [hwr]
          refine (picked_any (r.k.tdiv 26) 5 _ ft.1 ft.2 (by omega) (by omega)).mono ?_
          rintro e w' ⟨rfl, rfl⟩
          go_wp2_with fail
          have eN : out.length + 1 = (nextK out r).length := by rw [HN.out]; simp
          rw [eN]
          have hOn : SeqOwn fIns 4 40 wc4 W.heap.size (.slice (some ⟨g, 0, none⟩) (nextK out r).length cap) (nextK out r) := by rw [HN.out]; simpa using hO4
          have hnl := nextK_len out r
          have hnb := nextK_bd hbd r
          have HST : Aside (stepB most out r = if rightS (nextK out r) = true then nextK out r else out) := by show stepB most out r = _; unfold stepB; rw [if_pos hmo]
          clear hO4 HN eN
          generalize nextK out r = nx at *
          refine (right_any nx _ _ _ (hOn.at Tryd.rowIns.len) (by omega) hnb hT4).mono ?_
          rintro e w5 ⟨rfl, hb5⟩
          have hbA := (hb.trans (hB4.mono hb.size)).trans (hb5.mono (Nat.le_trans hb.size hB4.size))
          cases hq : rightS nx with
          | true =>
            go_wp2
            go_roundg (l.length - (i + 1))
            case measure => go_light; omega
            case rel =>
              go_light
              refine ⟨i + 1, nx, _, _, by omega, rfl, rfl, by simp, (hOn.below hb5).le hw8, hbA, by omega, hnb, ?_⟩
              show codeS most l = _
              rw [hA.out, drop_cons hr, List.foldl_cons, HST.out, if_pos hq]
          | false =>
            go_wp2
            go_roundg (l.length - (i + 1))
            case measure => go_light; omega
            case rel =>
              go_light
              refine ⟨i + 1, out, oa, oc, by omega, rfl, rfl, by simp, (hO.below hB4).below hb5, hbA, by omega, hbd, ?_⟩
              show codeS most l = _
              rw [hA.out, drop_cons hr, List.foldl_cons, HST.out, if_neg (by simp [hq])]
      · have hmoz : ¬ (out.length : Int) < (most : Int) := by omega
        have HRR : Aside (R = out ++ [doneI]) := by show R = _; rw [HR.out, hA.out, stepB_full hmo]
        clear hA HR hix
        go_wp2_with (first | (at_builtin; refine wpList_seq Tryd.rowIns rfl _ _ (by rfl) (v := .slice oa out.length oc) (by simp [Act.eval]) (hO.below (below_box wr (Obj.cells #[.int .i64 0, .int .i64 0, .int .i64 0, .int .i64 0] 40))) (by have := hb.size; simp; omega) [doneI] (some ⟨wr.heap.size, 0, none⟩) 1 (by simp [Act.eval]) (seqIns_new wr doneI 40 wr.heap.size rfl) (by simp) (by simp; omega) (by simp; omega) ?_; rintro g cap w3 hO3 _ hb3 _) | fail)
        have hbF := (hb.trans ((below_box wr (Obj.cells #[.int .i64 0, .int .i64 0, .int .i64 0, .int .i64 0] 40)).mono hb.size)).trans hb3
        exact bodyPost_ret (v := .slice (some ⟨g, 0, none⟩) (out.length + 1) cap) (by simp [results, Tryd.results26, go_sem]) rfl ⟨g, cap, by rw [HRR.out]; simp, hbF, by rw [HRR.out]; simpa using hO3⟩

end Go.Proofs.YtahcgnmhhgcfmaaDoor
