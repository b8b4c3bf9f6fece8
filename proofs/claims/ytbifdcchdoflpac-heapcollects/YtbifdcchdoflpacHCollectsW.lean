/- The walk of the law HeapCollects. -/
import Derived.Test.YtbifdcchdoflpacHColOf2
import Derived.Test.YtbifdcchdoflpacHSame
import Derived.Test.YtbifdcchdoflpacHLaws2
import Derived.WalkKit
import Derived.WalkSpells
import Derived.WalkLawsBesides
import Derived.Deep.LoopGhost
import Derived.Deep.Light
import Derived.Deep.DeepCutAuto
namespace Go.Proofs.Ytbifdcchdoflpac
open Go.RowKit

set_option maxHeartbeats 1600000 in
theorem heapCollects_walk (M : Int) (ao : Option Addr) (cap : Nat) (l : List Ob) (ra : Option Addr) (rc : Nat) (roots : List Vl) (w : World) (h : ObsAt w ao l) (hr : ValsAt w ra roots) (hrl : 16 * roots.length ≤ 140737488351232) :
    Calls Try.prog 3 #[.agg #[.int .i64 M, .slice ao l.length cap], .slice ra roots.length rc] w fun e w' => e = .returned (.bool true) ∧ Below w.heap.size w w' := by
  go_enter Try.func3, Try.ntmps3
  go_wp2_with fail
  have HB := boxes1 w (Obj.cells #[.int .i64 M, .slice ao l.length cap] 24)
  generalize w.alloc (Obj.cells #[.int .i64 M, .slice ao l.length cap] 24) = W at *
  obtain ⟨N0, k1, b1, hs⟩ := HB
  refine (heapCopy_any M ao cap l W (h.keeps k1)).mono ?_
  rintro e w1 ⟨kv, krows, rfl, hk, hKO, hb⟩
  obtain ⟨ka, kc, rfl⟩ := hKO.form
  have hK1 := hKO.obs.2
  rw [hk] at hK1
  have hkl : krows.length = l.length := by rw [← hk, List.length_map]
  rw [hkl]
  replace N0 := (hb.block _ (by omega)).trans N0
  replace b1 := b1.trans (hb.mono (by omega))
  replace k1 := k1.trans (Keeps.below hb)
  replace hs : w.heap.size + 1 ≤ w1.heap.size := by have := hb.size; omega
  clear hKO hk hb
  clear W
  have r0 : (w1.alloc (Obj.cells #[.int .i64 M, .slice ka l.length kc] 24)).cell? ⟨w1.heap.size, 0, none⟩ = some (.int .i64 M) := by simp
  have r1 : (w1.alloc (Obj.cells #[.int .i64 M, .slice ka l.length kc] 24)).cell? ⟨w1.heap.size, 1, none⟩ = some (.slice ka l.length kc) := by simp
  go_wp2_with fail
  obtain ⟨n1, k2, b2, hs2⟩ := boxes1 w1 (Obj.cells #[.int .i64 M, .slice ka l.length kc] 24)
  generalize hX : w1.heap.size = X at *
  generalize w1.alloc (Obj.cells #[.int .i64 M, .slice ka l.length kc] 24) = W at *
  have hSof : ∀ wy, Below W.heap.size W wy → wy.cell? ⟨X, 0, none⟩ = some (.int .i64 M) ∧ wy.cell? ⟨X, 1, none⟩ = some (.slice ka l.length kc) := fun wy hy => ⟨Keeps.below hy _ _ r0, Keeps.below hy _ _ r1⟩
  obtain ⟨r, hr⟩ : ∃ r, collectS M l roots = r := ⟨_, rfl⟩
  have HR : Aside (collectS M l roots = r) := hr
  clear hr
  have hCo : ∀ wy va vc, Below W.heap.size W wy → ValsAt wy va roots → Calls Try.prog 10 #[.agg #[.int .i64 M, .slice ka l.length kc], .slice va roots.length vc] wy fun e w' =>
      ∃ ga gc va vc, e = .returned (.tuple #[.agg #[.int .i64 r.1.1, .slice ga r.1.2.length gc], .slice va r.2.1.length vc, .int .i64 r.2.2]) ∧ Below wy.heap.size wy w' ∧
        ValsOwn w' wy.heap.size (.slice va r.2.1.length vc) r.2.1 ∧ ∃ rows, rows.map (·.2) = r.1.2 ∧ HeapOwn w' wy.heap.size (.slice ga r.1.2.length gc) rows := fun wy va vc hy hv => by
    have := collect_any M ka kc l va vc roots wy ((hK1.keeps k2).keeps (Keeps.below hy)) hv hrl
    rw [HR.out] at this
    exact this
  go_cut [6, 7, 8] (fun s6 s7 s8 wx => ∃ (G : Nat) (ga : Option Addr) (gc : Nat) (va : Option Addr) (vc : Nat), s6 = .pointer (some ⟨G, 0, none⟩) ∧ s7 = .slice va r.2.1.length vc ∧ s8 = .int .i64 r.2.2 ∧ Below W.heap.size W wx ∧ W.heap.size ≤ G ∧
    wx.heap[G]? = some (.cells #[.int .i64 r.1.1, .slice ga r.1.2.length gc] 24 (0, 0)) ∧ ObsAt wx ga r.1.2 ∧ ValsAt wx va r.2.1)
  case first =>
    have hB : Below W.heap.size W W.drew := (Below.refl _ _).drew
    refine wp_region_need (fun j => true) (fun wy => wy.cell? ⟨X, 0, none⟩ = some (.int .i64 M) ∧ wy.cell? ⟨X, 1, none⟩ = some (.slice ka l.length kc)) (by kernel_rfl) (hSof _ hB) (fun hS => ?_)
    generalize W.drew = wc0 at hS hB ⊢
    refine wpAnyN_take (i := 0) (v := ?v1) rfl (by kernel_rfl) (by kernel_rfl) (by kernel_rfl) (by kernel_rfl) (fun _ _ _ h => h) (by rfl) ?hy1 hS ?rest1
    case hy1 => (intro wy hSy; (try dsimp only at hSy); go_simp; try (with_reducible rfl))
    simp only [Act.put, List.getElem_toArray, List.getElem_cons_zero, List.setIfInBounds_toArray, List.set_cons_zero, List.set_cons_succ]
    refine wpAnyN_take (i := 1) (v := ?v2) rfl (by kernel_rfl) (by kernel_rfl) (by kernel_rfl) (by kernel_rfl) (fun _ _ _ h => h) (by rfl) ?hy2 hS ?rest2
    case hy2 => (intro wy hSy; (try dsimp only at hSy); go_simp; try (with_reducible rfl))
    simp only [Act.put, List.getElem_toArray, List.getElem_cons_zero, List.getElem_cons_succ, List.setIfInBounds_toArray, List.set_cons_zero, List.set_cons_succ]
    have hRW : ∀ wy, Below W.heap.size W wy → ValsAt wy ra roots := fun wy hy => ((hr.keeps k1).keeps k2).keeps (Keeps.below hy)
    refine wpAnyN_two (i := 2) (j := 8) (by kernel_rfl) rfl rfl (fun K hK => ?_) (fun K hK => ?_)
    · refine step_copyVals (by rfl) _ _ (by rfl) (by rfl) roots ra rc (by rfl) (hRW _ hB) (by omega) ?_
      rintro va2 vc2 wc1 hvo hbn
      have hv2 := hvo.vals.2
      clear hvo
      have hBn : Below W.heap.size W wc1 := hB.trans (hbn.mono hB.size)
      refine hK.out _ _ (fun _ => hSof _ hBn) ?_
      replace hS := hSof _ hBn
      clear hK
      replace hB := hBn
      clear hBn hbn
      try simp only [Act.put, List.getElem_toArray, List.getElem_cons_zero, List.getElem_cons_succ, List.setIfInBounds_toArray, List.set_cons_zero, List.set_cons_succ]
      refine wpAnyN_two (i := 3) (j := 8) (by kernel_rfl) rfl rfl (fun K hK => ?_) (fun K hK => ?_)
      · simp only [List.getElem_toArray, List.getElem_cons_zero, List.getElem_cons_succ]
        go_simp
        refine (hCo _ _ _ hB hv2).mono ?_
        rintro e wc2 ⟨ga, gc, va, vc, rfl, hbn, hvr, rows, hrows, hO⟩
        have hBn : Below W.heap.size W wc2 := hB.trans (hbn.mono hB.size)
        refine hK.out _ _ (fun _ => hSof _ hBn) ?_
        replace hS := hSof _ hBn
        clear hK
        replace hv2 := hv2.keeps (Keeps.below hbn)
        replace hB := hBn
        clear hBn hbn
        try simp only [Act.put, List.getElem_toArray, List.getElem_cons_zero, List.getElem_cons_succ, List.setIfInBounds_toArray, List.set_cons_zero, List.set_cons_succ]
        refine wpAnyN_take (i := 4) (v := ?v3) rfl (by kernel_rfl) (by kernel_rfl) (by kernel_rfl) (by kernel_rfl) (fun _ _ _ h => h) (by rfl) ?hy3 hS ?rest3
        case hy3 => (intro wy hSy; (try dsimp only at hSy); go_simp; try (with_reducible rfl))
        simp only [Act.put, List.getElem_toArray, List.getElem_cons_zero, List.getElem_cons_succ, List.setIfInBounds_toArray, List.set_cons_zero, List.set_cons_succ]
        refine wpAnyN_take (i := 5) (v := ?v4) rfl (by kernel_rfl) (by kernel_rfl) (by kernel_rfl) (by kernel_rfl) (fun _ _ _ h => h) (by rfl) ?hy4 hS ?rest4
        case hy4 => (intro wy hSy; (try dsimp only at hSy); go_simp; try (with_reducible rfl))
        simp only [Act.put, List.getElem_toArray, List.getElem_cons_zero, List.getElem_cons_succ, List.setIfInBounds_toArray, List.set_cons_zero, List.set_cons_succ]
        refine wpAnyN_take (i := 6) (v := ?v5) rfl (by kernel_rfl) (by kernel_rfl) (by kernel_rfl) (by kernel_rfl) (fun _ _ _ h => h) (by rfl) ?hy5 hS ?rest5
        case hy5 => (intro wy hSy; (try dsimp only at hSy); go_simp; try (with_reducible rfl))
        simp only [Act.put, List.getElem_toArray, List.getElem_cons_zero, List.getElem_cons_succ, List.setIfInBounds_toArray, List.set_cons_zero, List.set_cons_succ]
        refine wpAnyN_take (i := 7) (v := ?v6) rfl (by kernel_rfl) (by kernel_rfl) (by kernel_rfl) (by kernel_rfl) (fun _ _ _ h => h) (by rfl) ?hy6 hS ?rest6
        case hy6 => (intro wy hSy; (try dsimp only at hSy); go_simp; try (with_reducible rfl))
        simp only [Act.put, List.getElem_toArray, List.getElem_cons_zero, List.getElem_cons_succ, List.setIfInBounds_toArray, List.set_cons_zero, List.set_cons_succ]
        refine wpAnyN_one (i := 8) (by kernel_rfl) rfl (fun K hK => ?_)
        simp only [List.getElem_toArray, List.getElem_cons_zero, List.getElem_cons_succ]
        go_simp
        have hbn := below_box wc2 (Obj.cells #[.int .i64 0, .slice none 0 0] 24)
        have m8 := Deep.blk_alloc_new wc2 (Obj.cells #[.int .i64 0, .slice none 0 0] 24)
        have x8 : W.heap.size ≤ wc2.heap.size := hB.size
        generalize wc2.alloc (Obj.cells #[.int .i64 0, .slice none 0 0] 24) = wc3 at hbn m8 ⊢
        obtain ⟨G, hG⟩ : ∃ G, G = wc2.heap.size := ⟨_, rfl⟩
        rw [← hG] at m8 x8 ⊢
        clear hG
        have hBn : Below W.heap.size W wc3 := hB.trans (hbn.mono hB.size)
        refine hK.out _ _ (fun _ => hSof _ hBn) ?_
        replace hS := hSof _ hBn
        clear hK
        replace hv2 := hv2.keeps (Keeps.below hbn)
        replace hvr := ownsRow_below hvr hbn
        replace hO := hO.below hbn
        replace hB := hBn
        clear hBn hbn
        try simp only [Act.put, List.getElem_toArray, List.getElem_cons_zero, List.getElem_cons_succ, List.setIfInBounds_toArray, List.set_cons_zero, List.set_cons_succ]
        have c1 := cell_blk m8 0
        have c2 := cell_blk m8 1
        have c3 : ∀ j, wc3.frozen? ⟨G, j, none⟩ = false := fun j => fz_blk m8 j
        simp at c1 c2
        refine wpAnyN_one (i := 9) (by kernel_rfl) rfl (fun K hK => ?_)
        simp only [List.getElem_toArray, List.getElem_cons_zero, List.getElem_cons_succ]
        go_simp
        have hB2 : Below W.heap.size W ((wc3.setCell ⟨G, 0, none⟩ (.int .i64 r.1.1)).setCell ⟨G, 1, none⟩ (.slice ga r.1.2.length gc)) := (hB.setCell x8 _).setCell x8 _
        have m9 := setCell_blk (setCell_blk m8 0 (.int .i64 r.1.1)) 1 (.slice ga r.1.2.length gc)
        have hv9 := valsSet49 (valsSet49 hvr m8 (by decide) 0 (.int .i64 r.1.1)) (setCell_blk m8 0 (.int .i64 r.1.1)) (by decide) 1 (.slice ga r.1.2.length gc)
        have hO9 := ownSet49 (ownSet49 hO m8 (by decide) 0 (.int .i64 r.1.1)) (setCell_blk m8 0 (.int .i64 r.1.1)) (by decide) 1 (.slice ga r.1.2.length gc)
        refine hK.out _ _ (fun _ => hSof _ hB2) ?_
        replace hS := hSof _ hB2
        clear hK c1 c2 c3 m8 hO hvr hB
        generalize (wc3.setCell ⟨G, 0, none⟩ (.int .i64 r.1.1)).setCell ⟨G, 1, none⟩ (.slice ga r.1.2.length gc) = wf at *
        refine wpAnyN_take (i := 10) (v := ?v7) rfl (by kernel_rfl) (by kernel_rfl) (by kernel_rfl) (by kernel_rfl) (fun _ _ _ h => h) (by rfl) ?hy7 hS ?rest7
        case hy7 => (intro wy hSy; (try dsimp only at hSy); go_simp; try (with_reducible rfl))
        simp only [Act.put, List.getElem_toArray, List.getElem_cons_zero, List.getElem_cons_succ, List.setIfInBounds_toArray, List.set_cons_zero, List.set_cons_succ]
        refine wpAnyN_take (i := 11) (v := ?v8) rfl (by kernel_rfl) (by kernel_rfl) (by kernel_rfl) (by kernel_rfl) (fun _ _ _ h => h) (by rfl) ?hy8 hS ?rest8
        case hy8 => (intro wy hSy; (try dsimp only at hSy); go_simp; try (with_reducible rfl))
        simp only [Act.put, List.getElem_toArray, List.getElem_cons_zero, List.getElem_cons_succ, List.setIfInBounds_toArray, List.set_cons_zero, List.set_cons_succ]
        refine wpAnyN_done (by kernel_rfl) ?_ _
        refine NoPanic.normal ?_
        have hA9 := hO9.obs.2
        rw [hrows] at hA9
        have hw9 := hv9.vals.2
        simp at m9
        clear hO9 hv9
        go_wp2_with fail
        go_meet
        case rel => exact ⟨G, ga, gc, va, vc, rfl, rfl, rfl, hB2, x8, m9, hA9, hw9⟩
      · simp only [List.getElem_toArray, List.getElem_cons_zero, List.getElem_cons_succ]
        go_simp
        have hbn := below_box wc1 (Obj.cells #[.int .i64 0, .slice none 0 0] 24)
        have m8 := Deep.blk_alloc_new wc1 (Obj.cells #[.int .i64 0, .slice none 0 0] 24)
        have x8 : W.heap.size ≤ wc1.heap.size := hB.size
        generalize wc1.alloc (Obj.cells #[.int .i64 0, .slice none 0 0] 24) = wc2 at hbn m8 ⊢
        obtain ⟨G, hG⟩ : ∃ G, G = wc1.heap.size := ⟨_, rfl⟩
        rw [← hG] at m8 x8 ⊢
        clear hG
        have hBn : Below W.heap.size W wc2 := hB.trans (hbn.mono hB.size)
        refine hK.out _ _ (fun _ => hSof _ hBn) ?_
        replace hS := hSof _ hBn
        clear hK
        replace hv2 := hv2.keeps (Keeps.below hbn)
        replace hB := hBn
        clear hBn hbn
        try simp only [Act.put, List.getElem_toArray, List.getElem_cons_zero, List.getElem_cons_succ, List.setIfInBounds_toArray, List.set_cons_zero, List.set_cons_succ]
        refine wpAnyN_one (i := 3) (by kernel_rfl) rfl (fun K hK => ?_)
        simp only [List.getElem_toArray, List.getElem_cons_zero, List.getElem_cons_succ]
        go_simp
        refine (hCo _ _ _ hB hv2).mono ?_
        rintro e wc3 ⟨ga, gc, va, vc, rfl, hbn, hvr, rows, hrows, hO⟩
        have hBn : Below W.heap.size W wc3 := hB.trans (hbn.mono hB.size)
        refine hK.out _ _ (fun _ => hSof _ hBn) ?_
        replace hS := hSof _ hBn
        clear hK
        replace hv2 := hv2.keeps (Keeps.below hbn)
        replace m8 := (hbn.block _ (Array.getElem?_eq_some_iff.1 m8).1).trans m8
        replace hB := hBn
        clear hBn hbn
        try simp only [Act.put, List.getElem_toArray, List.getElem_cons_zero, List.getElem_cons_succ, List.setIfInBounds_toArray, List.set_cons_zero, List.set_cons_succ]
        refine wpAnyN_take (i := 4) (v := ?v9) rfl (by kernel_rfl) (by kernel_rfl) (by kernel_rfl) (by kernel_rfl) (fun _ _ _ h => h) (by rfl) ?hy9 hS ?rest9
        case hy9 => (intro wy hSy; (try dsimp only at hSy); go_simp; try (with_reducible rfl))
        simp only [Act.put, List.getElem_toArray, List.getElem_cons_zero, List.getElem_cons_succ, List.setIfInBounds_toArray, List.set_cons_zero, List.set_cons_succ]
        refine wpAnyN_take (i := 5) (v := ?v10) rfl (by kernel_rfl) (by kernel_rfl) (by kernel_rfl) (by kernel_rfl) (fun _ _ _ h => h) (by rfl) ?hy10 hS ?rest10
        case hy10 => (intro wy hSy; (try dsimp only at hSy); go_simp; try (with_reducible rfl))
        simp only [Act.put, List.getElem_toArray, List.getElem_cons_zero, List.getElem_cons_succ, List.setIfInBounds_toArray, List.set_cons_zero, List.set_cons_succ]
        refine wpAnyN_take (i := 6) (v := ?v11) rfl (by kernel_rfl) (by kernel_rfl) (by kernel_rfl) (by kernel_rfl) (fun _ _ _ h => h) (by rfl) ?hy11 hS ?rest11
        case hy11 => (intro wy hSy; (try dsimp only at hSy); go_simp; try (with_reducible rfl))
        simp only [Act.put, List.getElem_toArray, List.getElem_cons_zero, List.getElem_cons_succ, List.setIfInBounds_toArray, List.set_cons_zero, List.set_cons_succ]
        refine wpAnyN_take (i := 7) (v := ?v12) rfl (by kernel_rfl) (by kernel_rfl) (by kernel_rfl) (by kernel_rfl) (fun _ _ _ h => h) (by rfl) ?hy12 hS ?rest12
        case hy12 => (intro wy hSy; (try dsimp only at hSy); go_simp; try (with_reducible rfl))
        simp only [Act.put, List.getElem_toArray, List.getElem_cons_zero, List.getElem_cons_succ, List.setIfInBounds_toArray, List.set_cons_zero, List.set_cons_succ]
        have c1 := cell_blk m8 0
        have c2 := cell_blk m8 1
        have c3 : ∀ j, wc3.frozen? ⟨G, j, none⟩ = false := fun j => fz_blk m8 j
        simp at c1 c2
        refine wpAnyN_one (i := 9) (by kernel_rfl) rfl (fun K hK => ?_)
        simp only [List.getElem_toArray, List.getElem_cons_zero, List.getElem_cons_succ]
        go_simp
        have hB2 : Below W.heap.size W ((wc3.setCell ⟨G, 0, none⟩ (.int .i64 r.1.1)).setCell ⟨G, 1, none⟩ (.slice ga r.1.2.length gc)) := (hB.setCell x8 _).setCell x8 _
        have m9 := setCell_blk (setCell_blk m8 0 (.int .i64 r.1.1)) 1 (.slice ga r.1.2.length gc)
        have hv9 := valsSet49 (valsSet49 hvr m8 (by decide) 0 (.int .i64 r.1.1)) (setCell_blk m8 0 (.int .i64 r.1.1)) (by decide) 1 (.slice ga r.1.2.length gc)
        have hO9 := ownSet49 (ownSet49 hO m8 (by decide) 0 (.int .i64 r.1.1)) (setCell_blk m8 0 (.int .i64 r.1.1)) (by decide) 1 (.slice ga r.1.2.length gc)
        refine hK.out _ _ (fun _ => hSof _ hB2) ?_
        replace hS := hSof _ hB2
        clear hK c1 c2 c3 m8 hO hvr hB
        generalize (wc3.setCell ⟨G, 0, none⟩ (.int .i64 r.1.1)).setCell ⟨G, 1, none⟩ (.slice ga r.1.2.length gc) = wf at *
        refine wpAnyN_take (i := 10) (v := ?v13) rfl (by kernel_rfl) (by kernel_rfl) (by kernel_rfl) (by kernel_rfl) (fun _ _ _ h => h) (by rfl) ?hy13 hS ?rest13
        case hy13 => (intro wy hSy; (try dsimp only at hSy); go_simp; try (with_reducible rfl))
        simp only [Act.put, List.getElem_toArray, List.getElem_cons_zero, List.getElem_cons_succ, List.setIfInBounds_toArray, List.set_cons_zero, List.set_cons_succ]
        refine wpAnyN_take (i := 11) (v := ?v14) rfl (by kernel_rfl) (by kernel_rfl) (by kernel_rfl) (by kernel_rfl) (fun _ _ _ h => h) (by rfl) ?hy14 hS ?rest14
        case hy14 => (intro wy hSy; (try dsimp only at hSy); go_simp; try (with_reducible rfl))
        simp only [Act.put, List.getElem_toArray, List.getElem_cons_zero, List.getElem_cons_succ, List.setIfInBounds_toArray, List.set_cons_zero, List.set_cons_succ]
        refine wpAnyN_done (by kernel_rfl) ?_ _
        refine NoPanic.normal ?_
        have hA9 := hO9.obs.2
        rw [hrows] at hA9
        have hw9 := hv9.vals.2
        simp at m9
        clear hO9 hv9
        go_wp2_with fail
        go_meet
        case rel => exact ⟨G, ga, gc, va, vc, rfl, rfl, rfl, hB2, x8, m9, hA9, hw9⟩
    · simp only [List.getElem_toArray, List.getElem_cons_zero, List.getElem_cons_succ]
      go_simp
      have hbn := below_box wc0 (Obj.cells #[.int .i64 0, .slice none 0 0] 24)
      have m8 := Deep.blk_alloc_new wc0 (Obj.cells #[.int .i64 0, .slice none 0 0] 24)
      have x8 : W.heap.size ≤ wc0.heap.size := hB.size
      generalize wc0.alloc (Obj.cells #[.int .i64 0, .slice none 0 0] 24) = wc1 at hbn m8 ⊢
      obtain ⟨G, hG⟩ : ∃ G, G = wc0.heap.size := ⟨_, rfl⟩
      rw [← hG] at m8 x8 ⊢
      clear hG
      have hBn : Below W.heap.size W wc1 := hB.trans (hbn.mono hB.size)
      refine hK.out _ _ (fun _ => hSof _ hBn) ?_
      replace hS := hSof _ hBn
      clear hK
      replace hB := hBn
      clear hBn hbn
      try simp only [Act.put, List.getElem_toArray, List.getElem_cons_zero, List.getElem_cons_succ, List.setIfInBounds_toArray, List.set_cons_zero, List.set_cons_succ]
      refine wpAnyN_one (i := 2) (by kernel_rfl) rfl (fun K hK => ?_)
      refine step_copyVals (by rfl) _ _ (by rfl) (by rfl) roots ra rc (by rfl) (hRW _ hB) (by omega) ?_
      rintro va2 vc2 wc2 hvo hbn
      have hv2 := hvo.vals.2
      clear hvo
      have hBn : Below W.heap.size W wc2 := hB.trans (hbn.mono hB.size)
      refine hK.out _ _ (fun _ => hSof _ hBn) ?_
      replace hS := hSof _ hBn
      clear hK
      replace m8 := (hbn.block _ (Array.getElem?_eq_some_iff.1 m8).1).trans m8
      replace hB := hBn
      clear hBn hbn
      try simp only [Act.put, List.getElem_toArray, List.getElem_cons_zero, List.getElem_cons_succ, List.setIfInBounds_toArray, List.set_cons_zero, List.set_cons_succ]
      refine wpAnyN_one (i := 3) (by kernel_rfl) rfl (fun K hK => ?_)
      simp only [List.getElem_toArray, List.getElem_cons_zero, List.getElem_cons_succ]
      go_simp
      refine (hCo _ _ _ hB hv2).mono ?_
      rintro e wc3 ⟨ga, gc, va, vc, rfl, hbn, hvr, rows, hrows, hO⟩
      have hBn : Below W.heap.size W wc3 := hB.trans (hbn.mono hB.size)
      refine hK.out _ _ (fun _ => hSof _ hBn) ?_
      replace hS := hSof _ hBn
      clear hK
      replace m8 := (hbn.block _ (Array.getElem?_eq_some_iff.1 m8).1).trans m8
      replace hv2 := hv2.keeps (Keeps.below hbn)
      replace hB := hBn
      clear hBn hbn
      try simp only [Act.put, List.getElem_toArray, List.getElem_cons_zero, List.getElem_cons_succ, List.setIfInBounds_toArray, List.set_cons_zero, List.set_cons_succ]
      refine wpAnyN_take (i := 4) (v := ?v15) rfl (by kernel_rfl) (by kernel_rfl) (by kernel_rfl) (by kernel_rfl) (fun _ _ _ h => h) (by rfl) ?hy15 hS ?rest15
      case hy15 => (intro wy hSy; (try dsimp only at hSy); go_simp; try (with_reducible rfl))
      simp only [Act.put, List.getElem_toArray, List.getElem_cons_zero, List.getElem_cons_succ, List.setIfInBounds_toArray, List.set_cons_zero, List.set_cons_succ]
      refine wpAnyN_take (i := 5) (v := ?v16) rfl (by kernel_rfl) (by kernel_rfl) (by kernel_rfl) (by kernel_rfl) (fun _ _ _ h => h) (by rfl) ?hy16 hS ?rest16
      case hy16 => (intro wy hSy; (try dsimp only at hSy); go_simp; try (with_reducible rfl))
      simp only [Act.put, List.getElem_toArray, List.getElem_cons_zero, List.getElem_cons_succ, List.setIfInBounds_toArray, List.set_cons_zero, List.set_cons_succ]
      refine wpAnyN_take (i := 6) (v := ?v17) rfl (by kernel_rfl) (by kernel_rfl) (by kernel_rfl) (by kernel_rfl) (fun _ _ _ h => h) (by rfl) ?hy17 hS ?rest17
      case hy17 => (intro wy hSy; (try dsimp only at hSy); go_simp; try (with_reducible rfl))
      simp only [Act.put, List.getElem_toArray, List.getElem_cons_zero, List.getElem_cons_succ, List.setIfInBounds_toArray, List.set_cons_zero, List.set_cons_succ]
      refine wpAnyN_take (i := 7) (v := ?v18) rfl (by kernel_rfl) (by kernel_rfl) (by kernel_rfl) (by kernel_rfl) (fun _ _ _ h => h) (by rfl) ?hy18 hS ?rest18
      case hy18 => (intro wy hSy; (try dsimp only at hSy); go_simp; try (with_reducible rfl))
      simp only [Act.put, List.getElem_toArray, List.getElem_cons_zero, List.getElem_cons_succ, List.setIfInBounds_toArray, List.set_cons_zero, List.set_cons_succ]
      have c1 := cell_blk m8 0
      have c2 := cell_blk m8 1
      have c3 : ∀ j, wc3.frozen? ⟨G, j, none⟩ = false := fun j => fz_blk m8 j
      simp at c1 c2
      refine wpAnyN_one (i := 9) (by kernel_rfl) rfl (fun K hK => ?_)
      simp only [List.getElem_toArray, List.getElem_cons_zero, List.getElem_cons_succ]
      go_simp
      have hB2 : Below W.heap.size W ((wc3.setCell ⟨G, 0, none⟩ (.int .i64 r.1.1)).setCell ⟨G, 1, none⟩ (.slice ga r.1.2.length gc)) := (hB.setCell x8 _).setCell x8 _
      have m9 := setCell_blk (setCell_blk m8 0 (.int .i64 r.1.1)) 1 (.slice ga r.1.2.length gc)
      have hv9 := valsSet49 (valsSet49 hvr m8 (by decide) 0 (.int .i64 r.1.1)) (setCell_blk m8 0 (.int .i64 r.1.1)) (by decide) 1 (.slice ga r.1.2.length gc)
      have hO9 := ownSet49 (ownSet49 hO m8 (by decide) 0 (.int .i64 r.1.1)) (setCell_blk m8 0 (.int .i64 r.1.1)) (by decide) 1 (.slice ga r.1.2.length gc)
      refine hK.out _ _ (fun _ => hSof _ hB2) ?_
      replace hS := hSof _ hB2
      clear hK c1 c2 c3 m8 hO hvr hB
      generalize (wc3.setCell ⟨G, 0, none⟩ (.int .i64 r.1.1)).setCell ⟨G, 1, none⟩ (.slice ga r.1.2.length gc) = wf at *
      refine wpAnyN_take (i := 10) (v := ?v19) rfl (by kernel_rfl) (by kernel_rfl) (by kernel_rfl) (by kernel_rfl) (fun _ _ _ h => h) (by rfl) ?hy19 hS ?rest19
      case hy19 => (intro wy hSy; (try dsimp only at hSy); go_simp; try (with_reducible rfl))
      simp only [Act.put, List.getElem_toArray, List.getElem_cons_zero, List.getElem_cons_succ, List.setIfInBounds_toArray, List.set_cons_zero, List.set_cons_succ]
      refine wpAnyN_take (i := 11) (v := ?v20) rfl (by kernel_rfl) (by kernel_rfl) (by kernel_rfl) (by kernel_rfl) (fun _ _ _ h => h) (by rfl) ?hy20 hS ?rest20
      case hy20 => (intro wy hSy; (try dsimp only at hSy); go_simp; try (with_reducible rfl))
      simp only [Act.put, List.getElem_toArray, List.getElem_cons_zero, List.getElem_cons_succ, List.setIfInBounds_toArray, List.set_cons_zero, List.set_cons_succ]
      refine wpAnyN_done (by kernel_rfl) ?_ _
      refine NoPanic.normal ?_
      have hA9 := hO9.obs.2
      rw [hrows] at hA9
      have hw9 := hv9.vals.2
      simp at m9
      clear hO9 hv9
      go_wp2_with fail
      go_meet
      case rel => exact ⟨G, ga, gc, va, vc, rfl, rfl, rfl, hB2, x8, m9, hA9, hw9⟩
  case rest =>
    obtain ⟨G, ga, gc, va, vc, rfl, rfl, rfl, hbW, hG, m9, hA9, hw9⟩ := hcut
    have hkW := Keeps.below hbW
    have N2 := (hbW.block w.heap.size (by omega)).trans ((b2.block w.heap.size (by omega)).trans N0)
    have p0 : wc.cell? ⟨w.heap.size, 0, none⟩ = some (.int .i64 M) := by simp [World.cell?, N2]
    have p1 : wc.cell? ⟨w.heap.size, 1, none⟩ = some (.slice ao l.length cap) := by simp [World.cell?, N2]
    have g0 : wc.cell? ⟨G, 0, none⟩ = some (.int .i64 r.1.1) := by simp [World.cell?, m9]
    have g1 : wc.cell? ⟨G, 1, none⟩ = some (.slice ga r.1.2.length gc) := by simp [World.cell?, m9]
    have x0 := hkW _ _ r0
    have x1 := hkW _ _ r1
    have b3 : Below w.heap.size w wc := (b1.trans (b2.mono (by omega))).trans (hbW.mono (by omega))
    have hh := h.keeps (k1.trans (k2.trans hkW))
    have hrr := hr.keeps (k1.trans (k2.trans hkW))
    have hKK := hK1.keeps (k2.trans hkW)
    have hof := collectedOf_any M ao cap l ra rc roots wc hh hrr hrl
    rw [HR.out] at hof
    have hsW := hbW.size
    have hrl9 : 16 * r.2.1.length ≤ 140737488351232 := by
      have : r.2.1.length ≤ roots.length := by
        rw [← HR.out]
        unfold collectS
        split
        · simp
        · simp
      omega
    clear N0 N2 m9 r0 r1 hr h hK1 hCo hSof b1 b2 k1 k2 hbW hkW
    go_wp2_with fail
    refine hof.mono ?_
    clear hof
    rintro e w3 ⟨xa, xc, ya, yc, rfl, hb3, hY, rows3, hr3, hO3⟩
    have hX3 := hO3.obs.2
    rw [hr3] at hX3
    have hY3 := hY.vals.2
    have k3 := Keeps.below hb3
    replace b3 := b3.trans (hb3.mono b3.size)
    replace p0 := k3 _ _ p0
    replace p1 := k3 _ _ p1
    replace g0 := k3 _ _ g0
    replace g1 := k3 _ _ g1
    replace x0 := k3 _ _ x0
    replace x1 := k3 _ _ x1
    replace hh := hh.keeps k3
    replace hKK := hKK.keeps k3
    replace hA9 := hA9.keeps k3
    replace hw9 := hw9.keeps k3
    clear hb3 hY hO3 hr3 hrr k3
    have A0 := fun o => Keeps.alloc w3 o _ _ g0
    have A1 := fun o => Keeps.alloc w3 o _ _ g1
    go_wp2_with fail
    clear A0 A1
    have kx := Keeps.alloc w3 (Obj.cells #[.int .i64 r.1.1, .slice xa r.1.2.length xc] 24)
    have b4 : Below w.heap.size w (w3.alloc (Obj.cells #[.int .i64 r.1.1, .slice xa r.1.2.length xc] 24)) := b3.alloc b3.size _
    refine (sameHeap_any r.1.1 ga xa gc xc r.1.2 _ (hA9.keeps kx) (hX3.keeps kx)).mono ?_
    rintro e w4 ⟨rfl, hb4⟩
    have k6 := kx.trans (Keeps.below hb4)
    have b5 : Below w.heap.size w w4 := b4.trans (hb4.mono b4.size)
    replace hw9 := hw9.keeps k6
    replace hY3 := hY3.keeps k6
    have t0 := k6 _ _ p0
    have t1 := k6 _ _ p1
    have t2 := k6 _ _ x0
    have t3 := k6 _ _ x1
    replace hh := hh.keeps k6
    replace hKK := hKK.keeps k6
    clear hb4 b4 b3 kx k6 p0 p1 g0 g1 x0 x1 hA9 hX3
    go_wp2_with fail
    refine (sameValues_any va ya vc yc r.2.1 _ hw9 hY3 hrl9).mono ?_
    rintro e w5 ⟨rfl, n5, rfl⟩
    have k7 := Keeps.drewN w4 n5
    replace b5 := below_drewN b5 n5
    replace t0 := k7 _ _ t0
    replace t1 := k7 _ _ t1
    replace t2 := k7 _ _ t2
    replace t3 := k7 _ _ t3
    replace hh := hh.keeps k7
    replace hKK := hKK.keeps k7
    clear k7
    generalize w4.drewN n5 = w6 at *
    go_wp2_with fail
    refine (sameHeap_any M ka ao kc cap l _ hKK hh).mono ?_
    rintro e w7 ⟨rfl, hb7⟩
    have b7 := b5.trans (hb7.mono b5.size)
    clear hb7 t0 t1 t2 t3 b5
    go_wp2
    go_ret
    exact ⟨rfl, b7⟩

end Go.Proofs.Ytbifdcchdoflpac
