/- The walks of inHeapOrder and Collect. -/
import Derived.Test.YtbifdcchdoflpacHMoveO
import Derived.Test.YtbifdcchdoflpacHSort0
import Derived.Sort.OwnSortedInts
import Derived.WalkKit
import Derived.WalkSpells
import Derived.WalkLawsBesides
import Derived.Deep.LoopGhost
import Derived.Deep.Light
import Derived.BigRegion
namespace Go.Proofs.Ytbifdcchdoflpac
open Go.RowKit Go.Maps

set_option maxHeartbeats 400000 in
theorem inHeapOrder_any (ov : Option Addr) (oc : Nat) (o : List Int) (n base : Nat) (w : World) (hI : IntsOwn w base (.slice ov o.length oc) o) (hok : Ok n o) (hn : n ≤ 60) :
    Calls Try.prog 29 #[.slice ov o.length oc] w fun e w' => e = .returned (.slice ov o.length oc) ∧ IntsOwn w' base (.slice ov o.length oc) (keptOf o n) ∧ Below base w w' := by
  have hlen := hok.len
  have hkl := keptOf_length hok
  rcases hI.2 with ⟨hv, h0⟩ | ⟨g, cap, cur, hv, hb, hg, h1, h2, h3, h4⟩
  · have he : o = [] := List.eq_nil_of_length_eq_zero h0
    subst he
    simp only [List.length_nil, Value.slice.injEq] at hv
    obtain ⟨rfl, -, rfl⟩ := hv
    have hk : keptOf [] n = [] := List.eq_nil_of_length_eq_zero hkl
    rw [hk]
    go_enter Try.func29, Try.ntmps29
    go_wp2_with (go_at_call 50; refine (Try.slices_Sort_int_none _ _).mono ?_; rintro e w' ⟨rfl, rfl⟩)
    go_ret
    exact ⟨rfl, World.ownsRow_nil _ _ _ _, Below.refl _ _⟩
  · simp only [Value.slice.injEq, true_and] at hv
    obtain ⟨rfl, rfl⟩ := hv
    have hsrt := sort_kept hok
    have hlt := (Array.getElem?_eq_some_iff.1 hg).1
    have hH : Go.Sort.Holds (Value.int .i64) w g 0 o.toArray := holds_of_blockI hg (by simpa using h4)
    have hc := Try.slices_Sort_int g 0 oc o w hH hlt (by omega)
    rw [hsrt] at hc
    have HR : Aside (∀ w', (∃ n os, w' = Go.Sort.grow (Go.Sort.putRow (Value.int .i64) (Go.Sort.ahead w n) g 0 ((keptOf o n)).toArray) os) → True) := fun _ _ => trivial
    clear HR hH hsrt
    go_enter Try.func29, Try.ntmps29
    go_wp2_with fail
    refine hc.mono ?_
    rintro e w' ⟨rfl, m, os, rfl⟩
    have hO := ownsRow_sortedI (w := w) (n := m) (os := os) (ss := o) (ts := keptOf o n) hkl hb hg h1 h2 h3
    have hG := grownBy_sortedI (w := w) (g := g) (n := m) (os := os) (keptOf o n).toArray
    generalize Go.Sort.grow (Go.Sort.putRow (Value.int .i64) (Go.Sort.ahead w m) g 0 ((keptOf o n)).toArray) os = w2 at *
    go_wp2
    go_ret
    refine ⟨rfl, ?_, (Below.refl _ _).grown hG (by omega) (fun k hk => by cases hk; exact hb)⟩
    unfold IntsOwn
    rw [hkl]
    exact hO

theorem cell_set2 (w : World) (g i j b o : Nat) (u v : Value) (h : b ≠ g) : ((w.setCell ⟨g, i, none⟩ u).setCell ⟨g, j, none⟩ v).cell? ⟨b, o, none⟩ = w.cell? ⟨b, o, none⟩ := by
  refine World.cell?_of_block (a := ⟨b, o, none⟩) ?_
  rw [Deep.blk_setCell_other _ _ _ _ h, Deep.blk_setCell_other _ _ _ _ h]

theorem collectS_no {M : Int} {l : List Ob} {roots : List Vl} (h : hMay M l roots = false) : collectS M l roots = ((0, []), [], 8) := by simp [collectS, h]
theorem collectS_yes {M : Int} {l : List Ob} {roots : List Vl} (h : hMay M l roots = true) : collectS M l roots = ((M, mvObs l (keptOf (reach l roots) l.length) 0 (keptOf (reach l roots) l.length)), roots.map (mvV (keptOf (reach l roots) l.length) 0), 0) := by simp [collectS, h]

theorem Ok.mono {n m : Nat} {o : List Int} (h : Ok n o) (hm : n ≤ m) : Ok m o := ⟨h.1, fun p hp => ⟨(h.2 p hp).1, by have := (h.2 p hp).2; omega⟩⟩

set_option maxHeartbeats 1600000 in
set_option maxRecDepth 100000 in
theorem collect_any (M : Int) (ao : Option Addr) (cap : Nat) (l : List Ob) (ra : Option Addr) (rc : Nat) (roots : List Vl) (w : World) (h : ObsAt w ao l) (hr : ValsAt w ra roots) (hrl : 16 * roots.length ≤ 140737488351232) :
    Calls Try.prog 10 #[.agg #[.int .i64 M, .slice ao l.length cap], .slice ra roots.length rc] w fun e w' =>
      ∃ ga gc va vc, e = .returned (.tuple #[.agg #[.int .i64 (collectS M l roots).1.1, .slice ga (collectS M l roots).1.2.length gc], .slice va (collectS M l roots).2.1.length vc, .int .i64 (collectS M l roots).2.2]) ∧ Below w.heap.size w w' ∧
        ValsOwn w' w.heap.size (.slice va (collectS M l roots).2.1.length vc) (collectS M l roots).2.1 ∧
        ∃ rows, rows.map (·.2) = (collectS M l roots).1.2 ∧ HeapOwn w' w.heap.size (.slice ga (collectS M l roots).1.2.length gc) rows := by
  cases hq : hMay M l roots with
  | false =>
    rw [collectS_no hq]
    go_enter Try.func10, Try.ntmps10
    go_wp2_with fail
    obtain ⟨_, n1, k1, b1, hs⟩ := boxes2 w (Obj.cells #[.int .i64 M, .slice ao l.length cap] 24) (Obj.cells #[.int .i64 0, .slice none 0 0] 24)
    refine (check_any M ao cap l ra rc roots _ (h.keeps k1) (hr.keeps k1) hrl).mono ?_
    rintro e w1 ⟨rfl, hb⟩
    rw [hq]
    simp only [erS_false]
    have b2 := b1.trans (hb.mono (by omega))
    have m1 := (hb.block _ (by omega)).trans n1
    clear n1 k1 b1 hs hb
    have r1 := cell_blk m1 0
    have r2 := cell_blk m1 1
    have r3 : ∀ j, w1.frozen? ⟨w.heap.size + 1, j, none⟩ = false := fun j => fz_blk m1 j
    simp at r1 r2
    go_wp2
    have p1 := setCell_blk (setCell_blk m1 0 (.int .i64 0)) 1 (.slice none 0 0)
    have p2 := cell_blk p1 0
    have p3 := cell_blk p1 1
    simp at p2 p3
    refine bodyPost_ret (v := .tuple #[.agg #[.int .i64 0, .slice none 0 0], .slice none 0 0, .int .i64 8]) (by simp [results, Try.results10, go_sem, p2, p3]) rfl ⟨none, 0, none, 0, rfl, (b2.setCell (by show w.heap.size ≤ w.heap.size + 1; omega) _).setCell (by show w.heap.size ≤ w.heap.size + 1; omega) _, World.ownsRow_nil _ _ _ _, [], rfl, ⟨World.ownsRow_nil _ _ _ _, fun i p hp => by simp at hp, fun i j p q hp => by simp at hp, by simp⟩⟩
  | true =>
    have hS := collectS_yes hq
    have hl60 := hMay_bound hq
    have hrok := reach_ok hq roots (hMay_roots' hq)
    have hkok : Ok l.length (keptOf (reach l roots) l.length) := keptOf_ok
    have hkl := keptOf_length hrok
    obtain ⟨kp, hkp⟩ : ∃ kp, kp = keptOf (reach l roots) l.length := ⟨_, rfl⟩
    have hld1 : Leads kp roots := by rw [hkp]; exact (leads_roots (l := l)).kept hrok
    have hld2 : ∀ p ∈ kp, Leads kp (obAt l p).fs := fun p hp => by
      rw [hkp] at hp ⊢
      exact (leads_fields hq (mem_keptOf.1 hp).2).kept hrok
    rw [hS]
    rw [← hkp] at hkok hkl ⊢
    have HKP : Aside (kp = keptOf (reach l roots) l.length) := hkp
    have HKL : Aside (kp.length = (reach l roots).length) := hkl
    clear hkp hS hkl
    have hkp60 := hkok.len
    go_enter Try.func10, Try.ntmps10
    go_wp2_with fail
    obtain ⟨n0, n1, k1, b1, hs⟩ := boxes2 w (Obj.cells #[.int .i64 M, .slice ao l.length cap] 24) (Obj.cells #[.int .i64 0, .slice none 0 0] 24)
    refine (check_any M ao cap l ra rc roots _ (h.keeps k1) (hr.keeps k1) hrl).mono ?_
    rintro e w1 ⟨rfl, hb⟩
    rw [hq]
    simp only [erS_true]
    have b2 := b1.trans (hb.mono (by omega))
    have m0 := (hb.block w.heap.size (by omega)).trans n0
    have m1 := (hb.block (w.heap.size + 1) (by omega)).trans n1
    have hs1 : w.heap.size + 1 + 1 ≤ w1.heap.size := by have := hb.size; omega
    have k2 := k1.trans (Keeps.below hb)
    clear n0 n1 k1 b1 hs hb
    have p0 := cell_blk m0 0
    have p1 := cell_blk m0 1
    simp at p0 p1
    go_wp2_with fail
    refine (reached_any M ao cap l ra rc roots _ (h.keeps k2) (hr.keeps k2) hrl hq).mono ?_
    rintro e w2 ⟨ov, oc, rfl, hb2, hI⟩
    have hs2 := hb2.size
    go_wp2_with fail
    refine (inHeapOrder_any ov oc (reach l roots) l.length w1.heap.size _ hI hrok hl60).mono ?_
    rintro e w3 ⟨rfl, hI3, hb3⟩
    rw [← HKP.out] at hI3
    rw [← HKL.out] at hI3 ⊢
    have hb13 : Below w1.heap.size w1 w3 := hb2.trans hb3
    have hs3 := hb13.size
    clear hI hb2 hb3
    go_wp2_with fail
    refine (newPlaces_any ov oc kp 0 _ hI3.at (hkok.mono hl60) (by omega) (by omega)).mono ?_
    rintro e w4 ⟨m, rfl, hP, hb4⟩
    have hI4 := ownsRow_below hI3 hb4
    have hb14 : Below w1.heap.size w1 w4 := hb13.trans (hb4.mono hs3)
    have hs4 := hb14.size
    clear hb4 hb13 hI3
    go_wp2_with fail
    refine (mover_any m kp 0 _ hP).mono ?_
    rintro e w5 ⟨B, rfl, hM, hb5⟩
    have hI5 : IntsOwn w5 w1.heap.size (.slice ov kp.length oc) kp := ownsRow_below hI4 hb5
    have hb15 : Below w1.heap.size w1 w5 := hb14.trans (hb5.mono hs4)
    have hs5 := hb15.size
    clear hb5 hb14 hI4 hP
    have k5 := k2.trans (Keeps.below hb15)
    have b5 : Below w.heap.size w w5 := b2.trans (hb15.mono (by omega))
    have e0 := (hb15.cell (p := ⟨w.heap.size, 0, none⟩) (by show w.heap.size < _; omega)).trans p0
    have e1 := (hb15.cell (p := ⟨w.heap.size, 1, none⟩) (by show w.heap.size < _; omega)).trans p1
    have m5 := (hb15.block (w.heap.size + 1) (by omega)).trans m1
    clear p0 p1 m0 m1 k2 b2 hb15
    go_wp2_with fail
    refine wp_region_need (fun _ => true) (fun w' => w'.cell? ⟨w.heap.size, 0, none⟩ = some (.int .i64 M) ∧ w'.cell? ⟨w.heap.size, 1, none⟩ = some (.slice ao l.length cap)) (by kernel_rfl) ⟨e0, e1⟩ (fun hS => ?_)
    refine wpAnyN_take (i := 0) (v := ?v1) rfl (by kernel_rfl) (by kernel_rfl) (by kernel_rfl) (by kernel_rfl) (fun _ _ _ h => h) (by rfl) ?hy1 hS ?rest1
    case hy1 => (intro wy hSy; (try dsimp only at hSy); go_simp; try (with_reducible rfl))
    simp only [Act.put, List.getElem_toArray, List.getElem_cons_zero, List.setIfInBounds_toArray, List.set_cons_zero, List.set_cons_succ]
    refine wpAnyN_take (i := 1) (v := ?v2) rfl (by kernel_rfl) (by kernel_rfl) (by kernel_rfl) (by kernel_rfl) (fun _ _ _ h => h) (by rfl) ?hy2 hS ?rest2
    case hy2 => (intro wy hSy; (try dsimp only at hSy); go_simp; try (with_reducible rfl))
    simp only [Act.put, List.getElem_toArray, List.getElem_cons_zero, List.getElem_cons_succ, List.setIfInBounds_toArray, List.set_cons_zero, List.set_cons_succ]
    refine wpAnyN_take (i := 2) (v := ?v3) rfl (by kernel_rfl) (by kernel_rfl) (by kernel_rfl) (by kernel_rfl) (fun _ _ _ h => h) (by rfl) ?hy3 hS ?rest3
    case hy3 => (intro wy hSy; (try dsimp only at hSy); go_simp; try (with_reducible rfl))
    simp only [Act.put, List.getElem_toArray, List.getElem_cons_zero, List.getElem_cons_succ, List.setIfInBounds_toArray, List.set_cons_zero, List.set_cons_succ]
    refine wpAnyN_take (i := 3) (v := ?v4) rfl (by kernel_rfl) (by kernel_rfl) (by kernel_rfl) (by kernel_rfl) (fun _ _ _ h => h) (by rfl) ?hy4 hS ?rest4
    case hy4 => (intro wy hSy; (try dsimp only at hSy); go_simp; try (with_reducible rfl))
    simp only [Act.put, List.getElem_toArray, List.getElem_cons_zero, List.getElem_cons_succ, List.setIfInBounds_toArray, List.set_cons_zero, List.set_cons_succ]
    refine wpAnyN_take (i := 4) (v := ?v5) rfl (by kernel_rfl) (by kernel_rfl) (by kernel_rfl) (by kernel_rfl) (fun _ _ _ h => h) (by rfl) ?hy5 hS ?rest5
    case hy5 => (intro wy hSy; (try dsimp only at hSy); go_simp; try (with_reducible rfl))
    simp only [Act.put, List.getElem_toArray, List.getElem_cons_zero, List.getElem_cons_succ, List.setIfInBounds_toArray, List.set_cons_zero, List.set_cons_succ]
    refine wpAnyN_take (i := 7) (v := ?v6) rfl (by kernel_rfl) (by kernel_rfl) (by kernel_rfl) (by kernel_rfl) (fun _ _ _ h => h) (by rfl) ?hy6 hS ?rest6
    case hy6 => (intro wy hSy; (try dsimp only at hSy); go_simp; try (with_reducible rfl))
    simp only [Act.put, List.getElem_toArray, List.getElem_cons_zero, List.getElem_cons_succ, List.setIfInBounds_toArray, List.set_cons_zero, List.set_cons_succ]
    refine wpAnyN_take (i := 8) (v := ?v7) rfl (by kernel_rfl) (by kernel_rfl) (by kernel_rfl) (by kernel_rfl) (fun _ _ _ h => h) (by rfl) ?hy7 hS ?rest7
    case hy7 => (intro wy hSy; (try dsimp only at hSy); go_simp; try (with_reducible rfl))
    simp only [Act.put, List.getElem_toArray, List.getElem_cons_zero, List.getElem_cons_succ, List.setIfInBounds_toArray, List.set_cons_zero, List.set_cons_succ]
    refine wpAnyN_one (i := 5) (by kernel_rfl) rfl (fun K hK => ?_)
    simp only [List.getElem_toArray, List.getElem_cons_zero, List.getElem_cons_succ]
    go_simp
    refine (movedObjects_any M ao cap l ov oc kp B kp 0 w5.drew ((h.keeps k5).keeps (fun _ _ h => h)) (hI5.at.keeps (fun _ _ h => h)) (hM.below (Below.refl _ _).drew) hkok hl60 hld2 (hkok.mono hl60)).mono ?_
    rintro e w6 ⟨g, rows, rfl, hO, hrows, hb6⟩
    have hk6 : Keeps w5 w6 := fun a v e => Keeps.below hb6 a v e
    refine hK.out _ _ (fun _ => ⟨hk6 _ _ e0, hk6 _ _ e1⟩) ?_
    replace hS := (⟨hk6 _ _ e0, hk6 _ _ e1⟩ : w6.cell? ⟨w.heap.size, 0, none⟩ = some (.int .i64 M) ∧ w6.cell? ⟨w.heap.size, 1, none⟩ = some (.slice ao l.length cap))
    clear hK
    refine wpAnyN_take (i := 6) (v := ?v8) rfl (by kernel_rfl) (by kernel_rfl) (by kernel_rfl) (by kernel_rfl) (fun _ _ _ h => h) (by rfl) ?hy8 hS ?rest8
    case hy8 => (intro wy hSy; (try dsimp only at hSy); go_simp; try (with_reducible rfl))
    simp only [Act.put, List.getElem_toArray, List.getElem_cons_zero, List.getElem_cons_succ, List.setIfInBounds_toArray, List.set_cons_zero, List.set_cons_succ]
    refine wpAnyN_one (i := 9) (by kernel_rfl) rfl (fun K2 hK2 => ?_)
    simp only [List.getElem_toArray, List.getElem_cons_zero, List.getElem_cons_succ]
    go_simp
    have hb56 : Below w5.heap.size w5 w6 := ((Below.refl w5.heap.size w5).drew).trans hb6
    refine (movedValues_any ra rc roots B kp 0 w6 ((hr.keeps k5).keeps hk6) hrl (hM.below hb56) hld1 (hkok.mono hl60)).mono ?_
    rintro e w7 ⟨va, vc, rfl, hv, hb7⟩
    have hk7 : Keeps w6 w7 := fun a v e => Keeps.below hb7 a v e
    have hb57 : Below w5.heap.size w5 w7 := hb56.trans (hb7.mono hb56.size)
    refine hK2.out _ _ (fun _ => ⟨hk7 _ _ hS.1, hk7 _ _ hS.2⟩) ?_
    replace hS := (⟨hk7 _ _ hS.1, hk7 _ _ hS.2⟩ : w7.cell? ⟨w.heap.size, 0, none⟩ = some (.int .i64 M) ∧ w7.cell? ⟨w.heap.size, 1, none⟩ = some (.slice ao l.length cap))
    clear hK2
    have m7 := (hb57.block (w.heap.size + 1) (by omega)).trans m5
    have r1 := cell_blk m7 0
    have r2 := cell_blk m7 1
    have r3 : ∀ j, w7.frozen? ⟨w.heap.size + 1, j, none⟩ = false := fun j => fz_blk m7 j
    simp at r1 r2
    have b7 : Below w.heap.size w w7 := b5.trans (hb57.mono (by omega))
    have hO7 : HeapOwn w7 w5.heap.size (.slice (some ⟨g, 0, none⟩) kp.length kp.length) rows := hO.below hb7
    have hv7 : ValsOwn w7 w6.heap.size (.slice va roots.length vc) (roots.map (mvV kp 0)) := hv
    have hs6 := hb56.size
    clear hb57 hb56 hb6 hb7 hk6 hk7 hO hv m5 e0 e1 b5 k5 hM hI5
    refine wpAnyN_one (i := 10) (by kernel_rfl) rfl (fun K3 hK3 => ?_)
    simp only [List.getElem_toArray, List.getElem_cons_zero, List.getElem_cons_succ]
    go_simp
    have hS8 : ((w7.setCell ⟨w.heap.size + 1, 0, none⟩ (.int .i64 M)).setCell ⟨w.heap.size + 1, 1, none⟩ (.slice (some ⟨g, 0, none⟩) kp.length kp.length)).cell? ⟨w.heap.size, 0, none⟩ = some (.int .i64 M) ∧ ((w7.setCell ⟨w.heap.size + 1, 0, none⟩ (.int .i64 M)).setCell ⟨w.heap.size + 1, 1, none⟩ (.slice (some ⟨g, 0, none⟩) kp.length kp.length)).cell? ⟨w.heap.size, 1, none⟩ = some (.slice ao l.length cap) :=
      ⟨(cell_set2 _ _ _ _ _ _ _ _ (by omega)).trans hS.1, (cell_set2 _ _ _ _ _ _ _ _ (by omega)).trans hS.2⟩
    refine hK3.out _ _ (fun _ => hS8) ?_
    replace hS := hS8
    clear hK3 hS8
    refine wpAnyN_take (i := 11) (v := ?v9) rfl (by kernel_rfl) (by kernel_rfl) (by kernel_rfl) (by kernel_rfl) (fun _ _ _ h => h) (by rfl) ?hy9 hS ?rest9
    case hy9 => (intro wy hSy; (try dsimp only at hSy); go_simp; try (with_reducible rfl))
    simp only [Act.put, List.getElem_toArray, List.getElem_cons_zero, List.getElem_cons_succ, List.setIfInBounds_toArray, List.set_cons_zero, List.set_cons_succ]
    refine wpAnyN_take (i := 12) (v := ?v10) rfl (by kernel_rfl) (by kernel_rfl) (by kernel_rfl) (by kernel_rfl) (fun _ _ _ h => h) (by rfl) ?hy10 hS ?rest10
    case hy10 => (intro wy hSy; (try dsimp only at hSy); go_simp; try (with_reducible rfl))
    simp only [Act.put, List.getElem_toArray, List.getElem_cons_zero, List.getElem_cons_succ, List.setIfInBounds_toArray, List.set_cons_zero, List.set_cons_succ]
    refine wpAnyN_done (by kernel_rfl) ?_ _
    refine NoPanic.normal ?_
    have p1 := setCell_blk (setCell_blk m7 0 (.int .i64 M)) 1 (.slice (some ⟨g, 0, none⟩) kp.length kp.length)
    have p2 := cell_blk p1 0
    have p3 := cell_blk p1 1
    simp at p2 p3
    have hO8 := (hO7.setLow (a := ⟨w.heap.size + 1, 0, none⟩) (by show w.heap.size + 1 < _; omega) (.int .i64 M)).setLow (a := ⟨w.heap.size + 1, 1, none⟩) (by show w.heap.size + 1 < _; omega) (.slice (some ⟨g, 0, none⟩) kp.length kp.length)
    have hv8 := ownsRow_setCell_below (ownsRow_setCell_below hv7 (a := ⟨w.heap.size + 1, 0, none⟩) (by show w.heap.size + 1 < _; omega) (.int .i64 M)) (a := ⟨w.heap.size + 1, 1, none⟩) (by show w.heap.size + 1 < _; omega) (.slice (some ⟨g, 0, none⟩) kp.length kp.length)
    have b8 : Below w.heap.size w ((w7.setCell ⟨w.heap.size + 1, 0, none⟩ (.int .i64 M)).setCell ⟨w.heap.size + 1, 1, none⟩ (.slice (some ⟨g, 0, none⟩) kp.length kp.length)) := (b7.setCell (by show w.heap.size ≤ w.heap.size + 1; omega) _).setCell (by show w.heap.size ≤ w.heap.size + 1; omega) _
    clear r1 r2 r3 hO7 hv7 b7 m7 hS p1
    generalize (w7.setCell ⟨w.heap.size + 1, 0, none⟩ (.int .i64 M)).setCell ⟨w.heap.size + 1, 1, none⟩ (.slice (some ⟨g, 0, none⟩) kp.length kp.length) = w8 at *
    go_wp2
    refine bodyPost_ret (v := .tuple #[.agg #[.int .i64 M, .slice (some ⟨g, 0, none⟩) kp.length kp.length], .slice va roots.length vc, .int .i64 0]) (by simp [results, Try.results10, go_sem, p2, p3]) rfl ⟨some ⟨g, 0, none⟩, kp.length, va, vc, by simp [mvObs_length'], b8, ?_, rows, hrows, ?_⟩
    · rw [List.length_map]; exact ownsRow_le hv8 (by omega)
    · rw [mvObs_length']; exact hO8.le (by omega)

end Go.Proofs.Ytbifdcchdoflpac
