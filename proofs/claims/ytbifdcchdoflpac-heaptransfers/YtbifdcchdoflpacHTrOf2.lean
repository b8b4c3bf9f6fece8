/- The walk of the reference's TransferOf. -/
import Derived.Test.YtbifdcchdoflpacHTrMid
namespace Go.Proofs.Ytbifdcchdoflpac
open Go.RowKit Go.Maps

theorem transferS_err {M : Int} {l : List Ob} {v : Vl} {M' : Int} {l' : List Ob} {move : Bool} {e : Int} (he : e ≠ 0) (h : trS M l v M' l' = ([], e)) : transferS M l v M' l' move = ⟨0, [], 0, [], ⟨0, 0⟩, e⟩ := by
  rw [transferS, h]
  simp [he]

set_option maxHeartbeats 4000000 in
set_option maxRecDepth 100000 in
theorem transferOf_any (M : Int) (ao : Option Addr) (cap : Nat) (l : List Ob) (k n : Int) (M' : Int) (ao' : Option Addr) (cap' : Nat) (l' : List Ob) (move : Bool) (w : World) (h : ObsAt w ao l) (h' : ObsAt w ao' l') :
    Calls Try.prog 15 #[.agg #[.int .i64 M, .slice ao l.length cap], .agg #[.int .i64 k, .int .i64 n], .agg #[.int .i64 M', .slice ao' l'.length cap'], .bool move] w fun e w' =>
      ∃ fa fc ta tc rows1 rows2, e = .returned (.tuple #[.agg #[.int .i64 (transferS M l ⟨k, n⟩ M' l' move).M1, .slice fa (transferS M l ⟨k, n⟩ M' l' move).o1.length fc], .agg #[.int .i64 (transferS M l ⟨k, n⟩ M' l' move).M2, .slice ta (transferS M l ⟨k, n⟩ M' l' move).o2.length tc], .agg #[.int .i64 (transferS M l ⟨k, n⟩ M' l' move).v.k, .int .i64 (transferS M l ⟨k, n⟩ M' l' move).v.n], .int .i64 (transferS M l ⟨k, n⟩ M' l' move).e]) ∧
        Below w.heap.size w w' ∧ rows1.map (·.2) = (transferS M l ⟨k, n⟩ M' l' move).o1 ∧ rows2.map (·.2) = (transferS M l ⟨k, n⟩ M' l' move).o2 ∧
        HeapOwn w' w.heap.size (.slice fa (transferS M l ⟨k, n⟩ M' l' move).o1.length fc) rows1 ∧ HeapOwn w' w.heap.size (.slice ta (transferS M l ⟨k, n⟩ M' l' move).o2.length tc) rows2 := by
  have hE : ∀ wy, Keeps w wy → ObsAt wy ao l ∧ ObsAt wy ao' l' := fun wy hk => ⟨h.keeps hk, h'.keeps hk⟩
  have hone : Aside (∀ wy : World, ValsAt (wy.alloc (.cells #[.int .i64 k, .int .i64 n] 34)) (some ⟨wy.heap.size, 0, none⟩) [⟨k, n⟩]) := fun wy => vals_one wy k n _
  clear h h'
  go_enter Try.func15, Try.ntmps15
  go_upto_region 1 with fail
  obtain ⟨N0, N1, N2, N3, N4, N5, k1, b1, hs'⟩ := boxes6 w (Obj.cells #[.int .i64 M, .slice ao l.length cap] 24) (Obj.cells #[.int .i64 k, .int .i64 n] 34) (Obj.cells #[.int .i64 M', .slice ao' l'.length cap'] 24) (Obj.cells #[.int .i64 0, .slice none 0 0] 24) (Obj.cells #[.int .i64 0, .slice none 0 0] 24) (Obj.cells #[.int .i64 0, .int .i64 0] 34)
  generalize (((((w.alloc (Obj.cells #[.int .i64 M, .slice ao l.length cap] 24)).alloc (Obj.cells #[.int .i64 k, .int .i64 n] 34)).alloc (Obj.cells #[.int .i64 M', .slice ao' l'.length cap'] 24)).alloc (Obj.cells #[.int .i64 0, .slice none 0 0] 24)).alloc (Obj.cells #[.int .i64 0, .slice none 0 0] 24)).alloc (Obj.cells #[.int .i64 0, .int .i64 0] 34) = W at *
  have hs : w.heap.size + 1 + 1 + 1 + 1 + 1 + 1 ≤ W.heap.size := Nat.le_of_eq hs'.symm
  clear hs'
  have c0 := cell_blk N0 0
  have c1 := cell_blk N0 1
  have c2 := cell_blk N1 0
  have c3 := cell_blk N1 1
  have c4 := cell_blk N2 0
  have c5 := cell_blk N2 1
  simp at c0 c1 c2 c3 c4 c5
  go_wp2_with fail
  obtain ⟨-, ka, ba, -⟩ := boxes1 W (Obj.cells #[.int .i64 k, .int .i64 n] 34)
  have hv1 := hone.out W
  generalize W.alloc (Obj.cells #[.int .i64 k, .int .i64 n] 34) = Wa at *
  refine (heapMay_any M ao cap l _ 1 [⟨k, n⟩] Wa (hE _ (k1.trans ka)).1 hv1 (by simp)).mono ?_
  rintro e w1 ⟨rfl, hb1⟩
  have bb : Below W.heap.size W w1 := ba.trans (hb1.mono ba.size)
  replace N0 := (bb.block _ (by omega)).trans N0
  replace N1 := (bb.block _ (by omega)).trans N1
  replace N2 := (bb.block _ (by omega)).trans N2
  replace N3 := (bb.block _ (by omega)).trans N3
  replace N4 := (bb.block _ (by omega)).trans N4
  replace N5 := (bb.block _ (by omega)).trans N5
  replace c0 := Keeps.below bb _ _ c0
  replace c1 := Keeps.below bb _ _ c1
  replace c2 := Keeps.below bb _ _ c2
  replace c3 := Keeps.below bb _ _ c3
  replace c4 := Keeps.below bb _ _ c4
  replace c5 := Keeps.below bb _ _ c5
  replace k1 := k1.trans (Keeps.below bb)
  replace b1 := b1.trans (bb.mono b1.size)
  replace hs : w.heap.size + 1 + 1 + 1 + 1 + 1 + 1 ≤ w1.heap.size := by have := bb.size; omega
  clear hb1 ka ba hv1 bb
  cases hA : hMay M l [⟨k, n⟩] with
  | false =>
    have HS : Aside (transferS M l ⟨k, n⟩ M' l' move = ⟨0, [], 0, [], ⟨0, 0⟩, 8⟩) := transferS_err (by decide) (by simp [trS, hA])
    clear c0 c1 c2 c3 c4 c5 N0 N1 N2
    have f3 : ∀ j, w1.frozen? ⟨w.heap.size + 1 + 1 + 1, j, none⟩ = false := fun j => fz_blk N3 j
    have f4 : ∀ j, w1.frozen? ⟨w.heap.size + 1 + 1 + 1 + 1, j, none⟩ = false := fun j => fz_blk N4 j
    have f5 : ∀ j, w1.frozen? ⟨w.heap.size + 1 + 1 + 1 + 1 + 1, j, none⟩ = false := fun j => fz_blk N5 j
    have d0 := cell_blk N3 0
    have d1 := cell_blk N3 1
    have d2 := cell_blk N4 0
    have d3 := cell_blk N4 1
    have d4 := cell_blk N5 0
    have d5 := cell_blk N5 1
    simp at d0 d1 d2 d3 d4 d5
    go_wp2
    have p3 := put2_blk (w := (put2 (put2 w1 (w.heap.size + 1 + 1 + 1) (.int .i64 0) (.slice none 0 0)) (w.heap.size + 1 + 1 + 1 + 1) (.int .i64 0) (.slice none 0 0))) (A := w.heap.size + 1 + 1 + 1 + 1 + 1) (((put2_other _ _ (by omega)).trans (put2_other _ _ (by omega))).trans N5) (.int .i64 0) (.int .i64 0)
    have p2 := (put2_other (w := (put2 (put2 w1 (w.heap.size + 1 + 1 + 1) (.int .i64 0) (.slice none 0 0)) (w.heap.size + 1 + 1 + 1 + 1) (.int .i64 0) (.slice none 0 0))) (A := w.heap.size + 1 + 1 + 1 + 1 + 1) (.int .i64 0) (.int .i64 0) (show w.heap.size + 1 + 1 + 1 + 1 ≠ _ by omega)).trans (put2_blk ((put2_other _ _ (by omega)).trans N4) (.int .i64 0) (.slice none 0 0))
    have p1 := (put2_other (w := (put2 (put2 w1 (w.heap.size + 1 + 1 + 1) (.int .i64 0) (.slice none 0 0)) (w.heap.size + 1 + 1 + 1 + 1) (.int .i64 0) (.slice none 0 0))) (A := w.heap.size + 1 + 1 + 1 + 1 + 1) (.int .i64 0) (.int .i64 0) (show w.heap.size + 1 + 1 + 1 ≠ _ by omega)).trans ((put2_other (A := w.heap.size + 1 + 1 + 1 + 1) (.int .i64 0) (.slice none 0 0) (show w.heap.size + 1 + 1 + 1 ≠ _ by omega)).trans (put2_blk N3 (.int .i64 0) (.slice none 0 0)))
    have bb : Below w.heap.size w (put2 (put2 (put2 w1 (w.heap.size + 1 + 1 + 1) (.int .i64 0) (.slice none 0 0)) (w.heap.size + 1 + 1 + 1 + 1) (.int .i64 0) (.slice none 0 0)) (w.heap.size + 1 + 1 + 1 + 1 + 1) (.int .i64 0) (.int .i64 0)) := put2_below (put2_below (put2_below b1 (by omega) _ _) (by omega) _ _) (by omega) _ _
    change bodyPost _ _ _ _ _ (put2 (put2 (put2 w1 (w.heap.size + 1 + 1 + 1) (.int .i64 0) (.slice none 0 0)) (w.heap.size + 1 + 1 + 1 + 1) (.int .i64 0) (.slice none 0 0)) (w.heap.size + 1 + 1 + 1 + 1 + 1) (.int .i64 0) (.int .i64 0))
    generalize (put2 (put2 (put2 w1 (w.heap.size + 1 + 1 + 1) (.int .i64 0) (.slice none 0 0)) (w.heap.size + 1 + 1 + 1 + 1) (.int .i64 0) (.slice none 0 0)) (w.heap.size + 1 + 1 + 1 + 1 + 1) (.int .i64 0) (.int .i64 0)) = wf at *
    have g0 := cell_blk p1 0
    have g1 := cell_blk p1 1
    have g2 := cell_blk p2 0
    have g3 := cell_blk p2 1
    have g4 := cell_blk p3 0
    have g5 := cell_blk p3 1
    simp at g0 g1 g2 g3 g4 g5
    refine bodyPost_ret (v := .tuple #[.agg #[.int .i64 0, .slice none 0 0], .agg #[.int .i64 0, .slice none 0 0], .agg #[.int .i64 0, .int .i64 0], .int .i64 8]) (by simp [results, Try.results15, go_sem, g0, g1, g2, g3, g4, g5]) rfl ?_
    rw [HS.out]
    exact ⟨none, 0, none, 0, [], [], rfl, bb, rfl, rfl, heapOwn_nil _ _, heapOwn_nil _ _⟩
  | true =>
    have hck := heapMay_any M' ao' cap' l' none 0 [] w1 (hE _ k1).2 (fun i v hi => by simp at hi) (by simp)
    go_wp2_with fail
    refine hck.mono ?_
    clear hck
    rintro e w2 ⟨rfl, hb2⟩
    replace N0 := (hb2.block _ (by omega)).trans N0
    replace N1 := (hb2.block _ (by omega)).trans N1
    replace N2 := (hb2.block _ (by omega)).trans N2
    replace N3 := (hb2.block _ (by omega)).trans N3
    replace N4 := (hb2.block _ (by omega)).trans N4
    replace N5 := (hb2.block _ (by omega)).trans N5
    replace c0 := Keeps.below hb2 _ _ c0
    replace c1 := Keeps.below hb2 _ _ c1
    replace c2 := Keeps.below hb2 _ _ c2
    replace c3 := Keeps.below hb2 _ _ c3
    replace c4 := Keeps.below hb2 _ _ c4
    replace c5 := Keeps.below hb2 _ _ c5
    replace k1 := k1.trans (Keeps.below hb2)
    replace b1 := b1.trans (hb2.mono b1.size)
    replace hs : w.heap.size + 1 + 1 + 1 + 1 + 1 + 1 ≤ w2.heap.size := by have := hb2.size; omega
    clear hb2
    cases hB : hMay M' l' [] with
    | false =>
      have HS : Aside (transferS M l ⟨k, n⟩ M' l' move = ⟨0, [], 0, [], ⟨0, 0⟩, 8⟩) := transferS_err (by decide) (by simp [trS, hB])
      clear c0 c1 c2 c3 c4 c5 N0 N1 N2
      have f3 : ∀ j, w2.frozen? ⟨w.heap.size + 1 + 1 + 1, j, none⟩ = false := fun j => fz_blk N3 j
      have f4 : ∀ j, w2.frozen? ⟨w.heap.size + 1 + 1 + 1 + 1, j, none⟩ = false := fun j => fz_blk N4 j
      have f5 : ∀ j, w2.frozen? ⟨w.heap.size + 1 + 1 + 1 + 1 + 1, j, none⟩ = false := fun j => fz_blk N5 j
      have d0 := cell_blk N3 0
      have d1 := cell_blk N3 1
      have d2 := cell_blk N4 0
      have d3 := cell_blk N4 1
      have d4 := cell_blk N5 0
      have d5 := cell_blk N5 1
      simp at d0 d1 d2 d3 d4 d5
      go_wp2
      have p3 := put2_blk (w := (put2 (put2 w2 (w.heap.size + 1 + 1 + 1) (.int .i64 0) (.slice none 0 0)) (w.heap.size + 1 + 1 + 1 + 1) (.int .i64 0) (.slice none 0 0))) (A := w.heap.size + 1 + 1 + 1 + 1 + 1) (((put2_other _ _ (by omega)).trans (put2_other _ _ (by omega))).trans N5) (.int .i64 0) (.int .i64 0)
      have p2 := (put2_other (w := (put2 (put2 w2 (w.heap.size + 1 + 1 + 1) (.int .i64 0) (.slice none 0 0)) (w.heap.size + 1 + 1 + 1 + 1) (.int .i64 0) (.slice none 0 0))) (A := w.heap.size + 1 + 1 + 1 + 1 + 1) (.int .i64 0) (.int .i64 0) (show w.heap.size + 1 + 1 + 1 + 1 ≠ _ by omega)).trans (put2_blk ((put2_other _ _ (by omega)).trans N4) (.int .i64 0) (.slice none 0 0))
      have p1 := (put2_other (w := (put2 (put2 w2 (w.heap.size + 1 + 1 + 1) (.int .i64 0) (.slice none 0 0)) (w.heap.size + 1 + 1 + 1 + 1) (.int .i64 0) (.slice none 0 0))) (A := w.heap.size + 1 + 1 + 1 + 1 + 1) (.int .i64 0) (.int .i64 0) (show w.heap.size + 1 + 1 + 1 ≠ _ by omega)).trans ((put2_other (A := w.heap.size + 1 + 1 + 1 + 1) (.int .i64 0) (.slice none 0 0) (show w.heap.size + 1 + 1 + 1 ≠ _ by omega)).trans (put2_blk N3 (.int .i64 0) (.slice none 0 0)))
      have bb : Below w.heap.size w (put2 (put2 (put2 w2 (w.heap.size + 1 + 1 + 1) (.int .i64 0) (.slice none 0 0)) (w.heap.size + 1 + 1 + 1 + 1) (.int .i64 0) (.slice none 0 0)) (w.heap.size + 1 + 1 + 1 + 1 + 1) (.int .i64 0) (.int .i64 0)) := put2_below (put2_below (put2_below b1 (by omega) _ _) (by omega) _ _) (by omega) _ _
      change bodyPost _ _ _ _ _ (put2 (put2 (put2 w2 (w.heap.size + 1 + 1 + 1) (.int .i64 0) (.slice none 0 0)) (w.heap.size + 1 + 1 + 1 + 1) (.int .i64 0) (.slice none 0 0)) (w.heap.size + 1 + 1 + 1 + 1 + 1) (.int .i64 0) (.int .i64 0))
      generalize (put2 (put2 (put2 w2 (w.heap.size + 1 + 1 + 1) (.int .i64 0) (.slice none 0 0)) (w.heap.size + 1 + 1 + 1 + 1) (.int .i64 0) (.slice none 0 0)) (w.heap.size + 1 + 1 + 1 + 1 + 1) (.int .i64 0) (.int .i64 0)) = wf at *
      have g0 := cell_blk p1 0
      have g1 := cell_blk p1 1
      have g2 := cell_blk p2 0
      have g3 := cell_blk p2 1
      have g4 := cell_blk p3 0
      have g5 := cell_blk p3 1
      simp at g0 g1 g2 g3 g4 g5
      refine bodyPost_ret (v := .tuple #[.agg #[.int .i64 0, .slice none 0 0], .agg #[.int .i64 0, .slice none 0 0], .agg #[.int .i64 0, .int .i64 0], .int .i64 8]) (by simp [results, Try.results15, go_sem, g0, g1, g2, g3, g4, g5]) rfl ?_
      rw [HS.out]
      exact ⟨none, 0, none, 0, [], [], rfl, bb, rfl, rfl, heapOwn_nil _ _, heapOwn_nil _ _⟩
    | true =>
      have hl60 := hMay_bound hA
      have hl60' := hMay_bound hB
      have hM60 := mMay_of hB
      have hok := reach_ok hA [⟨k, n⟩] (hMay_roots' hA)
      have hol := hok.len
      have hld1 : Leads (reach l [⟨k, n⟩]) [⟨k, n⟩] := leads_roots
      have hld2 : ∀ p ∈ reach l [⟨k, n⟩], Leads (reach l [⟨k, n⟩]) (obAt l p).fs := fun p hp => leads_fields hA hp
      have hf4 : ∀ p ∈ reach l [⟨k, n⟩], (obAt l p).fs.length ≤ 4 := fun p _ => by rw [← fieldsOf_obAt]; exact fields_four hA p
      obtain ⟨-, ka, ba, -⟩ := boxes1 w2 (Obj.cells #[.int .i64 k, .int .i64 n] 34)
      have hv1 := hone.out w2
      go_wp2_with fail
      refine (ledTo_any M ao cap l _ 1 [⟨k, n⟩] _ (hE _ (k1.trans ka)).1 hv1 (by simp) hA).mono ?_
      rintro e w3 ⟨ov, oc, rfl, hb3, hI⟩
      have bb : Below w2.heap.size w2 w3 := ba.trans (hb3.mono ba.size)
      replace hI : IntsOwn w3 (w.heap.size + 1 + 1 + 1 + 1 + 1 + 1) _ _ := ownsRow_le hI (by have := ba.size; omega)
      replace N0 := (bb.block _ (by omega)).trans N0
      replace N1 := (bb.block _ (by omega)).trans N1
      replace N2 := (bb.block _ (by omega)).trans N2
      replace N3 := (bb.block _ (by omega)).trans N3
      replace N4 := (bb.block _ (by omega)).trans N4
      replace N5 := (bb.block _ (by omega)).trans N5
      replace c0 := Keeps.below bb _ _ c0
      replace c1 := Keeps.below bb _ _ c1
      replace c2 := Keeps.below bb _ _ c2
      replace c3 := Keeps.below bb _ _ c3
      replace c4 := Keeps.below bb _ _ c4
      replace c5 := Keeps.below bb _ _ c5
      replace k1 := k1.trans (Keeps.below bb)
      replace b1 := b1.trans (bb.mono b1.size)
      replace hs : w.heap.size + 1 + 1 + 1 + 1 + 1 + 1 ≤ w3.heap.size := by have := bb.size; omega
      clear hb3 bb hv1 ka ba
      obtain ⟨rr, hrr⟩ : ∃ rr, rr = reach l [⟨k, n⟩] := ⟨_, rfl⟩
      rw [← hrr] at hI hok hol hld1 hld2 hf4 ⊢
      have HT : Aside (trS M l ⟨k, n⟩ M' l' = if rr.any (fun p => (obAt l p).dead) = true then ([], 10) else if M' < ((l'.length + rr.length : Nat) : Int) then ([], 7) else (rr, 0)) := by
        show trS _ _ _ _ _ = _
        rw [trS, hA, hB, ← hrr]
        rfl
      have HOK : Aside (Ok l.length rr ∧ Ok 60 rr ∧ Leads rr [⟨k, n⟩] ∧ (∀ p ∈ rr, Leads rr (obAt l p).fs) ∧ (∀ p ∈ rr, (obAt l p).fs.length ≤ 4)) := ⟨hok, hok.mono hl60, hld1, hld2, hf4⟩
      clear hrr hok hld1 hld2 hf4 hA hB
      obtain ⟨R, hR⟩ : ∃ R, R = rr.length := ⟨_, rfl⟩
      have HR : Aside (R = rr.length) := hR
      rw [← hR] at hol ⊢
      clear hR
      go_upto_region 4 with fail
      have NL := Deep.blk_alloc_new w3 (Obj.cells #[.slice ov R oc] 52)
      have bL := below_box w3 (Obj.cells #[.slice ov R oc] 52)
      replace N0 := (bL.block _ (by omega)).trans N0
      replace N1 := (bL.block _ (by omega)).trans N1
      replace N2 := (bL.block _ (by omega)).trans N2
      replace N3 := (bL.block _ (by omega)).trans N3
      replace N4 := (bL.block _ (by omega)).trans N4
      replace N5 := (bL.block _ (by omega)).trans N5
      replace c0 := Keeps.below bL _ _ c0
      replace c1 := Keeps.below bL _ _ c1
      replace c2 := Keeps.below bL _ _ c2
      replace c3 := Keeps.below bL _ _ c3
      replace c4 := Keeps.below bL _ _ c4
      replace c5 := Keeps.below bL _ _ c5
      replace k1 := k1.trans (Keeps.below bL)
      replace b1 := b1.trans (bL.mono b1.size)
      replace hI : IntsOwn _ _ _ _ := ownsRow_below hI bL
      obtain ⟨LB, hLB⟩ : ∃ LB, LB = w3.heap.size := ⟨_, rfl⟩
      rw [← hLB] at NL ⊢
      have hsL : w.heap.size + 1 + 1 + 1 + 1 + 1 + 1 ≤ LB := by omega
      have hsL2 : LB + 1 ≤ (w3.alloc (Obj.cells #[.slice ov R oc] 52)).heap.size := by simp; omega
      clear bL hLB hs
      generalize w3.alloc (Obj.cells #[.slice ov R oc] 52) = W4 at *
      have l0 := cell_blk NL 0
      simp at l0
      have hA3 := IntsOwn.at hI
      have hob := (hE _ k1).1
      go_wp2
      go_loopg [13] R (fun g s13 wr => ∃ i q : Nat, i ≤ R ∧ g = R - i ∧ s13 = .int .i64 i ∧ wr = W4.drewN q ∧ Aside (∀ p ∈ rr.take i, (obAt l p).dead = false))
      case atStart => exact ⟨0, 0, Nat.zero_le _, rfl, rfl, rfl, fun p hp => by simp at hp⟩
      case round =>
        obtain ⟨i, q, hi, rfl, rfl, rfl, hD⟩ := hrel
        by_cases hiR : i < R
        · have hiz : (i : Int) < (R : Int) := by omega
          obtain ⟨p, hp⟩ := at_some (l := rr) (i := i) (by rw [← HR.out]; exact hiR)
          have hpm := List.mem_of_getElem? hp
          have hpb := HOK.out.1.2 p hpm
          obtain ⟨z, rfl⟩ := Int.eq_ofNat_of_zero_le hpb.1
          have hqz : (z : Int) < (l.length : Int) := hpb.2
          obtain ⟨⟨fs, dead⟩, hx⟩ := at_some (l := l) (i := z) (by omega)
          have hd : Aside ((obAt l (z : Int)).dead = dead) := by show (obAt l (z : Int)).dead = dead; simp [obAt, hx]
          have HTK : Aside (rr.take (i + 1) = rr.take i ++ [(z : Int)]) := by show rr.take (i + 1) = _; rw [List.take_add_one, hp]; rfl
          obtain ⟨b, o, fa, fc, rfl, d1, d2, _, _⟩ := hob.cell z _ hx
          obtain ⟨ib, io, rfl, d3⟩ := hA3 i _ hp
          simp only at d1 d2
          have HPM : Aside ((z : Int) ∈ rr) := hpm
          clear hp hx hpm
          cases dead with
          | true =>
            have HS : Aside (transferS M l ⟨k, n⟩ M' l' move = ⟨0, [], 0, [], ⟨0, 0⟩, 10⟩) := transferS_err (by decide) (by rw [HT.out, if_pos (List.any_eq_true.2 ⟨_, HPM.out, hd.out⟩)])
            go_wp2
            go_quiet (fail)
            clear c0 c1 c2 c3 c4 c5 N0 N1 N2 d1 d2 d3 l0 NL hob hI hA3 hE hone HT HOK HPM HTK hd hD
            have f3 : ∀ j, W4.frozen? ⟨w.heap.size + 1 + 1 + 1, j, none⟩ = false := fun j => fz_blk N3 j
            have f4 : ∀ j, W4.frozen? ⟨w.heap.size + 1 + 1 + 1 + 1, j, none⟩ = false := fun j => fz_blk N4 j
            have f5 : ∀ j, W4.frozen? ⟨w.heap.size + 1 + 1 + 1 + 1 + 1, j, none⟩ = false := fun j => fz_blk N5 j
            have d0 := cell_blk N3 0
            have d1 := cell_blk N3 1
            have d2 := cell_blk N4 0
            have d3 := cell_blk N4 1
            have d4 := cell_blk N5 0
            have d5 := cell_blk N5 1
            simp at d0 d1 d2 d3 d4 d5
            go_wp2
            have p3 := put2_blk (w := (put2 (put2 (W4.drewN (q + nq)) (w.heap.size + 1 + 1 + 1) (.int .i64 0) (.slice none 0 0)) (w.heap.size + 1 + 1 + 1 + 1) (.int .i64 0) (.slice none 0 0))) (A := w.heap.size + 1 + 1 + 1 + 1 + 1) (((put2_other _ _ (by omega)).trans (put2_other _ _ (by omega))).trans N5) (.int .i64 0) (.int .i64 0)
            have p2 := (put2_other (w := (put2 (put2 (W4.drewN (q + nq)) (w.heap.size + 1 + 1 + 1) (.int .i64 0) (.slice none 0 0)) (w.heap.size + 1 + 1 + 1 + 1) (.int .i64 0) (.slice none 0 0))) (A := w.heap.size + 1 + 1 + 1 + 1 + 1) (.int .i64 0) (.int .i64 0) (show w.heap.size + 1 + 1 + 1 + 1 ≠ _ by omega)).trans (put2_blk ((put2_other _ _ (by omega)).trans N4) (.int .i64 0) (.slice none 0 0))
            have p1 := (put2_other (w := (put2 (put2 (W4.drewN (q + nq)) (w.heap.size + 1 + 1 + 1) (.int .i64 0) (.slice none 0 0)) (w.heap.size + 1 + 1 + 1 + 1) (.int .i64 0) (.slice none 0 0))) (A := w.heap.size + 1 + 1 + 1 + 1 + 1) (.int .i64 0) (.int .i64 0) (show w.heap.size + 1 + 1 + 1 ≠ _ by omega)).trans ((put2_other (A := w.heap.size + 1 + 1 + 1 + 1) (.int .i64 0) (.slice none 0 0) (show w.heap.size + 1 + 1 + 1 ≠ _ by omega)).trans (put2_blk N3 (.int .i64 0) (.slice none 0 0)))
            have bb : Below w.heap.size w (put2 (put2 (put2 (W4.drewN (q + nq)) (w.heap.size + 1 + 1 + 1) (.int .i64 0) (.slice none 0 0)) (w.heap.size + 1 + 1 + 1 + 1) (.int .i64 0) (.slice none 0 0)) (w.heap.size + 1 + 1 + 1 + 1 + 1) (.int .i64 0) (.int .i64 0)) := put2_below (put2_below (put2_below (below_drewN b1 _) (by omega) _ _) (by omega) _ _) (by omega) _ _
            change bodyPost _ _ _ _ _ (put2 (put2 (put2 (W4.drewN (q + nq)) (w.heap.size + 1 + 1 + 1) (.int .i64 0) (.slice none 0 0)) (w.heap.size + 1 + 1 + 1 + 1) (.int .i64 0) (.slice none 0 0)) (w.heap.size + 1 + 1 + 1 + 1 + 1) (.int .i64 0) (.int .i64 0))
            generalize (put2 (put2 (put2 (W4.drewN (q + nq)) (w.heap.size + 1 + 1 + 1) (.int .i64 0) (.slice none 0 0)) (w.heap.size + 1 + 1 + 1 + 1) (.int .i64 0) (.slice none 0 0)) (w.heap.size + 1 + 1 + 1 + 1 + 1) (.int .i64 0) (.int .i64 0)) = wf at *
            have g0 := cell_blk p1 0
            have g1 := cell_blk p1 1
            have g2 := cell_blk p2 0
            have g3 := cell_blk p2 1
            have g4 := cell_blk p3 0
            have g5 := cell_blk p3 1
            simp at g0 g1 g2 g3 g4 g5
            refine bodyPost_ret (v := .tuple #[.agg #[.int .i64 0, .slice none 0 0], .agg #[.int .i64 0, .slice none 0 0], .agg #[.int .i64 0, .int .i64 0], .int .i64 10]) (by simp [results, Try.results15, go_sem, g0, g1, g2, g3, g4, g5]) rfl ?_
            rw [HS.out]
            exact ⟨none, 0, none, 0, [], [], rfl, bb, rfl, rfl, heapOwn_nil _ _, heapOwn_nil _ _⟩
          | false =>
            go_wp2
            go_quiet (fail)
            go_wp2
            go_roundg (R - (i + 1))
            case measure => go_light; omega
            case rel => go_light; exact ⟨i + 1, _, by omega, rfl, by go_num, rfl, fun p hp => by rw [HTK.out] at hp; rcases List.mem_append.1 hp with hp | hp; exact hD.out p hp; simp at hp; rw [hp]; exact hd.out⟩
        · have hnone : Aside (rr.any (fun p => (obAt l p).dead) = false) := by
            show rr.any _ = false
            rw [List.any_eq_false]
            intro p hp
            have := hD.out p (by rw [List.take_of_length_le (by rw [← HR.out]; omega)]; exact hp)
            simp [this]
          have bd : Below W4.heap.size W4 (W4.drewN q) := below_drewN (Below.refl _ _) q
          replace N0 := (bd.block _ (by omega)).trans N0
          replace N1 := (bd.block _ (by omega)).trans N1
          replace N2 := (bd.block _ (by omega)).trans N2
          replace N3 := (bd.block _ (by omega)).trans N3
          replace N4 := (bd.block _ (by omega)).trans N4
          replace N5 := (bd.block _ (by omega)).trans N5
          replace NL := (bd.block _ (by omega)).trans NL
          replace c0 := Keeps.below bd _ _ c0
          replace c1 := Keeps.below bd _ _ c1
          replace c2 := Keeps.below bd _ _ c2
          replace c3 := Keeps.below bd _ _ c3
          replace c4 := Keeps.below bd _ _ c4
          replace c5 := Keeps.below bd _ _ c5
          replace l0 := Keeps.below bd _ _ l0
          replace k1 := k1.trans (Keeps.below bd)
          replace b1 := b1.trans (bd.mono b1.size)
          replace hI : IntsOwn _ _ _ _ := ownsRow_below hI bd
          replace hsL2 : LB + 1 ≤ (W4.drewN q).heap.size := hsL2
          clear bd hA3 hob
          generalize W4.drewN q = W5 at *
          go_upto_region 10 with fail
          have NN := Deep.blk_alloc_new W5 (Obj.cells #[.int .i64 (l'.length : Int)] 3)
          have bL := below_box W5 (Obj.cells #[.int .i64 (l'.length : Int)] 3)
          replace N0 := (bL.block _ (by omega)).trans N0
          replace N1 := (bL.block _ (by omega)).trans N1
          replace N2 := (bL.block _ (by omega)).trans N2
          replace N3 := (bL.block _ (by omega)).trans N3
          replace N4 := (bL.block _ (by omega)).trans N4
          replace N5 := (bL.block _ (by omega)).trans N5
          replace NL := (bL.block _ (by omega)).trans NL
          replace c0 := Keeps.below bL _ _ c0
          replace c1 := Keeps.below bL _ _ c1
          replace c2 := Keeps.below bL _ _ c2
          replace c3 := Keeps.below bL _ _ c3
          replace c4 := Keeps.below bL _ _ c4
          replace c5 := Keeps.below bL _ _ c5
          replace l0 := Keeps.below bL _ _ l0
          replace k1 := k1.trans (Keeps.below bL)
          replace b1 := b1.trans (bL.mono b1.size)
          replace hI : IntsOwn _ _ _ _ := ownsRow_below hI bL
          obtain ⟨NB, hNB⟩ : ∃ NB, NB = W5.heap.size := ⟨_, rfl⟩
          rw [← hNB] at NN ⊢
          have hsN : LB + 1 ≤ NB := by omega
          have hsN2 : NB + 1 ≤ (W5.alloc (Obj.cells #[.int .i64 (l'.length : Int)] 3)).heap.size := by simp; omega
          clear bL hNB hsL2
          generalize W5.alloc (Obj.cells #[.int .i64 (l'.length : Int)] 3) = W6 at *
          have m0 := cell_blk NN 0
          simp at m0
          by_cases hroom : M' < ((l'.length + R : Nat) : Int)
          · have HS : Aside (transferS M l ⟨k, n⟩ M' l' move = ⟨0, [], 0, [], ⟨0, 0⟩, 7⟩) := transferS_err (by decide) (by
              rw [HT.out, hnone.out, ← HR.out]
              simp
              omega)
            have hz : M' < (l'.length : Int) + (R : Int) := by omega
            clear c0 c1 c2 c3 hE hone HT HOK
            have f3 : ∀ j, W6.frozen? ⟨w.heap.size + 1 + 1 + 1, j, none⟩ = false := fun j => fz_blk N3 j
            have f4 : ∀ j, W6.frozen? ⟨w.heap.size + 1 + 1 + 1 + 1, j, none⟩ = false := fun j => fz_blk N4 j
            have f5 : ∀ j, W6.frozen? ⟨w.heap.size + 1 + 1 + 1 + 1 + 1, j, none⟩ = false := fun j => fz_blk N5 j
            have d0 := cell_blk N3 0
            have d1 := cell_blk N3 1
            have d2 := cell_blk N4 0
            have d3 := cell_blk N4 1
            have d4 := cell_blk N5 0
            have d5 := cell_blk N5 1
            simp at d0 d1 d2 d3 d4 d5
            go_wp2
            have p3 := put2_blk (w := (put2 (put2 W6 (w.heap.size + 1 + 1 + 1) (.int .i64 0) (.slice none 0 0)) (w.heap.size + 1 + 1 + 1 + 1) (.int .i64 0) (.slice none 0 0))) (A := w.heap.size + 1 + 1 + 1 + 1 + 1) (((put2_other _ _ (by omega)).trans (put2_other _ _ (by omega))).trans N5) (.int .i64 0) (.int .i64 0)
            have p2 := (put2_other (w := (put2 (put2 W6 (w.heap.size + 1 + 1 + 1) (.int .i64 0) (.slice none 0 0)) (w.heap.size + 1 + 1 + 1 + 1) (.int .i64 0) (.slice none 0 0))) (A := w.heap.size + 1 + 1 + 1 + 1 + 1) (.int .i64 0) (.int .i64 0) (show w.heap.size + 1 + 1 + 1 + 1 ≠ _ by omega)).trans (put2_blk ((put2_other _ _ (by omega)).trans N4) (.int .i64 0) (.slice none 0 0))
            have p1 := (put2_other (w := (put2 (put2 W6 (w.heap.size + 1 + 1 + 1) (.int .i64 0) (.slice none 0 0)) (w.heap.size + 1 + 1 + 1 + 1) (.int .i64 0) (.slice none 0 0))) (A := w.heap.size + 1 + 1 + 1 + 1 + 1) (.int .i64 0) (.int .i64 0) (show w.heap.size + 1 + 1 + 1 ≠ _ by omega)).trans ((put2_other (A := w.heap.size + 1 + 1 + 1 + 1) (.int .i64 0) (.slice none 0 0) (show w.heap.size + 1 + 1 + 1 ≠ _ by omega)).trans (put2_blk N3 (.int .i64 0) (.slice none 0 0)))
            have bb : Below w.heap.size w (put2 (put2 (put2 W6 (w.heap.size + 1 + 1 + 1) (.int .i64 0) (.slice none 0 0)) (w.heap.size + 1 + 1 + 1 + 1) (.int .i64 0) (.slice none 0 0)) (w.heap.size + 1 + 1 + 1 + 1 + 1) (.int .i64 0) (.int .i64 0)) := put2_below (put2_below (put2_below b1 (by omega) _ _) (by omega) _ _) (by omega) _ _
            change bodyPost _ _ _ _ _ (put2 (put2 (put2 W6 (w.heap.size + 1 + 1 + 1) (.int .i64 0) (.slice none 0 0)) (w.heap.size + 1 + 1 + 1 + 1) (.int .i64 0) (.slice none 0 0)) (w.heap.size + 1 + 1 + 1 + 1 + 1) (.int .i64 0) (.int .i64 0))
            generalize (put2 (put2 (put2 W6 (w.heap.size + 1 + 1 + 1) (.int .i64 0) (.slice none 0 0)) (w.heap.size + 1 + 1 + 1 + 1) (.int .i64 0) (.slice none 0 0)) (w.heap.size + 1 + 1 + 1 + 1 + 1) (.int .i64 0) (.int .i64 0)) = wf at *
            have g0 := cell_blk p1 0
            have g1 := cell_blk p1 1
            have g2 := cell_blk p2 0
            have g3 := cell_blk p2 1
            have g4 := cell_blk p3 0
            have g5 := cell_blk p3 1
            simp at g0 g1 g2 g3 g4 g5
            refine bodyPost_ret (v := .tuple #[.agg #[.int .i64 0, .slice none 0 0], .agg #[.int .i64 0, .slice none 0 0], .agg #[.int .i64 0, .int .i64 0], .int .i64 7]) (by simp [results, Try.results15, go_sem, g0, g1, g2, g3, g4, g5]) rfl ?_
            rw [HS.out]
            exact ⟨none, 0, none, 0, [], [], rfl, bb, rfl, rfl, heapOwn_nil _ _, heapOwn_nil _ _⟩
          · have HS : Aside (transferS M l ⟨k, n⟩ M' l' move = ⟨M, if move then buryL l rr else l, M', l' ++ mvObs l rr l'.length rr, mvV rr l'.length ⟨k, n⟩, 0⟩) := by
              have e : trS M l ⟨k, n⟩ M' l' = (rr, 0) := by
                rw [HT.out, hnone.out, ← HR.out]
                simp
                omega
              show transferS _ _ _ _ _ _ = _
              rw [transferS, e]
              simp
            have hz : decide (M' < (l'.length : Int) + (R : Int)) = false := by simp; omega
            have hRoom : l'.length + R ≤ 60 := by omega
            have HND : Aside (∀ p ∈ rr, (obAt l p).dead = false) := fun p hp => by have := (List.any_eq_false.1 hnone.out) p hp; simpa using this
            clear HT hnone hD hroom
            go_wp2_with fail
            refine (heapCopy_any M ao cap l W6 (hE _ k1).1).mono ?_
            rintro e w7 ⟨va, rowsA, rfl, hrA, hOA, hb7⟩
            obtain ⟨aa, ac, rfl⟩ := hOA.form
            replace c4 := Keeps.below hb7 _ _ c4
            replace c5 := Keeps.below hb7 _ _ c5
            clear hz
            go_upto_region 13 with fail
            have NA := Deep.blk_alloc_new w7 (Obj.cells #[.int .i64 M, .slice aa rowsA.length ac] 24)
            have bA := below_box w7 (Obj.cells #[.int .i64 M, .slice aa rowsA.length ac] 24)
            have hb67 := hb7.trans (bA.mono hb7.size)
            replace c4 := Keeps.below bA _ _ c4
            replace c5 := Keeps.below bA _ _ c5
            replace hOA := hOA.below bA
            obtain ⟨AB, hAB⟩ : ∃ AB, AB = w7.heap.size := ⟨_, rfl⟩
            rw [← hAB] at NA ⊢
            have hsA : W6.heap.size ≤ AB := by have := hb7.size; omega
            have hsA2 : AB + 1 ≤ (w7.alloc (Obj.cells #[.int .i64 M, .slice aa rowsA.length ac] 24)).heap.size := by simp; omega
            clear bA hAB hb7
            generalize w7.alloc (Obj.cells #[.int .i64 M, .slice aa rowsA.length ac] 24) = w8 at *
            go_wp2_with fail
            refine (heapCopy_any M' ao' cap' l' w8 ((hE _ k1).2.keeps (Keeps.below hb67))).mono ?_
            rintro e w9 ⟨vb, rowsB, rfl, hrB, hOB, hb9⟩
            obtain ⟨ba, bc, rfl⟩ := hOB.form
            go_upto_region 14 with fail
            have NBB := Deep.blk_alloc_new w9 (Obj.cells #[.int .i64 M', .slice ba rowsB.length bc] 24)
            have bB := below_box w9 (Obj.cells #[.int .i64 M', .slice ba rowsB.length bc] 24)
            have hb89 := hb9.trans (bB.mono hb9.size)
            have hapAB : ∀ g, (Value.slice aa rowsA.length ac).ownBlock = some g → (Value.slice ba rowsB.length bc).ownBlock = some g → False := fun g e1 e2 => by
              have h1 := (World.ownsRow.lt hOA.top g e1).2
              have h2 := (World.ownsRow.lt hOB.top g e2).1
              omega
            obtain ⟨BB, hBB⟩ : ∃ BB, BB = w9.heap.size := ⟨_, rfl⟩
            rw [← hBB] at NBB ⊢
            have hs89 := hb9.size
            have hTP : TP W6 (w9.alloc (Obj.cells #[.int .i64 M', .slice ba rowsB.length bc] 24)) AB BB M M' aa ac rowsA ba bc rowsB :=
              ⟨hb67.trans (hb89.mono hb67.size), ⟨hsA, by omega, by simp; omega⟩, (hb89.block AB (by omega)).trans NA, hOA.below hb89, NBB, (hOB.below bB).le (by have := hb67.size; omega), hapAB⟩
            have hst : Aside (TMid W6 (w9.alloc (Obj.cells #[.int .i64 M', .slice ba rowsB.length bc] 24)) AB BB M M' (if move then buryL l (rr.take 0) else l) (l' ++ mvObs l rr l'.length (rr.take 0))) := ⟨aa, ac, rowsA, ba, bc, rowsB, hTP, by rw [hrA]; cases move <;> rfl, by rw [hrB]; simp [mvObs]⟩
            clear hTP hapAB NBB bB hb89 hBB hb9 hOB hrB hb67 hOA hrA NA hs89
            generalize w9.alloc (Obj.cells #[.int .i64 M', .slice ba rowsB.length bc] 24) = w10 at *
            have hIA : IntsAt W6 ov rr := IntsOwn.at hI
            have hob : ObsAt W6 ao l := (hE _ k1).1
            have NLr : W6.heap[LB]? = some (.cells #[.slice ov rr.length oc] 52 (0, 0)) := by rw [← HR.out]; exact NL
            clear c4 c5 hE hone N0 N2 hI
            go_wp2
            go_loopg [18, 19, 20] R (fun g s18 s19 s20 wr => ∃ i : Nat, i ≤ R ∧ g = R - i ∧ s18 = .int .i64 i ∧ TMid W6 wr AB BB M M' (if move then buryL l (rr.take i) else l) (l' ++ mvObs l rr l'.length (rr.take i)))
            case atStart => exact ⟨0, Nat.zero_le _, rfl, rfl, hst.out⟩
            case round =>
              obtain ⟨j, hj, rfl, rfl, hmid⟩ := hrel
              clear hst
              obtain ⟨xa, xc, rowsX, ya, yc, rowsY, hTP, hrX, hrY⟩ := hmid
              have hbw := hTP.below
              have kbw := Keeps.below hbw
              have e1 := kbw _ _ c1
              have eL := kbw _ _ l0
              generalize wr = wo at *
              by_cases hjR : j < R
              · have hjz : (j : Int) < (R : Int) := by omega
                obtain ⟨p, hp⟩ := at_some (l := rr) (i := j) (by rw [← HR.out]; exact hjR)
                have hpm := List.mem_of_getElem? hp
                have hpb := HOK.out.1.2 p hpm
                have hldp := HOK.out.2.2.2.1 p hpm
                have hf4 := HOK.out.2.2.2.2 p hpm
                obtain ⟨z, rfl⟩ := Int.eq_ofNat_of_zero_le hpb.1
                have hqz : (z : Int) < (l.length : Int) := hpb.2
                obtain ⟨⟨fs, dead⟩, hx⟩ := at_some (l := l) (i := z) (by omega)
                have hobz : obAt l (z : Int) = ⟨fs, dead⟩ := by simp [obAt, hx]
                rw [hobz] at hldp hf4
                simp only at hldp hf4
                have HTK : Aside (rr.take (j + 1) = rr.take j ++ [(z : Int)]) := by show rr.take (j + 1) = _; rw [List.take_add_one, hp]; rfl
                have HPJ : Aside (rr[j]? = some (z : Int)) := hp
                obtain ⟨b, o, fa, fc, rfl, d1, d2, hfs, hfl⟩ := hob.cell z _ hx
                obtain ⟨ib, io, rfl, d3⟩ := hIA j _ hp
                simp only at d1 d2 hfs hfl
                replace d1 := kbw _ _ d1
                replace d3 := kbw _ _ d3
                have hfsw := hfs.keeps kbw
                obtain ⟨FL, hFL⟩ : ∃ FL, FL = fs.length := ⟨_, rfl⟩
                have HFL : Aside (FL = fs.length) := hFL
                rw [← hFL] at d1 hfl hf4
                clear hFL
                have HLD : Aside (Leads rr fs) := hldp
                have hdd := HND.out _ hpm
                rw [hobz] at hdd
                simp only at hdd
                subst hdd
                have HDD : Aside (obAt l (z : Int) = ⟨fs, false⟩) := hobz
                have NLo := (hbw.block LB (by omega)).trans NLr
                have NNo := (hbw.block NB (by omega)).trans NN
                have hIAo := hIA.keeps kbw
                clear hp hx hpm hobz hldp hfs d2
                go_wp2
                have hom0 : Aside (OM wo (wo.alloc (Obj.cells #[.slice none 0 0, .bool false] 49)) wo.heap.size ((fs.take 0).map (mvV rr l'.length))) := by show OM _ _ _ _; simpa using om_start wo
                obtain ⟨X, hXe⟩ : ∃ X, X = wo.heap.size := ⟨_, rfl⟩
                rw [← hXe] at hom0 ⊢
                have HXE : Aside (X = wo.heap.size) := hXe
                have hib : ib < X := by have := World.block_lt_of_cell? _ _ d3; rw [hXe]; exact this
                have hbX : b < X := by have := World.block_lt_of_cell? _ _ d1; rw [hXe]; exact this
                have hXlo : NB + 1 ≤ X := by have := hbw.size; omega
                have hNBo : NB + 1 ≤ wo.heap.size := by have := hbw.size; omega
                have hXww : w.heap.size + 1 + 1 + 1 + 1 + 1 + 1 ≤ X := by omega
                clear hXe
                go_loopg [20] FL (fun g s20 wq => ∃ t : Nat, t ≤ FL ∧ g = FL - t ∧ s20 = .int .i64 t ∧ OM wo wq X ((fs.take t).map (mvV rr l'.length)))
                case atStart => exact ⟨0, Nat.zero_le _, rfl, rfl, hom0.out⟩
                case round =>
                  obtain ⟨t, ht, rfl, rfl, hom⟩ := hrel
                  clear hom0
                  have kq := Keeps.below hom.below
                  have g1 := kq _ _ e1
                  have g2 := kq _ _ eL
                  have g3 := kq _ _ d3
                  have g4 := kq _ _ d1
                  obtain ⟨qa, qc, hX, hv⟩ := hom.own
                  have hvl : ((fs.take t).map (mvV rr l'.length)).length = t := by rw [List.length_map, List.length_take, ← HFL.out]; omega
                  have HVL : Aside (((fs.take t).map (mvV rr l'.length)).length = t) := hvl
                  rw [hvl] at hX hv
                  have g5 := cell_blk hX 0
                  simp at g5
                  have hlx := hom.low.2
                  clear hvl
                  by_cases htF : t < FL
                  · have htz : (t : Int) < (FL : Int) := by omega
                    obtain ⟨⟨vk, vn⟩, hvv⟩ := at_some (l := fs) (i := t) (by rw [← HFL.out]; exact htF)
                    have HT1 : Aside ((fs.take (t + 1)).map (mvV rr l'.length) = (fs.take t).map (mvV rr l'.length) ++ [mvV rr l'.length ⟨vk, vn⟩]) := by show List.map _ _ = _; rw [List.take_add_one, hvv]; simp
                    have hkn := HLD.out ⟨vk, vn⟩ (List.mem_of_getElem? hvv)
                    simp only at hkn
                    obtain ⟨vb, vo, rfl, g6, g7⟩ := hfsw t _ hvv
                    simp only at g6 g7
                    have hvb : vb < X := by have := World.block_lt_of_cell? _ _ g6; rw [HXE.out]; exact this
                    replace g6 := kq _ _ g6
                    replace g7 := kq _ _ g7
                    clear hvv
                    go_wp2
                    go_quiet (fail)
                    have bd : Below wr.heap.size wr (wr.drewN nq) := below_drewN (Below.refl _ _) nq
                    replace hom := hom.keep bd
                    replace hX := (bd.block X (by omega)).trans hX
                    replace hv : ValsOwn (wr.drewN nq) (X + 1) (.slice qa t qc) ((fs.take t).map (mvV rr l'.length)) := ownsRow_below hv bd
                    replace g1 := Keeps.below bd _ _ g1
                    replace g2 := Keeps.below bd _ _ g2
                    replace g3 := Keeps.below bd _ _ g3
                    replace g4 := Keeps.below bd _ _ g4
                    replace g5 := Keeps.below bd _ _ g5
                    replace g6 := Keeps.below bd _ _ g6
                    replace g7 := Keeps.below bd _ _ g7
                    clear bd kq
                    generalize wr.drewN nq = wd at *
                    go_upto_region 22 with fail
                    refine wp_region_need (fun i => i != 19) (fun w' => w'.cell? ⟨X, 0, none⟩ = some (.slice qa t qc) ∧ w'.cell? ⟨w.heap.size, 1, none⟩ = some (.slice (some ⟨b, o, none⟩) l.length cap) ∧ w'.cell? ⟨LB, 0, none⟩ = some (.slice (some ⟨ib, io, none⟩) R oc) ∧ w'.cell? ⟨ib, io + j, none⟩ = some (.int .i64 z) ∧ w'.cell? ⟨b, o + z * 2, none⟩ = some (.slice (some ⟨vb, vo, none⟩) FL fc) ∧ w'.cell? ⟨vb, vo + t * 2, none⟩ = some (.int .i64 vk) ∧ w'.cell? ⟨vb, vo + t * 2 + 1, none⟩ = some (.int .i64 vn)) (by kernel_rfl) ⟨g5, g1, g2, g3, g4, g6, g7⟩ (fun hS => ?_)
                    have hbd : Below wd.heap.size wd wd.drew := (Below.refl _ _).drew
                    clear g1 g2 g3 g4 g5 g6 g7
                    refine wpAnyN_take (i := 0) (v := ?v1) rfl (by kernel_rfl) (by kernel_rfl) (by kernel_rfl) (by kernel_rfl) (fun _ _ _ h => h) (by rfl) ?hy1 hS ?rest1
                    case hy1 => (intro wy hSy; (try dsimp only at hSy); go_simp; try (with_reducible rfl))
                    simp only [Act.put, List.getElem_toArray, List.getElem_cons_zero, List.setIfInBounds_toArray, List.set_cons_zero, List.set_cons_succ]
                    refine wpAnyN_take (i := 1) (v := ?v2) rfl (by kernel_rfl) (by kernel_rfl) (by kernel_rfl) (by kernel_rfl) (fun _ _ _ h => h) (by rfl) ?hy2 hS ?rest2
                    case hy2 => (intro wy hSy; (try dsimp only at hSy); go_simp; try (with_reducible rfl))
                    simp only [Act.put, List.getElem_toArray, List.getElem_cons_zero, List.getElem_cons_succ, List.setIfInBounds_toArray, List.set_cons_zero, List.set_cons_succ]
                    refine wpAnyN_take (i := 2) (v := ?v3) rfl (by kernel_rfl) (by kernel_rfl) (by kernel_rfl) (by kernel_rfl) (fun _ _ _ h => h) (by rfl) ?hy3 hS ?rest3
                    case hy3 => (intro wy hSy; (try dsimp only at hSy); go_simp; try (with_reducible rfl))
                    simp only [Act.put, List.getElem_toArray, List.getElem_cons_zero, List.getElem_cons_succ, List.setIfInBounds_toArray, List.set_cons_zero, List.set_cons_succ]
                    refine wpAnyN_take (i := 3) (v := ?v4) rfl (by kernel_rfl) (by kernel_rfl) (by kernel_rfl) (by kernel_rfl) (fun _ _ _ h => h) (by rfl) ?hy4 hS ?rest4
                    case hy4 => (intro wy hSy; (try dsimp only at hSy); go_simp; try (with_reducible rfl))
                    simp only [Act.put, List.getElem_toArray, List.getElem_cons_zero, List.getElem_cons_succ, List.setIfInBounds_toArray, List.set_cons_zero, List.set_cons_succ]
                    refine wpAnyN_take (i := 4) (v := ?v5) rfl (by kernel_rfl) (by kernel_rfl) (by kernel_rfl) (by kernel_rfl) (fun _ _ _ h => h) (by rfl) ?hy5 hS ?rest5
                    case hy5 => (intro wy hSy; (try dsimp only at hSy); go_simp; try (with_reducible rfl))
                    simp only [Act.put, List.getElem_toArray, List.getElem_cons_zero, List.getElem_cons_succ, List.setIfInBounds_toArray, List.set_cons_zero, List.set_cons_succ]
                    refine wpAnyN_take (i := 5) (v := ?v6) rfl (by kernel_rfl) (by kernel_rfl) (by kernel_rfl) (by kernel_rfl) (fun _ _ _ h => h) (by rfl) ?hy6 hS ?rest6
                    case hy6 => (intro wy hSy; (try dsimp only at hSy); go_simp; try (with_reducible rfl))
                    simp only [Act.put, List.getElem_toArray, List.getElem_cons_zero, List.getElem_cons_succ, List.setIfInBounds_toArray, List.set_cons_zero, List.set_cons_succ]
                    refine wpAnyN_take (i := 6) (v := ?v7) rfl (by kernel_rfl) (by kernel_rfl) (by kernel_rfl) (by kernel_rfl) (fun _ _ _ h => h) (by rfl) ?hy7 hS ?rest7
                    case hy7 => (intro wy hSy; (try dsimp only at hSy); go_simp; try (with_reducible rfl))
                    simp only [Act.put, List.getElem_toArray, List.getElem_cons_zero, List.getElem_cons_succ, List.setIfInBounds_toArray, List.set_cons_zero, List.set_cons_succ]
                    refine wpAnyN_take (i := 7) (v := ?v8) rfl (by kernel_rfl) (by kernel_rfl) (by kernel_rfl) (by kernel_rfl) (fun _ _ _ h => h) (by rfl) ?hy8 hS ?rest8
                    case hy8 => (intro wy hSy; (try dsimp only at hSy); go_simp; try (with_reducible rfl))
                    simp only [Act.put, List.getElem_toArray, List.getElem_cons_zero, List.getElem_cons_succ, List.setIfInBounds_toArray, List.set_cons_zero, List.set_cons_succ]
                    refine wpAnyN_take (i := 8) (v := ?v9) rfl (by kernel_rfl) (by kernel_rfl) (by kernel_rfl) (by kernel_rfl) (fun _ _ _ h => h) (by rfl) ?hy9 hS ?rest9
                    case hy9 => (intro wy hSy; (try dsimp only at hSy); go_simp; try (with_reducible rfl))
                    simp only [Act.put, List.getElem_toArray, List.getElem_cons_zero, List.getElem_cons_succ, List.setIfInBounds_toArray, List.set_cons_zero, List.set_cons_succ]
                    refine wpAnyN_take (i := 9) (v := ?v10) rfl (by kernel_rfl) (by kernel_rfl) (by kernel_rfl) (by kernel_rfl) (fun _ _ _ h => h) (by rfl) ?hy10 hS ?rest10
                    case hy10 => (intro wy hSy; (try dsimp only at hSy); go_simp; try (with_reducible rfl))
                    simp only [Act.put, List.getElem_toArray, List.getElem_cons_zero, List.getElem_cons_succ, List.setIfInBounds_toArray, List.set_cons_zero, List.set_cons_succ]
                    refine wpAnyN_take (i := 10) (v := ?v11) rfl (by kernel_rfl) (by kernel_rfl) (by kernel_rfl) (by kernel_rfl) (fun _ _ _ h => h) (by rfl) ?hy11 hS ?rest11
                    case hy11 => (intro wy hSy; (try dsimp only at hSy); go_simp; try (with_reducible rfl))
                    simp only [Act.put, List.getElem_toArray, List.getElem_cons_zero, List.getElem_cons_succ, List.setIfInBounds_toArray, List.set_cons_zero, List.set_cons_succ]
                    refine wpAnyN_take (i := 11) (v := ?v12) rfl (by kernel_rfl) (by kernel_rfl) (by kernel_rfl) (by kernel_rfl) (fun _ _ _ h => h) (by rfl) ?hy12 hS ?rest12
                    case hy12 => (intro wy hSy; (try dsimp only at hSy); go_simp; try (with_reducible rfl))
                    simp only [Act.put, List.getElem_toArray, List.getElem_cons_zero, List.getElem_cons_succ, List.setIfInBounds_toArray, List.set_cons_zero, List.set_cons_succ]
                    refine wpAnyN_take (i := 12) (v := ?v13) rfl (by kernel_rfl) (by kernel_rfl) (by kernel_rfl) (by kernel_rfl) (fun _ _ _ h => h) (by rfl) ?hy13 hS ?rest13
                    case hy13 => (intro wy hSy; (try dsimp only at hSy); go_simp; try (with_reducible rfl))
                    simp only [Act.put, List.getElem_toArray, List.getElem_cons_zero, List.getElem_cons_succ, List.setIfInBounds_toArray, List.set_cons_zero, List.set_cons_succ]
                    refine wpAnyN_take (i := 13) (v := ?v14) rfl (by kernel_rfl) (by kernel_rfl) (by kernel_rfl) (by kernel_rfl) (fun _ _ _ h => h) (by rfl) ?hy14 hS ?rest14
                    case hy14 => (intro wy hSy; (try dsimp only at hSy); go_simp; try (with_reducible rfl))
                    simp only [Act.put, List.getElem_toArray, List.getElem_cons_zero, List.getElem_cons_succ, List.setIfInBounds_toArray, List.set_cons_zero, List.set_cons_succ]
                    refine wpAnyN_take (i := 14) (v := ?v15) rfl (by kernel_rfl) (by kernel_rfl) (by kernel_rfl) (by kernel_rfl) (fun _ _ _ h => h) (by rfl) ?hy15 hS ?rest15
                    case hy15 => (intro wy hSy; (try dsimp only at hSy); go_simp; try (with_reducible rfl))
                    simp only [Act.put, List.getElem_toArray, List.getElem_cons_zero, List.getElem_cons_succ, List.setIfInBounds_toArray, List.set_cons_zero, List.set_cons_succ]
                    have kd := (Keeps.below hom.below).trans (Keeps.below hbd)
                    have NLd := (hbd.block LB (by have := hom.below.size; omega)).trans ((hom.below.block LB (by omega)).trans NLo)
                    have NNd := (hbd.block NB (by have := hom.below.size; omega)).trans ((hom.below.block NB (by omega)).trans NNo)
                    have hfx := fixT_any vk vn LB NB (some ⟨ib, io, none⟩) oc rr l'.length wd.drew NLd NNd (hIAo.keeps kd) HOK.out.2.1 (by omega) hkn
                    refine wpAnyN_one (i := 15) (by kernel_rfl) rfl (fun K hK => ?_)
                    simp only [List.getElem_toArray, List.getElem_cons_zero, List.getElem_cons_succ]
                    go_simp
                    refine hfx.mono ?_
                    rintro e wz ⟨rfl, hbz⟩
                    replace hbz : Below wd.heap.size wd wz := hbd.trans hbz
                    have kz := Keeps.below hbz
                    replace hS := (⟨kz _ _ hS.1, kz _ _ hS.2.1, kz _ _ hS.2.2.1, kz _ _ hS.2.2.2.1, kz _ _ hS.2.2.2.2.1, kz _ _ hS.2.2.2.2.2.1, kz _ _ hS.2.2.2.2.2.2⟩ : wz.cell? ⟨X, 0, none⟩ = some (.slice qa t qc) ∧ wz.cell? ⟨w.heap.size, 1, none⟩ = some (.slice (some ⟨b, o, none⟩) l.length cap) ∧ wz.cell? ⟨LB, 0, none⟩ = some (.slice (some ⟨ib, io, none⟩) R oc) ∧ wz.cell? ⟨ib, io + j, none⟩ = some (.int .i64 z) ∧ wz.cell? ⟨b, o + z * 2, none⟩ = some (.slice (some ⟨vb, vo, none⟩) FL fc) ∧ wz.cell? ⟨vb, vo + t * 2, none⟩ = some (.int .i64 vk) ∧ wz.cell? ⟨vb, vo + t * 2 + 1, none⟩ = some (.int .i64 vn))
                    refine hK.out _ _ (fun _ => hS) ?_
                    clear hK hfx NLd NNd kd hbd
                    generalize hx : mvV rr l'.length ⟨vk, vn⟩ = x
                    have HX : Aside (mvV rr l'.length ⟨vk, vn⟩ = x) := hx
                    clear hx
                    obtain ⟨x1, x2⟩ := x
                    simp only
                    have hvz : ValsOwn wz (X + 1) (.slice qa t qc) ((fs.take t).map (mvV rr l'.length)) := ownsRow_below hv hbz
                    have hsz : X + 1 ≤ wz.heap.size := by have := hbz.size; have := hom.low; omega
                    refine wpAnyN_one (i := 16) (by kernel_rfl) rfl (fun K hK => ?_)
                    simp only [List.getElem_toArray, List.getElem_cons_zero, List.getElem_cons_succ]
                    go_simp
                    have ka := Keeps.alloc wz (Obj.cells #[.int .i64 x1, .int .i64 x2] 34)
                    have hbza : Below wd.heap.size wd (wz.alloc (Obj.cells #[.int .i64 x1, .int .i64 x2] 34)) := hbz.alloc hbz.size _
                    have hva : ValsOwn (wz.alloc (Obj.cells #[.int .i64 x1, .int .i64 x2] 34)) (X + 1) (.slice qa t qc) ((fs.take t).map (mvV rr l'.length)) := ownsRow_below hvz (below_box _ _)
                    have hone1 := vals_one wz x1 x2 34
                    have hsa : X + 1 ≤ (wz.alloc (Obj.cells #[.int .i64 x1, .int .i64 x2] 34)).heap.size := by simp; omega
                    replace hS := (⟨ka _ _ hS.1, ka _ _ hS.2.1, ka _ _ hS.2.2.1, ka _ _ hS.2.2.2.1, ka _ _ hS.2.2.2.2.1, ka _ _ hS.2.2.2.2.2.1, ka _ _ hS.2.2.2.2.2.2⟩ : (wz.alloc (Obj.cells #[.int .i64 x1, .int .i64 x2] 34)).cell? ⟨X, 0, none⟩ = some (.slice qa t qc) ∧ (wz.alloc (Obj.cells #[.int .i64 x1, .int .i64 x2] 34)).cell? ⟨w.heap.size, 1, none⟩ = some (.slice (some ⟨b, o, none⟩) l.length cap) ∧ (wz.alloc (Obj.cells #[.int .i64 x1, .int .i64 x2] 34)).cell? ⟨LB, 0, none⟩ = some (.slice (some ⟨ib, io, none⟩) R oc) ∧ (wz.alloc (Obj.cells #[.int .i64 x1, .int .i64 x2] 34)).cell? ⟨ib, io + j, none⟩ = some (.int .i64 z) ∧ (wz.alloc (Obj.cells #[.int .i64 x1, .int .i64 x2] 34)).cell? ⟨b, o + z * 2, none⟩ = some (.slice (some ⟨vb, vo, none⟩) FL fc) ∧ (wz.alloc (Obj.cells #[.int .i64 x1, .int .i64 x2] 34)).cell? ⟨vb, vo + t * 2, none⟩ = some (.int .i64 vk) ∧ (wz.alloc (Obj.cells #[.int .i64 x1, .int .i64 x2] 34)).cell? ⟨vb, vo + t * 2 + 1, none⟩ = some (.int .i64 vn))
                    refine hK.out _ _ (fun _ => hS) ?_
                    obtain ⟨ZB, hZB⟩ : ∃ ZB, ZB = wz.heap.size := ⟨_, rfl⟩
                    rw [← hZB] at hone1 ⊢
                    clear hK hvz hbz kz ka hZB hsz
                    generalize wz.alloc (Obj.cells #[.int .i64 x1, .int .i64 x2] 34) = wy at *
                    try simp only [Act.put, List.getElem_toArray, List.getElem_cons_zero, List.getElem_cons_succ, List.setIfInBounds_toArray, List.set_cons_zero, List.set_cons_succ]
                    refine wpAnyN_one (i := 17) (by kernel_rfl) rfl (fun K hK => ?_)
                    refine step_pushVals (by rfl) _ _ (by rfl) (by rfl) hva hsa [⟨x1, x2⟩] (some ⟨ZB, 0, none⟩) 1 (by rfl) hone1 (by simp) (by rw [HVL.out]; simp; omega) ?_
                    intro gg gc w6 hO6 hg6 hb6
                    have k6 : ∀ a v, a.block < X + 1 → wy.cell? a = some v → w6.cell? a = some v := fun a v ha hv => (hb6.cell ha).trans hv
                    replace hS := (⟨k6 _ _ (by show X < X + 1; omega) hS.1, k6 _ _ (by show w.heap.size < X + 1; omega) hS.2.1, k6 _ _ (by show LB < X + 1; omega) hS.2.2.1, k6 _ _ (by show ib < X + 1; omega) hS.2.2.2.1, k6 _ _ (by show b < X + 1; omega) hS.2.2.2.2.1, k6 _ _ (by show vb < X + 1; omega) hS.2.2.2.2.2.1, k6 _ _ (by show vb < X + 1; omega) hS.2.2.2.2.2.2⟩ : w6.cell? ⟨X, 0, none⟩ = some (.slice qa t qc) ∧ w6.cell? ⟨w.heap.size, 1, none⟩ = some (.slice (some ⟨b, o, none⟩) l.length cap) ∧ w6.cell? ⟨LB, 0, none⟩ = some (.slice (some ⟨ib, io, none⟩) R oc) ∧ w6.cell? ⟨ib, io + j, none⟩ = some (.int .i64 z) ∧ w6.cell? ⟨b, o + z * 2, none⟩ = some (.slice (some ⟨vb, vo, none⟩) FL fc) ∧ w6.cell? ⟨vb, vo + t * 2, none⟩ = some (.int .i64 vk) ∧ w6.cell? ⟨vb, vo + t * 2 + 1, none⟩ = some (.int .i64 vn))
                    refine hK.out _ _ (fun _ => hS) ?_
                    simp only [HVL.out, List.length_cons, List.length_nil, Nat.zero_add] at hO6 ⊢
                    have hX6 := (hb6.block X (by omega)).trans ((hbza.block X (by have := hom.low.2; omega)).trans hX)
                    have f6 : ∀ i, w6.frozen? ⟨X, i, none⟩ = false := fun i => fz_blk hX6 i
                    have hnx := hom.next (by rw [HVL.out]; exact hX) hbza (x := ⟨x1, x2⟩) (by rw [HVL.out]; exact hO6) hb6
                    rw [← HX.out, ← HT1.out, HVL.out] at hnx
                    have HNX : Aside (OM wo (w6.setCell ⟨X, 0, none⟩ (.slice (some ⟨gg, 0, none⟩) (t + 1) gc)) X ((fs.take (t + 1)).map (mvV rr l'.length))) := hnx
                    clear hK hnx hX6 hO6 hg6 hb6 k6 hva hsa hone1 hbza hv hX hom HX
                    simp only [Act.put, List.getElem_toArray, List.getElem_cons_zero, List.getElem_cons_succ, List.setIfInBounds_toArray, List.set_cons_zero, List.set_cons_succ]
                    refine wpAnyN_take (i := 18) (v := ?v16) rfl (by kernel_rfl) (by kernel_rfl) (by kernel_rfl) (by kernel_rfl) (fun _ _ _ h => h) (by rfl) ?hy16 hS ?rest16
                    case hy16 => (intro wy hSy; (try dsimp only at hSy); go_simp; try (with_reducible rfl))
                    simp only [Act.put, List.getElem_toArray, List.getElem_cons_zero, List.getElem_cons_succ, List.setIfInBounds_toArray, List.set_cons_zero, List.set_cons_succ]
                    have hS1 := hS.1
                    refine wpAnyN_one (i := 19) (by kernel_rfl) rfl (fun K hK => ?_)
                    simp only [List.getElem_toArray, List.getElem_cons_zero, List.getElem_cons_succ]
                    go_simp
                    refine hK.out _ _ (fun h => absurd h (by decide)) ?_
                    clear hK
                    refine wpAnyN_done (by kernel_rfl) ?_ _
                    refine NoPanic.normal ?_
                    clear f6 hS1 hS
                    generalize (w6.setCell ⟨X, 0, none⟩ (.slice (some ⟨gg, 0, none⟩) (t + 1) gc)) = w11 at *
                    go_wp2
                    go_roundg (FL - (t + 1))
                    case measure => go_light; omega
                    case rel => go_light; exact ⟨t + 1, by omega, rfl, by go_num, HNX.out⟩
                  · have HTT : Aside (fs.take t = fs) := by show fs.take t = fs; rw [List.take_of_length_le]; rw [← HFL.out]; omega
                    rw [HTT.out] at hom hv HVL
                    clear HTT
                    go_wp2
                    go_quiet (fail)
                    have bd : Below wr.heap.size wr (wr.drewN nq) := below_drewN (Below.refl _ _) nq
                    replace hom := hom.keep bd
                    replace hX := (bd.block X (by omega)).trans hX
                    replace hv : ValsOwn (wr.drewN nq) (X + 1) (.slice qa t qc) (fs.map (mvV rr l'.length)) := ownsRow_below hv bd
                    clear bd kq g1 g2 g3 g4 g5
                    generalize wr.drewN nq = wd at *
                    have hTPd := hTP.keep hom.below
                    have hap : ∀ (i : Nat) q, rowsY[i]? = some q → (Value.slice qa t qc).ownBlock = none ∨ (Value.slice qa t qc).ownBlock ≠ q.1.ownBlock := apart_new hTP.ob hv (by have := HXE.out; omega)
                    have hvd : ValsOwn wd W6.heap.size (.slice qa t qc) (⟨fs.map (mvV rr l'.length), false⟩ : Ob).fs := ownsRow_le hv (by have := hbw.size; have := HXE.out; omega)
                    have hyl : rowsY.length ≤ 60 := by
                      have := congrArg List.length hrY
                      rw [List.length_map, List.length_append, mvObs_length', List.length_take] at this
                      omega
                    have hvl2 : 16 * (⟨fs.map (mvV rr l'.length), false⟩ : Ob).fs.length ≤ 140737488351232 := by show 16 * (fs.map (mvV rr l'.length)).length ≤ _; rw [HVL.out]; omega
                    have hsd := hTPd.below.size
                    have y1 := cell_blk hTPd.b 1
                    have x0 := cell_blk hX 0
                    have x1 := cell_blk hX 1
                    simp at y1 x0 x1
                    have HYL : Aside (rowsY.length ≤ 60) := hyl
                    clear hX hv
                    go_upto_region 24 with (at_builtin; refine wpList_pushOb2 rfl _ _ (by rfl) (v := .slice ya rowsY.length yc) (by rfl) hTPd.ob hsd (.slice qa t qc) ⟨fs.map (mvV rr l'.length), false⟩ rfl hvd hvl2 hap (by omega) (by rfl) ?_; intro g2 gc2 w12 hO12 hg12 hgg12; have B12 := owns_blk (hTPd.ob.alloc (Obj.cells #[.slice qa t qc, .bool false] 49)).top hg12 ((Deep.blk_alloc_lt _ _ _ hTPd.low.2.2).trans hTPd.b) (by decide); have c12 := cell_blk B12 1; have f12 := fz_blk B12 1; simp at c12)
                    have hTP13 := hTPd.push hO12 hg12 hgg12
                    have hrY13 : Aside ((rowsY ++ [(Value.slice qa t qc, (⟨fs.map (mvV rr l'.length), false⟩ : Ob))]).map (·.2) = l' ++ mvObs l rr l'.length (rr.take (j + 1))) := by
                      show List.map _ _ = _
                      rw [List.map_append, hrY, HTK.out, mvObs_snoc, HDD.out, List.append_assoc]
                      rfl
                    clear B12 c12 f12 hO12 hg12 hgg12 hTPd hTP hap hvd hvl2 y1 x0 x1 hom hyl
                    generalize (w12.setCell ⟨BB, 1, none⟩ (.slice (some ⟨g2, 0, none⟩) (rowsY.length + 1) gc2)) = w13 at *
                    cases move with
                    | false =>
                      go_wp2
                      go_roundg (R - (j + 1))
                      case measure => go_light; omega
                      case rel => go_light; exact ⟨j + 1, by omega, rfl, by go_num, _, _, _, _, _, _, hTP13, hrX, hrY13.out⟩
                    | true =>
                      have hk13 := Keeps.below hTP13.below
                      have e1' := hk13 _ _ l0
                      obtain ⟨ib', io', hio, d3'⟩ := hIA j _ (show rr[j]? = some (z : Int) from HPJ.out)
                      simp only [Option.some.injEq, Addr.mk.injEq, and_true] at hio
                      obtain ⟨rfl, rfl⟩ := hio
                      replace d3' := hk13 _ _ d3'
                      have hXl : rowsX.length = l.length := by
                        have := congrArg List.length hrX
                        rw [List.length_map] at this
                        simpa [buryL_length] using this
                      obtain ⟨ga, hga⟩ : ∃ ga, xa = some ⟨ga, 0, none⟩ := by
                        rcases ownsRow_form hTP13.oa.top with ⟨_, hn⟩ | ⟨g, gc, hg', _⟩
                        · omega
                        · simp only [Value.slice.injEq] at hg'
                          exact ⟨g, hg'.1⟩
                      subst hga
                      have hzl : z < rowsX.length := by omega
                      obtain ⟨⟨rv, rob⟩, hrow⟩ := at_some hzl
                      have s0 := ownsRow_cell hTP13.oa.top rfl (j := z * 2) (u := rv) (by simp [obCells, pairs_fst, hrow, obPair])
                      have s1 := ownsRow_cell hTP13.oa.top rfl (j := z * 2 + 1) (u := .bool rob.dead) (by simp [obCells, pairs_snd, hrow, obPair])
                      have s2 : ∀ i, w13.frozen? ⟨ga, i, none⟩ = false := fun i => ownsRow_frozen hTP13.oa.top rfl i
                      have a1 := cell_blk hTP13.a 1
                      simp at a1
                      have hdd := (hTP13.dead hzl).keep (w1 := ((w13.setCell ⟨ga, z * 2, none⟩ (.slice none 0 0)).setCell ⟨ga, z * 2 + 1, none⟩ (.bool true)).drew) (Below.refl _ _).drew
                      have HDEAD : Aside (TP W6 ((w13.setCell ⟨ga, z * 2, none⟩ (.slice none 0 0)).setCell ⟨ga, z * 2 + 1, none⟩ (.bool true)).drew AB BB M M' (some ⟨ga, 0, none⟩) xc (rowsX.set z (.slice none 0 0, ⟨[], true⟩)) (some ⟨g2, 0, none⟩) gc2 (rowsY ++ [(Value.slice qa t qc, (⟨fs.map (mvV rr l'.length), false⟩ : Ob))])) := hdd
                      have hrX13 : Aside ((rowsX.set z (Value.slice none 0 0, (⟨[], true⟩ : Ob))).map (·.2) = if true = true then buryL l (rr.take (j + 1)) else l) := by
                        show List.map _ _ = _
                        rw [List.map_set, hrX, HTK.out]
                        simp [buryL_snoc]
                      rw [hXl] at a1
                      clear hdd hrow hTP13
                      go_wp2
                      go_region
                      all_goals
                        change Exit.inBlock _ _ _ _ ((w13.setCell ⟨ga, z * 2, none⟩ (.slice none 0 0)).setCell ⟨ga, z * 2 + 1, none⟩ (.bool true)).drew
                        have hTP14 := HDEAD.out
                        clear HDEAD s0 s1 s2 a1 e1' d3'
                        generalize ((w13.setCell ⟨ga, z * 2, none⟩ (.slice none 0 0)).setCell ⟨ga, z * 2 + 1, none⟩ (.bool true)).drew = w14 at *
                        go_wp2
                        go_roundg (R - (j + 1))
                        case measure => go_light; omega
                        case rel => go_light; exact ⟨j + 1, by omega, rfl, by go_num, _, _, _, _, _, _, hTP14, hrX13.out, hrY13.out⟩
              · have HTJ : Aside (rr.take j = rr) := by show rr.take j = rr; rw [List.take_of_length_le]; rw [← HR.out]; omega
                rw [HTJ.out] at hrX hrY
                have HRX : Aside (rowsX.map (·.2) = if move then buryL l rr else l) := hrX
                have HRY : Aside (rowsY.map (·.2) = l' ++ mvObs l rr l'.length rr) := hrY
                clear hrX hrY
                have a0 := cell_blk hTP.a 0
                have a1 := cell_blk hTP.a 1
                have b0 := cell_blk hTP.b 0
                have b1' := cell_blk hTP.b 1
                simp at a0 a1 b0 b1'
                have v0 := kbw _ _ c2
                have v1 := kbw _ _ c3
                have hlo := hTP.low
                replace N3 := (hbw.block _ (by omega)).trans N3
                replace N4 := (hbw.block _ (by omega)).trans N4
                replace N5 := (hbw.block _ (by omega)).trans N5
                have NLo := (hbw.block LB (by omega)).trans NLr
                have NNo := (hbw.block NB (by omega)).trans NN
                have hIAo := hIA.keeps kbw
                have hkn := HOK.out.2.2.1 ⟨k, n⟩ (by simp)
                simp only at hkn
                have bw := b1.trans (hbw.mono b1.size)
                have hs6w := b1.size
                clear c0 c1 c2 c3 N1 NL l0 m0 kbw
                go_upto_region 26 with fail
                clear e1 eL
                refine wp_region_need (fun j => true) (fun w' => w'.cell? ⟨AB, 0, none⟩ = some (.int .i64 M) ∧ w'.cell? ⟨AB, 1, none⟩ = some (.slice xa rowsX.length xc) ∧ w'.cell? ⟨BB, 0, none⟩ = some (.int .i64 M') ∧ w'.cell? ⟨BB, 1, none⟩ = some (.slice ya rowsY.length yc) ∧ w'.cell? ⟨w.heap.size + 1, 0, none⟩ = some (.int .i64 k) ∧ w'.cell? ⟨w.heap.size + 1, 1, none⟩ = some (.int .i64 n)) (by kernel_rfl) ⟨a0, a1, b0, b1', v0, v1⟩ (fun hS => ?_)
                have hbd : Below wo.heap.size wo wo.drew := (Below.refl _ _).drew
                clear a0 a1 b0 b1' v0 v1
                refine wpAnyN_take (i := 0) (v := ?v17) rfl (by kernel_rfl) (by kernel_rfl) (by kernel_rfl) (by kernel_rfl) (fun _ _ _ h => h) (by rfl) ?hy17 hS ?rest17
                case hy17 => (intro wy hSy; (try dsimp only at hSy); go_simp; try (with_reducible rfl))
                simp only [Act.put, List.getElem_toArray, List.getElem_cons_zero, List.setIfInBounds_toArray, List.set_cons_zero, List.set_cons_succ]
                refine wpAnyN_take (i := 1) (v := ?v18) rfl (by kernel_rfl) (by kernel_rfl) (by kernel_rfl) (by kernel_rfl) (fun _ _ _ h => h) (by rfl) ?hy18 hS ?rest18
                case hy18 => (intro wy hSy; (try dsimp only at hSy); go_simp; try (with_reducible rfl))
                simp only [Act.put, List.getElem_toArray, List.getElem_cons_zero, List.getElem_cons_succ, List.setIfInBounds_toArray, List.set_cons_zero, List.set_cons_succ]
                refine wpAnyN_take (i := 2) (v := ?v19) rfl (by kernel_rfl) (by kernel_rfl) (by kernel_rfl) (by kernel_rfl) (fun _ _ _ h => h) (by rfl) ?hy19 hS ?rest19
                case hy19 => (intro wy hSy; (try dsimp only at hSy); go_simp; try (with_reducible rfl))
                simp only [Act.put, List.getElem_toArray, List.getElem_cons_zero, List.getElem_cons_succ, List.setIfInBounds_toArray, List.set_cons_zero, List.set_cons_succ]
                refine wpAnyN_take (i := 3) (v := ?v20) rfl (by kernel_rfl) (by kernel_rfl) (by kernel_rfl) (by kernel_rfl) (fun _ _ _ h => h) (by rfl) ?hy20 hS ?rest20
                case hy20 => (intro wy hSy; (try dsimp only at hSy); go_simp; try (with_reducible rfl))
                simp only [Act.put, List.getElem_toArray, List.getElem_cons_zero, List.getElem_cons_succ, List.setIfInBounds_toArray, List.set_cons_zero, List.set_cons_succ]
                have hfx := fixT_any k n LB NB ov oc rr l'.length wo.drew ((hbd.block LB (by have := hbw.size; omega)).trans NLo) ((hbd.block NB (by have := hbw.size; omega)).trans NNo) (hIAo.keeps (Keeps.below hbd)) HOK.out.2.1 (by omega) hkn
                refine wpAnyN_one (i := 4) (by kernel_rfl) rfl (fun K hK => ?_)
                simp only [List.getElem_toArray, List.getElem_cons_zero, List.getElem_cons_succ]
                go_simp
                refine hfx.mono ?_
                rintro e wz ⟨rfl, hbz⟩
                replace hbz : Below wo.heap.size wo wz := hbd.trans hbz
                have kz := Keeps.below hbz
                replace hS := (⟨kz _ _ hS.1, kz _ _ hS.2.1, kz _ _ hS.2.2.1, kz _ _ hS.2.2.2.1, kz _ _ hS.2.2.2.2.1, kz _ _ hS.2.2.2.2.2⟩ : wz.cell? ⟨AB, 0, none⟩ = some (.int .i64 M) ∧ wz.cell? ⟨AB, 1, none⟩ = some (.slice xa rowsX.length xc) ∧ wz.cell? ⟨BB, 0, none⟩ = some (.int .i64 M') ∧ wz.cell? ⟨BB, 1, none⟩ = some (.slice ya rowsY.length yc) ∧ wz.cell? ⟨w.heap.size + 1, 0, none⟩ = some (.int .i64 k) ∧ wz.cell? ⟨w.heap.size + 1, 1, none⟩ = some (.int .i64 n))
                refine hK.out _ _ (fun _ => hS) ?_
                generalize hx : mvV rr l'.length ⟨k, n⟩ = x
                have HX : Aside (mvV rr l'.length ⟨k, n⟩ = x) := hx
                clear hx
                obtain ⟨x1, x2⟩ := x
                simp only
                have hszo := hbw.size
                replace N3 := (hbz.block _ (by omega)).trans N3
                replace N4 := (hbz.block _ (by omega)).trans N4
                replace N5 := (hbz.block _ (by omega)).trans N5
                have hOa := hTP.oa.below hbz
                have hOb := hTP.ob.below hbz
                have bz := bw.trans (hbz.mono bw.size)
                have f3 : ∀ j, wz.frozen? ⟨w.heap.size + 1 + 1 + 1, j, none⟩ = false := fun j => fz_blk N3 j
                have f4 : ∀ j, wz.frozen? ⟨w.heap.size + 1 + 1 + 1 + 1, j, none⟩ = false := fun j => fz_blk N4 j
                have f5 : ∀ j, wz.frozen? ⟨w.heap.size + 1 + 1 + 1 + 1 + 1, j, none⟩ = false := fun j => fz_blk N5 j
                have d0 := cell_blk N3 0
                have d1 := cell_blk N3 1
                have d2 := cell_blk N4 0
                have d3 := cell_blk N4 1
                have d4 := cell_blk N5 0
                have d5 := cell_blk N5 1
                simp at d0 d1 d2 d3 d4 d5
                clear hK hbz kz hbd hTP hfx NLo NNo hIAo bw
                have hS5 : (put2 wz (w.heap.size + 1 + 1 + 1) (.int .i64 M) (.slice xa rowsX.length xc)).cell? ⟨AB, 0, none⟩ = some (.int .i64 M) ∧ (put2 wz (w.heap.size + 1 + 1 + 1) (.int .i64 M) (.slice xa rowsX.length xc)).cell? ⟨AB, 1, none⟩ = some (.slice xa rowsX.length xc) ∧ (put2 wz (w.heap.size + 1 + 1 + 1) (.int .i64 M) (.slice xa rowsX.length xc)).cell? ⟨BB, 0, none⟩ = some (.int .i64 M') ∧ (put2 wz (w.heap.size + 1 + 1 + 1) (.int .i64 M) (.slice xa rowsX.length xc)).cell? ⟨BB, 1, none⟩ = some (.slice ya rowsY.length yc) ∧ (put2 wz (w.heap.size + 1 + 1 + 1) (.int .i64 M) (.slice xa rowsX.length xc)).cell? ⟨w.heap.size + 1, 0, none⟩ = some (.int .i64 k) ∧ (put2 wz (w.heap.size + 1 + 1 + 1) (.int .i64 M) (.slice xa rowsX.length xc)).cell? ⟨w.heap.size + 1, 1, none⟩ = some (.int .i64 n) := ⟨(World.cell?_of_block (put2_other _ _ (by show AB ≠ _; omega))).trans hS.1, (World.cell?_of_block (put2_other _ _ (by show AB ≠ _; omega))).trans hS.2.1, (World.cell?_of_block (put2_other _ _ (by show BB ≠ _; omega))).trans hS.2.2.1, (World.cell?_of_block (put2_other _ _ (by show BB ≠ _; omega))).trans hS.2.2.2.1, (World.cell?_of_block (put2_other _ _ (by show w.heap.size + 1 ≠ _; omega))).trans hS.2.2.2.2.1, (World.cell?_of_block (put2_other _ _ (by show w.heap.size + 1 ≠ _; omega))).trans hS.2.2.2.2.2⟩
                have HS5 : Aside ((put2 wz (w.heap.size + 1 + 1 + 1) (.int .i64 M) (.slice xa rowsX.length xc)).cell? ⟨AB, 0, none⟩ = some (.int .i64 M) ∧ (put2 wz (w.heap.size + 1 + 1 + 1) (.int .i64 M) (.slice xa rowsX.length xc)).cell? ⟨AB, 1, none⟩ = some (.slice xa rowsX.length xc) ∧ (put2 wz (w.heap.size + 1 + 1 + 1) (.int .i64 M) (.slice xa rowsX.length xc)).cell? ⟨BB, 0, none⟩ = some (.int .i64 M') ∧ (put2 wz (w.heap.size + 1 + 1 + 1) (.int .i64 M) (.slice xa rowsX.length xc)).cell? ⟨BB, 1, none⟩ = some (.slice ya rowsY.length yc) ∧ (put2 wz (w.heap.size + 1 + 1 + 1) (.int .i64 M) (.slice xa rowsX.length xc)).cell? ⟨w.heap.size + 1, 0, none⟩ = some (.int .i64 k) ∧ (put2 wz (w.heap.size + 1 + 1 + 1) (.int .i64 M) (.slice xa rowsX.length xc)).cell? ⟨w.heap.size + 1, 1, none⟩ = some (.int .i64 n)) := hS5
                clear hS5 hS
                refine wpAnyN_one (i := 5) (by kernel_rfl) rfl (fun K hK => ?_)
                simp only [List.getElem_toArray, List.getElem_cons_zero, List.getElem_cons_succ]
                go_simp
                have hS := HS5.out
                refine hK.out _ _ (fun _ => hS) ?_
                clear hK
                have hS6 : (put2 (put2 wz (w.heap.size + 1 + 1 + 1) (.int .i64 M) (.slice xa rowsX.length xc)) (w.heap.size + 1 + 1 + 1 + 1) (.int .i64 M') (.slice ya rowsY.length yc)).cell? ⟨AB, 0, none⟩ = some (.int .i64 M) ∧ (put2 (put2 wz (w.heap.size + 1 + 1 + 1) (.int .i64 M) (.slice xa rowsX.length xc)) (w.heap.size + 1 + 1 + 1 + 1) (.int .i64 M') (.slice ya rowsY.length yc)).cell? ⟨AB, 1, none⟩ = some (.slice xa rowsX.length xc) ∧ (put2 (put2 wz (w.heap.size + 1 + 1 + 1) (.int .i64 M) (.slice xa rowsX.length xc)) (w.heap.size + 1 + 1 + 1 + 1) (.int .i64 M') (.slice ya rowsY.length yc)).cell? ⟨BB, 0, none⟩ = some (.int .i64 M') ∧ (put2 (put2 wz (w.heap.size + 1 + 1 + 1) (.int .i64 M) (.slice xa rowsX.length xc)) (w.heap.size + 1 + 1 + 1 + 1) (.int .i64 M') (.slice ya rowsY.length yc)).cell? ⟨BB, 1, none⟩ = some (.slice ya rowsY.length yc) ∧ (put2 (put2 wz (w.heap.size + 1 + 1 + 1) (.int .i64 M) (.slice xa rowsX.length xc)) (w.heap.size + 1 + 1 + 1 + 1) (.int .i64 M') (.slice ya rowsY.length yc)).cell? ⟨w.heap.size + 1, 0, none⟩ = some (.int .i64 k) ∧ (put2 (put2 wz (w.heap.size + 1 + 1 + 1) (.int .i64 M) (.slice xa rowsX.length xc)) (w.heap.size + 1 + 1 + 1 + 1) (.int .i64 M') (.slice ya rowsY.length yc)).cell? ⟨w.heap.size + 1, 1, none⟩ = some (.int .i64 n) := ⟨(World.cell?_of_block (put2_other _ _ (by show AB ≠ _; omega))).trans hS.1, (World.cell?_of_block (put2_other _ _ (by show AB ≠ _; omega))).trans hS.2.1, (World.cell?_of_block (put2_other _ _ (by show BB ≠ _; omega))).trans hS.2.2.1, (World.cell?_of_block (put2_other _ _ (by show BB ≠ _; omega))).trans hS.2.2.2.1, (World.cell?_of_block (put2_other _ _ (by show w.heap.size + 1 ≠ _; omega))).trans hS.2.2.2.2.1, (World.cell?_of_block (put2_other _ _ (by show w.heap.size + 1 ≠ _; omega))).trans hS.2.2.2.2.2⟩
                have HS6 : Aside ((put2 (put2 wz (w.heap.size + 1 + 1 + 1) (.int .i64 M) (.slice xa rowsX.length xc)) (w.heap.size + 1 + 1 + 1 + 1) (.int .i64 M') (.slice ya rowsY.length yc)).cell? ⟨AB, 0, none⟩ = some (.int .i64 M) ∧ (put2 (put2 wz (w.heap.size + 1 + 1 + 1) (.int .i64 M) (.slice xa rowsX.length xc)) (w.heap.size + 1 + 1 + 1 + 1) (.int .i64 M') (.slice ya rowsY.length yc)).cell? ⟨AB, 1, none⟩ = some (.slice xa rowsX.length xc) ∧ (put2 (put2 wz (w.heap.size + 1 + 1 + 1) (.int .i64 M) (.slice xa rowsX.length xc)) (w.heap.size + 1 + 1 + 1 + 1) (.int .i64 M') (.slice ya rowsY.length yc)).cell? ⟨BB, 0, none⟩ = some (.int .i64 M') ∧ (put2 (put2 wz (w.heap.size + 1 + 1 + 1) (.int .i64 M) (.slice xa rowsX.length xc)) (w.heap.size + 1 + 1 + 1 + 1) (.int .i64 M') (.slice ya rowsY.length yc)).cell? ⟨BB, 1, none⟩ = some (.slice ya rowsY.length yc) ∧ (put2 (put2 wz (w.heap.size + 1 + 1 + 1) (.int .i64 M) (.slice xa rowsX.length xc)) (w.heap.size + 1 + 1 + 1 + 1) (.int .i64 M') (.slice ya rowsY.length yc)).cell? ⟨w.heap.size + 1, 0, none⟩ = some (.int .i64 k) ∧ (put2 (put2 wz (w.heap.size + 1 + 1 + 1) (.int .i64 M) (.slice xa rowsX.length xc)) (w.heap.size + 1 + 1 + 1 + 1) (.int .i64 M') (.slice ya rowsY.length yc)).cell? ⟨w.heap.size + 1, 1, none⟩ = some (.int .i64 n)) := hS6
                clear hS6 hS
                refine wpAnyN_one (i := 6) (by kernel_rfl) rfl (fun K hK => ?_)
                simp only [List.getElem_toArray, List.getElem_cons_zero, List.getElem_cons_succ]
                go_simp
                have hS := HS6.out
                refine hK.out _ _ (fun _ => hS) ?_
                clear hK
                have hS7 : (put2 (put2 (put2 wz (w.heap.size + 1 + 1 + 1) (.int .i64 M) (.slice xa rowsX.length xc)) (w.heap.size + 1 + 1 + 1 + 1) (.int .i64 M') (.slice ya rowsY.length yc)) (w.heap.size + 1 + 1 + 1 + 1 + 1) (.int .i64 x1) (.int .i64 x2)).cell? ⟨AB, 0, none⟩ = some (.int .i64 M) ∧ (put2 (put2 (put2 wz (w.heap.size + 1 + 1 + 1) (.int .i64 M) (.slice xa rowsX.length xc)) (w.heap.size + 1 + 1 + 1 + 1) (.int .i64 M') (.slice ya rowsY.length yc)) (w.heap.size + 1 + 1 + 1 + 1 + 1) (.int .i64 x1) (.int .i64 x2)).cell? ⟨AB, 1, none⟩ = some (.slice xa rowsX.length xc) ∧ (put2 (put2 (put2 wz (w.heap.size + 1 + 1 + 1) (.int .i64 M) (.slice xa rowsX.length xc)) (w.heap.size + 1 + 1 + 1 + 1) (.int .i64 M') (.slice ya rowsY.length yc)) (w.heap.size + 1 + 1 + 1 + 1 + 1) (.int .i64 x1) (.int .i64 x2)).cell? ⟨BB, 0, none⟩ = some (.int .i64 M') ∧ (put2 (put2 (put2 wz (w.heap.size + 1 + 1 + 1) (.int .i64 M) (.slice xa rowsX.length xc)) (w.heap.size + 1 + 1 + 1 + 1) (.int .i64 M') (.slice ya rowsY.length yc)) (w.heap.size + 1 + 1 + 1 + 1 + 1) (.int .i64 x1) (.int .i64 x2)).cell? ⟨BB, 1, none⟩ = some (.slice ya rowsY.length yc) ∧ (put2 (put2 (put2 wz (w.heap.size + 1 + 1 + 1) (.int .i64 M) (.slice xa rowsX.length xc)) (w.heap.size + 1 + 1 + 1 + 1) (.int .i64 M') (.slice ya rowsY.length yc)) (w.heap.size + 1 + 1 + 1 + 1 + 1) (.int .i64 x1) (.int .i64 x2)).cell? ⟨w.heap.size + 1, 0, none⟩ = some (.int .i64 k) ∧ (put2 (put2 (put2 wz (w.heap.size + 1 + 1 + 1) (.int .i64 M) (.slice xa rowsX.length xc)) (w.heap.size + 1 + 1 + 1 + 1) (.int .i64 M') (.slice ya rowsY.length yc)) (w.heap.size + 1 + 1 + 1 + 1 + 1) (.int .i64 x1) (.int .i64 x2)).cell? ⟨w.heap.size + 1, 1, none⟩ = some (.int .i64 n) := ⟨(World.cell?_of_block (put2_other _ _ (by show AB ≠ _; omega))).trans hS.1, (World.cell?_of_block (put2_other _ _ (by show AB ≠ _; omega))).trans hS.2.1, (World.cell?_of_block (put2_other _ _ (by show BB ≠ _; omega))).trans hS.2.2.1, (World.cell?_of_block (put2_other _ _ (by show BB ≠ _; omega))).trans hS.2.2.2.1, (World.cell?_of_block (put2_other _ _ (by show w.heap.size + 1 ≠ _; omega))).trans hS.2.2.2.2.1, (World.cell?_of_block (put2_other _ _ (by show w.heap.size + 1 ≠ _; omega))).trans hS.2.2.2.2.2⟩
                have HS7 : Aside ((put2 (put2 (put2 wz (w.heap.size + 1 + 1 + 1) (.int .i64 M) (.slice xa rowsX.length xc)) (w.heap.size + 1 + 1 + 1 + 1) (.int .i64 M') (.slice ya rowsY.length yc)) (w.heap.size + 1 + 1 + 1 + 1 + 1) (.int .i64 x1) (.int .i64 x2)).cell? ⟨AB, 0, none⟩ = some (.int .i64 M) ∧ (put2 (put2 (put2 wz (w.heap.size + 1 + 1 + 1) (.int .i64 M) (.slice xa rowsX.length xc)) (w.heap.size + 1 + 1 + 1 + 1) (.int .i64 M') (.slice ya rowsY.length yc)) (w.heap.size + 1 + 1 + 1 + 1 + 1) (.int .i64 x1) (.int .i64 x2)).cell? ⟨AB, 1, none⟩ = some (.slice xa rowsX.length xc) ∧ (put2 (put2 (put2 wz (w.heap.size + 1 + 1 + 1) (.int .i64 M) (.slice xa rowsX.length xc)) (w.heap.size + 1 + 1 + 1 + 1) (.int .i64 M') (.slice ya rowsY.length yc)) (w.heap.size + 1 + 1 + 1 + 1 + 1) (.int .i64 x1) (.int .i64 x2)).cell? ⟨BB, 0, none⟩ = some (.int .i64 M') ∧ (put2 (put2 (put2 wz (w.heap.size + 1 + 1 + 1) (.int .i64 M) (.slice xa rowsX.length xc)) (w.heap.size + 1 + 1 + 1 + 1) (.int .i64 M') (.slice ya rowsY.length yc)) (w.heap.size + 1 + 1 + 1 + 1 + 1) (.int .i64 x1) (.int .i64 x2)).cell? ⟨BB, 1, none⟩ = some (.slice ya rowsY.length yc) ∧ (put2 (put2 (put2 wz (w.heap.size + 1 + 1 + 1) (.int .i64 M) (.slice xa rowsX.length xc)) (w.heap.size + 1 + 1 + 1 + 1) (.int .i64 M') (.slice ya rowsY.length yc)) (w.heap.size + 1 + 1 + 1 + 1 + 1) (.int .i64 x1) (.int .i64 x2)).cell? ⟨w.heap.size + 1, 0, none⟩ = some (.int .i64 k) ∧ (put2 (put2 (put2 wz (w.heap.size + 1 + 1 + 1) (.int .i64 M) (.slice xa rowsX.length xc)) (w.heap.size + 1 + 1 + 1 + 1) (.int .i64 M') (.slice ya rowsY.length yc)) (w.heap.size + 1 + 1 + 1 + 1 + 1) (.int .i64 x1) (.int .i64 x2)).cell? ⟨w.heap.size + 1, 1, none⟩ = some (.int .i64 n)) := hS7
                clear hS7 hS
                refine wpAnyN_one (i := 7) (by kernel_rfl) rfl (fun K hK => ?_)
                simp only [List.getElem_toArray, List.getElem_cons_zero, List.getElem_cons_succ]
                go_simp
                have hS := HS7.out
                refine hK.out _ _ (fun _ => hS) ?_
                clear hK
                refine wpAnyN_take (i := 8) (v := ?v21) rfl (by kernel_rfl) (by kernel_rfl) (by kernel_rfl) (by kernel_rfl) (fun _ _ _ h => h) (by rfl) ?hy21 hS ?rest21
                case hy21 => (intro wy hSy; (try dsimp only at hSy); go_simp; try (with_reducible rfl))
                simp only [Act.put, List.getElem_toArray, List.getElem_cons_zero, List.getElem_cons_succ, List.setIfInBounds_toArray, List.set_cons_zero, List.set_cons_succ]
                refine wpAnyN_done (by kernel_rfl) ?_ _
                refine NoPanic.normal ?_
                have p3 := put2_blk (w := (put2 (put2 wz (w.heap.size + 1 + 1 + 1) (.int .i64 M) (.slice xa rowsX.length xc)) (w.heap.size + 1 + 1 + 1 + 1) (.int .i64 M') (.slice ya rowsY.length yc))) (A := w.heap.size + 1 + 1 + 1 + 1 + 1) (((put2_other _ _ (by omega)).trans (put2_other _ _ (by omega))).trans N5) (.int .i64 x1) (.int .i64 x2)
                have p2 := (put2_other (w := (put2 (put2 wz (w.heap.size + 1 + 1 + 1) (.int .i64 M) (.slice xa rowsX.length xc)) (w.heap.size + 1 + 1 + 1 + 1) (.int .i64 M') (.slice ya rowsY.length yc))) (A := w.heap.size + 1 + 1 + 1 + 1 + 1) (.int .i64 x1) (.int .i64 x2) (show w.heap.size + 1 + 1 + 1 + 1 ≠ _ by omega)).trans (put2_blk ((put2_other _ _ (by omega)).trans N4) (.int .i64 M') (.slice ya rowsY.length yc))
                have p1 := (put2_other (w := (put2 (put2 wz (w.heap.size + 1 + 1 + 1) (.int .i64 M) (.slice xa rowsX.length xc)) (w.heap.size + 1 + 1 + 1 + 1) (.int .i64 M') (.slice ya rowsY.length yc))) (A := w.heap.size + 1 + 1 + 1 + 1 + 1) (.int .i64 x1) (.int .i64 x2) (show w.heap.size + 1 + 1 + 1 ≠ _ by omega)).trans ((put2_other (A := w.heap.size + 1 + 1 + 1 + 1) (.int .i64 M') (.slice ya rowsY.length yc) (show w.heap.size + 1 + 1 + 1 ≠ _ by omega)).trans (put2_blk N3 (.int .i64 M) (.slice xa rowsX.length xc)))
                have bb : Below w.heap.size w (put2 (put2 (put2 wz (w.heap.size + 1 + 1 + 1) (.int .i64 M) (.slice xa rowsX.length xc)) (w.heap.size + 1 + 1 + 1 + 1) (.int .i64 M') (.slice ya rowsY.length yc)) (w.heap.size + 1 + 1 + 1 + 1 + 1) (.int .i64 x1) (.int .i64 x2)) := put2_below (put2_below (put2_below bz (by omega) _ _) (by omega) _ _) (by omega) _ _
                have hOA : HeapOwn (put2 (put2 (put2 wz (w.heap.size + 1 + 1 + 1) (.int .i64 M) (.slice xa rowsX.length xc)) (w.heap.size + 1 + 1 + 1 + 1) (.int .i64 M') (.slice ya rowsY.length yc)) (w.heap.size + 1 + 1 + 1 + 1 + 1) (.int .i64 x1) (.int .i64 x2)) W6.heap.size (.slice xa rowsX.length xc) rowsX := ((hOa.put2Low (by omega) _ _).put2Low (by omega) _ _).put2Low (by omega) _ _
                have hOB : HeapOwn (put2 (put2 (put2 wz (w.heap.size + 1 + 1 + 1) (.int .i64 M) (.slice xa rowsX.length xc)) (w.heap.size + 1 + 1 + 1 + 1) (.int .i64 M') (.slice ya rowsY.length yc)) (w.heap.size + 1 + 1 + 1 + 1 + 1) (.int .i64 x1) (.int .i64 x2)) W6.heap.size (.slice ya rowsY.length yc) rowsY := ((hOb.put2Low (by omega) _ _).put2Low (by omega) _ _).put2Low (by omega) _ _
                change Exit.then _ _ _ _ (put2 (put2 (put2 wz (w.heap.size + 1 + 1 + 1) (.int .i64 M) (.slice xa rowsX.length xc)) (w.heap.size + 1 + 1 + 1 + 1) (.int .i64 M') (.slice ya rowsY.length yc)) (w.heap.size + 1 + 1 + 1 + 1 + 1) (.int .i64 x1) (.int .i64 x2))
                clear hOa hOb bz N3 N4 N5 f3 f4 f5 d0 d1 d2 d3 d4 d5 hS HS5 HS6 HS7
                generalize (put2 (put2 (put2 wz (w.heap.size + 1 + 1 + 1) (.int .i64 M) (.slice xa rowsX.length xc)) (w.heap.size + 1 + 1 + 1 + 1) (.int .i64 M') (.slice ya rowsY.length yc)) (w.heap.size + 1 + 1 + 1 + 1 + 1) (.int .i64 x1) (.int .i64 x2)) = wf at *
                go_wp2
                have g0 := cell_blk p1 0
                have g1' := cell_blk p1 1
                have g2' := cell_blk p2 0
                have g3' := cell_blk p2 1
                have g4 := cell_blk p3 0
                have g5 := cell_blk p3 1
                simp at g0 g1' g2' g3' g4 g5
                refine bodyPost_ret (v := .tuple #[.agg #[.int .i64 M, (.slice xa rowsX.length xc)], .agg #[.int .i64 M', (.slice ya rowsY.length yc)], .agg #[.int .i64 x1, .int .i64 x2], .int .i64 0]) (by simp [results, Try.results15, go_sem, g0, g1', g2', g3', g4, g5]) rfl ?_
                rw [HS.out, HX.out]
                simp only
                rw [← HRX.out, ← HRY.out, List.length_map, List.length_map]
                exact ⟨xa, xc, ya, yc, rowsX, rowsY, rfl, bb, rfl, rfl, hOA.le (by omega), hOB.le (by omega)⟩

end Go.Proofs.Ytbifdcchdoflpac
