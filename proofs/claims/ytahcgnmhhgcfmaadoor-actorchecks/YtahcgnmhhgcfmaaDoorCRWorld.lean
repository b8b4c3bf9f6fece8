/- The walk of the reference's WorldFault. -/
import Derived.Test.YtahcgnmhhgcfmaaDoorCRActor
import Derived.Test.YtahcgnmhhgcfmaaDoorCRVer
import Derived.Test.YtahcgnmhhgcfmaaDoorCWIsWorld
namespace Go.Proofs.YtahcgnmhhgcfmaaDoor
open Go.RowKit

set_option maxRecDepth 100000 in
set_option maxHeartbeats 2000000 in
theorem worldFault_any (ao : Option Addr) (G cap : Nat) (A : Nat → Option Addr) (L C : Nat → Nat) (X : Nat → Nat → Nat → Int) (aa pa : Option Addr) (ac pc : Nat) (V : Wd) (w : World)
    (hP : ProgAt w ao G A L C X) (ha : ActsAt w aa V.acts) (hp : ToldAt w pa V.prints) :
    Calls Tryd.prog 25 #[.agg #[.slice ao G cap], .agg #[.slice aa V.acts.length ac, .slice pa V.prints.length pc]] w fun e w' => e = .returned (.int .i64 (wckS G L X V)) ∧ Below w.heap.size w w' := by
  obtain ⟨N0, N1, k1, b1, s1⟩ := boxes2 w (.cells #[.slice ao G cap] 26) (.cells #[.slice aa V.acts.length ac, .slice pa V.prints.length pc] 54)
  replace hP := hP.keeps k1
  replace ha := ha.keeps k1
  replace hp := hp.keeps k1
  have hm := ha.many
  have hm2 := hp.many
  have HR : Aside (wckS G L X V = if (ckS G L X).2.2 ≠ 0 then (ckS G L X).2.2 else if wdMay G L V then 0 else 8) := rfl
  generalize wckS G L X V = RES at *
  obtain ⟨n, hn⟩ : ∃ n, n = V.acts.length := ⟨_, rfl⟩
  obtain ⟨K, hK⟩ : ∃ K, K = V.prints.length := ⟨_, rfl⟩
  have HL : Aside (n = V.acts.length ∧ K = V.prints.length) := ⟨hn, hK⟩
  rw [← hn, ← hK] at N0 N1 k1 b1 s1 hP ha hp ⊢
  rw [← hn] at hm
  rw [← hK] at hm2
  clear hn hK k1
  go_enter Tryd.func25, Tryd.ntmps25
  go_wp2_with fail
  generalize (w.alloc (.cells #[.slice ao G cap] 26)).alloc (.cells #[.slice aa n ac, .slice pa K pc] 54) = W at *
  refine (verifiedOf_any ao G cap A L C X _ hP).mono ?_
  rintro e w1 ⟨rfl, hb1⟩
  have k2 := Keeps.below hb1
  have b2 := b1.trans (hb1.mono b1.size)
  have p0 := k2 _ (.slice ao G cap) (cell_blk N0 0)
  have q0 := k2 _ (.slice aa n ac) (cell_blk N1 0)
  have q1 := k2 _ (.slice pa K pc) (cell_blk N1 1)
  replace hP := hP.keeps k2
  replace ha := ha.keeps k2
  replace hp := hp.keeps k2
  clear k2 b1 hb1 N0 N1 s1
  obtain ⟨c, hc⟩ : ∃ c, c = ckS G L X := ⟨_, rfl⟩
  rw [← hc] at HR ⊢
  clear hc
  obtain ⟨p1, p2, p3⟩ := c
  simp only at HR ⊢
  by_cases h3 : p3 = 0
  rotate_left
  · have h3b : (p3 != 0) = true := by simp [h3]
    have HR2 : Aside (RES = p3) := by show RES = _; rw [HR.out]; simp [h3]
    clear HR
    go_wp2
    go_ret
    exact ⟨ret_num HR2.out.symm, b2⟩
  subst h3
  have HR2 : Aside (RES = if wdMay G L V then 0 else 8) := by show RES = _; rw [HR.out]; simp
  clear HR
  have HF : Aside (wdMay G L V = false → RES = 8) := fun h => by rw [HR2.out, h]; rfl
  by_cases h1 : 1 ≤ n ∧ n ≤ 8
  rotate_left
  · have HF2 : Aside (RES = 8) := HF.out (by
      have := HL.out
      rw [Bool.eq_false_iff]
      intro hc
      simp only [wdMay, Bool.and_eq_true, decide_eq_true_eq] at hc
      omega)
    have f1 : (decide ((1 : Int) ≤ (n : Int)) && decide ((n : Int) ≤ 8)) = false := by
      rw [Bool.eq_false_iff]; intro hc; simp only [Bool.and_eq_true, decide_eq_true_eq] at hc; omega
    go_wp2_with fail
    refine (cin_any n 1 8 _).mono ?_
    rintro e w' ⟨rfl, hw'⟩
    replace hw' := hw'.symm
    subst hw'
    rw [f1]
    go_wp2
    go_ret
    exact ⟨ret_num HF2.out.symm, b2⟩
  have f1 : (decide ((1 : Int) ≤ (n : Int)) && decide ((n : Int) ≤ 8)) = true := by simp only [Bool.and_eq_true, decide_eq_true_eq]; omega
  go_wp2_with fail
  refine (cin_any n 1 8 _).mono ?_
  rintro e w' ⟨rfl, hw'⟩
  replace hw' := hw'.symm
  subst hw'
  rw [f1]
  clear f1
  by_cases h5 : 500 < K
  · have HF2 : Aside (RES = 8) := HF.out (by
      have := HL.out
      rw [Bool.eq_false_iff]
      intro hc
      simp only [wdMay, Bool.and_eq_true, decide_eq_true_eq] at hc
      omega)
    have h5b : (500 : Int) < (K : Int) := by omega
    go_wp2
    go_ret
    exact ⟨ret_num HF2.out.symm, b2⟩
  have h5b : ¬ (500 : Int) < (K : Int) := by omega
  have HRR : Aside (wdMay G L V = (V.prints.all (prMay n) && acsMay G L V.acts 0)) := by
    show wdMay G L V = _
    have := HL.out
    rw [wdMay, ← this.1, ← this.2, decide_eq_true (show 1 ≤ n by omega), decide_eq_true (show n ≤ 8 by omega), decide_eq_true (show K ≤ 500 by omega)]
    rfl
  have hn8 : n ≤ 8 := h1.2
  clear h1
  go_wp2_with fail
  go_loopg [8] n (fun g s8 wr => ∃ j : Nat, j ≤ n ∧ g = n - j ∧ s8 = .int .i64 j ∧ Below w1.heap.size w1 wr ∧ acsMay G L V.acts 0 = acsMay G L (V.acts.drop j) j)
  case atStart => exact ⟨0, Nat.zero_le _, rfl, rfl, Below.refl _ _, by simp⟩
  case round =>
    obtain ⟨j, hj, rfl, rfl, hbj, hall⟩ := hrel
    have HALL : Aside (acsMay G L V.acts 0 = acsMay G L (V.acts.drop j) j) := hall
    clear hall
    have kj := Keeps.below hbj
    have bj := b2.trans (hbj.mono b2.size)
    replace p0 := kj _ _ p0
    replace q0 := kj _ _ q0
    replace q1 := kj _ _ q1
    by_cases hjn : j < n
    · have hjz : (j : Int) < (n : Int) := by omega
      obtain ⟨⟨kind, par, M, obs, regs, pcc, box, fin⟩, hv⟩ := at_some (l := V.acts) (i := j) (by rw [← HL.out.1]; exact hjn)
      have HD : Aside (acsMay G L (V.acts.drop j) j = (acMay G L ⟨kind, par, M, obs, regs, pcc, box, fin⟩ j && acsMay G L (V.acts.drop (j + 1)) (j + 1))) := acsMay_from hv
      obtain ⟨b', o', oa, oc, ra, rc, ba, bc, rfl, AA⟩ := ha.cell j _ hv
      clear hv
      obtain ⟨c0, c1, c2, c3, c4, c5, c6, c7, xo, xr, xb, rl, bl⟩ := AA.keeps kj
      simp only at c0 c1 c2 c3 c4 c5 c6 c7 xo xr xb rl bl
      have hPj := hP.keeps kj
      have hSof : ∀ w', Below wr.heap.size wr w' → (w'.cell? ⟨w.heap.size, 0, none⟩ = some (.slice ao G cap) ∧ w'.cell? ⟨w.heap.size + 1, 0, none⟩ = some (.slice (some ⟨b', o', none⟩) n ac) ∧ w'.cell? ⟨b', o' + j * 8, none⟩ = some (.int .i64 kind) ∧ w'.cell? ⟨b', o' + j * 8 + 1, none⟩ = some (.int .i64 par) ∧ w'.cell? ⟨b', o' + j * 8 + 2, none⟩ = some (.int .i64 M) ∧ w'.cell? ⟨b', o' + j * 8 + 3, none⟩ = some (.slice oa obs.length oc) ∧ w'.cell? ⟨b', o' + j * 8 + 4, none⟩ = some (.slice ra regs.length rc) ∧ w'.cell? ⟨b', o' + j * 8 + 5, none⟩ = some (.int .i64 pcc) ∧ w'.cell? ⟨b', o' + j * 8 + 6, none⟩ = some (.slice ba box.length bc) ∧ w'.cell? ⟨b', o' + j * 8 + 7, none⟩ = some (.int .i64 fin)) := fun w' hb' => ⟨Keeps.below hb' _ _ p0, Keeps.below hb' _ _ q0, Keeps.below hb' _ _ c0, Keeps.below hb' _ _ c1, Keeps.below hb' _ _ c2, Keeps.below hb' _ _ c3, Keeps.below hb' _ _ c4, Keeps.below hb' _ _ c5, Keeps.below hb' _ _ c6, Keeps.below hb' _ _ c7⟩
      go_upto_region 9 with fail
      have hBd : Below wr.heap.size wr wr.drew := (Below.refl _ _).drew
      refine wp_region_need (fun j => j != 8) (fun w' => w'.cell? ⟨w.heap.size, 0, none⟩ = some (.slice ao G cap) ∧ w'.cell? ⟨w.heap.size + 1, 0, none⟩ = some (.slice (some ⟨b', o', none⟩) n ac) ∧ w'.cell? ⟨b', o' + j * 8, none⟩ = some (.int .i64 kind) ∧ w'.cell? ⟨b', o' + j * 8 + 1, none⟩ = some (.int .i64 par) ∧ w'.cell? ⟨b', o' + j * 8 + 2, none⟩ = some (.int .i64 M) ∧ w'.cell? ⟨b', o' + j * 8 + 3, none⟩ = some (.slice oa obs.length oc) ∧ w'.cell? ⟨b', o' + j * 8 + 4, none⟩ = some (.slice ra regs.length rc) ∧ w'.cell? ⟨b', o' + j * 8 + 5, none⟩ = some (.int .i64 pcc) ∧ w'.cell? ⟨b', o' + j * 8 + 6, none⟩ = some (.slice ba box.length bc) ∧ w'.cell? ⟨b', o' + j * 8 + 7, none⟩ = some (.int .i64 fin)) (by kernel_rfl) (hSof _ hBd) (fun hS => ?_)
      generalize wr.drew = wc0 at hS hBd ⊢
      refine wpAnyN_take (i := 0) (v := ?v1) rfl (by kernel_rfl) (by kernel_rfl) (by kernel_rfl) (by kernel_rfl) (fun _ _ _ h => h) (by rfl) ?hy1 hS ?rest1
      case hy1 => (intro wy hSy; (try dsimp only at hSy); go_simp; try (with_reducible rfl))
      simp only [Act.put, List.getElem_toArray, List.getElem_cons_zero, List.setIfInBounds_toArray, List.set_cons_zero, List.set_cons_succ]
      refine wpAnyN_take (i := 1) (v := ?v2) rfl (by kernel_rfl) (by kernel_rfl) (by kernel_rfl) (by kernel_rfl) (fun _ _ _ h => h) (by rfl) ?hy2 hS ?rest2
      case hy2 => (intro wy hSy; (try dsimp only at hSy); go_simp; try (with_reducible rfl))
      simp only [Act.put, List.getElem_toArray, List.getElem_cons_zero, List.getElem_cons_succ, List.setIfInBounds_toArray, List.set_cons_zero, List.set_cons_succ]
      refine wpAnyN_take (i := 2) (v := ?v3) rfl (by kernel_rfl) (by kernel_rfl) (by kernel_rfl) (by kernel_rfl) (fun _ _ _ h => h) (by rfl) ?hy3 hS ?rest3
      case hy3 => (intro wy hSy; (try dsimp only at hSy); go_simp; try (with_reducible rfl))
      simp only [Act.put, List.getElem_toArray, List.getElem_cons_zero, List.getElem_cons_succ, List.setIfInBounds_toArray, List.set_cons_zero, List.set_cons_succ]
      refine wpAnyN_take (i := 3) (v := ?v4) rfl (by kernel_rfl) (by kernel_rfl) (by kernel_rfl) (by kernel_rfl) (fun _ _ _ h => h) (by rfl) ?hy4 hS ?rest4
      case hy4 => (intro wy hSy; (try dsimp only at hSy); go_simp; try (with_reducible rfl))
      simp only [Act.put, List.getElem_toArray, List.getElem_cons_zero, List.getElem_cons_succ, List.setIfInBounds_toArray, List.set_cons_zero, List.set_cons_succ]
      refine wpAnyN_take (i := 4) (v := ?v5) rfl (by kernel_rfl) (by kernel_rfl) (by kernel_rfl) (by kernel_rfl) (fun _ _ _ h => h) (by rfl) ?hy5 hS ?rest5
      case hy5 => (intro wy hSy; (try dsimp only at hSy); go_simp; try (with_reducible rfl))
      simp only [Act.put, List.getElem_toArray, List.getElem_cons_zero, List.getElem_cons_succ, List.setIfInBounds_toArray, List.set_cons_zero, List.set_cons_succ]
      refine wpAnyN_take (i := 5) (v := ?v6) rfl (by kernel_rfl) (by kernel_rfl) (by kernel_rfl) (by kernel_rfl) (fun _ _ _ h => h) (by rfl) ?hy6 hS ?rest6
      case hy6 => (intro wy hSy; (try dsimp only at hSy); go_simp; try (with_reducible rfl))
      simp only [Act.put, List.getElem_toArray, List.getElem_cons_zero, List.getElem_cons_succ, List.setIfInBounds_toArray, List.set_cons_zero, List.set_cons_succ]
      refine wpAnyN_take (i := 6) (v := ?v7) rfl (by kernel_rfl) (by kernel_rfl) (by kernel_rfl) (by kernel_rfl) (fun _ _ _ h => h) (by rfl) ?hy7 hS ?rest7
      case hy7 => (intro wy hSy; (try dsimp only at hSy); go_simp; try (with_reducible rfl))
      simp only [Act.put, List.getElem_toArray, List.getElem_cons_zero, List.getElem_cons_succ, List.setIfInBounds_toArray, List.set_cons_zero, List.set_cons_succ]
      refine wpAnyN_one (i := 7) (by kernel_rfl) rfl (fun K hK => ?_)
      simp only [List.getElem_toArray, List.getElem_cons_zero, List.getElem_cons_succ]
      go_simp
      have kd := Keeps.below hBd
      refine (actorMay_any ao G cap A L C X kind par M pcc fin oa ra ba oc rc bc obs regs box j wc0 (hPj.keeps kd) (xo.keeps kd) (xr.keeps kd) (xb.keeps kd) rl bl (by omega)).mono ?_
      rintro e wc1 ⟨rfl, hbn⟩
      have hB1 := hBd.trans (hbn.mono hBd.size)
      clear hbn hBd kd
      refine hK.out _ _ (fun _ => hSof _ hB1) ?_
      clear hK
      replace hS := hSof _ hB1
      try simp only [Act.put, List.getElem_toArray, List.getElem_cons_zero, List.getElem_cons_succ, List.setIfInBounds_toArray, List.set_cons_zero, List.set_cons_succ]
      generalize hAC : acMay G L ⟨kind, par, M, obs, regs, pcc, box, fin⟩ j = AC at *
      clear hAC
      have b5 := hbj.trans (hB1.mono hbj.size)
      cases AC with
      | true =>
        refine wpAnyN_one (i := 8) (by kernel_rfl) rfl (fun K hK => ?_)
        simp only [List.getElem_toArray, List.getElem_cons_zero, List.getElem_cons_succ]
        go_simp
        refine hK.out _ _ (fun h => absurd h (by decide)) ?_
        clear hK
        refine wpAnyN_done (by kernel_rfl) ?_ _
        refine NoPanic.normal ?_
        try simp only [Act.put, List.getElem_toArray, List.getElem_cons_zero, List.getElem_cons_succ, List.setIfInBounds_toArray, List.set_cons_zero, List.set_cons_succ]
        clear hS hSof
        go_wp2_with fail
        go_roundg (n - (j + 1))
        case measure => go_light; omega
        case rel => go_light; exact ⟨j + 1, by omega, rfl, by go_num, b5, by rw [HALL.out, HD.out]; rfl⟩
      | false =>
        have HF2 : Aside (RES = 8) := HF.out (by rw [HRR.out, HALL.out, HD.out]; simp)
        refine wpAnyN_one (i := 8) (by kernel_rfl) rfl (fun K hK => ?_)
        simp only [List.getElem_toArray, List.getElem_cons_zero, List.getElem_cons_succ]
        go_simp
        refine hK.out _ _ (fun h => absurd h (by decide)) ?_
        clear hK
        refine wpAnyN_done (by kernel_rfl) ?_ _
        refine NoPanic.normal ?_
        try simp only [Act.put, List.getElem_toArray, List.getElem_cons_zero, List.getElem_cons_succ, List.setIfInBounds_toArray, List.set_cons_zero, List.set_cons_succ]
        clear hS hSof
        go_wp2
        go_ret
        exact ⟨ret_num HF2.out.symm, b2.trans (b5.mono b2.size)⟩
    · have HRR2 : Aside (wdMay G L V = V.prints.all (prMay n)) := by
        show wdMay G L V = _
        rw [HRR.out, HALL.out, List.drop_eq_nil_of_le (by rw [← HL.out.1]; omega)]
        simp [acsMay]
      replace hp := hp.keeps kj
      clear kj hbj HALL hP ha HRR
      go_wp2_with fail
      generalize hWr : wr = W1 at *
      clear hWr
      go_loopg [9] K (fun g s9 wr => ∃ i : Nat, i ≤ K ∧ g = K - i ∧ s9 = .int .i64 i ∧ Below W1.heap.size W1 wr ∧ V.prints.all (prMay n) = (V.prints.drop i).all (prMay n))
      case atStart => exact ⟨0, Nat.zero_le _, rfl, rfl, Below.refl _ _, by simp⟩
      case round =>
        obtain ⟨i, hi, rfl, rfl, hbm, hall⟩ := hrel
        have km := Keeps.below hbm
        replace q0 := km _ _ q0
        replace q1 := km _ _ q1
        have HALL : Aside (V.prints.all (prMay n) = (V.prints.drop i).all (prMay n)) := hall
        clear hall
        have bm := bj.trans (hbm.mono bj.size)
        by_cases hiK : i < K
        · have hiz : (i : Int) < (K : Int) := by omega
          obtain ⟨⟨ta, tn⟩, hv⟩ := at_some (l := V.prints) (i := i) (by rw [← HL.out.2]; exact hiK)
          have HD : Aside ((V.prints.drop i).all (prMay n) = (prMay n (ta, tn) && (V.prints.drop (i + 1)).all (prMay n))) := all_from _ _ hv
          obtain ⟨tb, tf, rfl, t1, t2⟩ := hp.cell i _ hv
          replace t1 := km _ _ t1
          replace t2 := km _ _ t2
          simp only at t1 t2
          clear hv
          have hwr : IntKind.i64.wrap ((n : Int) - 1) = (n : Int) - 1 := by rw [IntKind.wrap_i64]; omega
          have HF3 : Aside (prMay n (ta, tn) = false → RES = 8) := fun h => HF.out (by rw [HRR2.out, HALL.out, HD.out, h]; rfl)
          by_cases g1 : 0 ≤ ta ∧ ta < (n : Int)
          · have e1 : (decide (0 ≤ ta) && decide (ta ≤ (n : Int) - 1)) = true := by simp only [Bool.and_eq_true, decide_eq_true_eq]; omega
            by_cases g2 : isW tn = true
            · have e2 : (decide (-1099511627776 ≤ tn) && decide (tn ≤ 1099511627776)) = true := g2
              have HT : Aside (prMay n (ta, tn) = true) := by
                show prMay n (ta, tn) = true
                simp only [prMay, g2, Bool.and_true, Bool.and_eq_true, decide_eq_true_eq]
                exact g1
              have HI1 : Aside (∀ w, Calls Tryd.prog 37 #[.int .i64 ta, .int .i64 0, .int .i64 ((n : Int) - 1)] w fun e w' => e = .returned (.bool true) ∧ w' = w) := fun w => by
                have := cin_any ta 0 ((n : Int) - 1) w
                rw [e1] at this
                exact this
              go_wp2_with fail
              go_quiet (first | (go_at_call 37; with_reducible refine Calls.quiet_of_same (HI1.out _)) | (go_at_call 37; with_reducible refine Calls.quiet_of_same (cin_any _ _ _ _)))
              go_wp2_with fail
              go_roundg (K - (i + 1))
              case measure => go_light; omega
              case rel => go_light; exact ⟨i + 1, by omega, rfl, by go_num, below_drewN hbm _, by rw [HALL.out, HD.out, HT.out]; rfl⟩
            · have g2f : isW tn = false := by simpa using g2
              have e2 : (decide (-1099511627776 ≤ tn) && decide (tn ≤ 1099511627776)) = false := g2f
              have HF4 : Aside (RES = 8) := HF3.out (by simp [prMay, g2f])
              have HI1 : Aside (∀ w, Calls Tryd.prog 37 #[.int .i64 ta, .int .i64 0, .int .i64 ((n : Int) - 1)] w fun e w' => e = .returned (.bool true) ∧ w' = w) := fun w => by
                have := cin_any ta 0 ((n : Int) - 1) w
                rw [e1] at this
                exact this
              go_wp2_with fail
              go_quiet (first | (go_at_call 37; with_reducible refine Calls.quiet_of_same (HI1.out _)) | (go_at_call 37; with_reducible refine Calls.quiet_of_same (cin_any _ _ _ _)))
              go_wp2
              go_ret
              exact ⟨ret_num HF4.out.symm, below_drewN bm _⟩
          · have e1 : (decide (0 ≤ ta) && decide (ta ≤ (n : Int) - 1)) = false := by
              rw [Bool.eq_false_iff]; intro hc; simp only [Bool.and_eq_true, decide_eq_true_eq] at hc; omega
            have HF4 : Aside (RES = 8) := HF3.out (by
              rw [Bool.eq_false_iff]
              intro hc
              simp only [prMay, Bool.and_eq_true, decide_eq_true_eq] at hc
              exact g1 hc.1)
            have HI1 : Aside (∀ w, Calls Tryd.prog 37 #[.int .i64 ta, .int .i64 0, .int .i64 ((n : Int) - 1)] w fun e w' => e = .returned (.bool false) ∧ w' = w) := fun w => by
              have := cin_any ta 0 ((n : Int) - 1) w
              rw [e1] at this
              exact this
            go_wp2_with fail
            go_quiet (first | (go_at_call 37; with_reducible refine Calls.quiet_of_same (HI1.out _)))
            go_wp2
            go_ret
            exact ⟨ret_num HF4.out.symm, below_drewN bm _⟩
        · have HT : Aside (RES = 0) := by
            show RES = 0
            rw [HR2.out, HRR2.out, HALL.out, List.drop_eq_nil_of_le (by rw [← HL.out.2]; omega)]
            rfl
          go_wp2_with fail
          go_ret
          exact ⟨ret_num HT.out.symm, bm⟩

end Go.Proofs.YtahcgnmhhgcfmaaDoor
