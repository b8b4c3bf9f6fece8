/- The program's Check of a verifier. -/
import Derived.Test.YtahcgnmhhgcfmaaDoorCVPoints
import Derived.Test.YtahcgnmhhgcfmaaDoorCCheck
namespace Go.Proofs.YtahcgnmhhgcfmaaDoor
open Go.RowKit

set_option maxRecDepth 100000 in
set_option maxHeartbeats 1600000 in
theorem vcheck_any (ao : Option Addr) (G cap : Nat) (A : Nat → Option Addr) (L C : Nat → Nat) (X : Nat → Nat → Nat → Int) (w : World) (hT : TabAt 0 w) (hp : ProgAt w ao G A L C X) :
    Calls Tryd.prog 18 #[.agg #[.slice ao G cap]] w fun e w' => e = .returned (.tuple #[.int .i64 (ckS G L X).1, .int .i64 (ckS G L X).2.1, .int .i64 (ckS G L X).2.2]) ∧ Below w.heap.size w w' := by
  have hG := hp.many
  obtain ⟨R, hR⟩ : ∃ R, R = ckS G L X := ⟨_, rfl⟩
  have HR : Aside (R = ckS G L X) := hR
  rw [← hR]
  clear hR
  go_enter Tryd.func18, Tryd.ntmps18
  go_wp2_with fail
  have k1 := Keeps.alloc w (Obj.cells #[Value.slice ao G cap] 26)
  have b1 := below_box w (Obj.cells #[Value.slice ao G cap] 26)
  have c1 : (w.alloc (Obj.cells #[Value.slice ao G cap] 26)).cell? ⟨w.heap.size, 0, none⟩ = some (.slice ao G cap) := by simp
  generalize w.alloc (Obj.cells #[Value.slice ao G cap] 26) = W at *
  refine (ccheck_any ao G cap A L C X _ (hT.keeps k1) (hp.keeps k1)).mono ?_
  rintro e w1 ⟨rfl, hb1⟩
  have b2 := b1.trans (hb1.mono b1.size)
  have c2 := Keeps.below hb1 _ _ c1
  clear c1 b1 hb1 k1
  by_cases hf : progFault G L X = 0
  · have HRV : Aside (R = verRows L X G 0) := by show R = _; rw [HR.out, ckS, if_neg (by simp [hf])]
    have HF : Aside (progFault G L X = 0) := hf
    rw [hf]
    clear hf HR
    go_wp2
    go_loopg [18] G (fun g s18 wr => ∃ r : Nat, r ≤ G ∧ g = G - r ∧ s18 = .int .i64 r ∧ Below w.heap.size w wr ∧ Aside (R = verRows L X (G - r) r))
    case atStart => exact ⟨0, Nat.zero_le _, rfl, rfl, b2, HRV⟩
    case round =>
      clear b2 c2 HRV
      obtain ⟨r, hr, rfl, rfl, hb, hA⟩ := hrel
      by_cases hrG : r < G
      · have hrz : (r : Int) < (G : Int) := by omega
        have hp' := hp.keeps (Keeps.below hb)
        obtain ⟨b, o, rfl, hca⟩ := hp'.outer r hrG
        have hrow := hp'.rows r hrG
        have hx := rowV_ok HF.out hrG
        have hLr := hx.len
        go_wp2_with fail
        refine (points_any (A r) (L r) (C r) (X r) _ hrow hx).mono ?_
        rintro e w2 ⟨g, pc, st, rfl, hfl, hP, hb2⟩
        have HST : Aside (st = flowS (X r) (L r)) := hfl.eq
        have hgd : VGood (L r) st := by rw [HST.out]; exact flowS_good _ _
        have hrow2 := hrow.keeps (Keeps.below hb2)
        have hb3 := hb.trans (hb2.mono hb.size)
        have hblk := hP.lt
        clear hfl hca hp' hrow hb hb2
        obtain ⟨F, hF⟩ : ∃ F, F = badAt (X r) st := ⟨_, rfl⟩
        have HFB : Aside (F = badAt (X r) st) := hF
        have HRB : Aside (rowBad (X r) (L r) = firstBad F (L r) 0) := by show rowBad _ _ = _; rw [rowBad, ← HST.out, ← hF]
        clear hF
        obtain ⟨Lr, hLe⟩ : ∃ Lr, Lr = L r := ⟨_, rfl⟩
        have HLE : Aside (Lr = L r) := hLe
        rw [← hLe] at hP hgd hrow2 hx hLr ⊢
        clear hLe
        replace HRB : Aside (rowBad (X r) (L r) = firstBad F Lr 0) := by show _ = _; rw [HRB.out, HLE.out]
        obtain ⟨b', o', hAr, _⟩ := hrow2 0 (by omega)
        rw [hAr] at hrow2 ⊢
        clear hAr
        go_wp2_with fail
        go_loopg [26] Lr (fun g' s26 wi => ∃ i : Nat, i ≤ Lr ∧ g' = Lr - i ∧ s26 = .int .i64 i ∧ Below w2.heap.size w2 wi ∧ Aside (firstBad F Lr 0 = firstBad F (Lr - i) i))
        case atStart => exact ⟨0, Nat.zero_le _, rfl, rfl, Below.refl _ _, rfl⟩
        case round =>
          obtain ⟨i, hi, rfl, rfl, hbi, hAi⟩ := hrel
          by_cases hiL : i < Lr
          · have hiz : (i : Int) < (Lr : Int) := by omega
            have hi0 : (0 : Int) ≤ (i : Int) := Int.natCast_nonneg _
            have hki := Keeps.below hbi
            have hPi := hP.below hbi
            obtain ⟨p, hpi⟩ : ∃ p, st[i]? = some p := ⟨st[i]'(by rw [hgd.1]; exact hiL), List.getElem?_eq_getElem _⟩
            obtain ⟨p0, p1, p2, p3, p4, p5, p6, p7, p8⟩ := hPi.cells hpi
            obtain ⟨_, _, hq, hc⟩ := (hrow2.keeps hki) i hiL
            simp only [Option.some.injEq, Addr.mk.injEq, and_true] at hq
            obtain ⟨rfl, rfl⟩ := hq
            have a0 : wr.cell? ⟨b', o' + i * 4, none⟩ = some (.int .i64 (X r i 0)) := by simpa using hc 0 (by omega)
            have a1 := hc 1 (by omega)
            have a2 := hc 2 (by omega)
            have a3 := hc 3 (by omega)
            clear hc
            have hbo := hx.op i hiL
            have ha01 := hx.a i hiL
            have hb01 := hx.b i hiL
            have HFI : Aside (F i = badAt (X r) st i) := by show F i = _; rw [HFB.out]
            cases p with
            | none =>
              have hf0 : Aside (F i = false) := by
                show F i = false
                rw [HFI.out]
                unfold badAt vPt
                rw [hpi]; rfl
              go_upto_region 10 with fail
              go_quiet (fail)
              have hbn : Below w2.heap.size w2 ((wr.alloc (Obj.cells (ptA false []) 75)).drewN nq) := below_drewN (hbi.trans ((below_box _ _).mono hbi.size)) nq
              go_wp2
              go_roundg (Lr - (i + 1))
              case measure => go_light; omega
              case rel => go_light; exact ⟨i + 1, by omega, rfl, by go_num, hbn, hAi.out.trans (firstBad_pass F Lr i hiL hf0.out)⟩
            | some k =>
              have hfk : Aside (F i = !vMayDo (X r i 0) (X r i 1) (X r i 2) k) := by
                show F i = _
                rw [HFI.out]
                unfold badAt vPt
                rw [hpi]; rfl
              generalize e0 : X r i 0 = op at a0 hbo hfk
              generalize e1 : X r i 1 = av at a1 ha01 hfk
              generalize e2 : X r i 2 = bv at a2 hb01 hfk
              generalize e3 : X r i 3 = n at a3
              obtain ⟨ra, rfl⟩ := Int.eq_ofNat_of_zero_le ha01.1
              obtain ⟨rb, rfl⟩ := Int.eq_ofNat_of_zero_le hb01.1
              clear e0 e1 e2 e3
              have hra8 : ra < 8 := by omega
              have hrb8 : rb < 8 := by omega
              simp only [Option.getD_some, Option.isSome_some] at p0 p1 p2 p3 p4 p5 p6 p7 p8
              go_upto_region 10 with fail
              obtain ⟨I1, k1, bb1, s1⟩ := boxes1 wr (Obj.cells (ptA true k) 75)
              have hbW := hbi.trans (bb1.mono hbi.size)
              replace a0 := k1 _ _ a0
              replace a1 := k1 _ _ a1
              replace a2 := k1 _ _ a2
              replace a3 := k1 _ _ a3
              obtain ⟨B, hB⟩ : ∃ B, B = wr.heap.size := ⟨_, rfl⟩
              rw [← hB] at I1 s1 ⊢
              clear hB bb1 k1 p0 p1 p2 p3 p4 p5 p6 p7 p8 hbi
              generalize wr.alloc (Obj.cells (ptA true k) 75) = W at *
              have q0 := vCell_blk I1 0
              have q1 := vCell_blk I1 1
              have q2 := vCell_blk I1 2
              have q3 := vCell_blk I1 3
              have q4 := vCell_blk I1 4
              have q5 := vCell_blk I1 5
              have q6 := vCell_blk I1 6
              have q7 := vCell_blk I1 7
              have q8 := vCell_blk I1 8
              simp at q0 q1 q2 q3 q4 q5 q6 q7 q8
              obtain ⟨mb, hmb⟩ : ∃ mb, mb = vMayDo op ra rb k := ⟨_, rfl⟩
              have HMB : Aside (mb = vMayDo op ra rb k) := hmb
              clear hmb
              go_cut [42] (fun s42 wq => Below W.heap.size W wq ∧ s42 = .bool !mb)
              case first =>
                refine wp_region_need (fun j => true) (fun w' => w'.cell? ⟨B, 0, none⟩ = some (.bool true) ∧ w'.cell? ⟨B, 1, none⟩ = some (.int .i64 (vAt k 0)) ∧ w'.cell? ⟨B, 2, none⟩ = some (.int .i64 (vAt k 1)) ∧ w'.cell? ⟨B, 3, none⟩ = some (.int .i64 (vAt k 2)) ∧ w'.cell? ⟨B, 4, none⟩ = some (.int .i64 (vAt k 3)) ∧ w'.cell? ⟨B, 5, none⟩ = some (.int .i64 (vAt k 4)) ∧ w'.cell? ⟨B, 6, none⟩ = some (.int .i64 (vAt k 5)) ∧ w'.cell? ⟨B, 7, none⟩ = some (.int .i64 (vAt k 6)) ∧ w'.cell? ⟨B, 8, none⟩ = some (.int .i64 (vAt k 7)) ∧ w'.cell? ⟨b', o' + i * 4, none⟩ = some (.int .i64 op) ∧ w'.cell? ⟨b', o' + i * 4 + 1, none⟩ = some (.int .i64 (ra : Int)) ∧ w'.cell? ⟨b', o' + i * 4 + 2, none⟩ = some (.int .i64 (rb : Int)) ∧ w'.cell? ⟨b', o' + i * 4 + 3, none⟩ = some (.int .i64 n)) (by kernel_rfl) ⟨q0, q1, q2, q3, q4, q5, q6, q7, q8, a0, a1, a2, a3⟩ (fun hS => ?_)
                refine wpAnyN_take (i := 0) (v := ?v1) rfl (by kernel_rfl) (by kernel_rfl) (by kernel_rfl) (by kernel_rfl) (fun _ _ _ h => h) (by rfl) ?hy1 hS ?rest1
                case hy1 => (intro wy hSy; (try dsimp only at hSy); go_simp; try (with_reducible rfl))
                simp only [Act.put, List.getElem_toArray, List.getElem_cons_zero, List.setIfInBounds_toArray, List.set_cons_zero, List.set_cons_succ]
                refine wpAnyN_take (i := 1) (v := ?v2) rfl (by kernel_rfl) (by kernel_rfl) (by kernel_rfl) (by kernel_rfl) (fun _ _ _ h => h) (by rfl) ?hy2 hS ?rest2
                case hy2 => (intro wy hSy; (try dsimp only at hSy); go_simp; try (with_reducible rfl))
                simp only [Act.put, List.getElem_toArray, List.getElem_cons_zero, List.getElem_cons_succ, List.setIfInBounds_toArray, List.set_cons_zero, List.set_cons_succ]
                refine wpAnyN_take (i := 2) (v := ?v3) rfl (by kernel_rfl) (by kernel_rfl) (by kernel_rfl) (by kernel_rfl) (fun _ _ _ h => h) (by rfl) ?hy3 hS ?rest3
                case hy3 => (intro wy hSy; (try dsimp only at hSy); go_simp; try (with_reducible rfl))
                simp only [Act.put, List.getElem_toArray, List.getElem_cons_zero, List.getElem_cons_succ, List.setIfInBounds_toArray, List.set_cons_zero, List.set_cons_succ]
                refine wpAnyN_take (i := 3) (v := ?v4) rfl (by kernel_rfl) (by kernel_rfl) (by kernel_rfl) (by kernel_rfl) (fun _ _ _ h => h) (by rfl) ?hy4 hS ?rest4
                case hy4 => (intro wy hSy; (try dsimp only at hSy); go_simp; try (with_reducible rfl))
                simp only [Act.put, List.getElem_toArray, List.getElem_cons_zero, List.getElem_cons_succ, List.setIfInBounds_toArray, List.set_cons_zero, List.set_cons_succ]
                refine wpAnyN_take (i := 4) (v := ?v5) rfl (by kernel_rfl) (by kernel_rfl) (by kernel_rfl) (by kernel_rfl) (fun _ _ _ h => h) (by rfl) ?hy5 hS ?rest5
                case hy5 => (intro wy hSy; (try dsimp only at hSy); go_simp; try (with_reducible rfl))
                simp only [Act.put, List.getElem_toArray, List.getElem_cons_zero, List.getElem_cons_succ, List.setIfInBounds_toArray, List.set_cons_zero, List.set_cons_succ]
                refine wpAnyN_take (i := 5) (v := ?v6) rfl (by kernel_rfl) (by kernel_rfl) (by kernel_rfl) (by kernel_rfl) (fun _ _ _ h => h) (by rfl) ?hy6 hS ?rest6
                case hy6 => (intro wy hSy; (try dsimp only at hSy); go_simp; try (with_reducible rfl))
                simp only [Act.put, List.getElem_toArray, List.getElem_cons_zero, List.getElem_cons_succ, List.setIfInBounds_toArray, List.set_cons_zero, List.set_cons_succ]
                refine wpAnyN_take (i := 6) (v := ?v7) rfl (by kernel_rfl) (by kernel_rfl) (by kernel_rfl) (by kernel_rfl) (fun _ _ _ h => h) (by rfl) ?hy7 hS ?rest7
                case hy7 => (intro wy hSy; (try dsimp only at hSy); go_simp; try (with_reducible rfl))
                simp only [Act.put, List.getElem_toArray, List.getElem_cons_zero, List.getElem_cons_succ, List.setIfInBounds_toArray, List.set_cons_zero, List.set_cons_succ]
                refine wpAnyN_take (i := 7) (v := ?v8) rfl (by kernel_rfl) (by kernel_rfl) (by kernel_rfl) (by kernel_rfl) (fun _ _ _ h => h) (by rfl) ?hy8 hS ?rest8
                case hy8 => (intro wy hSy; (try dsimp only at hSy); go_simp; try (with_reducible rfl))
                simp only [Act.put, List.getElem_toArray, List.getElem_cons_zero, List.getElem_cons_succ, List.setIfInBounds_toArray, List.set_cons_zero, List.set_cons_succ]
                refine wpAnyN_take (i := 8) (v := ?v9) rfl (by kernel_rfl) (by kernel_rfl) (by kernel_rfl) (by kernel_rfl) (fun _ _ _ h => h) (by rfl) ?hy9 hS ?rest9
                case hy9 => (intro wy hSy; (try dsimp only at hSy); go_simp; try (with_reducible rfl))
                simp only [Act.put, List.getElem_toArray, List.getElem_cons_zero, List.getElem_cons_succ, List.setIfInBounds_toArray, List.set_cons_zero, List.set_cons_succ]
                refine wpAnyN_one (i := 9) (by kernel_rfl) rfl (fun K hK => ?_)
                simp only [List.getElem_toArray, List.getElem_cons_zero, List.getElem_cons_succ]
                go_simp
                have hmd := mayBeDone_any op n ra rb k W.drew hbo hra8 hrb8
                rw [← HMB.out] at hmd
                refine hmd.mono ?_
                clear hmd
                rintro e w5 ⟨rfl, hb5⟩
                have hb6 : Below W.heap.size W w5 := (Below.refl _ _).drew.trans hb5
                have kk := Keeps.below hb6
                have hS5 := (⟨kk _ _ q0, kk _ _ q1, kk _ _ q2, kk _ _ q3, kk _ _ q4, kk _ _ q5, kk _ _ q6, kk _ _ q7, kk _ _ q8, kk _ _ a0, kk _ _ a1, kk _ _ a2, kk _ _ a3⟩ : w5.cell? ⟨B, 0, none⟩ = some (.bool true) ∧ w5.cell? ⟨B, 1, none⟩ = some (.int .i64 (vAt k 0)) ∧ w5.cell? ⟨B, 2, none⟩ = some (.int .i64 (vAt k 1)) ∧ w5.cell? ⟨B, 3, none⟩ = some (.int .i64 (vAt k 2)) ∧ w5.cell? ⟨B, 4, none⟩ = some (.int .i64 (vAt k 3)) ∧ w5.cell? ⟨B, 5, none⟩ = some (.int .i64 (vAt k 4)) ∧ w5.cell? ⟨B, 6, none⟩ = some (.int .i64 (vAt k 5)) ∧ w5.cell? ⟨B, 7, none⟩ = some (.int .i64 (vAt k 6)) ∧ w5.cell? ⟨B, 8, none⟩ = some (.int .i64 (vAt k 7)) ∧ w5.cell? ⟨b', o' + i * 4, none⟩ = some (.int .i64 op) ∧ w5.cell? ⟨b', o' + i * 4 + 1, none⟩ = some (.int .i64 (ra : Int)) ∧ w5.cell? ⟨b', o' + i * 4 + 2, none⟩ = some (.int .i64 (rb : Int)) ∧ w5.cell? ⟨b', o' + i * 4 + 3, none⟩ = some (.int .i64 n))
                refine hK.out _ _ (fun _ => hS5) ?_
                clear hK
                replace hS := hS5
                try simp only [Act.put, List.getElem_toArray, List.getElem_cons_zero, List.getElem_cons_succ, List.setIfInBounds_toArray, List.set_cons_zero, List.set_cons_succ]
                refine wpAnyN_take (i := 10) (v := ?v10) rfl (by kernel_rfl) (by kernel_rfl) (by kernel_rfl) (by kernel_rfl) (fun _ _ _ h => h) (by rfl) ?hy10 hS ?rest10
                case hy10 => (intro wy hSy; (try dsimp only at hSy); go_simp; try (with_reducible rfl))
                simp only [Act.put, List.getElem_toArray, List.getElem_cons_zero, List.getElem_cons_succ, List.setIfInBounds_toArray, List.set_cons_zero, List.set_cons_succ]
                refine wpAnyN_take (i := 11) (v := ?v11) rfl (by kernel_rfl) (by kernel_rfl) (by kernel_rfl) (by kernel_rfl) (fun _ _ _ h => h) (by rfl) ?hy11 hS ?rest11
                case hy11 => (intro wy hSy; (try dsimp only at hSy); go_simp; try (with_reducible rfl))
                simp only [Act.put, List.getElem_toArray, List.getElem_cons_zero, List.getElem_cons_succ, List.setIfInBounds_toArray, List.set_cons_zero, List.set_cons_succ]
                refine wpAnyN_done (by kernel_rfl) ?_ _
                refine NoPanic.normal ?_
                go_wp2_with fail
                go_meet
                case rel => exact ⟨hb6, rfl⟩
              case rest =>
                obtain ⟨hb7, rfl⟩ := hcut
                have hb8 := hbW.trans (hb7.mono hbW.size)
                have hbF := hb3.trans (hb8.mono hb3.size)
                cases mb with
                | true =>
                  have hf0 : Aside (F i = false) := by show F i = false; rw [hfk.out, ← HMB.out]; rfl
                  go_wp2
                  go_roundg (Lr - (i + 1))
                  case measure => go_light; omega
                  case rel => go_light; exact ⟨i + 1, by omega, rfl, by go_num, hb8, hAi.out.trans (firstBad_pass F Lr i hiL hf0.out)⟩
                | false =>
                  have hf1 : F i = true := by rw [hfk.out, ← HMB.out]; rfl
                  have hRR : Aside (R = ((r : Int), (i : Int), 9)) := by
                    show R = _
                    rw [hA.out]
                    exact verRows_hit hrG (HRB.out.trans (hAi.out.trans (firstBad_hit F Lr i hiL hf1)))
                  clear hf1
                  go_wp2
                  go_ret3
                  exact ⟨by rw [hRR.out]; rfl, hbF⟩
          · have hpass : Aside (R = verRows L X (G - (r + 1)) (r + 1)) := by
              show R = _
              rw [hA.out]
              refine verRows_pass hrG (HRB.out.trans (hAi.out.trans ?_))
              rw [show Lr - i = 0 by omega]; rfl
            have hbF := hb3.trans (hbi.mono hb3.size)
            go_wp2
            go_roundg (G - (r + 1))
            case measure => go_light; omega
            case rel => go_light; exact ⟨r + 1, by omega, rfl, by go_num, hbF, hpass⟩
      · have hRR : Aside (R = (0, 0, 0)) := by show R = _; rw [hA.out, show G - r = 0 by omega]; rfl
        go_wp2
        go_ret3
        exact ⟨by rw [hRR.out]; rfl, hb⟩
  · have HRV : Aside (R = (0, 0, progFault G L X)) := by show R = _; rw [HR.out, ckS, if_pos hf]
    have hfb : (progFault G L X != 0) = true := by simp [hf]
    clear HR
    go_wp2
    go_ret3
    exact ⟨by rw [HRV.out]; rfl, b2⟩

end Go.Proofs.YtahcgnmhhgcfmaaDoor
