/- The walk of the law TransferSame. -/
import Derived.Test.YtbifdcchdoflpadHRaw
import Derived.Test.YtbifdcchdoflpadHTransP
import Derived.Test.YtbifdcchdoflpadHForm3
import Derived.Test.YtbifdcchdoflpadHEq
import Derived.Test.YtbifdcchdoflpadHHas
import Derived.Test.YtbifdcchdoflpadHHeld
import Derived.WalkKit
import Derived.WalkSpells
import Derived.WalkLawsBesides
import Derived.Deep.LoopGhost
import Derived.Deep.Light
import Derived.Deep.QuietTactic
import Derived.BigQuiet
import Derived.Deep.DeepCutAuto
namespace Go.Proofs.Ytbifdcchdoflpad
open Go.RowKit

set_option maxRecDepth 100000 in
set_option maxHeartbeats 4000000 in
theorem transferSame_walk (ra : Option Addr) (rc : Nat) (l : List Rw) (sa : Option Addr) (sc : Nat) (m : List Rw) (a : Int) (move : Bool) (w : World) (h : RawsAt w ra l) (h' : RawsAt w sa m) (ha : -9223372036854775808 ≤ a ∧ a ≤ 9223372036854775807) :
    Calls Try.prog 3 #[.slice ra l.length rc, .slice sa m.length sc, .int .i64 a, .bool move] w fun e w' => e = .returned (.bool true) ∧ Below w.heap.size w w' := by
  go_enter Try.func3, Try.ntmps3
  go_wp2_with fail
  refine (heapOf_any ra rc l 25 w h (by omega) (by omega)).mono ?_
  rintro e w1 ⟨oa, n, oc, aa, ac, rfl, b1, hv, obs, hlen, hob, hgood⟩
  clear h
  have hn25 : n ≤ 25 := by have := (hMay_parts.1 hgood.1).1; rw [hlen] at this; omega
  go_upto_region 2 with fail
  have N0 := Deep.blk_alloc_new w1 (Obj.cells #[.int .i64 25, .slice oa n oc] 25)
  have bA := below_box w1 (Obj.cells #[.int .i64 25, .slice oa n oc] 25)
  replace hv := hv.keeps (Keeps.below bA)
  replace hob := hob.keeps (Keeps.below bA)
  replace b1 := b1.trans (bA.mono b1.size)
  obtain ⟨HB, hHB⟩ : ∃ HB, HB = w1.heap.size := ⟨_, rfl⟩
  rw [← hHB] at N0 ⊢
  clear bA hHB
  generalize w1.alloc (Obj.cells #[.int .i64 25, .slice oa n oc] 25) = w2 at *
  go_wp2_with fail
  refine (heapOf_any sa sc m 30 w2 (h'.keeps (Keeps.below b1)) (by omega) (by omega)).mono ?_
  rintro e w3 ⟨pa, n', pc, ta, tc, rfl, b3, hv', obs', hlen', hob', hgood'⟩
  clear h'
  have hn30 : n' ≤ 30 := by have := (hMay_parts.1 hgood'.1).1; rw [hlen'] at this; omega
  go_upto_region 3 with fail
  have N1 := Deep.blk_alloc_new w3 (Obj.cells #[.int .i64 30, .slice pa n' pc] 25)
  have bA := b3.alloc b3.size (Obj.cells #[.int .i64 30, .slice pa n' pc] 25)
  have kA := Keeps.alloc w3 (Obj.cells #[.int .i64 30, .slice pa n' pc] 25)
  replace N0 := (bA.block HB (Array.getElem?_eq_some_iff.1 N0).1).trans N0
  replace hv := hv.keeps (Keeps.below bA)
  replace hob := hob.keeps (Keeps.below bA)
  replace hv' := hv'.keeps kA
  replace hob' := hob'.keeps kA
  replace b1 := b1.trans (bA.mono b1.size)
  obtain ⟨GB, hGB⟩ : ∃ GB, GB = w3.heap.size := ⟨_, rfl⟩
  rw [← hGB] at N1 ⊢
  clear bA kA hGB b3
  generalize w3.alloc (Obj.cells #[.int .i64 30, .slice pa n' pc] 25) = w4 at *
  by_cases hn0 : n = 0
  · subst hn0
    go_wp2
    go_ret
    exact ⟨rfl, b1⟩
  · have hnz : ((n : Int) == 0) = false := by simp; omega
    have pA := pick_bd (n := a) (many := n) (by omega)
    obtain ⟨j, hj⟩ : ∃ j : Nat, pick a n = j := ⟨(pick a n).toNat, by omega⟩
    rw [hj] at pA
    have hjn : j < obs.length := by omega
    obtain ⟨gb, go, rfl, hvA1, hvA2⟩ := hv j _ (allVals_get (by omega))
    simp only at hvA1 hvA2
    clear hv
    go_upto_region 6 with (go_at_call 7; refine (picked_any a n _ ha.1 ha.2 (by omega) (by omega)).mono ?_; rintro e wz ⟨rfl, rfl⟩; rw [hj])
    have N2 := Deep.blk_alloc_new w4 (Obj.cells #[.int .i64 2, .int .i64 (j : Int)] 30)
    have bA := below_box w4 (Obj.cells #[.int .i64 2, .int .i64 (j : Int)] 30)
    have kA := Keeps.below bA
    replace N0 := (bA.block HB (Array.getElem?_eq_some_iff.1 N0).1).trans N0
    replace N1 := (bA.block GB (Array.getElem?_eq_some_iff.1 N1).1).trans N1
    replace hob := hob.keeps kA
    replace hob' := hob'.keeps kA
    replace hv' := hv'.keeps kA
    replace b1 := b1.trans (bA.mono b1.size)
    obtain ⟨VB, hVB⟩ : ∃ VB, VB = w4.heap.size := ⟨_, rfl⟩
    rw [← hVB] at N2 ⊢
    clear bA kA hVB hvA1 hvA2
    generalize w4.alloc (Obj.cells #[.int .i64 2, .int .i64 (j : Int)] 30) = w5 at *
    have c0 := cell_blk N0 0
    have c1 := cell_blk N0 1
    have c2 := cell_blk N1 0
    have c3 := cell_blk N1 1
    have c4 := cell_blk N2 0
    have c5 := cell_blk N2 1
    simp at c0 c1 c2 c3 c4 c5
    clear N0 N1 N2
    have hA : hMay 25 obs [⟨2, (j : Int)⟩] = true := hMay_parts.2 ⟨(hMay_parts.1 hgood.1).1, (hMay_parts.1 hgood.1).2.1, fun u hu => by simp at hu; subst hu; simp [vMay]; omega⟩
    have hok := reach_ok hA [⟨2, (j : Int)⟩] (hMay_roots' hA)
    have hone : Aside (∀ wy : World, ValsAt (wy.alloc (Obj.cells #[.int .i64 2, .int .i64 (j : Int)] 30)) (some ⟨wy.heap.size, 0, none⟩) [⟨2, (j : Int)⟩]) := fun wy => vals_one wy 2 j _
    obtain ⟨-, ka, ba, -⟩ := boxes1 w5 (Obj.cells #[.int .i64 2, .int .i64 (j : Int)] 30)
    have hre := reach_any 25 oa oc obs (some ⟨w5.heap.size, 0, none⟩) 1 [⟨2, (j : Int)⟩] _ (hob.keeps ka) (hone.out w5) (by simp)
    have hrS : reachS 25 obs [⟨2, (j : Int)⟩] = (reach obs [⟨2, (j : Int)⟩], 0) := by simp [reachS, hA]
    simp only [hrS, hlen, List.length_cons, List.length_nil, Nat.zero_add] at hre
    obtain ⟨rr, hrr⟩ : ∃ rr, rr = reach obs [⟨2, (j : Int)⟩] := ⟨_, rfl⟩
    have HRR : Aside (rr = reach obs [⟨2, (j : Int)⟩]) := hrr
    rw [← hrr] at hre hok
    obtain ⟨R, hR⟩ : ∃ R, R = rr.length := ⟨_, rfl⟩
    have HR : Aside (R = rr.length) := hR
    rw [← hR] at hre
    have hR25 : R ≤ 25 := by have := hok.len; omega
    clear hrr hR hrS
    go_wp2_with fail
    refine hre.mono ?_
    clear hre
    rintro e w6 ⟨ov, oc', rfl, hb6, hI⟩
    have hIA : IntsAt w6 ov rr := by rw [HR.out] at hI; exact IntsOwn.at hI
    have bb : Below w5.heap.size w5 w6 := ba.trans (hb6.mono ba.size)
    have kb := Keeps.below bb
    replace c0 := kb _ _ c0
    replace c1 := kb _ _ c1
    replace c2 := kb _ _ c2
    replace c3 := kb _ _ c3
    replace c4 := kb _ _ c4
    replace c5 := kb _ _ c5
    replace hob := hob.keeps kb
    replace hob' := hob'.keeps kb
    replace hv' := hv'.keeps kb
    replace b1 := b1.trans (bb.mono b1.size)
    clear hI hb6 bb kb ka ba
    have hT := transfer_any 25 oa oc obs 2 j 30 pa pc obs' move w6 hob hob'
    rw [hlen, hlen'] at hT
    by_cases hroom : n' + R ≤ 30
    · obtain ⟨x, y, ⟨uk, un⟩, hTS⟩ := tsame_of hgood hgood' hjn move (by rw [← HRR.out, hlen', ← HR.out]; exact hroom)
      simp only [hTS.first, hTS.len, hTS.xlen, hlen, hlen', ← HRR.out, ← HR.out] at hT
      have hT2 := fun wy xa xc (hx : ObsAt wy xa x) (hy : Keeps w6 wy) => transfer_any 25 xa xc x 2 j 30 pa pc obs' move wy hx (hob'.keeps hy)
      have hGe := fun wy xa xc (hx : ObsAt wy xa x) => get_any 25 xa xc x 2 j 0 wy hx
      have hF1 := fun wy va vc (hy : Keeps w6 wy) (hv : ValsAt wy va [⟨2, (j : Int)⟩]) => form_any 25 oa oc obs va vc [⟨2, (j : Int)⟩] wy (hob.keeps hy) hv (by simp) hA
      have hF2 := fun wy ya yc va vc (hy : ObsAt wy ya y) (hv : ValsAt wy va [⟨uk, un⟩]) => form_any 30 ya yc y va vc [⟨uk, un⟩] wy hy hv (by simp) hTS.mayU
      have hmG : hMay 30 obs' (allVals n') = true := hMay_parts.2 ⟨(hMay_parts.1 hgood'.1).1, (hMay_parts.1 hgood'.1).2.1, by rw [hlen']; exact allVals_may (Nat.le_refl _)⟩
      have hmT := hTS.mayT
      rw [hlen'] at hmT
      have hF3 := fun wy (hy : Keeps w6 wy) => form_any 30 pa pc obs' ta tc (allVals n') wy (hob'.keeps hy) (hv'.keeps hy) (by rw [allVals_length]; omega) hmG
      have hF4 := fun wy ya yc (hy : ObsAt wy ya y) (hk : Keeps w6 wy) => form_any 30 ya yc y ta tc (allVals n') wy hy (hv'.keeps hk) (by rw [allVals_length]; omega) hmT
      have hfr := hTS.frm
      have hth := hTS.there
      rw [hlen'] at hth
      simp only [hlen, List.length_cons, List.length_nil, Nat.zero_add] at hF1
      simp only [hTS.len, hlen', ← HRR.out, ← HR.out, hfr, List.length_cons, List.length_nil, Nat.zero_add] at hF2
      simp only [hlen', allVals_length] at hF3
      simp only [hTS.len, hlen', ← HRR.out, ← HR.out, hth, allVals_length] at hF4
      simp only [hTS.xlen, hlen, hlen'] at hT2 hGe
      have hg1 := hTS.get
      have ht1 := hTS.again
      have HDEAD : Aside (∀ (i : Nat) o, x[i]? = some o → o.dead = (move && decide ((i : Int) ∈ rr))) := by rw [HRR.out]; exact hTS.dead
      have HXL : Aside (x.length = n) := by show x.length = n; rw [hTS.xlen, hlen]
      have HYL : Aside (y.length = n' + R) := by show y.length = _; rw [hTS.len, hlen', HR.out, HRR.out]
      have hf1l : (form obs [⟨2, (j : Int)⟩]).length ≤ 1000000 := by
        have h1 := tellObs_length hA rr rr
        have e : form obs [⟨2, (j : Int)⟩] = [⟨2, (j : Int)⟩].flatMap (tell rr) ++ rr.flatMap (fun p => tellOb rr (fieldsOf obs p)) := by rw [form, ← HRR.out]
        rw [e, List.length_append, tells_length]
        rw [← HR.out] at h1
        simp only [List.length_cons, List.length_nil]
        omega
      have hf2l : (form obs' (allVals n')).length ≤ 1000000 := by
        have h1 := tellObs_length hmG (reach obs' (allVals n')) (reach obs' (allVals n'))
        have h2 := (reach_ok hmG (allVals n') (hMay_roots' hmG)).len
        rw [form, List.length_append, tells_length, allVals_length]
        omega
      clear hTS hfr hth hmG hmT
      obtain ⟨f1, hf1⟩ : ∃ f1, f1 = form obs [⟨2, (j : Int)⟩] := ⟨_, rfl⟩
      obtain ⟨f2, hf2⟩ : ∃ f2, f2 = form obs' (allVals n') := ⟨_, rfl⟩
      rw [← hf1] at hf1l
      rw [← hf2] at hf2l
      simp only [← hf1] at hF1 hF2
      simp only [← hf2] at hF3 hF4
      clear hf1 hf2
      obtain ⟨gS, hgS⟩ : ∃ gS, gS = getS 25 x ⟨2, (j : Int)⟩ 0 := ⟨_, rfl⟩
      obtain ⟨tS, htS⟩ : ∃ tS, tS = transferS 25 x ⟨2, (j : Int)⟩ 30 obs' move := ⟨_, rfl⟩
      rw [← hgS] at hg1
      rw [← htS] at ht1
      simp only [← hgS] at hGe
      simp only [← htS] at hT2
      clear hgS htS hA
      go_wp2_with fail
      refine hT.mono ?_
      clear hT
      rintro e w7 ⟨xa, xc, ya, yc, rows1, rows2, rfl, hb7, hq1, hq2, hO1, hO2⟩
      have hX := hO1.obs.2
      have hY := hO2.obs.2
      rw [hq1] at hX
      rw [hq2] at hY
      have k7 := Keeps.below hb7
      replace c0 := k7 _ _ c0
      replace c1 := k7 _ _ c1
      replace c2 := k7 _ _ c2
      replace c3 := k7 _ _ c3
      replace c4 := k7 _ _ c4
      replace c5 := k7 _ _ c5
      replace b1 := b1.trans (hb7.mono b1.size)
      have k67 := k7
      clear hO1 hO2 hq1 hq2 hb7 k7
      go_upto_region 8 with fail
      obtain ⟨P0, P1, P2, kk, bb, hs'⟩ := boxes3 w7 (Obj.cells #[.int .i64 25, .slice xa n xc] 25) (Obj.cells #[.int .i64 30, .slice ya (n' + R) yc] 25) (Obj.cells #[.int .i64 uk, .int .i64 un] 30)
      generalize ((w7.alloc (Obj.cells #[.int .i64 25, .slice xa n xc] 25)).alloc (Obj.cells #[.int .i64 30, .slice ya (n' + R) yc] 25)).alloc (Obj.cells #[.int .i64 uk, .int .i64 un] 30) = W at *
      obtain ⟨XB, hXB⟩ : ∃ XB, XB = w7.heap.size := ⟨_, rfl⟩
      rw [← hXB] at P0 P1 P2 ⊢
      have hXW : XB + 1 + 1 < W.heap.size := by omega
      clear hs' hXB
      obtain ⟨YB, hYB⟩ : ∃ YB, YB = XB + 1 := ⟨_, rfl⟩
      rw [← hYB] at P1 P2 hXW ⊢
      obtain ⟨UB, hUB⟩ : ∃ UB, UB = YB + 1 := ⟨_, rfl⟩
      rw [← hUB] at P2 hXW ⊢
      have x0 := cell_blk P0 0
      have x1 := cell_blk P0 1
      have y0 := cell_blk P1 0
      have y1 := cell_blk P1 1
      have u0 := cell_blk P2 0
      have u1 := cell_blk P2 1
      simp at x0 x1 y0 y1 u0 u1
      clear P0 P1 P2 hYB hUB
      replace c0 := kk _ _ c0
      replace c1 := kk _ _ c1
      replace c2 := kk _ _ c2
      replace c3 := kk _ _ c3
      replace c4 := kk _ _ c4
      replace c5 := kk _ _ c5
      replace b1 := b1.trans (bb.mono b1.size)
      replace hX := hX.keeps kk
      replace hY := hY.keeps kk
      have k6W := k67.trans kk
      have hIW := hIA.keeps k6W
      clear kk bb k67
      have hz : decide ((30 : Int) < (R : Int) + (n' : Int)) = false := by simp; omega
      have hwr : IntKind.i64.wrap ((n' : Int) + (R : Int)) = (n' : Int) + (R : Int) := IntWalk.i64_in _ (by omega)
      have hbn0 : (((n' + R : Nat) : Int) != (n' : Int) + (R : Int)) = false := by simp
      have hbn1 : ((n' : Int) + (R : Int) != (n' : Int) + (R : Int)) = false := by simp
      go_upto_region 10 with fail
      have hSof : ∀ wy, Below W.heap.size W wy → wy.cell? ⟨HB, 0, none⟩ = some (.int .i64 25) ∧ wy.cell? ⟨HB, 1, none⟩ = some (.slice oa n oc) ∧ wy.cell? ⟨VB, 0, none⟩ = some (.int .i64 2) ∧ wy.cell? ⟨VB, 1, none⟩ = some (.int .i64 (j : Int)) ∧ wy.cell? ⟨YB, 0, none⟩ = some (.int .i64 30) ∧ wy.cell? ⟨YB, 1, none⟩ = some (.slice ya (n' + R) yc) ∧ wy.cell? ⟨UB, 0, none⟩ = some (.int .i64 uk) ∧ wy.cell? ⟨UB, 1, none⟩ = some (.int .i64 un) ∧ wy.cell? ⟨GB, 0, none⟩ = some (.int .i64 30) ∧ wy.cell? ⟨GB, 1, none⟩ = some (.slice pa n' pc) := fun wy hy => by
        have kx := Keeps.below hy
        exact ⟨kx _ _ c0, kx _ _ c1, kx _ _ c4, kx _ _ c5, kx _ _ y0, kx _ _ y1, kx _ _ u0, kx _ _ u1, kx _ _ c2, kx _ _ c3⟩
      go_cut [115] (fun s115 wx => s115 = .bool false ∧ Below W.heap.size W wx)
      case first =>
        have hB : Below W.heap.size W W.drew := (Below.refl _ _).drew
        refine wp_region_need (fun j => true) (fun w' => w'.cell? ⟨HB, 0, none⟩ = some (.int .i64 25) ∧ w'.cell? ⟨HB, 1, none⟩ = some (.slice oa n oc) ∧ w'.cell? ⟨VB, 0, none⟩ = some (.int .i64 2) ∧ w'.cell? ⟨VB, 1, none⟩ = some (.int .i64 (j : Int)) ∧ w'.cell? ⟨YB, 0, none⟩ = some (.int .i64 30) ∧ w'.cell? ⟨YB, 1, none⟩ = some (.slice ya (n' + R) yc) ∧ w'.cell? ⟨UB, 0, none⟩ = some (.int .i64 uk) ∧ w'.cell? ⟨UB, 1, none⟩ = some (.int .i64 un) ∧ w'.cell? ⟨GB, 0, none⟩ = some (.int .i64 30) ∧ w'.cell? ⟨GB, 1, none⟩ = some (.slice pa n' pc)) (by kernel_rfl) (hSof _ hB) (fun hS => ?_)
        generalize W.drew = wc0 at hS hB ⊢
        refine wpAnyN_take (i := 0) (v := ?v1) rfl (by kernel_rfl) (by kernel_rfl) (by kernel_rfl) (by kernel_rfl) (fun _ _ _ h => h) (by rfl) ?hy1 hS ?rest1
        case hy1 => (intro wy hSy; (try dsimp only at hSy); go_simp; try (with_reducible rfl))
        simp only [Act.put, List.getElem_toArray, List.getElem_cons_zero, List.setIfInBounds_toArray, List.set_cons_zero, List.set_cons_succ]
        refine wpAnyN_take (i := 1) (v := ?v2) rfl (by kernel_rfl) (by kernel_rfl) (by kernel_rfl) (by kernel_rfl) (fun _ _ _ h => h) (by rfl) ?hy2 hS ?rest2
        case hy2 => (intro wy hSy; (try dsimp only at hSy); go_simp; try (with_reducible rfl))
        simp only [Act.put, List.getElem_toArray, List.getElem_cons_zero, List.getElem_cons_succ, List.setIfInBounds_toArray, List.set_cons_zero, List.set_cons_succ]
        refine wpAnyN_take (i := 2) (v := ?v3) rfl (by kernel_rfl) (by kernel_rfl) (by kernel_rfl) (by kernel_rfl) (fun _ _ _ h => h) (by rfl) ?hy3 hS ?rest3
        case hy3 => (intro wy hSy; (try dsimp only at hSy); go_simp; try (with_reducible rfl))
        simp only [Act.put, List.getElem_toArray, List.getElem_cons_zero, List.getElem_cons_succ, List.setIfInBounds_toArray, List.set_cons_zero, List.set_cons_succ]
        refine wpAnyN_take (i := 3) (v := ?v4) rfl (by kernel_rfl) (by kernel_rfl) (by kernel_rfl) (by kernel_rfl) (fun _ _ _ h => h) (by rfl) ?hy4 hS ?rest4
        case hy4 => (intro wy hSy; (try dsimp only at hSy); go_simp; try (with_reducible rfl))
        simp only [Act.put, List.getElem_toArray, List.getElem_cons_zero, List.getElem_cons_succ, List.setIfInBounds_toArray, List.set_cons_zero, List.set_cons_succ]
        refine wpAnyN_take (i := 4) (v := ?v5) rfl (by kernel_rfl) (by kernel_rfl) (by kernel_rfl) (by kernel_rfl) (fun _ _ _ h => h) (by rfl) ?hy5 hS ?rest5
        case hy5 => (intro wy hSy; (try dsimp only at hSy); go_simp; try (with_reducible rfl))
        simp only [Act.put, List.getElem_toArray, List.getElem_cons_zero, List.getElem_cons_succ, List.setIfInBounds_toArray, List.set_cons_zero, List.set_cons_succ]
        refine wpAnyN_take (i := 5) (v := ?v6) rfl (by kernel_rfl) (by kernel_rfl) (by kernel_rfl) (by kernel_rfl) (fun _ _ _ h => h) (by rfl) ?hy6 hS ?rest6
        case hy6 => (intro wy hSy; (try dsimp only at hSy); go_simp; try (with_reducible rfl))
        simp only [Act.put, List.getElem_toArray, List.getElem_cons_zero, List.getElem_cons_succ, List.setIfInBounds_toArray, List.set_cons_zero, List.set_cons_succ]
        refine wpAnyN_take (i := 6) (v := ?v7) rfl (by kernel_rfl) (by kernel_rfl) (by kernel_rfl) (by kernel_rfl) (fun _ _ _ h => h) (by rfl) ?hy7 hS ?rest7
        case hy7 => (intro wy hSy; (try dsimp only at hSy); go_simp; try (with_reducible rfl))
        simp only [Act.put, List.getElem_toArray, List.getElem_cons_zero, List.getElem_cons_succ, List.setIfInBounds_toArray, List.set_cons_zero, List.set_cons_succ]
        refine wpAnyN_take (i := 7) (v := ?v8) rfl (by kernel_rfl) (by kernel_rfl) (by kernel_rfl) (by kernel_rfl) (fun _ _ _ h => h) (by rfl) ?hy8 hS ?rest8
        case hy8 => (intro wy hSy; (try dsimp only at hSy); go_simp; try (with_reducible rfl))
        simp only [Act.put, List.getElem_toArray, List.getElem_cons_zero, List.getElem_cons_succ, List.setIfInBounds_toArray, List.set_cons_zero, List.set_cons_succ]
        refine wpAnyN_take (i := 8) (v := ?v9) rfl (by kernel_rfl) (by kernel_rfl) (by kernel_rfl) (by kernel_rfl) (fun _ _ _ h => h) (by rfl) ?hy9 hS ?rest9
        case hy9 => (intro wy hSy; (try dsimp only at hSy); go_simp; try (with_reducible rfl))
        simp only [Act.put, List.getElem_toArray, List.getElem_cons_zero, List.getElem_cons_succ, List.setIfInBounds_toArray, List.set_cons_zero, List.set_cons_succ]
        refine wpAnyN_take (i := 11) (v := ?v10) rfl (by kernel_rfl) (by kernel_rfl) (by kernel_rfl) (by kernel_rfl) (fun _ _ _ h => h) (by rfl) ?hy10 hS ?rest10
        case hy10 => (intro wy hSy; (try dsimp only at hSy); go_simp; try (with_reducible rfl))
        simp only [Act.put, List.getElem_toArray, List.getElem_cons_zero, List.getElem_cons_succ, List.setIfInBounds_toArray, List.set_cons_zero, List.set_cons_succ]
        refine wpAnyN_take (i := 12) (v := ?v11) rfl (by kernel_rfl) (by kernel_rfl) (by kernel_rfl) (by kernel_rfl) (fun _ _ _ h => h) (by rfl) ?hy11 hS ?rest11
        case hy11 => (intro wy hSy; (try dsimp only at hSy); go_simp; try (with_reducible rfl))
        simp only [Act.put, List.getElem_toArray, List.getElem_cons_zero, List.getElem_cons_succ, List.setIfInBounds_toArray, List.set_cons_zero, List.set_cons_succ]
        refine wpAnyN_two (i := 9) (j := 13) (by kernel_rfl) rfl rfl (fun K hK => ?_) (fun K hK => ?_)
        · simp only [List.getElem_toArray, List.getElem_cons_zero, List.getElem_cons_succ]
          go_simp
          have hbn := below_box wc0 (Obj.cells #[.int .i64 2, .int .i64 (j : Int)] 30)
          have v9 := vals_one wc0 2 j 30
          generalize wc0.alloc (Obj.cells #[.int .i64 2, .int .i64 (j : Int)] 30) = wc1 at hbn v9 ⊢
          have hBn : Below W.heap.size W wc1 := hB.trans (hbn.mono hB.size)
          refine hK.out _ _ (fun _ => hSof _ hBn) ?_
          replace hS := hSof _ hBn
          clear hK
          replace hB := hBn
          clear hBn hbn
          try simp only [Act.put, List.getElem_toArray, List.getElem_cons_zero, List.getElem_cons_succ, List.setIfInBounds_toArray, List.set_cons_zero, List.set_cons_succ]
          refine wpAnyN_two (i := 10) (j := 13) (by kernel_rfl) rfl rfl (fun K hK => ?_) (fun K hK => ?_)
          · simp only [List.getElem_toArray, List.getElem_cons_zero, List.getElem_cons_succ]
            go_simp
            refine (hF1 _ _ _ (k6W.trans (Keeps.below hB)) v9).mono ?_
            rintro e wc2 ⟨qa, qc, rfl, hbn, hqi⟩
            have q10 := IntsOwn.at hqi
            clear hqi
            have hBn : Below W.heap.size W wc2 := hB.trans (hbn.mono hB.size)
            refine hK.out _ _ (fun _ => hSof _ hBn) ?_
            replace hS := hSof _ hBn
            clear hK
            replace v9 := v9.keeps (Keeps.below hbn)
            replace hB := hBn
            clear hBn hbn
            try simp only [Act.put, List.getElem_toArray, List.getElem_cons_zero, List.getElem_cons_succ, List.setIfInBounds_toArray, List.set_cons_zero, List.set_cons_succ]
            refine wpAnyN_one (i := 13) (by kernel_rfl) rfl (fun K hK => ?_)
            simp only [List.getElem_toArray, List.getElem_cons_zero, List.getElem_cons_succ]
            go_simp
            have hbn := below_box wc2 (Obj.cells #[.int .i64 uk, .int .i64 un] 30)
            have v13 := vals_one wc2 uk un 30
            generalize wc2.alloc (Obj.cells #[.int .i64 uk, .int .i64 un] 30) = wc3 at hbn v13 ⊢
            have hBn : Below W.heap.size W wc3 := hB.trans (hbn.mono hB.size)
            refine hK.out _ _ (fun _ => hSof _ hBn) ?_
            replace hS := hSof _ hBn
            clear hK
            replace v9 := v9.keeps (Keeps.below hbn)
            replace q10 := q10.keeps (Keeps.below hbn)
            replace hB := hBn
            clear hBn hbn
            try simp only [Act.put, List.getElem_toArray, List.getElem_cons_zero, List.getElem_cons_succ, List.setIfInBounds_toArray, List.set_cons_zero, List.set_cons_succ]
            refine wpAnyN_one (i := 14) (by kernel_rfl) rfl (fun K hK => ?_)
            simp only [List.getElem_toArray, List.getElem_cons_zero, List.getElem_cons_succ]
            go_simp
            refine (hF2 _ _ _ _ _ (hY.keeps (Keeps.below hB)) v13).mono ?_
            rintro e wc4 ⟨ta', tc', rfl, hbn, hti⟩
            have q14 := IntsOwn.at hti
            clear hti
            have hBn : Below W.heap.size W wc4 := hB.trans (hbn.mono hB.size)
            refine hK.out _ _ (fun _ => hSof _ hBn) ?_
            replace hS := hSof _ hBn
            clear hK
            replace v9 := v9.keeps (Keeps.below hbn)
            replace q10 := q10.keeps (Keeps.below hbn)
            replace v13 := v13.keeps (Keeps.below hbn)
            replace hB := hBn
            clear hBn hbn
            try simp only [Act.put, List.getElem_toArray, List.getElem_cons_zero, List.getElem_cons_succ, List.setIfInBounds_toArray, List.set_cons_zero, List.set_cons_succ]
            refine wpAnyN_one (i := 15) (by kernel_rfl) rfl (fun K hK => ?_)
            simp only [List.getElem_toArray, List.getElem_cons_zero, List.getElem_cons_succ]
            go_simp
            refine (equalInts_any qa ta' qc tc' f1 wc4 q10 q14 hf1l).mono ?_
            rintro e we ⟨rfl, ne, rfl⟩
            replace hB := below_drewN hB ne
            refine hK.out _ _ (fun _ => hSof _ hB) ?_
            replace hS := hSof _ hB
            clear hK q10 q14 v9 v13
            generalize wc4.drewN ne = wd at *
            refine wpAnyN_take (i := 16) (v := ?v12) rfl (by kernel_rfl) (by kernel_rfl) (by kernel_rfl) (by kernel_rfl) (fun _ _ _ h => h) (by rfl) ?hy12 hS ?rest12
            case hy12 => (intro wy hSy; (try dsimp only at hSy); go_simp; try (with_reducible rfl))
            simp only [Act.put, List.getElem_toArray, List.getElem_cons_zero, List.getElem_cons_succ, List.setIfInBounds_toArray, List.set_cons_zero, List.set_cons_succ]
            refine wpAnyN_take (i := 17) (v := ?v13) rfl (by kernel_rfl) (by kernel_rfl) (by kernel_rfl) (by kernel_rfl) (fun _ _ _ h => h) (by rfl) ?hy13 hS ?rest13
            case hy13 => (intro wy hSy; (try dsimp only at hSy); go_simp; try (with_reducible rfl))
            simp only [Act.put, List.getElem_toArray, List.getElem_cons_zero, List.getElem_cons_succ, List.setIfInBounds_toArray, List.set_cons_zero, List.set_cons_succ]
            refine wpAnyN_take (i := 18) (v := ?v14) rfl (by kernel_rfl) (by kernel_rfl) (by kernel_rfl) (by kernel_rfl) (fun _ _ _ h => h) (by rfl) ?hy14 hS ?rest14
            case hy14 => (intro wy hSy; (try dsimp only at hSy); go_simp; try (with_reducible rfl))
            simp only [Act.put, List.getElem_toArray, List.getElem_cons_zero, List.getElem_cons_succ, List.setIfInBounds_toArray, List.set_cons_zero, List.set_cons_succ]
            refine wpAnyN_take (i := 19) (v := ?v15) rfl (by kernel_rfl) (by kernel_rfl) (by kernel_rfl) (by kernel_rfl) (fun _ _ _ h => h) (by rfl) ?hy15 hS ?rest15
            case hy15 => (intro wy hSy; (try dsimp only at hSy); go_simp; try (with_reducible rfl))
            simp only [Act.put, List.getElem_toArray, List.getElem_cons_zero, List.getElem_cons_succ, List.setIfInBounds_toArray, List.set_cons_zero, List.set_cons_succ]
            refine wpAnyN_take (i := 20) (v := ?v16) rfl (by kernel_rfl) (by kernel_rfl) (by kernel_rfl) (by kernel_rfl) (fun _ _ _ h => h) (by rfl) ?hy16 hS ?rest16
            case hy16 => (intro wy hSy; (try dsimp only at hSy); go_simp; try (with_reducible rfl))
            simp only [Act.put, List.getElem_toArray, List.getElem_cons_zero, List.getElem_cons_succ, List.setIfInBounds_toArray, List.set_cons_zero, List.set_cons_succ]
            refine wpAnyN_take (i := 21) (v := ?v17) rfl (by kernel_rfl) (by kernel_rfl) (by kernel_rfl) (by kernel_rfl) (fun _ _ _ h => h) (by rfl) ?hy17 hS ?rest17
            case hy17 => (intro wy hSy; (try dsimp only at hSy); go_simp; try (with_reducible rfl))
            simp only [Act.put, List.getElem_toArray, List.getElem_cons_zero, List.getElem_cons_succ, List.setIfInBounds_toArray, List.set_cons_zero, List.set_cons_succ]
            refine wpAnyN_take (i := 22) (v := ?v18) rfl (by kernel_rfl) (by kernel_rfl) (by kernel_rfl) (by kernel_rfl) (fun _ _ _ h => h) (by rfl) ?hy18 hS ?rest18
            case hy18 => (intro wy hSy; (try dsimp only at hSy); go_simp; try (with_reducible rfl))
            simp only [Act.put, List.getElem_toArray, List.getElem_cons_zero, List.getElem_cons_succ, List.setIfInBounds_toArray, List.set_cons_zero, List.set_cons_succ]
            refine wpAnyN_take (i := 23) (v := ?v19) rfl (by kernel_rfl) (by kernel_rfl) (by kernel_rfl) (by kernel_rfl) (fun _ _ _ h => h) (by rfl) ?hy19 hS ?rest19
            case hy19 => (intro wy hSy; (try dsimp only at hSy); go_simp; try (with_reducible rfl))
            simp only [Act.put, List.getElem_toArray, List.getElem_cons_zero, List.getElem_cons_succ, List.setIfInBounds_toArray, List.set_cons_zero, List.set_cons_succ]
            refine wpAnyN_take (i := 24) (v := ?v20) rfl (by kernel_rfl) (by kernel_rfl) (by kernel_rfl) (by kernel_rfl) (fun _ _ _ h => h) (by rfl) ?hy20 hS ?rest20
            case hy20 => (intro wy hSy; (try dsimp only at hSy); go_simp; try (with_reducible rfl))
            simp only [Act.put, List.getElem_toArray, List.getElem_cons_zero, List.getElem_cons_succ, List.setIfInBounds_toArray, List.set_cons_zero, List.set_cons_succ]
            refine wpAnyN_take (i := 25) (v := ?v21) rfl (by kernel_rfl) (by kernel_rfl) (by kernel_rfl) (by kernel_rfl) (fun _ _ _ h => h) (by rfl) ?hy21 hS ?rest21
            case hy21 => (intro wy hSy; (try dsimp only at hSy); go_simp; try (with_reducible rfl))
            simp only [Act.put, List.getElem_toArray, List.getElem_cons_zero, List.getElem_cons_succ, List.setIfInBounds_toArray, List.set_cons_zero, List.set_cons_succ]
            refine wpAnyN_take (i := 26) (v := ?v22) rfl (by kernel_rfl) (by kernel_rfl) (by kernel_rfl) (by kernel_rfl) (fun _ _ _ h => h) (by rfl) ?hy22 hS ?rest22
            case hy22 => (intro wy hSy; (try dsimp only at hSy); go_simp; try (with_reducible rfl))
            simp only [Act.put, List.getElem_toArray, List.getElem_cons_zero, List.getElem_cons_succ, List.setIfInBounds_toArray, List.set_cons_zero, List.set_cons_succ]
            refine wpAnyN_take (i := 27) (v := ?v23) rfl (by kernel_rfl) (by kernel_rfl) (by kernel_rfl) (by kernel_rfl) (fun _ _ _ h => h) (by rfl) ?hy23 hS ?rest23
            case hy23 => (intro wy hSy; (try dsimp only at hSy); go_simp; try (with_reducible rfl))
            simp only [Act.put, List.getElem_toArray, List.getElem_cons_zero, List.getElem_cons_succ, List.setIfInBounds_toArray, List.set_cons_zero, List.set_cons_succ]
            refine wpAnyN_take (i := 28) (v := ?v24) rfl (by kernel_rfl) (by kernel_rfl) (by kernel_rfl) (by kernel_rfl) (fun _ _ _ h => h) (by rfl) ?hy24 hS ?rest24
            case hy24 => (intro wy hSy; (try dsimp only at hSy); go_simp; try (with_reducible rfl))
            simp only [Act.put, List.getElem_toArray, List.getElem_cons_zero, List.getElem_cons_succ, List.setIfInBounds_toArray, List.set_cons_zero, List.set_cons_succ]
            refine wpAnyN_take (i := 29) (v := ?v25) rfl (by kernel_rfl) (by kernel_rfl) (by kernel_rfl) (by kernel_rfl) (fun _ _ _ h => h) (by rfl) ?hy25 hS ?rest25
            case hy25 => (intro wy hSy; (try dsimp only at hSy); go_simp; try (with_reducible rfl))
            simp only [Act.put, List.getElem_toArray, List.getElem_cons_zero, List.getElem_cons_succ, List.setIfInBounds_toArray, List.set_cons_zero, List.set_cons_succ]
            refine wpAnyN_take (i := 30) (v := ?v26) rfl (by kernel_rfl) (by kernel_rfl) (by kernel_rfl) (by kernel_rfl) (fun _ _ _ h => h) (by rfl) ?hy26 hS ?rest26
            case hy26 => (intro wy hSy; (try dsimp only at hSy); go_simp; try (with_reducible rfl))
            simp only [Act.put, List.getElem_toArray, List.getElem_cons_zero, List.getElem_cons_succ, List.setIfInBounds_toArray, List.set_cons_zero, List.set_cons_succ]
            refine wpAnyN_take (i := 31) (v := ?v27) rfl (by kernel_rfl) (by kernel_rfl) (by kernel_rfl) (by kernel_rfl) (fun _ _ _ h => h) (by rfl) ?hy27 hS ?rest27
            case hy27 => (intro wy hSy; (try dsimp only at hSy); go_simp; try (with_reducible rfl))
            simp only [Act.put, List.getElem_toArray, List.getElem_cons_zero, List.getElem_cons_succ, List.setIfInBounds_toArray, List.set_cons_zero, List.set_cons_succ]
            refine wpAnyN_take (i := 33) (v := ?v28) rfl (by kernel_rfl) (by kernel_rfl) (by kernel_rfl) (by kernel_rfl) (fun _ _ _ h => h) (by rfl) ?hy28 hS ?rest28
            case hy28 => (intro wy hSy; (try dsimp only at hSy); go_simp; try (with_reducible rfl))
            simp only [Act.put, List.getElem_toArray, List.getElem_cons_zero, List.getElem_cons_succ, List.setIfInBounds_toArray, List.set_cons_zero, List.set_cons_succ]
            refine wpAnyN_take (i := 34) (v := ?v29) rfl (by kernel_rfl) (by kernel_rfl) (by kernel_rfl) (by kernel_rfl) (fun _ _ _ h => h) (by rfl) ?hy29 hS ?rest29
            case hy29 => (intro wy hSy; (try dsimp only at hSy); go_simp; try (with_reducible rfl))
            simp only [Act.put, List.getElem_toArray, List.getElem_cons_zero, List.getElem_cons_succ, List.setIfInBounds_toArray, List.set_cons_zero, List.set_cons_succ]
            refine wpAnyN_one (i := 32) (by kernel_rfl) rfl (fun K hK => ?_)
            simp only [List.getElem_toArray, List.getElem_cons_zero, List.getElem_cons_succ]
            go_simp
            refine (hF3 _ (k6W.trans (Keeps.below hB))).mono ?_
            rintro e wf ⟨za, zc, rfl, hbn, hzi⟩
            have q32 := IntsOwn.at hzi
            replace hB := hB.trans (hbn.mono hB.size)
            refine hK.out _ _ (fun _ => hSof _ hB) ?_
            replace hS := hSof _ hB
            clear hK hbn hzi
            refine wpAnyN_one (i := 35) (by kernel_rfl) rfl (fun K hK => ?_)
            simp only [List.getElem_toArray, List.getElem_cons_zero, List.getElem_cons_succ]
            go_simp
            refine (hF4 _ _ _ (hY.keeps (Keeps.below hB)) (k6W.trans (Keeps.below hB))).mono ?_
            rintro e wg ⟨zb, zd, rfl, hbn, hzi⟩
            have q35 := IntsOwn.at hzi
            replace q32 := q32.keeps (Keeps.below hbn)
            replace hB := hB.trans (hbn.mono hB.size)
            refine hK.out _ _ (fun _ => hSof _ hB) ?_
            replace hS := hSof _ hB
            clear hK hbn hzi
            refine wpAnyN_one (i := 36) (by kernel_rfl) rfl (fun K hK => ?_)
            simp only [List.getElem_toArray, List.getElem_cons_zero, List.getElem_cons_succ]
            go_simp
            refine (equalInts_any za zb zc zd f2 wg q32 q35 hf2l).mono ?_
            rintro e we ⟨rfl, ne2, rfl⟩
            replace hB := below_drewN hB ne2
            refine hK.out _ _ (fun _ => hSof _ hB) ?_
            replace hS := hSof _ hB
            clear hK q32 q35
            generalize wg.drewN ne2 = wh at *
            refine wpAnyN_take (i := 37) (v := ?v30) rfl (by kernel_rfl) (by kernel_rfl) (by kernel_rfl) (by kernel_rfl) (fun _ _ _ h => h) (by rfl) ?hy30 hS ?rest30
            case hy30 => (intro wy hSy; (try dsimp only at hSy); go_simp; try (with_reducible rfl))
            simp only [Act.put, List.getElem_toArray, List.getElem_cons_zero, List.getElem_cons_succ, List.setIfInBounds_toArray, List.set_cons_zero, List.set_cons_succ]
            refine wpAnyN_take (i := 38) (v := ?v31) rfl (by kernel_rfl) (by kernel_rfl) (by kernel_rfl) (by kernel_rfl) (fun _ _ _ h => h) (by rfl) ?hy31 hS ?rest31
            case hy31 => (intro wy hSy; (try dsimp only at hSy); go_simp; try (with_reducible rfl))
            simp only [Act.put, List.getElem_toArray, List.getElem_cons_zero, List.getElem_cons_succ, List.setIfInBounds_toArray, List.set_cons_zero, List.set_cons_succ]
            refine wpAnyN_done (by kernel_rfl) ?_ _
            refine NoPanic.normal ?_
            go_wp2_with fail
            go_meet
            case rel => exact ⟨rfl, hB⟩
          · simp only [List.getElem_toArray, List.getElem_cons_zero, List.getElem_cons_succ]
            go_simp
            have hbn := below_box wc1 (Obj.cells #[.int .i64 uk, .int .i64 un] 30)
            have v13 := vals_one wc1 uk un 30
            generalize wc1.alloc (Obj.cells #[.int .i64 uk, .int .i64 un] 30) = wc2 at hbn v13 ⊢
            have hBn : Below W.heap.size W wc2 := hB.trans (hbn.mono hB.size)
            refine hK.out _ _ (fun _ => hSof _ hBn) ?_
            replace hS := hSof _ hBn
            clear hK
            replace v9 := v9.keeps (Keeps.below hbn)
            replace hB := hBn
            clear hBn hbn
            try simp only [Act.put, List.getElem_toArray, List.getElem_cons_zero, List.getElem_cons_succ, List.setIfInBounds_toArray, List.set_cons_zero, List.set_cons_succ]
            refine wpAnyN_one (i := 10) (by kernel_rfl) rfl (fun K hK => ?_)
            simp only [List.getElem_toArray, List.getElem_cons_zero, List.getElem_cons_succ]
            go_simp
            refine (hF1 _ _ _ (k6W.trans (Keeps.below hB)) v9).mono ?_
            rintro e wc3 ⟨qa, qc, rfl, hbn, hqi⟩
            have q10 := IntsOwn.at hqi
            clear hqi
            have hBn : Below W.heap.size W wc3 := hB.trans (hbn.mono hB.size)
            refine hK.out _ _ (fun _ => hSof _ hBn) ?_
            replace hS := hSof _ hBn
            clear hK
            replace v9 := v9.keeps (Keeps.below hbn)
            replace v13 := v13.keeps (Keeps.below hbn)
            replace hB := hBn
            clear hBn hbn
            try simp only [Act.put, List.getElem_toArray, List.getElem_cons_zero, List.getElem_cons_succ, List.setIfInBounds_toArray, List.set_cons_zero, List.set_cons_succ]
            refine wpAnyN_one (i := 14) (by kernel_rfl) rfl (fun K hK => ?_)
            simp only [List.getElem_toArray, List.getElem_cons_zero, List.getElem_cons_succ]
            go_simp
            refine (hF2 _ _ _ _ _ (hY.keeps (Keeps.below hB)) v13).mono ?_
            rintro e wc4 ⟨ta', tc', rfl, hbn, hti⟩
            have q14 := IntsOwn.at hti
            clear hti
            have hBn : Below W.heap.size W wc4 := hB.trans (hbn.mono hB.size)
            refine hK.out _ _ (fun _ => hSof _ hBn) ?_
            replace hS := hSof _ hBn
            clear hK
            replace v9 := v9.keeps (Keeps.below hbn)
            replace v13 := v13.keeps (Keeps.below hbn)
            replace q10 := q10.keeps (Keeps.below hbn)
            replace hB := hBn
            clear hBn hbn
            try simp only [Act.put, List.getElem_toArray, List.getElem_cons_zero, List.getElem_cons_succ, List.setIfInBounds_toArray, List.set_cons_zero, List.set_cons_succ]
            refine wpAnyN_one (i := 15) (by kernel_rfl) rfl (fun K hK => ?_)
            simp only [List.getElem_toArray, List.getElem_cons_zero, List.getElem_cons_succ]
            go_simp
            refine (equalInts_any qa ta' qc tc' f1 wc4 q10 q14 hf1l).mono ?_
            rintro e we ⟨rfl, ne, rfl⟩
            replace hB := below_drewN hB ne
            refine hK.out _ _ (fun _ => hSof _ hB) ?_
            replace hS := hSof _ hB
            clear hK q10 q14 v9 v13
            generalize wc4.drewN ne = wd at *
            refine wpAnyN_take (i := 16) (v := ?v32) rfl (by kernel_rfl) (by kernel_rfl) (by kernel_rfl) (by kernel_rfl) (fun _ _ _ h => h) (by rfl) ?hy32 hS ?rest32
            case hy32 => (intro wy hSy; (try dsimp only at hSy); go_simp; try (with_reducible rfl))
            simp only [Act.put, List.getElem_toArray, List.getElem_cons_zero, List.getElem_cons_succ, List.setIfInBounds_toArray, List.set_cons_zero, List.set_cons_succ]
            refine wpAnyN_take (i := 17) (v := ?v33) rfl (by kernel_rfl) (by kernel_rfl) (by kernel_rfl) (by kernel_rfl) (fun _ _ _ h => h) (by rfl) ?hy33 hS ?rest33
            case hy33 => (intro wy hSy; (try dsimp only at hSy); go_simp; try (with_reducible rfl))
            simp only [Act.put, List.getElem_toArray, List.getElem_cons_zero, List.getElem_cons_succ, List.setIfInBounds_toArray, List.set_cons_zero, List.set_cons_succ]
            refine wpAnyN_take (i := 18) (v := ?v34) rfl (by kernel_rfl) (by kernel_rfl) (by kernel_rfl) (by kernel_rfl) (fun _ _ _ h => h) (by rfl) ?hy34 hS ?rest34
            case hy34 => (intro wy hSy; (try dsimp only at hSy); go_simp; try (with_reducible rfl))
            simp only [Act.put, List.getElem_toArray, List.getElem_cons_zero, List.getElem_cons_succ, List.setIfInBounds_toArray, List.set_cons_zero, List.set_cons_succ]
            refine wpAnyN_take (i := 19) (v := ?v35) rfl (by kernel_rfl) (by kernel_rfl) (by kernel_rfl) (by kernel_rfl) (fun _ _ _ h => h) (by rfl) ?hy35 hS ?rest35
            case hy35 => (intro wy hSy; (try dsimp only at hSy); go_simp; try (with_reducible rfl))
            simp only [Act.put, List.getElem_toArray, List.getElem_cons_zero, List.getElem_cons_succ, List.setIfInBounds_toArray, List.set_cons_zero, List.set_cons_succ]
            refine wpAnyN_take (i := 20) (v := ?v36) rfl (by kernel_rfl) (by kernel_rfl) (by kernel_rfl) (by kernel_rfl) (fun _ _ _ h => h) (by rfl) ?hy36 hS ?rest36
            case hy36 => (intro wy hSy; (try dsimp only at hSy); go_simp; try (with_reducible rfl))
            simp only [Act.put, List.getElem_toArray, List.getElem_cons_zero, List.getElem_cons_succ, List.setIfInBounds_toArray, List.set_cons_zero, List.set_cons_succ]
            refine wpAnyN_take (i := 21) (v := ?v37) rfl (by kernel_rfl) (by kernel_rfl) (by kernel_rfl) (by kernel_rfl) (fun _ _ _ h => h) (by rfl) ?hy37 hS ?rest37
            case hy37 => (intro wy hSy; (try dsimp only at hSy); go_simp; try (with_reducible rfl))
            simp only [Act.put, List.getElem_toArray, List.getElem_cons_zero, List.getElem_cons_succ, List.setIfInBounds_toArray, List.set_cons_zero, List.set_cons_succ]
            refine wpAnyN_take (i := 22) (v := ?v38) rfl (by kernel_rfl) (by kernel_rfl) (by kernel_rfl) (by kernel_rfl) (fun _ _ _ h => h) (by rfl) ?hy38 hS ?rest38
            case hy38 => (intro wy hSy; (try dsimp only at hSy); go_simp; try (with_reducible rfl))
            simp only [Act.put, List.getElem_toArray, List.getElem_cons_zero, List.getElem_cons_succ, List.setIfInBounds_toArray, List.set_cons_zero, List.set_cons_succ]
            refine wpAnyN_take (i := 23) (v := ?v39) rfl (by kernel_rfl) (by kernel_rfl) (by kernel_rfl) (by kernel_rfl) (fun _ _ _ h => h) (by rfl) ?hy39 hS ?rest39
            case hy39 => (intro wy hSy; (try dsimp only at hSy); go_simp; try (with_reducible rfl))
            simp only [Act.put, List.getElem_toArray, List.getElem_cons_zero, List.getElem_cons_succ, List.setIfInBounds_toArray, List.set_cons_zero, List.set_cons_succ]
            refine wpAnyN_take (i := 24) (v := ?v40) rfl (by kernel_rfl) (by kernel_rfl) (by kernel_rfl) (by kernel_rfl) (fun _ _ _ h => h) (by rfl) ?hy40 hS ?rest40
            case hy40 => (intro wy hSy; (try dsimp only at hSy); go_simp; try (with_reducible rfl))
            simp only [Act.put, List.getElem_toArray, List.getElem_cons_zero, List.getElem_cons_succ, List.setIfInBounds_toArray, List.set_cons_zero, List.set_cons_succ]
            refine wpAnyN_take (i := 25) (v := ?v41) rfl (by kernel_rfl) (by kernel_rfl) (by kernel_rfl) (by kernel_rfl) (fun _ _ _ h => h) (by rfl) ?hy41 hS ?rest41
            case hy41 => (intro wy hSy; (try dsimp only at hSy); go_simp; try (with_reducible rfl))
            simp only [Act.put, List.getElem_toArray, List.getElem_cons_zero, List.getElem_cons_succ, List.setIfInBounds_toArray, List.set_cons_zero, List.set_cons_succ]
            refine wpAnyN_take (i := 26) (v := ?v42) rfl (by kernel_rfl) (by kernel_rfl) (by kernel_rfl) (by kernel_rfl) (fun _ _ _ h => h) (by rfl) ?hy42 hS ?rest42
            case hy42 => (intro wy hSy; (try dsimp only at hSy); go_simp; try (with_reducible rfl))
            simp only [Act.put, List.getElem_toArray, List.getElem_cons_zero, List.getElem_cons_succ, List.setIfInBounds_toArray, List.set_cons_zero, List.set_cons_succ]
            refine wpAnyN_take (i := 27) (v := ?v43) rfl (by kernel_rfl) (by kernel_rfl) (by kernel_rfl) (by kernel_rfl) (fun _ _ _ h => h) (by rfl) ?hy43 hS ?rest43
            case hy43 => (intro wy hSy; (try dsimp only at hSy); go_simp; try (with_reducible rfl))
            simp only [Act.put, List.getElem_toArray, List.getElem_cons_zero, List.getElem_cons_succ, List.setIfInBounds_toArray, List.set_cons_zero, List.set_cons_succ]
            refine wpAnyN_take (i := 28) (v := ?v44) rfl (by kernel_rfl) (by kernel_rfl) (by kernel_rfl) (by kernel_rfl) (fun _ _ _ h => h) (by rfl) ?hy44 hS ?rest44
            case hy44 => (intro wy hSy; (try dsimp only at hSy); go_simp; try (with_reducible rfl))
            simp only [Act.put, List.getElem_toArray, List.getElem_cons_zero, List.getElem_cons_succ, List.setIfInBounds_toArray, List.set_cons_zero, List.set_cons_succ]
            refine wpAnyN_take (i := 29) (v := ?v45) rfl (by kernel_rfl) (by kernel_rfl) (by kernel_rfl) (by kernel_rfl) (fun _ _ _ h => h) (by rfl) ?hy45 hS ?rest45
            case hy45 => (intro wy hSy; (try dsimp only at hSy); go_simp; try (with_reducible rfl))
            simp only [Act.put, List.getElem_toArray, List.getElem_cons_zero, List.getElem_cons_succ, List.setIfInBounds_toArray, List.set_cons_zero, List.set_cons_succ]
            refine wpAnyN_take (i := 30) (v := ?v46) rfl (by kernel_rfl) (by kernel_rfl) (by kernel_rfl) (by kernel_rfl) (fun _ _ _ h => h) (by rfl) ?hy46 hS ?rest46
            case hy46 => (intro wy hSy; (try dsimp only at hSy); go_simp; try (with_reducible rfl))
            simp only [Act.put, List.getElem_toArray, List.getElem_cons_zero, List.getElem_cons_succ, List.setIfInBounds_toArray, List.set_cons_zero, List.set_cons_succ]
            refine wpAnyN_take (i := 31) (v := ?v47) rfl (by kernel_rfl) (by kernel_rfl) (by kernel_rfl) (by kernel_rfl) (fun _ _ _ h => h) (by rfl) ?hy47 hS ?rest47
            case hy47 => (intro wy hSy; (try dsimp only at hSy); go_simp; try (with_reducible rfl))
            simp only [Act.put, List.getElem_toArray, List.getElem_cons_zero, List.getElem_cons_succ, List.setIfInBounds_toArray, List.set_cons_zero, List.set_cons_succ]
            refine wpAnyN_take (i := 33) (v := ?v48) rfl (by kernel_rfl) (by kernel_rfl) (by kernel_rfl) (by kernel_rfl) (fun _ _ _ h => h) (by rfl) ?hy48 hS ?rest48
            case hy48 => (intro wy hSy; (try dsimp only at hSy); go_simp; try (with_reducible rfl))
            simp only [Act.put, List.getElem_toArray, List.getElem_cons_zero, List.getElem_cons_succ, List.setIfInBounds_toArray, List.set_cons_zero, List.set_cons_succ]
            refine wpAnyN_take (i := 34) (v := ?v49) rfl (by kernel_rfl) (by kernel_rfl) (by kernel_rfl) (by kernel_rfl) (fun _ _ _ h => h) (by rfl) ?hy49 hS ?rest49
            case hy49 => (intro wy hSy; (try dsimp only at hSy); go_simp; try (with_reducible rfl))
            simp only [Act.put, List.getElem_toArray, List.getElem_cons_zero, List.getElem_cons_succ, List.setIfInBounds_toArray, List.set_cons_zero, List.set_cons_succ]
            refine wpAnyN_one (i := 32) (by kernel_rfl) rfl (fun K hK => ?_)
            simp only [List.getElem_toArray, List.getElem_cons_zero, List.getElem_cons_succ]
            go_simp
            refine (hF3 _ (k6W.trans (Keeps.below hB))).mono ?_
            rintro e wf ⟨za, zc, rfl, hbn, hzi⟩
            have q32 := IntsOwn.at hzi
            replace hB := hB.trans (hbn.mono hB.size)
            refine hK.out _ _ (fun _ => hSof _ hB) ?_
            replace hS := hSof _ hB
            clear hK hbn hzi
            refine wpAnyN_one (i := 35) (by kernel_rfl) rfl (fun K hK => ?_)
            simp only [List.getElem_toArray, List.getElem_cons_zero, List.getElem_cons_succ]
            go_simp
            refine (hF4 _ _ _ (hY.keeps (Keeps.below hB)) (k6W.trans (Keeps.below hB))).mono ?_
            rintro e wg ⟨zb, zd, rfl, hbn, hzi⟩
            have q35 := IntsOwn.at hzi
            replace q32 := q32.keeps (Keeps.below hbn)
            replace hB := hB.trans (hbn.mono hB.size)
            refine hK.out _ _ (fun _ => hSof _ hB) ?_
            replace hS := hSof _ hB
            clear hK hbn hzi
            refine wpAnyN_one (i := 36) (by kernel_rfl) rfl (fun K hK => ?_)
            simp only [List.getElem_toArray, List.getElem_cons_zero, List.getElem_cons_succ]
            go_simp
            refine (equalInts_any za zb zc zd f2 wg q32 q35 hf2l).mono ?_
            rintro e we ⟨rfl, ne2, rfl⟩
            replace hB := below_drewN hB ne2
            refine hK.out _ _ (fun _ => hSof _ hB) ?_
            replace hS := hSof _ hB
            clear hK q32 q35
            generalize wg.drewN ne2 = wh at *
            refine wpAnyN_take (i := 37) (v := ?v50) rfl (by kernel_rfl) (by kernel_rfl) (by kernel_rfl) (by kernel_rfl) (fun _ _ _ h => h) (by rfl) ?hy50 hS ?rest50
            case hy50 => (intro wy hSy; (try dsimp only at hSy); go_simp; try (with_reducible rfl))
            simp only [Act.put, List.getElem_toArray, List.getElem_cons_zero, List.getElem_cons_succ, List.setIfInBounds_toArray, List.set_cons_zero, List.set_cons_succ]
            refine wpAnyN_take (i := 38) (v := ?v51) rfl (by kernel_rfl) (by kernel_rfl) (by kernel_rfl) (by kernel_rfl) (fun _ _ _ h => h) (by rfl) ?hy51 hS ?rest51
            case hy51 => (intro wy hSy; (try dsimp only at hSy); go_simp; try (with_reducible rfl))
            simp only [Act.put, List.getElem_toArray, List.getElem_cons_zero, List.getElem_cons_succ, List.setIfInBounds_toArray, List.set_cons_zero, List.set_cons_succ]
            refine wpAnyN_done (by kernel_rfl) ?_ _
            refine NoPanic.normal ?_
            go_wp2_with fail
            go_meet
            case rel => exact ⟨rfl, hB⟩
        · simp only [List.getElem_toArray, List.getElem_cons_zero, List.getElem_cons_succ]
          go_simp
          have hbn := below_box wc0 (Obj.cells #[.int .i64 uk, .int .i64 un] 30)
          have v13 := vals_one wc0 uk un 30
          generalize wc0.alloc (Obj.cells #[.int .i64 uk, .int .i64 un] 30) = wc1 at hbn v13 ⊢
          have hBn : Below W.heap.size W wc1 := hB.trans (hbn.mono hB.size)
          refine hK.out _ _ (fun _ => hSof _ hBn) ?_
          replace hS := hSof _ hBn
          clear hK
          replace hB := hBn
          clear hBn hbn
          try simp only [Act.put, List.getElem_toArray, List.getElem_cons_zero, List.getElem_cons_succ, List.setIfInBounds_toArray, List.set_cons_zero, List.set_cons_succ]
          refine wpAnyN_one (i := 9) (by kernel_rfl) rfl (fun K hK => ?_)
          simp only [List.getElem_toArray, List.getElem_cons_zero, List.getElem_cons_succ]
          go_simp
          have hbn := below_box wc1 (Obj.cells #[.int .i64 2, .int .i64 (j : Int)] 30)
          have v9 := vals_one wc1 2 j 30
          generalize wc1.alloc (Obj.cells #[.int .i64 2, .int .i64 (j : Int)] 30) = wc2 at hbn v9 ⊢
          have hBn : Below W.heap.size W wc2 := hB.trans (hbn.mono hB.size)
          refine hK.out _ _ (fun _ => hSof _ hBn) ?_
          replace hS := hSof _ hBn
          clear hK
          replace v13 := v13.keeps (Keeps.below hbn)
          replace hB := hBn
          clear hBn hbn
          try simp only [Act.put, List.getElem_toArray, List.getElem_cons_zero, List.getElem_cons_succ, List.setIfInBounds_toArray, List.set_cons_zero, List.set_cons_succ]
          refine wpAnyN_one (i := 10) (by kernel_rfl) rfl (fun K hK => ?_)
          simp only [List.getElem_toArray, List.getElem_cons_zero, List.getElem_cons_succ]
          go_simp
          refine (hF1 _ _ _ (k6W.trans (Keeps.below hB)) v9).mono ?_
          rintro e wc3 ⟨qa, qc, rfl, hbn, hqi⟩
          have q10 := IntsOwn.at hqi
          clear hqi
          have hBn : Below W.heap.size W wc3 := hB.trans (hbn.mono hB.size)
          refine hK.out _ _ (fun _ => hSof _ hBn) ?_
          replace hS := hSof _ hBn
          clear hK
          replace v13 := v13.keeps (Keeps.below hbn)
          replace v9 := v9.keeps (Keeps.below hbn)
          replace hB := hBn
          clear hBn hbn
          try simp only [Act.put, List.getElem_toArray, List.getElem_cons_zero, List.getElem_cons_succ, List.setIfInBounds_toArray, List.set_cons_zero, List.set_cons_succ]
          refine wpAnyN_one (i := 14) (by kernel_rfl) rfl (fun K hK => ?_)
          simp only [List.getElem_toArray, List.getElem_cons_zero, List.getElem_cons_succ]
          go_simp
          refine (hF2 _ _ _ _ _ (hY.keeps (Keeps.below hB)) v13).mono ?_
          rintro e wc4 ⟨ta', tc', rfl, hbn, hti⟩
          have q14 := IntsOwn.at hti
          clear hti
          have hBn : Below W.heap.size W wc4 := hB.trans (hbn.mono hB.size)
          refine hK.out _ _ (fun _ => hSof _ hBn) ?_
          replace hS := hSof _ hBn
          clear hK
          replace v13 := v13.keeps (Keeps.below hbn)
          replace v9 := v9.keeps (Keeps.below hbn)
          replace q10 := q10.keeps (Keeps.below hbn)
          replace hB := hBn
          clear hBn hbn
          try simp only [Act.put, List.getElem_toArray, List.getElem_cons_zero, List.getElem_cons_succ, List.setIfInBounds_toArray, List.set_cons_zero, List.set_cons_succ]
          refine wpAnyN_one (i := 15) (by kernel_rfl) rfl (fun K hK => ?_)
          simp only [List.getElem_toArray, List.getElem_cons_zero, List.getElem_cons_succ]
          go_simp
          refine (equalInts_any qa ta' qc tc' f1 wc4 q10 q14 hf1l).mono ?_
          rintro e we ⟨rfl, ne, rfl⟩
          replace hB := below_drewN hB ne
          refine hK.out _ _ (fun _ => hSof _ hB) ?_
          replace hS := hSof _ hB
          clear hK q10 q14 v9 v13
          generalize wc4.drewN ne = wd at *
          refine wpAnyN_take (i := 16) (v := ?v52) rfl (by kernel_rfl) (by kernel_rfl) (by kernel_rfl) (by kernel_rfl) (fun _ _ _ h => h) (by rfl) ?hy52 hS ?rest52
          case hy52 => (intro wy hSy; (try dsimp only at hSy); go_simp; try (with_reducible rfl))
          simp only [Act.put, List.getElem_toArray, List.getElem_cons_zero, List.getElem_cons_succ, List.setIfInBounds_toArray, List.set_cons_zero, List.set_cons_succ]
          refine wpAnyN_take (i := 17) (v := ?v53) rfl (by kernel_rfl) (by kernel_rfl) (by kernel_rfl) (by kernel_rfl) (fun _ _ _ h => h) (by rfl) ?hy53 hS ?rest53
          case hy53 => (intro wy hSy; (try dsimp only at hSy); go_simp; try (with_reducible rfl))
          simp only [Act.put, List.getElem_toArray, List.getElem_cons_zero, List.getElem_cons_succ, List.setIfInBounds_toArray, List.set_cons_zero, List.set_cons_succ]
          refine wpAnyN_take (i := 18) (v := ?v54) rfl (by kernel_rfl) (by kernel_rfl) (by kernel_rfl) (by kernel_rfl) (fun _ _ _ h => h) (by rfl) ?hy54 hS ?rest54
          case hy54 => (intro wy hSy; (try dsimp only at hSy); go_simp; try (with_reducible rfl))
          simp only [Act.put, List.getElem_toArray, List.getElem_cons_zero, List.getElem_cons_succ, List.setIfInBounds_toArray, List.set_cons_zero, List.set_cons_succ]
          refine wpAnyN_take (i := 19) (v := ?v55) rfl (by kernel_rfl) (by kernel_rfl) (by kernel_rfl) (by kernel_rfl) (fun _ _ _ h => h) (by rfl) ?hy55 hS ?rest55
          case hy55 => (intro wy hSy; (try dsimp only at hSy); go_simp; try (with_reducible rfl))
          simp only [Act.put, List.getElem_toArray, List.getElem_cons_zero, List.getElem_cons_succ, List.setIfInBounds_toArray, List.set_cons_zero, List.set_cons_succ]
          refine wpAnyN_take (i := 20) (v := ?v56) rfl (by kernel_rfl) (by kernel_rfl) (by kernel_rfl) (by kernel_rfl) (fun _ _ _ h => h) (by rfl) ?hy56 hS ?rest56
          case hy56 => (intro wy hSy; (try dsimp only at hSy); go_simp; try (with_reducible rfl))
          simp only [Act.put, List.getElem_toArray, List.getElem_cons_zero, List.getElem_cons_succ, List.setIfInBounds_toArray, List.set_cons_zero, List.set_cons_succ]
          refine wpAnyN_take (i := 21) (v := ?v57) rfl (by kernel_rfl) (by kernel_rfl) (by kernel_rfl) (by kernel_rfl) (fun _ _ _ h => h) (by rfl) ?hy57 hS ?rest57
          case hy57 => (intro wy hSy; (try dsimp only at hSy); go_simp; try (with_reducible rfl))
          simp only [Act.put, List.getElem_toArray, List.getElem_cons_zero, List.getElem_cons_succ, List.setIfInBounds_toArray, List.set_cons_zero, List.set_cons_succ]
          refine wpAnyN_take (i := 22) (v := ?v58) rfl (by kernel_rfl) (by kernel_rfl) (by kernel_rfl) (by kernel_rfl) (fun _ _ _ h => h) (by rfl) ?hy58 hS ?rest58
          case hy58 => (intro wy hSy; (try dsimp only at hSy); go_simp; try (with_reducible rfl))
          simp only [Act.put, List.getElem_toArray, List.getElem_cons_zero, List.getElem_cons_succ, List.setIfInBounds_toArray, List.set_cons_zero, List.set_cons_succ]
          refine wpAnyN_take (i := 23) (v := ?v59) rfl (by kernel_rfl) (by kernel_rfl) (by kernel_rfl) (by kernel_rfl) (fun _ _ _ h => h) (by rfl) ?hy59 hS ?rest59
          case hy59 => (intro wy hSy; (try dsimp only at hSy); go_simp; try (with_reducible rfl))
          simp only [Act.put, List.getElem_toArray, List.getElem_cons_zero, List.getElem_cons_succ, List.setIfInBounds_toArray, List.set_cons_zero, List.set_cons_succ]
          refine wpAnyN_take (i := 24) (v := ?v60) rfl (by kernel_rfl) (by kernel_rfl) (by kernel_rfl) (by kernel_rfl) (fun _ _ _ h => h) (by rfl) ?hy60 hS ?rest60
          case hy60 => (intro wy hSy; (try dsimp only at hSy); go_simp; try (with_reducible rfl))
          simp only [Act.put, List.getElem_toArray, List.getElem_cons_zero, List.getElem_cons_succ, List.setIfInBounds_toArray, List.set_cons_zero, List.set_cons_succ]
          refine wpAnyN_take (i := 25) (v := ?v61) rfl (by kernel_rfl) (by kernel_rfl) (by kernel_rfl) (by kernel_rfl) (fun _ _ _ h => h) (by rfl) ?hy61 hS ?rest61
          case hy61 => (intro wy hSy; (try dsimp only at hSy); go_simp; try (with_reducible rfl))
          simp only [Act.put, List.getElem_toArray, List.getElem_cons_zero, List.getElem_cons_succ, List.setIfInBounds_toArray, List.set_cons_zero, List.set_cons_succ]
          refine wpAnyN_take (i := 26) (v := ?v62) rfl (by kernel_rfl) (by kernel_rfl) (by kernel_rfl) (by kernel_rfl) (fun _ _ _ h => h) (by rfl) ?hy62 hS ?rest62
          case hy62 => (intro wy hSy; (try dsimp only at hSy); go_simp; try (with_reducible rfl))
          simp only [Act.put, List.getElem_toArray, List.getElem_cons_zero, List.getElem_cons_succ, List.setIfInBounds_toArray, List.set_cons_zero, List.set_cons_succ]
          refine wpAnyN_take (i := 27) (v := ?v63) rfl (by kernel_rfl) (by kernel_rfl) (by kernel_rfl) (by kernel_rfl) (fun _ _ _ h => h) (by rfl) ?hy63 hS ?rest63
          case hy63 => (intro wy hSy; (try dsimp only at hSy); go_simp; try (with_reducible rfl))
          simp only [Act.put, List.getElem_toArray, List.getElem_cons_zero, List.getElem_cons_succ, List.setIfInBounds_toArray, List.set_cons_zero, List.set_cons_succ]
          refine wpAnyN_take (i := 28) (v := ?v64) rfl (by kernel_rfl) (by kernel_rfl) (by kernel_rfl) (by kernel_rfl) (fun _ _ _ h => h) (by rfl) ?hy64 hS ?rest64
          case hy64 => (intro wy hSy; (try dsimp only at hSy); go_simp; try (with_reducible rfl))
          simp only [Act.put, List.getElem_toArray, List.getElem_cons_zero, List.getElem_cons_succ, List.setIfInBounds_toArray, List.set_cons_zero, List.set_cons_succ]
          refine wpAnyN_take (i := 29) (v := ?v65) rfl (by kernel_rfl) (by kernel_rfl) (by kernel_rfl) (by kernel_rfl) (fun _ _ _ h => h) (by rfl) ?hy65 hS ?rest65
          case hy65 => (intro wy hSy; (try dsimp only at hSy); go_simp; try (with_reducible rfl))
          simp only [Act.put, List.getElem_toArray, List.getElem_cons_zero, List.getElem_cons_succ, List.setIfInBounds_toArray, List.set_cons_zero, List.set_cons_succ]
          refine wpAnyN_take (i := 30) (v := ?v66) rfl (by kernel_rfl) (by kernel_rfl) (by kernel_rfl) (by kernel_rfl) (fun _ _ _ h => h) (by rfl) ?hy66 hS ?rest66
          case hy66 => (intro wy hSy; (try dsimp only at hSy); go_simp; try (with_reducible rfl))
          simp only [Act.put, List.getElem_toArray, List.getElem_cons_zero, List.getElem_cons_succ, List.setIfInBounds_toArray, List.set_cons_zero, List.set_cons_succ]
          refine wpAnyN_take (i := 31) (v := ?v67) rfl (by kernel_rfl) (by kernel_rfl) (by kernel_rfl) (by kernel_rfl) (fun _ _ _ h => h) (by rfl) ?hy67 hS ?rest67
          case hy67 => (intro wy hSy; (try dsimp only at hSy); go_simp; try (with_reducible rfl))
          simp only [Act.put, List.getElem_toArray, List.getElem_cons_zero, List.getElem_cons_succ, List.setIfInBounds_toArray, List.set_cons_zero, List.set_cons_succ]
          refine wpAnyN_take (i := 33) (v := ?v68) rfl (by kernel_rfl) (by kernel_rfl) (by kernel_rfl) (by kernel_rfl) (fun _ _ _ h => h) (by rfl) ?hy68 hS ?rest68
          case hy68 => (intro wy hSy; (try dsimp only at hSy); go_simp; try (with_reducible rfl))
          simp only [Act.put, List.getElem_toArray, List.getElem_cons_zero, List.getElem_cons_succ, List.setIfInBounds_toArray, List.set_cons_zero, List.set_cons_succ]
          refine wpAnyN_take (i := 34) (v := ?v69) rfl (by kernel_rfl) (by kernel_rfl) (by kernel_rfl) (by kernel_rfl) (fun _ _ _ h => h) (by rfl) ?hy69 hS ?rest69
          case hy69 => (intro wy hSy; (try dsimp only at hSy); go_simp; try (with_reducible rfl))
          simp only [Act.put, List.getElem_toArray, List.getElem_cons_zero, List.getElem_cons_succ, List.setIfInBounds_toArray, List.set_cons_zero, List.set_cons_succ]
          refine wpAnyN_one (i := 32) (by kernel_rfl) rfl (fun K hK => ?_)
          simp only [List.getElem_toArray, List.getElem_cons_zero, List.getElem_cons_succ]
          go_simp
          refine (hF3 _ (k6W.trans (Keeps.below hB))).mono ?_
          rintro e wf ⟨za, zc, rfl, hbn, hzi⟩
          have q32 := IntsOwn.at hzi
          replace hB := hB.trans (hbn.mono hB.size)
          refine hK.out _ _ (fun _ => hSof _ hB) ?_
          replace hS := hSof _ hB
          clear hK hbn hzi
          refine wpAnyN_one (i := 35) (by kernel_rfl) rfl (fun K hK => ?_)
          simp only [List.getElem_toArray, List.getElem_cons_zero, List.getElem_cons_succ]
          go_simp
          refine (hF4 _ _ _ (hY.keeps (Keeps.below hB)) (k6W.trans (Keeps.below hB))).mono ?_
          rintro e wg ⟨zb, zd, rfl, hbn, hzi⟩
          have q35 := IntsOwn.at hzi
          replace q32 := q32.keeps (Keeps.below hbn)
          replace hB := hB.trans (hbn.mono hB.size)
          refine hK.out _ _ (fun _ => hSof _ hB) ?_
          replace hS := hSof _ hB
          clear hK hbn hzi
          refine wpAnyN_one (i := 36) (by kernel_rfl) rfl (fun K hK => ?_)
          simp only [List.getElem_toArray, List.getElem_cons_zero, List.getElem_cons_succ]
          go_simp
          refine (equalInts_any za zb zc zd f2 wg q32 q35 hf2l).mono ?_
          rintro e we ⟨rfl, ne2, rfl⟩
          replace hB := below_drewN hB ne2
          refine hK.out _ _ (fun _ => hSof _ hB) ?_
          replace hS := hSof _ hB
          clear hK q32 q35
          generalize wg.drewN ne2 = wh at *
          refine wpAnyN_take (i := 37) (v := ?v70) rfl (by kernel_rfl) (by kernel_rfl) (by kernel_rfl) (by kernel_rfl) (fun _ _ _ h => h) (by rfl) ?hy70 hS ?rest70
          case hy70 => (intro wy hSy; (try dsimp only at hSy); go_simp; try (with_reducible rfl))
          simp only [Act.put, List.getElem_toArray, List.getElem_cons_zero, List.getElem_cons_succ, List.setIfInBounds_toArray, List.set_cons_zero, List.set_cons_succ]
          refine wpAnyN_take (i := 38) (v := ?v71) rfl (by kernel_rfl) (by kernel_rfl) (by kernel_rfl) (by kernel_rfl) (fun _ _ _ h => h) (by rfl) ?hy71 hS ?rest71
          case hy71 => (intro wy hSy; (try dsimp only at hSy); go_simp; try (with_reducible rfl))
          simp only [Act.put, List.getElem_toArray, List.getElem_cons_zero, List.getElem_cons_succ, List.setIfInBounds_toArray, List.set_cons_zero, List.set_cons_succ]
          refine wpAnyN_done (by kernel_rfl) ?_ _
          refine NoPanic.normal ?_
          go_wp2_with fail
          go_meet
          case rel => exact ⟨rfl, hB⟩
      case rest =>
        obtain ⟨rfl, hbW⟩ := hcut
        have kc := Keeps.below hbW
        have d4 := kc _ _ c4
        have d5 := kc _ _ c5
        have d2 := kc _ _ c2
        have d3 := kc _ _ c3
        have x0' := kc _ _ x0
        have x1' := kc _ _ x1
        have hXc := hX.keeps kc
        have hIc := hIW.keeps kc
        have k6c := k6W.trans kc
        replace b1 := b1.trans (hbW.mono b1.size)
        clear hSof hF1 hF2 hF3 hF4 hY hX hIW k6W hbW kc c0 c1 c2 c3 c4 c5 x0 x1 y0 y1 u0 u1 hz hIA hob hob' hv' hone hf1l hf2l
        cases move with
        | false =>
          obtain ⟨⟨gk, gn⟩, ge⟩ := gS
          obtain ⟨t1, to1, t2, to2, ⟨tk, tn⟩, te⟩ := tS
          simp only [Bool.false_eq_true, if_false] at hg1 ht1
          subst hg1 ht1
          simp only at hGe hT2
          go_wp2
          go_loopg [119, 20, 21] n (fun g s119 s20 s21 wr => ∃ i : Nat, i ≤ n ∧ g = n - i ∧ s119 = .int .i64 i ∧ Below wc.heap.size wc wr)
          case atStart => exact ⟨0, Nat.zero_le _, rfl, rfl, Below.refl _ _⟩
          case round =>
            obtain ⟨i, hi, rfl, rfl, hbr⟩ := hrel
            have kr := Keeps.below hbr
            by_cases hin : i < n
            · have hiz : (i : Int) < (n : Int) := by omega
              obtain ⟨⟨fs, dead⟩, hx⟩ := at_some (l := x) (i := i) (by rw [HXL.out]; exact hin)
              have hdd := HDEAD.out i _ hx
              simp only [Bool.false_and] at hdd
              subst hdd
              obtain ⟨b, o, fa, fc, rfl, e1, e2, _, _⟩ := hXc.cell i _ hx
              simp only at e1 e2
              replace e1 := kr _ _ e1
              replace e2 := kr _ _ e2
              clear hx
              go_upto_region 15 with fail
              have NO := Deep.blk_alloc_new wr (Obj.cells #[.slice fa fs.length fc, .bool false] 41)
              have hbq := hbr.alloc hbr.size (Obj.cells #[.slice fa fs.length fc, .bool false] 41)
              obtain ⟨OB, hOB⟩ : ∃ OB, OB = wr.heap.size := ⟨_, rfl⟩
              rw [← hOB] at NO ⊢
              clear hOB kr e1 e2
              generalize wr.alloc (Obj.cells #[.slice fa fs.length fc, .bool false] 41) = wq at *
              have z0 := cell_blk NO 0
              have z1 := cell_blk NO 1
              simp only [List.getElem?_toArray, List.getElem?_cons_zero, List.getElem?_cons_succ] at z0 z1
              clear NO
              go_wp2
              go_quiet (fail)
              have bq : Below wc.heap.size wc (wq.drewN nq) := below_drewN hbq nq
              clear z0 z1 hbq
              generalize wq.drewN nq = wv at *
              go_wp2
              go_roundg (n - (i + 1))
              case measure => go_light; omega
              case rel => go_light; exact ⟨i + 1, by omega, rfl, by go_num, bq⟩
            · replace d4 := kr _ _ d4
              replace d5 := kr _ _ d5
              replace d2 := kr _ _ d2
              replace d3 := kr _ _ d3
              replace x0' := kr _ _ x0'
              replace x1' := kr _ _ x1'
              have hXr := hXc.keeps kr
              have k6r := k6c.trans kr
              replace b1 := b1.trans (hbr.mono b1.size)
              clear hbr kr
              go_wp2_with fail
              refine (hGe wr xa xc hXr).mono ?_
              rintro e w9 ⟨rfl, hb9⟩
              have k9 := Keeps.below hb9
              replace d4 := k9 _ _ d4
              replace d5 := k9 _ _ d5
              replace d2 := k9 _ _ d2
              replace d3 := k9 _ _ d3
              replace x0' := k9 _ _ x0'
              replace x1' := k9 _ _ x1'
              replace hXr := hXr.keeps k9
              replace k6r := k6r.trans k9
              replace b1 := b1.trans (hb9.mono b1.size)
              clear hb9 k9 hGe
              go_upto_region 19 with fail
              have kA := Keeps.alloc w9 (Obj.cells #[.int .i64 gk, .int .i64 gn] 30)
              replace d4 := kA _ _ d4
              replace d5 := kA _ _ d5
              replace d2 := kA _ _ d2
              replace d3 := kA _ _ d3
              replace x0' := kA _ _ x0'
              replace x1' := kA _ _ x1'
              replace hXr := hXr.keeps kA
              replace k6r := k6r.trans kA
              replace b1 := b1.alloc b1.size (Obj.cells #[.int .i64 gk, .int .i64 gn] 30)
              clear kA
              generalize w9.alloc (Obj.cells #[.int .i64 gk, .int .i64 gn] 30) = w10 at *
              go_wp2_with fail
              refine (hT2 w10 xa xc hXr k6r).mono ?_
              rintro e w11 ⟨fa, fc, ta3, tc3, rows3, rows4, rfl, hb11, hq3, hq4, hO3, hO4⟩
              replace b1 := b1.trans (hb11.mono b1.size)
              clear hb11 hq3 hq4 hO3 hO4 hT2 d2 d3 d4 d5 x0' x1'
              go_wp2
              go_ret
              exact ⟨rfl, ((b1.alloc b1.size _).alloc (by have := b1.size; simp; omega) _).alloc (by have := b1.size; simp; omega) _⟩
        | true =>
          obtain ⟨⟨gk, gn⟩, ge⟩ := gS
          obtain ⟨t1, to1, t2, to2, ⟨tk, tn⟩, te⟩ := tS
          simp only [if_true] at hg1 ht1
          subst hg1 ht1
          simp only at hGe hT2
          go_wp2
          go_loopg [119, 20, 21] n (fun g s119 s20 s21 wr => ∃ i : Nat, i ≤ n ∧ g = n - i ∧ s119 = .int .i64 i ∧ Below wc.heap.size wc wr)
          case atStart => exact ⟨0, Nat.zero_le _, rfl, rfl, Below.refl _ _⟩
          case round =>
            obtain ⟨i, hi, rfl, rfl, hbr⟩ := hrel
            have kr := Keeps.below hbr
            by_cases hin : i < n
            · have hiz : (i : Int) < (n : Int) := by omega
              obtain ⟨⟨fs, dead⟩, hx⟩ := at_some (l := x) (i := i) (by rw [HXL.out]; exact hin)
              have hdd := HDEAD.out i _ hx
              simp only [Bool.true_and] at hdd
              subst hdd
              obtain ⟨b, o, fa, fc, rfl, e1, e2, _, _⟩ := hXc.cell i _ hx
              simp only at e1 e2
              replace e1 := kr _ _ e1
              replace e2 := kr _ _ e2
              clear hx
              go_upto_region 15 with fail
              have NO := Deep.blk_alloc_new wr (Obj.cells #[.slice fa fs.length fc, .bool (decide ((i : Int) ∈ rr))] 41)
              have hbq := hbr.alloc hbr.size (Obj.cells #[.slice fa fs.length fc, .bool (decide ((i : Int) ∈ rr))] 41)
              obtain ⟨OB, hOB⟩ : ∃ OB, OB = wr.heap.size := ⟨_, rfl⟩
              rw [← hOB] at NO ⊢
              clear hOB kr e1 e2
              generalize wr.alloc (Obj.cells #[.slice fa fs.length fc, .bool (decide ((i : Int) ∈ rr))] 41) = wq at *
              have z0 := cell_blk NO 0
              have z1 := cell_blk NO 1
              simp only [List.getElem?_toArray, List.getElem?_cons_zero, List.getElem?_cons_succ] at z0 z1
              clear NO
              have hIq := hIc.keeps (Keeps.below hbq)
              go_upto_region 15 with fail
              refine wp_region_need (fun j => true) (fun w' => w'.cell? ⟨OB, 1, none⟩ = some (.bool (decide ((i : Int) ∈ rr)))) (by kernel_rfl) z1 (fun hS => ?_)
              refine wpAnyN_take (i := 0) (v := ?v72) rfl (by kernel_rfl) (by kernel_rfl) (by kernel_rfl) (by kernel_rfl) (fun _ _ _ h => h) (by rfl) ?hy72 hS ?rest72
              case hy72 => (intro wy hSy; (try dsimp only at hSy); go_simp; try (with_reducible rfl))
              simp only [Act.put, List.getElem_toArray, List.getElem_cons_zero, List.setIfInBounds_toArray, List.set_cons_zero, List.set_cons_succ]
              refine wpAnyN_take (i := 1) (v := ?v73) rfl (by kernel_rfl) (by kernel_rfl) (by kernel_rfl) (by kernel_rfl) (fun _ _ _ h => h) (by rfl) ?hy73 hS ?rest73
              case hy73 => (intro wy hSy; (try dsimp only at hSy); go_simp; try (with_reducible rfl))
              simp only [Act.put, List.getElem_toArray, List.getElem_cons_zero, List.getElem_cons_succ, List.setIfInBounds_toArray, List.set_cons_zero, List.set_cons_succ]
              refine wpAnyN_take (i := 2) (v := ?v74) rfl (by kernel_rfl) (by kernel_rfl) (by kernel_rfl) (by kernel_rfl) (fun _ _ _ h => h) (by rfl) ?hy74 hS ?rest74
              case hy74 => (intro wy hSy; (try dsimp only at hSy); go_simp; try (with_reducible rfl))
              simp only [Act.put, List.getElem_toArray, List.getElem_cons_zero, List.getElem_cons_succ, List.setIfInBounds_toArray, List.set_cons_zero, List.set_cons_succ]
              refine wpAnyN_take (i := 3) (v := ?v75) rfl (by kernel_rfl) (by kernel_rfl) (by kernel_rfl) (by kernel_rfl) (fun _ _ _ h => h) (by rfl) ?hy75 hS ?rest75
              case hy75 => (intro wy hSy; (try dsimp only at hSy); go_simp; try (with_reducible rfl))
              simp only [Act.put, List.getElem_toArray, List.getElem_cons_zero, List.getElem_cons_succ, List.setIfInBounds_toArray, List.set_cons_zero, List.set_cons_succ]
              refine wpAnyN_take (i := 4) (v := ?v76) rfl (by kernel_rfl) (by kernel_rfl) (by kernel_rfl) (by kernel_rfl) (fun _ _ _ h => h) (by rfl) ?hy76 hS ?rest76
              case hy76 => (intro wy hSy; (try dsimp only at hSy); go_simp; try (with_reducible rfl))
              simp only [Act.put, List.getElem_toArray, List.getElem_cons_zero, List.getElem_cons_succ, List.setIfInBounds_toArray, List.set_cons_zero, List.set_cons_succ]
              refine wpAnyN_take (i := 5) (v := ?v77) rfl (by kernel_rfl) (by kernel_rfl) (by kernel_rfl) (by kernel_rfl) (fun _ _ _ h => h) (by rfl) ?hy77 hS ?rest77
              case hy77 => (intro wy hSy; (try dsimp only at hSy); go_simp; try (with_reducible rfl))
              simp only [Act.put, List.getElem_toArray, List.getElem_cons_zero, List.getElem_cons_succ, List.setIfInBounds_toArray, List.set_cons_zero, List.set_cons_succ]
              have hco := contains_any ov oc' rr i wq.drew (hIq.keeps (fun _ _ h => h)) (by rw [← HR.out]; omega)
              rw [← HR.out] at hco
              refine wpAnyN_one (i := 6) (by kernel_rfl) rfl (fun K hK => ?_)
              simp only [List.getElem_toArray, List.getElem_cons_zero, List.getElem_cons_succ]
              go_simp
              refine hco.mono ?_
              rintro e wv ⟨rfl, rfl⟩
              refine hK.out _ _ (fun _ => hS) ?_
              clear hK hco
              try simp only [Act.put, List.getElem_toArray, List.getElem_cons_zero, List.getElem_cons_succ, List.setIfInBounds_toArray, List.set_cons_zero, List.set_cons_succ]
              refine wpAnyN_take (i := 7) (v := ?v78) rfl (by kernel_rfl) (by kernel_rfl) (by kernel_rfl) (by kernel_rfl) (fun _ _ _ h => h) (by rfl) ?hy78 hS ?rest78
              case hy78 => (intro wy hSy; (try dsimp only at hSy); go_simp; try (with_reducible rfl))
              simp only [Act.put, List.getElem_toArray, List.getElem_cons_zero, List.getElem_cons_succ, List.setIfInBounds_toArray, List.set_cons_zero, List.set_cons_succ]
              refine wpAnyN_take (i := 8) (v := ?v79) rfl (by kernel_rfl) (by kernel_rfl) (by kernel_rfl) (by kernel_rfl) (fun _ _ _ h => h) (by rfl) ?hy79 hS ?rest79
              case hy79 => (intro wy hSy; (try dsimp only at hSy); go_simp; try (with_reducible rfl))
              simp only [Act.put, List.getElem_toArray, List.getElem_cons_zero, List.getElem_cons_succ, List.setIfInBounds_toArray, List.set_cons_zero, List.set_cons_succ]
              refine wpAnyN_done (by kernel_rfl) ?_ _
              refine NoPanic.normal ?_
              have bq : Below wc.heap.size wc wq.drew := hbq.drew
              clear hS z0 z1 hbq hIq
              generalize wq.drew = wv at *
              go_wp2
              go_roundg (n - (i + 1))
              case measure => go_light; omega
              case rel => go_light; exact ⟨i + 1, by omega, rfl, by go_num, bq⟩
            · replace d4 := kr _ _ d4
              replace d5 := kr _ _ d5
              replace d2 := kr _ _ d2
              replace d3 := kr _ _ d3
              replace x0' := kr _ _ x0'
              replace x1' := kr _ _ x1'
              have hXr := hXc.keeps kr
              have k6r := k6c.trans kr
              replace b1 := b1.trans (hbr.mono b1.size)
              clear hbr kr
              go_wp2_with fail
              refine (hGe wr xa xc hXr).mono ?_
              rintro e w9 ⟨rfl, hb9⟩
              have k9 := Keeps.below hb9
              replace d4 := k9 _ _ d4
              replace d5 := k9 _ _ d5
              replace d2 := k9 _ _ d2
              replace d3 := k9 _ _ d3
              replace x0' := k9 _ _ x0'
              replace x1' := k9 _ _ x1'
              replace hXr := hXr.keeps k9
              replace k6r := k6r.trans k9
              replace b1 := b1.trans (hb9.mono b1.size)
              clear hb9 k9 hGe
              go_upto_region 19 with fail
              have kA := Keeps.alloc w9 (Obj.cells #[.int .i64 gk, .int .i64 gn] 30)
              replace d4 := kA _ _ d4
              replace d5 := kA _ _ d5
              replace d2 := kA _ _ d2
              replace d3 := kA _ _ d3
              replace x0' := kA _ _ x0'
              replace x1' := kA _ _ x1'
              replace hXr := hXr.keeps kA
              replace k6r := k6r.trans kA
              replace b1 := b1.alloc b1.size (Obj.cells #[.int .i64 gk, .int .i64 gn] 30)
              clear kA
              generalize w9.alloc (Obj.cells #[.int .i64 gk, .int .i64 gn] 30) = w10 at *
              go_wp2_with fail
              refine (hT2 w10 xa xc hXr k6r).mono ?_
              rintro e w11 ⟨fa, fc, ta3, tc3, rows3, rows4, rfl, hb11, hq3, hq4, hO3, hO4⟩
              replace b1 := b1.trans (hb11.mono b1.size)
              clear hb11 hq3 hq4 hO3 hO4 hT2 d2 d3 d4 d5 x0' x1'
              go_wp2
              go_ret
              exact ⟨rfl, ((b1.alloc b1.size _).alloc (by have := b1.size; simp; omega) _).alloc (by have := b1.size; simp; omega) _⟩
    · have hE7 := tr_room hgood hgood' hjn move (by rw [← HRR.out, hlen', ← HR.out]; omega)
      obtain ⟨r, hr⟩ : ∃ r, transferS 25 obs ⟨2, (j : Int)⟩ 30 obs' move = r := ⟨_, rfl⟩
      rw [hr] at hE7
      simp only [hr] at hT
      clear hr
      obtain ⟨r1, o1, r2, o2, ⟨xk, xn⟩, re⟩ := r
      simp only at hT hE7
      subst hE7
      have hz : (30 : Int) < (R : Int) + (n' : Int) := by omega
      go_wp2_with fail
      refine hT.mono ?_
      clear hT
      rintro e w7 ⟨fa, fc, ta2, tc2, rows1, rows2, rfl, hb7, hq1, hq2, hO1, hO2⟩
      replace b1 := b1.trans (hb7.mono b1.size)
      clear hq1 hq2 hO1 hO2 hb7 c0 c1 c2 c3 c4 c5
      go_wp2
      go_ret
      exact ⟨rfl, ((b1.alloc b1.size _).alloc (by have := b1.size; simp; omega) _).alloc (by have := b1.size; simp; omega) _⟩

end Go.Proofs.Ytbifdcchdoflpad
