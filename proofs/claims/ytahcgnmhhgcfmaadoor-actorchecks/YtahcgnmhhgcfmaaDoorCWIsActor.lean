/- The walks of roots, isEmptied and isActor. -/
import Derived.Test.YtahcgnmhhgcfmaaDoorCWRoots
import Derived.Test.YtahcgnmhhgcfmaaDoorCHCheck
import Derived.Test.YtahcgnmhhgcfmaaDoorCPlain
import Derived.Deep.QuietTactic
import Derived.BigQuiet
namespace Go.Proofs.YtahcgnmhhgcfmaaDoor
open Go.RowKit

set_option maxRecDepth 100000 in
set_option maxHeartbeats 800000 in
theorem roots_any (kind par M pc fin : Int) (oa ra ba : Option Addr) (O oc rc bc : Nat) (regs box : List Vl) (w : World) (hr : ValsAt w ra regs) (hb : ValsAt w ba box) (hrl : 16 * regs.length ≤ 140737488351232) (hbl : box.length ≤ 6) :
    Calls Tryd.prog 77 #[.agg #[.int .i64 kind, .int .i64 par, .int .i64 M, .slice oa O oc, .slice ra regs.length rc, .int .i64 pc, .slice ba box.length bc, .int .i64 fin]] w fun e w' => ∃ va vc, e = .returned (.slice va (regs.length + box.length) vc) ∧ ValsAt w' va (regs ++ box) ∧ Below w.heap.size w w' := by
  obtain ⟨N0, N1, k1, b1, s1⟩ := boxes2 w (.cells #[.int .i64 kind, .int .i64 par, .int .i64 M, .slice oa O oc, .slice ra regs.length rc, .int .i64 pc, .slice ba box.length bc, .int .i64 fin] 87) (.cells #[.slice ra regs.length rc, .slice ba box.length bc] 80)
  have c0 := cell_blk N1 0
  have c1 := cell_blk N1 1
  have hC := concat_any (w.heap.size + 1) ra ba rc bc regs box _ c0 c1 (hr.keeps k1) (hb.keeps k1) hrl hbl
  have HC : Aside (Calls Tryd.prog 90 #[.slice (some ⟨w.heap.size + 1, 0, none⟩) 2 2] _ _) := hC
  clear hC c0 c1 N0 N1 k1 hr hb
  generalize regs.length = R at *
  generalize box.length = X at *
  go_enter Tryd.func77, Tryd.ntmps77
  go_wp2_with fail
  refine Calls.mono HC.out ?_
  rintro e w' ⟨va, vc, rfl, hv, hb'⟩
  go_wp2
  go_ret
  exact ⟨va, vc, rfl, hv, b1.trans (hb'.mono b1.size)⟩

set_option maxHeartbeats 400000 in
theorem isEmptied_any (kind par M pc fin : Int) (oa ra ba : Option Addr) (O R X oc rc bc : Nat) (w : World) :
    Calls Tryd.prog 78 #[.agg #[.int .i64 kind, .int .i64 par, .int .i64 M, .slice oa O oc, .slice ra R rc, .int .i64 pc, .slice ba X bc, .int .i64 fin]] w fun e w' => e = .returned (.bool (decide (X = 0) && (decide (O = 0) && decide (pc = -1)))) ∧ Below w.heap.size w w' := by
  by_cases hX : X = 0
  · by_cases hO : O = 0
    · by_cases hp : pc = -1
      · subst hX hO hp
        go_enter Tryd.func78, Tryd.ntmps78
        go_wp2
        go_ret
        exact ⟨ret_bool (by simp), below_box _ _⟩
      · subst hX hO
        have hpb : (pc == -1) = false := by simp [hp]
        go_enter Tryd.func78, Tryd.ntmps78
        go_wp2
        go_ret
        exact ⟨ret_bool (by simp [hp]), below_box _ _⟩
    · subst hX
      have hob : ((O : Int) == 0) = false := by simp [hO]
      go_enter Tryd.func78, Tryd.ntmps78
      go_wp2
      go_ret
      exact ⟨ret_bool (by simp [hO]), below_box _ _⟩
  · have hxb : ((X : Int) == 0) = false := by simp [hX]
    go_enter Tryd.func78, Tryd.ntmps78
    go_wp2
    go_ret
    exact ⟨ret_bool (by simp [hX]), below_box _ _⟩

theorem noObj_false {l : List Vl} : noObj l = false ↔ l.all (fun v => decide (v.k = 2)) = true := by
  induction l with
  | nil => simp [noObj]
  | cons a l ih =>
    have e1 : noObj (a :: l) = ((a.k != 2) || noObj l) := rfl
    rw [e1, List.all_cons, Bool.or_eq_false_iff, ih, Bool.and_eq_true]
    simp

theorem acMay_true {G : Nat} {L : Nat → Nat} {a : Ac} {num : Nat} : acMay G L a num = true ↔ (0 ≤ a.kind ∧ a.kind < G) ∧ (-1 ≤ a.par ∧ a.par < num) ∧ (-1 ≤ a.pc ∧ a.pc < L a.kind.toNat) ∧ (0 ≤ a.fin ∧ a.fin ≤ 8) ∧ (a.regs.length = 8 ∧ a.box.length ≤ 6) ∧ noObj a.box = false ∧ hMay a.M a.obs a.roots = true ∧
    (a.fin = 0 ∨ (a.box.length = 0 ∧ a.obs.length = 0 ∧ a.pc = -1)) := by
  rw [noObj_false]
  unfold acMay
  simp only [Bool.and_eq_true, Bool.or_eq_true, decide_eq_true_eq]
  constructor
  · rintro ⟨⟨⟨⟨⟨⟨h1, h2⟩, h3⟩, h4⟩, h5⟩, h6⟩, h7, h8⟩
    exact ⟨h1, h2, h3, h4, h5, h6, h7, h8⟩
  · rintro ⟨h1, h2, h3, h4, h5, h6, h7, h8⟩
    exact ⟨⟨⟨⟨⟨⟨h1, h2⟩, h3⟩, h4⟩, h5⟩, h6⟩, h7, h8⟩

set_option maxRecDepth 100000 in
set_option maxHeartbeats 2000000 in
theorem isActor_any (ao : Option Addr) (G cap : Nat) (A : Nat → Option Addr) (L C : Nat → Nat) (X : Nat → Nat → Nat → Int) (kind par M pc fin : Int) (oa ra ba : Option Addr) (oc rc bc : Nat) (obs : List Ob) (regs box : List Vl) (num : Nat) (w : World)
    (hP : ProgAt w ao G A L C X) (ho : ObsAt w oa obs) (hr : ValsAt w ra regs) (hb : ValsAt w ba box) (hrl : 16 * regs.length ≤ 140737488351232) (hbl : 16 * box.length ≤ 140737488351232) :
    Calls Tryd.prog 55 #[.agg #[.slice ao G cap], .agg #[.int .i64 kind, .int .i64 par, .int .i64 M, .slice oa obs.length oc, .slice ra regs.length rc, .int .i64 pc, .slice ba box.length bc, .int .i64 fin], .int .i64 num] w fun e w' => e = .returned (.bool (acMay G L ⟨kind, par, M, obs, regs, pc, box, fin⟩ num)) ∧ Below w.heap.size w w' := by
  obtain ⟨N0, N1, k1, b1, s1⟩ := boxes2 w (.cells #[.slice ao G cap] 26) (.cells #[.int .i64 kind, .int .i64 par, .int .i64 M, .slice oa obs.length oc, .slice ra regs.length rc, .int .i64 pc, .slice ba box.length bc, .int .i64 fin] 87)
  replace hP := hP.keeps k1
  replace ho := ho.keeps k1
  replace hr := hr.keeps k1
  replace hb := hb.keeps k1
  have hG := hP.many
  have HV : Aside (∀ b, b = acMay G L ⟨kind, par, M, obs, regs, pc, box, fin⟩ num → b = acMay G L ⟨kind, par, M, obs, regs, pc, box, fin⟩ num) := fun b h => h
  obtain ⟨RES, hRES⟩ : ∃ RES, RES = acMay G L ⟨kind, par, M, obs, regs, pc, box, fin⟩ num := ⟨_, rfl⟩
  have HR : Aside (RES = acMay G L ⟨kind, par, M, obs, regs, pc, box, fin⟩ num) := hRES
  rw [← hRES]
  clear hRES HV
  obtain ⟨OL, hOL⟩ : ∃ n, n = obs.length := ⟨_, rfl⟩
  obtain ⟨RL, hRL⟩ : ∃ n, n = regs.length := ⟨_, rfl⟩
  obtain ⟨XL, hXL⟩ : ∃ n, n = box.length := ⟨_, rfl⟩
  have HL : Aside (OL = obs.length ∧ RL = regs.length ∧ XL = box.length) := ⟨hOL, hRL, hXL⟩
  rw [← hOL, ← hRL, ← hXL] at N0 N1 k1 b1 s1 hP ho hr hb
  rw [← hRL] at hrl
  rw [← hXL] at hbl
  rw [← hOL, ← hRL, ← hXL]
  clear hOL hRL hXL
  go_enter Tryd.func55, Tryd.ntmps55
  by_cases h1 : kind < 0
  · have HF : Aside (RES = false) := by
      show RES = false
      rw [HR.out]
      refine Bool.eq_false_iff.2 (fun h => ?_)
      obtain ⟨q1, q2, q3, q4, q5, q6, q7, q8⟩ := acMay_true.1 h
      simp only at q1 q2 q3 q4 q5 q6 q7 q8
      omega
    go_wp2
    go_ret
    exact ⟨ret_bool HF.out.symm, b1⟩
  by_cases h2 : (G : Int) ≤ kind
  · have HF : Aside (RES = false) := by
      show RES = false
      rw [HR.out]
      refine Bool.eq_false_iff.2 (fun h => ?_)
      obtain ⟨q1, q2, q3, q4, q5, q6, q7, q8⟩ := acMay_true.1 h
      simp only at q1 q2 q3 q4 q5 q6 q7 q8
      omega
    go_wp2
    go_ret
    exact ⟨ret_bool HF.out.symm, b1⟩
  by_cases h3 : par < -1
  · have HF : Aside (RES = false) := by
      show RES = false
      rw [HR.out]
      refine Bool.eq_false_iff.2 (fun h => ?_)
      obtain ⟨q1, q2, q3, q4, q5, q6, q7, q8⟩ := acMay_true.1 h
      simp only at q1 q2 q3 q4 q5 q6 q7 q8
      omega
    go_wp2
    go_ret
    exact ⟨ret_bool HF.out.symm, b1⟩
  by_cases h4 : (num : Int) ≤ par
  · have HF : Aside (RES = false) := by
      show RES = false
      rw [HR.out]
      refine Bool.eq_false_iff.2 (fun h => ?_)
      obtain ⟨q1, q2, q3, q4, q5, q6, q7, q8⟩ := acMay_true.1 h
      simp only at q1 q2 q3 q4 q5 q6 q7 q8
      omega
    go_wp2
    go_ret
    exact ⟨ret_bool HF.out.symm, b1⟩
  obtain ⟨kn, rfl⟩ := Int.eq_ofNat_of_zero_le (Int.not_lt.1 h1)
  have hkG : kn < G := by omega
  obtain ⟨bo, oo, hao, hca⟩ := hP.outer kn hkG
  subst hao
  have hkz : (kn : Int) < (G : Int) := by omega
  have hLk := hP.long kn hkG
  have HQ : Aside (par < (num : Int) ∧ -1 ≤ par) := by constructor <;> omega
  go_upto_region 3 with fail
  clear h1 h2 h3 h4
  generalize (w.alloc (.cells #[.slice (some ⟨bo, oo, none⟩) G cap] 26)).alloc (.cells #[.int .i64 kn, .int .i64 par, .int .i64 M, .slice oa OL oc, .slice ra RL rc, .int .i64 pc, .slice ba XL bc, .int .i64 fin] 87) = W at *
  have p0 : W.cell? ⟨w.heap.size, 0, none⟩ = some (.slice (some ⟨bo, oo, none⟩) G cap) := cell_blk N0 0
  have a0 : W.cell? ⟨w.heap.size + 1, 0, none⟩ = some (.int .i64 kn) := cell_blk N1 0
  have a1 : W.cell? ⟨w.heap.size + 1, 1, none⟩ = some (.int .i64 par) := cell_blk N1 1
  have a2 : W.cell? ⟨w.heap.size + 1, 2, none⟩ = some (.int .i64 M) := cell_blk N1 2
  have a3 : W.cell? ⟨w.heap.size + 1, 3, none⟩ = some (.slice oa OL oc) := cell_blk N1 3
  have a4 : W.cell? ⟨w.heap.size + 1, 4, none⟩ = some (.slice ra RL rc) := cell_blk N1 4
  have a5 : W.cell? ⟨w.heap.size + 1, 5, none⟩ = some (.int .i64 pc) := cell_blk N1 5
  have a6 : W.cell? ⟨w.heap.size + 1, 6, none⟩ = some (.slice ba XL bc) := cell_blk N1 6
  have a7 : W.cell? ⟨w.heap.size + 1, 7, none⟩ = some (.int .i64 fin) := cell_blk N1 7
  obtain ⟨LK, hLK⟩ : ∃ LK, LK = L kn := ⟨_, rfl⟩
  have HLK : Aside (LK = L kn) := hLK
  rw [← hLK] at hca hLk
  clear hLK
  by_cases h5 : pc < -1
  · have HF : Aside (RES = false) := by
      show RES = false
      rw [HR.out]
      refine Bool.eq_false_iff.2 (fun h => ?_)
      obtain ⟨q1, q2, q3, q4, q5, q6, q7, q8⟩ := acMay_true.1 h
      simp only at q1 q2 q3 q4 q5 q6 q7 q8
      omega
    go_quiet (fail)
    go_wp2
    go_ret
    exact ⟨ret_bool HF.out.symm, below_drewN b1 _⟩
  by_cases h6 : (LK : Int) ≤ pc
  · have HF : Aside (RES = false) := by
      show RES = false
      rw [HR.out]
      refine Bool.eq_false_iff.2 (fun h => ?_)
      obtain ⟨q1, q2, q3, q4, q5, q6, q7, q8⟩ := acMay_true.1 h
      simp only at q1 q2 q3 q4 q5 q6 q7 q8
      have := HLK.out; simp only [Int.toNat_natCast] at q3; omega
    go_quiet (fail)
    go_wp2
    go_ret
    exact ⟨ret_bool HF.out.symm, below_drewN b1 _⟩
  by_cases h7 : fin < 0
  · have HF : Aside (RES = false) := by
      show RES = false
      rw [HR.out]
      refine Bool.eq_false_iff.2 (fun h => ?_)
      obtain ⟨q1, q2, q3, q4, q5, q6, q7, q8⟩ := acMay_true.1 h
      simp only at q1 q2 q3 q4 q5 q6 q7 q8
      omega
    go_quiet (fail)
    go_wp2
    go_ret
    exact ⟨ret_bool HF.out.symm, below_drewN b1 _⟩
  by_cases h8 : 8 < fin
  · have HF : Aside (RES = false) := by
      show RES = false
      rw [HR.out]
      refine Bool.eq_false_iff.2 (fun h => ?_)
      obtain ⟨q1, q2, q3, q4, q5, q6, q7, q8⟩ := acMay_true.1 h
      simp only at q1 q2 q3 q4 q5 q6 q7 q8
      omega
    go_quiet (fail)
    go_wp2
    go_ret
    exact ⟨ret_bool HF.out.symm, below_drewN b1 _⟩
  go_quiet (fail)
  have kq := Keeps.drewN W nq
  have bq := below_drewN b1 nq
  replace a0 := kq _ _ a0
  replace a1 := kq _ _ a1
  replace a2 := kq _ _ a2
  replace a3 := kq _ _ a3
  replace a4 := kq _ _ a4
  replace a5 := kq _ _ a5
  replace a6 := kq _ _ a6
  replace a7 := kq _ _ a7
  replace ho := ho.keeps kq
  replace hr := hr.keeps kq
  replace hb := hb.keeps kq
  clear kq b1 k1 N0 N1 s1 p0 hca hP
  generalize W.drewN nq = Wq at *
  have HQ2 : Aside (-1 ≤ pc ∧ pc < (LK : Int) ∧ 0 ≤ fin ∧ fin ≤ 8) := by refine ⟨?_, ?_, ?_, ?_⟩ <;> omega
  clear h5 h6 h7 h8
  have hsq := bq.size
  by_cases h9 : RL = 8
  rotate_left
  · have HF : Aside (RES = false) := by
      show RES = false
      rw [HR.out]
      refine Bool.eq_false_iff.2 (fun h => ?_)
      obtain ⟨q1, q2, q3, q4, q5, q6, q7, q8⟩ := acMay_true.1 h
      simp only at q1 q2 q3 q4 q5 q6 q7 q8
      have := HL.out; omega
    have h9b : ((RL : Int) != 8) = true := by simp; omega
    go_wp2
    go_ret
    exact ⟨ret_bool HF.out.symm, bq⟩
  subst h9
  by_cases h10 : 6 < XL
  · have HF : Aside (RES = false) := by
      show RES = false
      rw [HR.out]
      refine Bool.eq_false_iff.2 (fun h => ?_)
      obtain ⟨q1, q2, q3, q4, q5, q6, q7, q8⟩ := acMay_true.1 h
      simp only at q1 q2 q3 q4 q5 q6 q7 q8
      have := HL.out; omega
    have h10b : (6 : Int) < (XL : Int) := by omega
    go_wp2
    go_ret
    exact ⟨ret_bool HF.out.symm, bq⟩
  have h10b : ¬ (6 : Int) < (XL : Int) := by omega
  have hCF := containsFunc_any ba bc box Wq hb (by rw [← HL.out.2.2]; exact hbl)
  rw [← HL.out.2.2] at hCF
  have HCF : Aside (Calls Tryd.prog 74 #[.slice ba XL bc, .func (.func 75) #[] #[]] Wq _) := hCF
  clear hCF
  go_upto_region 5 with fail
  go_wp2_with fail
  refine Calls.mono HCF.out ?_
  rintro e w2 ⟨rfl, hb2⟩
  have k2 := Keeps.below hb2
  have b2 := bq.trans (hb2.mono hsq)
  replace a0 := k2 _ _ a0
  replace a1 := k2 _ _ a1
  replace a2 := k2 _ _ a2
  replace a3 := k2 _ _ a3
  replace a4 := k2 _ _ a4
  replace a5 := k2 _ _ a5
  replace a6 := k2 _ _ a6
  replace a7 := k2 _ _ a7
  replace ho := ho.keeps k2
  replace hr := hr.keeps k2
  replace hb := hb.keeps k2
  clear k2 hb2 bq hsq HCF
  by_cases h11 : noObj box = true
  · have HF : Aside (RES = false) := by
      show RES = false
      rw [HR.out]
      refine Bool.eq_false_iff.2 (fun h => ?_)
      obtain ⟨q1, q2, q3, q4, q5, q6, q7, q8⟩ := acMay_true.1 h
      simp only at q1 q2 q3 q4 q5 q6 q7 q8
      rw [h11] at q6; cases q6
    rw [h11]
    go_wp2
    go_ret
    exact ⟨ret_bool HF.out.symm, b2⟩
  have h11f : noObj box = false := by simpa using h11
  have HNO : Aside (noObj box = false) := h11f
  rw [h11f]
  clear h11 h11f
  have hSof : ∀ w', Below w2.heap.size w2 w' → (w'.cell? ⟨w.heap.size + 1, 0, none⟩ = some (.int .i64 kn) ∧ w'.cell? ⟨w.heap.size + 1, 1, none⟩ = some (.int .i64 par) ∧ w'.cell? ⟨w.heap.size + 1, 2, none⟩ = some (.int .i64 M) ∧ w'.cell? ⟨w.heap.size + 1, 3, none⟩ = some (.slice oa OL oc) ∧ w'.cell? ⟨w.heap.size + 1, 4, none⟩ = some (.slice ra 8 rc) ∧ w'.cell? ⟨w.heap.size + 1, 5, none⟩ = some (.int .i64 pc) ∧ w'.cell? ⟨w.heap.size + 1, 6, none⟩ = some (.slice ba XL bc) ∧ w'.cell? ⟨w.heap.size + 1, 7, none⟩ = some (.int .i64 fin)) := fun w' hb' => ⟨Keeps.below hb' _ _ a0, Keeps.below hb' _ _ a1, Keeps.below hb' _ _ a2, Keeps.below hb' _ _ a3, Keeps.below hb' _ _ a4, Keeps.below hb' _ _ a5, Keeps.below hb' _ _ a6, Keeps.below hb' _ _ a7⟩
  go_upto_region 7 with fail
  have hBd : Below w2.heap.size w2 w2.drew := (Below.refl _ _).drew
  refine wp_region_need (fun j => j != 5) (fun w' => w'.cell? ⟨w.heap.size + 1, 0, none⟩ = some (.int .i64 kn) ∧ w'.cell? ⟨w.heap.size + 1, 1, none⟩ = some (.int .i64 par) ∧ w'.cell? ⟨w.heap.size + 1, 2, none⟩ = some (.int .i64 M) ∧ w'.cell? ⟨w.heap.size + 1, 3, none⟩ = some (.slice oa OL oc) ∧ w'.cell? ⟨w.heap.size + 1, 4, none⟩ = some (.slice ra 8 rc) ∧ w'.cell? ⟨w.heap.size + 1, 5, none⟩ = some (.int .i64 pc) ∧ w'.cell? ⟨w.heap.size + 1, 6, none⟩ = some (.slice ba XL bc) ∧ w'.cell? ⟨w.heap.size + 1, 7, none⟩ = some (.int .i64 fin)) (by kernel_rfl) (hSof _ hBd) (fun hS => ?_)
  generalize w2.drew = wc0 at hS hBd ⊢
  refine wpAnyN_take (i := 0) (v := ?v1) rfl (by kernel_rfl) (by kernel_rfl) (by kernel_rfl) (by kernel_rfl) (fun _ _ _ h => h) (by rfl) ?hy1 hS ?rest1
  case hy1 => (intro wy hSy; (try dsimp only at hSy); go_simp; try (with_reducible rfl))
  simp only [Act.put, List.getElem_toArray, List.getElem_cons_zero, List.setIfInBounds_toArray, List.set_cons_zero, List.set_cons_succ]
  refine wpAnyN_take (i := 1) (v := ?v2) rfl (by kernel_rfl) (by kernel_rfl) (by kernel_rfl) (by kernel_rfl) (fun _ _ _ h => h) (by rfl) ?hy2 hS ?rest2
  case hy2 => (intro wy hSy; (try dsimp only at hSy); go_simp; try (with_reducible rfl))
  simp only [Act.put, List.getElem_toArray, List.getElem_cons_zero, List.getElem_cons_succ, List.setIfInBounds_toArray, List.set_cons_zero, List.set_cons_succ]
  refine wpAnyN_take (i := 2) (v := ?v3) rfl (by kernel_rfl) (by kernel_rfl) (by kernel_rfl) (by kernel_rfl) (fun _ _ _ h => h) (by rfl) ?hy3 hS ?rest3
  case hy3 => (intro wy hSy; (try dsimp only at hSy); go_simp; try (with_reducible rfl))
  simp only [Act.put, List.getElem_toArray, List.getElem_cons_zero, List.getElem_cons_succ, List.setIfInBounds_toArray, List.set_cons_zero, List.set_cons_succ]
  refine wpAnyN_one (i := 3) (by kernel_rfl) rfl (fun K hK => ?_)
  simp only [List.getElem_toArray, List.getElem_cons_zero, List.getElem_cons_succ]
  go_simp
  have hRo := roots_any kn par M pc fin oa ra ba OL oc rc bc regs box wc0 (hr.keeps (Keeps.below hBd)) (hb.keeps (Keeps.below hBd)) (by rw [← HL.out.2.1]; omega) (by rw [← HL.out.2.2]; omega)
  rw [← HL.out.2.1, ← HL.out.2.2] at hRo
  refine hRo.mono ?_
  clear hRo
  rintro e wc1 ⟨va, vc, rfl, hVa, hbn⟩
  have hB1 := hBd.trans (hbn.mono hBd.size)
  clear hbn hBd
  refine hK.out _ _ (fun _ => hSof _ hB1) ?_
  clear hK
  replace hS := hSof _ hB1
  try simp only [Act.put, List.getElem_toArray, List.getElem_cons_zero, List.getElem_cons_succ, List.setIfInBounds_toArray, List.set_cons_zero, List.set_cons_succ]
  refine wpAnyN_one (i := 4) (by kernel_rfl) rfl (fun K hK => ?_)
  simp only [List.getElem_toArray, List.getElem_cons_zero, List.getElem_cons_succ]
  go_simp
  have hrl2 : (regs ++ box).length = 8 + XL := by rw [List.length_append, ← HL.out.2.1, ← HL.out.2.2]
  have hCk := check_any M oa oc obs va vc (regs ++ box) wc1 (ho.keeps (Keeps.below hB1)) hVa (by rw [hrl2]; omega)
  rw [hrl2, ← HL.out.1] at hCk
  refine hCk.mono ?_
  clear hCk hVa
  rintro e wc2 ⟨rfl, hbn⟩
  have hB2 := hB1.trans (hbn.mono hB1.size)
  clear hbn hB1
  refine hK.out _ _ (fun _ => hSof _ hB2) ?_
  clear hK
  replace hS := hSof _ hB2
  try simp only [Act.put, List.getElem_toArray, List.getElem_cons_zero, List.getElem_cons_succ, List.setIfInBounds_toArray, List.set_cons_zero, List.set_cons_succ]
  have k3 := Keeps.below hB2
  have b3 := b2.trans (hB2.mono b2.size)
  replace a0 := k3 _ _ a0
  replace a1 := k3 _ _ a1
  replace a2 := k3 _ _ a2
  replace a3 := k3 _ _ a3
  replace a4 := k3 _ _ a4
  replace a5 := k3 _ _ a5
  replace a6 := k3 _ _ a6
  replace a7 := k3 _ _ a7
  by_cases h12 : hMay M obs (regs ++ box) = true
  rotate_left
  · have HF : Aside (RES = false) := by
      show RES = false
      rw [HR.out]
      refine Bool.eq_false_iff.2 (fun h => ?_)
      obtain ⟨q1, q2, q3, q4, q5, q6, q7, q8⟩ := acMay_true.1 h
      simp only at q1 q2 q3 q4 q5 q6 q7 q8
      exact h12 q7
    have h12f : hMay M obs (regs ++ box) = false := by simpa using h12
    rw [h12f, erS_false]
    refine wpAnyN_one (i := 5) (by kernel_rfl) rfl (fun K hK => ?_)
    simp only [List.getElem_toArray, List.getElem_cons_zero, List.getElem_cons_succ]
    go_simp
    refine hK.out _ _ (fun h => absurd h (by decide)) ?_
    clear hK
    refine wpAnyN_done (by kernel_rfl) ?_ _
    refine NoPanic.normal ?_
    try simp only [Act.put, List.getElem_toArray, List.getElem_cons_zero, List.getElem_cons_succ, List.setIfInBounds_toArray, List.set_cons_zero, List.set_cons_succ]
    go_wp2
    go_ret
    exact ⟨ret_bool HF.out.symm, b3⟩
  have HM : Aside (hMay M obs (regs ++ box) = true) := h12
  rw [h12, erS_true]
  refine wpAnyN_one (i := 5) (by kernel_rfl) rfl (fun K hK => ?_)
  simp only [List.getElem_toArray, List.getElem_cons_zero, List.getElem_cons_succ]
  go_simp
  refine hK.out _ _ (fun h => absurd h (by decide)) ?_
  clear hK
  refine wpAnyN_done (by kernel_rfl) ?_ _
  refine NoPanic.normal ?_
  try simp only [Act.put, List.getElem_toArray, List.getElem_cons_zero, List.getElem_cons_succ, List.setIfInBounds_toArray, List.set_cons_zero, List.set_cons_succ]
  clear h12 hrl2 hSof hS k3 hB2
  have HA : Aside ((fin = 0 ∨ (XL = 0 ∧ OL = 0 ∧ pc = -1)) → RES = true) := fun h => by
    rw [HR.out]
    refine acMay_true.2 ⟨⟨by simp, by simpa using hkG⟩, ⟨HQ.out.2, HQ.out.1⟩, ⟨HQ2.out.1, by simp only [Int.toNat_natCast]; rw [← HLK.out]; exact HQ2.out.2.1⟩, HQ2.out.2.2, ⟨HL.out.2.1.symm, by simp only; rw [← HL.out.2.2]; omega⟩, HNO.out, HM.out, ?_⟩
    simp only
    rw [← HL.out.2.2, ← HL.out.1]
    exact h
  have HB : Aside (¬ (fin = 0 ∨ (XL = 0 ∧ OL = 0 ∧ pc = -1)) → RES = false) := fun h => by
    rw [HR.out]
    refine Bool.eq_false_iff.2 (fun h' => h ?_)
    have := (acMay_true.1 h').2.2.2.2.2.2.2
    simp only at this
    rw [← HL.out.2.2, ← HL.out.1] at this
    exact this
  by_cases h13 : fin = 0
  · have HT : Aside (RES = true) := HA.out (Or.inl h13)
    subst h13
    go_wp2
    go_ret
    exact ⟨ret_bool HT.out.symm, b3⟩
  · have h13b : (fin == 0) = false := by simp [h13]
    have HT : Aside (RES = (decide (XL = 0) && (decide (OL = 0) && decide (pc = -1)))) := by
      show RES = _
      by_cases hh : XL = 0 ∧ OL = 0 ∧ pc = -1
      · rw [HA.out (Or.inr hh)]; simp [hh.1, hh.2.1, hh.2.2]
      · rw [HB.out (fun h => h.elim h13 hh)]
        symm
        rw [Bool.eq_false_iff]
        intro hc
        simp only [Bool.and_eq_true, decide_eq_true_eq] at hc
        exact hh hc
    go_wp2_with fail
    refine (isEmptied_any kn par M pc fin oa ra ba OL 8 XL oc rc bc _).mono ?_
    rintro e w9 ⟨rfl, hb9⟩
    have b9 := b3.trans (hb9.mono b3.size)
    rw [← HT.out]
    go_wp2
    go_ret
    exact ⟨rfl, b9⟩

end Go.Proofs.YtahcgnmhhgcfmaaDoor
