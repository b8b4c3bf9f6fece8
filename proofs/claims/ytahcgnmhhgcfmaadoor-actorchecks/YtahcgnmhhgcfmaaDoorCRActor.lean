/- The walks of the reference's roots and ActorMay. -/
import Derived.Test.YtahcgnmhhgcfmaaDoorCWIsActor
import Derived.Test.YtahcgnmhhgcfmaaDoorCHVals
import Derived.Test.YtahcgnmhhgcfmaaDoorCPlain
import Derived.Test.YtahcgnmhhgcfmaaDoorCSmall
namespace Go.Proofs.YtahcgnmhhgcfmaaDoor
open Go.RowKit

theorem valCells_flat : ∀ l : List Vl, valCells l = l.flatMap fVl
  | [] => rfl
  | x :: l => by
    have := valCells_flat l
    simp only [valCells, List.map_cons, valPair, pairs, List.flatMap_cons, fVl] at this ⊢
    rw [this]
    rfl

theorem seqOwn_vals {w : World} {base : Nat} {v : Value} {l : List Vl} (h : ValsOwn w base v l) : SeqOwn fVl 2 78 w base v l := by
  unfold SeqOwn
  rw [← valCells_flat]
  exact h

/-- 'append(v, x...)', whatever x, at a step of a region that draws. -/
theorem step_seqAll {α : Type} {f : α → List Value} {s : Nat} {e tS : TypeId} {bytes : Nat} {P : Program} (T : RowT P f s tS e bytes) {w : World} {base : Nat} {v : Value} {l : List α} {ops : Array Oper} {o : Oper} {a : Act} {K : Act → World → Prop} {Q : Exit → Act → World → Prop} {E : Prop} (hgd : o.guard = none) (p q : Operand)
    (ho : o.op = .call { callee := .builtin .append, args := #[p, q], argTypes := #[tS, tS] }) (hp : a.eval p = v) (hO : SeqOwn f s e w base v l) (hb : base ≤ w.heap.size)
    (fs : List α) (fa : Option Addr) (fc : Nat) (hq : a.eval q = .slice fa fs.length fc) (hfs : SeqAt f s w fa fs) (hl : (l.length + fs.length) * bytes ≤ 140737488355328) (hl2 : l.length + fs.length ≤ maxLen)
    (h : ∀ v' w', SeqOwn f s e w' base v' (l ++ fs) → Below base w w' → K (a.put o.dst v') w') :
    if Region.wanted o (yielded ops a.tmps) = true then Oper.wp P o a w K Q else E := by
  by_cases hpos : 0 < fs.length
  · refine step_seq T hgd p q ho hp hO hb fs fa fc hq hfs hpos hl hl2 ?_
    intro g cap w' hO' _ hb' _
    exact h _ _ hO' hb'
  · have he : fs = [] := List.eq_nil_of_length_eq_zero (by omega)
    subst he
    have hw : Region.wanted o (yielded ops a.tmps) = true := by simp [Region.wanted, hgd]
    rw [if_pos hw]
    have hr := run_seq_zero (P := P) (ty := o.type) T hO fa fc
    unfold Oper.wp execOp
    simp only [List.length_nil] at hq
    simp only [ho, resolve, invoke, builtin, Sem.run_bind, Sem.run_pure, Result.andThen_ok, List.map_toArray, List.map_cons, List.map_nil, hp, hq, hr]
    exact h v w (by simpa using hO) (Below.refl _ _)

set_option maxRecDepth 100000 in
set_option maxHeartbeats 800000 in
theorem rroots_any (kind par M pc fin : Int) (oa ra ba : Option Addr) (O oc rc bc : Nat) (regs box : List Vl) (w : World) (hr : ValsAt w ra regs) (hb : ValsAt w ba box) (hrl : regs.length = 8) (hbl : box.length ≤ 6) :
    Calls Tryd.prog 57 #[.agg #[.int .i64 kind, .int .i64 par, .int .i64 M, .slice oa O oc, .slice ra regs.length rc, .int .i64 pc, .slice ba box.length bc, .int .i64 fin]] w fun e w' => ∃ va vc, e = .returned (.slice va (regs.length + box.length) vc) ∧ ValsAt w' va (regs ++ box) ∧ Below w.heap.size w w' := by
  obtain ⟨N0, k1, b1, s1⟩ := boxes1 w (.cells #[.int .i64 kind, .int .i64 par, .int .i64 M, .slice oa O oc, .slice ra regs.length rc, .int .i64 pc, .slice ba box.length bc, .int .i64 fin] 87)
  have hmx : maxLen = 9223372036854775807 := rfl
  obtain ⟨R, hR⟩ : ∃ R, R = regs.length := ⟨_, rfl⟩
  obtain ⟨X, hX⟩ : ∃ X, X = box.length := ⟨_, rfl⟩
  have HL : Aside (R = regs.length ∧ X = box.length) := ⟨hR, hX⟩
  have hR8 : R ≤ 8 := by omega
  have hX6 : X ≤ 6 := by omega
  rw [← hR, ← hX] at N0 k1 b1 s1 ⊢
  clear hR hX hrl hbl
  replace hr := hr.keeps k1
  replace hb := hb.keeps k1
  go_enter Tryd.func57, Tryd.ntmps57
  go_upto_region 1 with fail
  generalize w.alloc (.cells #[.int .i64 kind, .int .i64 par, .int .i64 M, .slice oa O oc, .slice ra R rc, .int .i64 pc, .slice ba X bc, .int .i64 fin] 87) = W at *
  have a4 : W.cell? ⟨w.heap.size, 4, none⟩ = some (.slice ra R rc) := cell_blk N0 4
  have a6 : W.cell? ⟨w.heap.size, 6, none⟩ = some (.slice ba X bc) := cell_blk N0 6
  have hSof : ∀ w', Below W.heap.size W w' → (w'.cell? ⟨w.heap.size, 4, none⟩ = some (.slice ra R rc) ∧ w'.cell? ⟨w.heap.size, 6, none⟩ = some (.slice ba X bc)) := fun w' hb' => ⟨Keeps.below hb' _ _ a4, Keeps.below hb' _ _ a6⟩
  clear N0 k1
  have hBd : Below W.heap.size W W.drew := (Below.refl _ _).drew
  refine wp_region_need (fun j => j != 6) (fun w' => w'.cell? ⟨w.heap.size, 4, none⟩ = some (.slice ra R rc) ∧ w'.cell? ⟨w.heap.size, 6, none⟩ = some (.slice ba X bc)) (by kernel_rfl) (hSof _ hBd) (fun hS => ?_)
  generalize W.drew = wc0 at hS hBd ⊢
  refine wpAnyN_take (i := 0) (v := ?v1) rfl (by kernel_rfl) (by kernel_rfl) (by kernel_rfl) (by kernel_rfl) (fun _ _ _ h => h) (by rfl) ?hy1 hS ?rest1
  case hy1 => (intro wy hSy; (try dsimp only at hSy); go_simp; try (with_reducible rfl))
  simp only [Act.put, List.getElem_toArray, List.getElem_cons_zero, List.setIfInBounds_toArray, List.set_cons_zero, List.set_cons_succ]
  refine wpAnyN_take (i := 1) (v := ?v2) rfl (by kernel_rfl) (by kernel_rfl) (by kernel_rfl) (by kernel_rfl) (fun _ _ _ h => h) (by rfl) ?hy2 hS ?rest2
  case hy2 => (intro wy hSy; (try dsimp only at hSy); go_simp; try (with_reducible rfl))
  simp only [Act.put, List.getElem_toArray, List.getElem_cons_zero, List.getElem_cons_succ, List.setIfInBounds_toArray, List.set_cons_zero, List.set_cons_succ]
  refine wpAnyN_take (i := 3) (v := ?v3) rfl (by kernel_rfl) (by kernel_rfl) (by kernel_rfl) (by kernel_rfl) (fun _ _ _ h => h) (by rfl) ?hy3 hS ?rest3
  case hy3 => (intro wy hSy; (try dsimp only at hSy); go_simp; try (with_reducible rfl))
  simp only [Act.put, List.getElem_toArray, List.getElem_cons_zero, List.getElem_cons_succ, List.setIfInBounds_toArray, List.set_cons_zero, List.set_cons_succ]
  refine wpAnyN_take (i := 4) (v := ?v4) rfl (by kernel_rfl) (by kernel_rfl) (by kernel_rfl) (by kernel_rfl) (fun _ _ _ h => h) (by rfl) ?hy4 hS ?rest4
  case hy4 => (intro wy hSy; (try dsimp only at hSy); go_simp; try (with_reducible rfl))
  simp only [Act.put, List.getElem_toArray, List.getElem_cons_zero, List.getElem_cons_succ, List.setIfInBounds_toArray, List.set_cons_zero, List.set_cons_succ]
  refine wpAnyN_one (i := 2) (by kernel_rfl) rfl (fun K hK => ?_)
  simp only [List.getElem_toArray, List.getElem_cons_zero, List.getElem_cons_succ]
  go_simp
  have hVs := values_any ra rc regs wc0 (hr.keeps (Keeps.below hBd)) (by rw [← HL.out.1]; omega)
  rw [← HL.out.1] at hVs
  refine hVs.mono ?_
  clear hVs
  rintro e wc1 ⟨va, vc, rfl, hV, hbn⟩
  have hC1 : SeqOwn fVl 2 78 wc1 W.heap.size (.slice va R vc) regs := ownsRow_le (seqOwn_vals hV) hBd.size
  have hB1 := hBd.trans (hbn.mono hBd.size)
  clear hbn hBd hV
  refine hK.out _ _ (fun _ => hSof _ hB1) ?_
  clear hK
  replace hS := hSof _ hB1
  try simp only [Act.put, List.getElem_toArray, List.getElem_cons_zero, List.getElem_cons_succ, List.setIfInBounds_toArray, List.set_cons_zero, List.set_cons_succ]
  refine wpAnyN_one (i := 5) (by kernel_rfl) rfl (fun K hK => ?_)
  refine step_seqAll Tryd.rowVl (by rfl) _ _ (by rfl) (v := .slice va R vc) (by rfl) hC1 hB1.size box ba bc (by rw [← HL.out.2]; rfl) (seqVl_of (hb.keeps (Keeps.below hB1))) (by rw [← HL.out.1, ← HL.out.2]; omega) (by rw [← HL.out.1, ← HL.out.2]; omega) ?_
  rintro v2 wc2 hO2 hbn
  have hB2 := hB1.trans hbn
  clear hbn hB1 hC1
  obtain ⟨va2, vc2, rfl⟩ := hO2.form
  have HV : Aside (ValsAt wc2 va2 (regs ++ box)) := seqVl_to (SeqOwn.at (f := fVl) (s := 2) (fun _ => rfl) hO2)
  clear hO2
  rw [List.length_append, ← HL.out.1, ← HL.out.2]
  refine hK.out _ _ (fun _ => hSof _ hB2) ?_
  clear hK
  replace hS := hSof _ hB2
  try simp only [Act.put, List.getElem_toArray, List.getElem_cons_zero, List.getElem_cons_succ, List.setIfInBounds_toArray, List.set_cons_zero, List.set_cons_succ]
  refine wpAnyN_one (i := 6) (by kernel_rfl) rfl (fun K hK => ?_)
  simp only [List.getElem_toArray, List.getElem_cons_zero, List.getElem_cons_succ]
  go_simp
  refine hK.out _ _ (fun h => absurd h (by decide)) ?_
  clear hK
  refine wpAnyN_done (by kernel_rfl) ?_ _
  refine NoPanic.normal ?_
  try simp only [Act.put, List.getElem_toArray, List.getElem_cons_zero, List.getElem_cons_succ, List.setIfInBounds_toArray, List.set_cons_zero, List.set_cons_succ]
  clear hS hSof
  go_wp2
  go_ret
  exact ⟨va2, vc2, rfl, HV.out, b1.trans (hB2.mono b1.size)⟩

set_option maxRecDepth 100000 in
set_option maxHeartbeats 2000000 in
theorem actorMay_any (ao : Option Addr) (G cap : Nat) (A : Nat → Option Addr) (L C : Nat → Nat) (X : Nat → Nat → Nat → Int) (kind par M pc fin : Int) (oa ra ba : Option Addr) (oc rc bc : Nat) (obs : List Ob) (regs box : List Vl) (num : Nat) (w : World)
    (hP : ProgAt w ao G A L C X) (ho : ObsAt w oa obs) (hr : ValsAt w ra regs) (hb : ValsAt w ba box) (hrl : 16 * regs.length ≤ 140737488351232) (hbl : 16 * box.length ≤ 140737488351232) (hnum : num ≤ 1000) :
    Calls Tryd.prog 43 #[.agg #[.slice ao G cap], .agg #[.int .i64 kind, .int .i64 par, .int .i64 M, .slice oa obs.length oc, .slice ra regs.length rc, .int .i64 pc, .slice ba box.length bc, .int .i64 fin], .int .i64 num] w fun e w' => e = .returned (.bool (acMay G L ⟨kind, par, M, obs, regs, pc, box, fin⟩ num)) ∧ Below w.heap.size w w' := by
  obtain ⟨N0, N1, k1, b1, s1⟩ := boxes2 w (.cells #[.slice ao G cap] 26) (.cells #[.int .i64 kind, .int .i64 par, .int .i64 M, .slice oa obs.length oc, .slice ra regs.length rc, .int .i64 pc, .slice ba box.length bc, .int .i64 fin] 87)
  replace hP := hP.keeps k1
  replace ho := ho.keeps k1
  replace hr := hr.keeps k1
  replace hb := hb.keeps k1
  have hG := hP.many
  obtain ⟨RES, hRES⟩ : ∃ RES, RES = acMay G L ⟨kind, par, M, obs, regs, pc, box, fin⟩ num := ⟨_, rfl⟩
  have HR : Aside (RES = acMay G L ⟨kind, par, M, obs, regs, pc, box, fin⟩ num) := hRES
  rw [← hRES]
  clear hRES
  obtain ⟨OL, hOL⟩ : ∃ n, n = obs.length := ⟨_, rfl⟩
  obtain ⟨RL, hRL⟩ : ∃ n, n = regs.length := ⟨_, rfl⟩
  obtain ⟨XL, hXL⟩ : ∃ n, n = box.length := ⟨_, rfl⟩
  have HL : Aside (OL = obs.length ∧ RL = regs.length ∧ XL = box.length) := ⟨hOL, hRL, hXL⟩
  rw [← hOL, ← hRL, ← hXL] at N0 N1 k1 b1 s1 hP ho hr hb
  rw [← hRL] at hrl
  rw [← hXL] at hbl
  rw [← hOL, ← hRL, ← hXL]
  clear hOL hRL hXL
  go_enter Tryd.func43, Tryd.ntmps43
  by_cases h1 : 0 ≤ kind ∧ kind < (G : Int)
  rotate_left
  · have HF : Aside (RES = false) := by
      show RES = false
      rw [HR.out]
      refine Bool.eq_false_iff.2 (fun h => ?_)
      obtain ⟨q1, q2, q3, q4, q5, q6, q7, q8⟩ := acMay_true.1 h
      simp only at q1 q2 q3 q4 q5 q6 q7 q8
      exact h1 q1
    have f1 : (decide (0 ≤ kind) && decide (kind ≤ (G : Int) - 1)) = false := by
      rw [Bool.eq_false_iff]; intro hc; simp only [Bool.and_eq_true, decide_eq_true_eq] at hc; omega
    go_wp2_with fail
    refine (cin_any (kind) (0) ((G : Int) - 1) _).mono ?_
    rintro e w' ⟨rfl, hw'⟩
    replace hw' := hw'.symm
    subst hw'
    rw [f1]
    go_wp2
    go_ret
    exact ⟨ret_bool HF.out.symm, b1⟩
  have f1 : (decide (0 ≤ kind) && decide (kind ≤ (G : Int) - 1)) = true := by simp only [Bool.and_eq_true, decide_eq_true_eq]; omega
  go_wp2_with fail
  refine (cin_any (kind) (0) ((G : Int) - 1) _).mono ?_
  rintro e w' ⟨rfl, hw'⟩
  replace hw' := hw'.symm
  subst hw'
  rw [f1]
  by_cases h2 : -1 ≤ par ∧ par < (num : Int)
  rotate_left
  · have HF : Aside (RES = false) := by
      show RES = false
      rw [HR.out]
      refine Bool.eq_false_iff.2 (fun h => ?_)
      obtain ⟨q1, q2, q3, q4, q5, q6, q7, q8⟩ := acMay_true.1 h
      simp only at q1 q2 q3 q4 q5 q6 q7 q8
      exact h2 q2
    have f2 : (decide (-1 ≤ par) && decide (par ≤ (num : Int) - 1)) = false := by
      rw [Bool.eq_false_iff]; intro hc; simp only [Bool.and_eq_true, decide_eq_true_eq] at hc; omega
    go_wp2_with fail
    refine (cin_any (par) (-1) ((num : Int) - 1) _).mono ?_
    rintro e w' ⟨rfl, hw'⟩
    replace hw' := hw'.symm
    subst hw'
    rw [f2]
    go_wp2
    go_ret
    exact ⟨ret_bool HF.out.symm, b1⟩
  have f2 : (decide (-1 ≤ par) && decide (par ≤ (num : Int) - 1)) = true := by simp only [Bool.and_eq_true, decide_eq_true_eq]; omega
  go_wp2_with fail
  refine (cin_any (par) (-1) ((num : Int) - 1) _).mono ?_
  rintro e w' ⟨rfl, hw'⟩
  replace hw' := hw'.symm
  subst hw'
  rw [f2]
  by_cases h3 : 0 ≤ fin ∧ fin ≤ 8
  rotate_left
  · have HF : Aside (RES = false) := by
      show RES = false
      rw [HR.out]
      refine Bool.eq_false_iff.2 (fun h => ?_)
      obtain ⟨q1, q2, q3, q4, q5, q6, q7, q8⟩ := acMay_true.1 h
      simp only at q1 q2 q3 q4 q5 q6 q7 q8
      exact h3 q4
    have f3 : (decide (0 ≤ fin) && decide (fin ≤ 8)) = false := by
      rw [Bool.eq_false_iff]; intro hc; simp only [Bool.and_eq_true, decide_eq_true_eq] at hc; omega
    go_wp2_with fail
    refine (cin_any (fin) (0) (8) _).mono ?_
    rintro e w' ⟨rfl, hw'⟩
    replace hw' := hw'.symm
    subst hw'
    rw [f3]
    go_wp2
    go_ret
    exact ⟨ret_bool HF.out.symm, b1⟩
  have f3 : (decide (0 ≤ fin) && decide (fin ≤ 8)) = true := by simp only [Bool.and_eq_true, decide_eq_true_eq]; omega
  go_wp2_with fail
  refine (cin_any (fin) (0) (8) _).mono ?_
  rintro e w' ⟨rfl, hw'⟩
  replace hw' := hw'.symm
  subst hw'
  rw [f3]
  clear f1 f2 f3
  by_cases h9 : RL = 8
  rotate_left
  · have HF : Aside (RES = false) := by
      show RES = false
      rw [HR.out]
      refine Bool.eq_false_iff.2 (fun h => ?_)
      obtain ⟨q1, q2, q3, q4, q5, q6, q7, q8⟩ := acMay_true.1 h
      simp only at q1 q2 q3 q4 q5 q6 q7 q8
      have := HL.out; omega
    have h9b : ((RL : Int) != 8) = true := by simp; omega
    go_wp2
    go_ret
    exact ⟨ret_bool HF.out.symm, b1⟩
  subst h9
  by_cases h10 : 6 < XL
  · have HF : Aside (RES = false) := by
      show RES = false
      rw [HR.out]
      refine Bool.eq_false_iff.2 (fun h => ?_)
      obtain ⟨q1, q2, q3, q4, q5, q6, q7, q8⟩ := acMay_true.1 h
      simp only at q1 q2 q3 q4 q5 q6 q7 q8
      have := HL.out; omega
    have h10b : (6 : Int) < (XL : Int) := by omega
    go_wp2
    go_ret
    exact ⟨ret_bool HF.out.symm, b1⟩
  have h10b : ¬ (6 : Int) < (XL : Int) := by omega
  obtain ⟨kn, rfl⟩ := Int.eq_ofNat_of_zero_le h1.1
  have hkG : kn < G := by omega
  obtain ⟨bo, oo, hao, hca⟩ := hP.outer kn hkG
  subst hao
  have hkz : (kn : Int) < (G : Int) := by omega
  have hLk := hP.long kn hkG
  have HQ : Aside ((-1 ≤ par ∧ par < (num : Int)) ∧ (0 ≤ fin ∧ fin ≤ 8)) := ⟨h2, h3⟩
  go_upto_region 3 with fail
  clear h1 h2 h3
  generalize (w.alloc (.cells #[.slice (some ⟨bo, oo, none⟩) G cap] 26)).alloc (.cells #[.int .i64 kn, .int .i64 par, .int .i64 M, .slice oa OL oc, .slice ra 8 rc, .int .i64 pc, .slice ba XL bc, .int .i64 fin] 87) = W at *
  have p0 : W.cell? ⟨w.heap.size, 0, none⟩ = some (.slice (some ⟨bo, oo, none⟩) G cap) := cell_blk N0 0
  have a0 : W.cell? ⟨w.heap.size + 1, 0, none⟩ = some (.int .i64 kn) := cell_blk N1 0
  have a1 : W.cell? ⟨w.heap.size + 1, 1, none⟩ = some (.int .i64 par) := cell_blk N1 1
  have a2 : W.cell? ⟨w.heap.size + 1, 2, none⟩ = some (.int .i64 M) := cell_blk N1 2
  have a3 : W.cell? ⟨w.heap.size + 1, 3, none⟩ = some (.slice oa OL oc) := cell_blk N1 3
  have a4 : W.cell? ⟨w.heap.size + 1, 4, none⟩ = some (.slice ra 8 rc) := cell_blk N1 4
  have a5 : W.cell? ⟨w.heap.size + 1, 5, none⟩ = some (.int .i64 pc) := cell_blk N1 5
  have a6 : W.cell? ⟨w.heap.size + 1, 6, none⟩ = some (.slice ba XL bc) := cell_blk N1 6
  have a7 : W.cell? ⟨w.heap.size + 1, 7, none⟩ = some (.int .i64 fin) := cell_blk N1 7
  obtain ⟨LK, hLK⟩ : ∃ LK, LK = L kn := ⟨_, rfl⟩
  have HLK : Aside (LK = L kn) := hLK
  rw [← hLK] at hca hLk
  clear hLK N0 N1 k1 s1
  have hSof : ∀ w', Below W.heap.size W w' → (w'.cell? ⟨w.heap.size + 1, 0, none⟩ = some (.int .i64 kn) ∧ w'.cell? ⟨w.heap.size + 1, 1, none⟩ = some (.int .i64 par) ∧ w'.cell? ⟨w.heap.size + 1, 2, none⟩ = some (.int .i64 M) ∧ w'.cell? ⟨w.heap.size + 1, 3, none⟩ = some (.slice oa OL oc) ∧ w'.cell? ⟨w.heap.size + 1, 4, none⟩ = some (.slice ra 8 rc) ∧ w'.cell? ⟨w.heap.size + 1, 5, none⟩ = some (.int .i64 pc) ∧ w'.cell? ⟨w.heap.size + 1, 6, none⟩ = some (.slice ba XL bc) ∧ w'.cell? ⟨w.heap.size + 1, 7, none⟩ = some (.int .i64 fin) ∧ w'.cell? ⟨w.heap.size, 0, none⟩ = some (.slice (some ⟨bo, oo, none⟩) G cap) ∧ w'.cell? ⟨bo, oo + kn, none⟩ = some (.slice (A kn) LK (C kn))) := fun w' hb' => ⟨Keeps.below hb' _ _ a0, Keeps.below hb' _ _ a1, Keeps.below hb' _ _ a2, Keeps.below hb' _ _ a3, Keeps.below hb' _ _ a4, Keeps.below hb' _ _ a5, Keeps.below hb' _ _ a6, Keeps.below hb' _ _ a7, Keeps.below hb' _ _ p0, Keeps.below hb' _ _ hca⟩
  have hBd : Below W.heap.size W W.drew := (Below.refl _ _).drew
  refine wp_region_need (fun j => j != 19) (fun w' => w'.cell? ⟨w.heap.size + 1, 0, none⟩ = some (.int .i64 kn) ∧ w'.cell? ⟨w.heap.size + 1, 1, none⟩ = some (.int .i64 par) ∧ w'.cell? ⟨w.heap.size + 1, 2, none⟩ = some (.int .i64 M) ∧ w'.cell? ⟨w.heap.size + 1, 3, none⟩ = some (.slice oa OL oc) ∧ w'.cell? ⟨w.heap.size + 1, 4, none⟩ = some (.slice ra 8 rc) ∧ w'.cell? ⟨w.heap.size + 1, 5, none⟩ = some (.int .i64 pc) ∧ w'.cell? ⟨w.heap.size + 1, 6, none⟩ = some (.slice ba XL bc) ∧ w'.cell? ⟨w.heap.size + 1, 7, none⟩ = some (.int .i64 fin) ∧ w'.cell? ⟨w.heap.size, 0, none⟩ = some (.slice (some ⟨bo, oo, none⟩) G cap) ∧ w'.cell? ⟨bo, oo + kn, none⟩ = some (.slice (A kn) LK (C kn))) (by kernel_rfl) (hSof _ hBd) (fun hS => ?_)
  generalize W.drew = wc0 at hS hBd ⊢
  refine wpAnyN_take (i := 0) (v := ?v5) rfl (by kernel_rfl) (by kernel_rfl) (by kernel_rfl) (by kernel_rfl) (fun _ _ _ h => h) (by rfl) ?hy5 hS ?rest5
  case hy5 => (intro wy hSy; (try dsimp only at hSy); go_simp; try (with_reducible rfl))
  simp only [Act.put, List.getElem_toArray, List.getElem_cons_zero, List.setIfInBounds_toArray, List.set_cons_zero, List.set_cons_succ]
  refine wpAnyN_take (i := 1) (v := ?v6) rfl (by kernel_rfl) (by kernel_rfl) (by kernel_rfl) (by kernel_rfl) (fun _ _ _ h => h) (by rfl) ?hy6 hS ?rest6
  case hy6 => (intro wy hSy; (try dsimp only at hSy); go_simp; try (with_reducible rfl))
  simp only [Act.put, List.getElem_toArray, List.getElem_cons_zero, List.getElem_cons_succ, List.setIfInBounds_toArray, List.set_cons_zero, List.set_cons_succ]
  refine wpAnyN_take (i := 2) (v := ?v7) rfl (by kernel_rfl) (by kernel_rfl) (by kernel_rfl) (by kernel_rfl) (fun _ _ _ h => h) (by rfl) ?hy7 hS ?rest7
  case hy7 => (intro wy hSy; (try dsimp only at hSy); go_simp; try (with_reducible rfl))
  simp only [Act.put, List.getElem_toArray, List.getElem_cons_zero, List.getElem_cons_succ, List.setIfInBounds_toArray, List.set_cons_zero, List.set_cons_succ]
  refine wpAnyN_one (i := 3) (by kernel_rfl) rfl (fun K hK => ?_)
  simp only [List.getElem_toArray, List.getElem_cons_zero, List.getElem_cons_succ]
  go_simp
  have hRo := rroots_any kn par M pc fin oa ra ba OL oc rc bc regs box wc0 (hr.keeps (Keeps.below hBd)) (hb.keeps (Keeps.below hBd)) HL.out.2.1.symm (by rw [← HL.out.2.2]; omega)
  rw [← HL.out.2.1, ← HL.out.2.2] at hRo
  refine hRo.mono ?_
  clear hRo
  rintro e wc1 ⟨va, vc, rfl, hVa, hbn⟩
  have hB1 := hBd.trans (hbn.mono hBd.size)
  clear hbn hBd
  refine hK.out _ _ (fun _ => hSof _ hB1) ?_
  clear hK
  replace hS := hSof _ hB1
  try simp only [Act.put, List.getElem_toArray, List.getElem_cons_zero, List.getElem_cons_succ, List.setIfInBounds_toArray, List.set_cons_zero, List.set_cons_succ]
  refine wpAnyN_one (i := 4) (by kernel_rfl) rfl (fun K hK => ?_)
  simp only [List.getElem_toArray, List.getElem_cons_zero, List.getElem_cons_succ]
  go_simp
  have hrl2 : (regs ++ box).length = 8 + XL := by rw [List.length_append, ← HL.out.2.1, ← HL.out.2.2]
  have hCk := heapMay_any M oa oc obs va vc (regs ++ box) wc1 (ho.keeps (Keeps.below hB1)) hVa (by rw [hrl2]; omega)
  rw [hrl2, ← HL.out.1] at hCk
  refine hCk.mono ?_
  clear hCk hVa
  rintro e wc2 ⟨rfl, hbn⟩
  have hB2 := hB1.trans (hbn.mono hB1.size)
  clear hbn hB1 hrl2
  refine hK.out _ _ (fun _ => hSof _ hB2) ?_
  clear hK
  replace hS := hSof _ hB2
  try simp only [Act.put, List.getElem_toArray, List.getElem_cons_zero, List.getElem_cons_succ, List.setIfInBounds_toArray, List.set_cons_zero, List.set_cons_succ]
  have k3 := Keeps.below hB2
  have b3 := b1.trans (hB2.mono b1.size)
  replace a0 := k3 _ _ a0
  replace a1 := k3 _ _ a1
  replace a2 := k3 _ _ a2
  replace a3 := k3 _ _ a3
  replace a4 := k3 _ _ a4
  replace a5 := k3 _ _ a5
  replace a6 := k3 _ _ a6
  replace a7 := k3 _ _ a7
  have hb3 := hb.keeps k3
  by_cases h12 : hMay M obs (regs ++ box) = true
  rotate_left
  · have HF : Aside (RES = false) := by
      show RES = false
      rw [HR.out]
      refine Bool.eq_false_iff.2 (fun h => ?_)
      obtain ⟨q1, q2, q3, q4, q5, q6, q7, q8⟩ := acMay_true.1 h
      simp only at q1 q2 q3 q4 q5 q6 q7 q8
      exact h12 q7
    have h12f : hMay M obs (regs ++ box) = false := by simpa using h12
    rw [h12f]
    refine wpAnyN_take (i := 5) (v := ?v8) rfl (by kernel_rfl) (by kernel_rfl) (by kernel_rfl) (by kernel_rfl) (fun _ _ _ h => h) (by rfl) ?hy8 hS ?rest8
    case hy8 => (intro wy hSy; (try dsimp only at hSy); go_simp; try (with_reducible rfl))
    simp only [Act.put, List.getElem_toArray, List.getElem_cons_zero, List.getElem_cons_succ, List.setIfInBounds_toArray, List.set_cons_zero, List.set_cons_succ]
    refine wpAnyN_take (i := 6) (v := ?v9) rfl (by kernel_rfl) (by kernel_rfl) (by kernel_rfl) (by kernel_rfl) (fun _ _ _ h => h) (by rfl) ?hy9 hS ?rest9
    case hy9 => (intro wy hSy; (try dsimp only at hSy); go_simp; try (with_reducible rfl))
    simp only [Act.put, List.getElem_toArray, List.getElem_cons_zero, List.getElem_cons_succ, List.setIfInBounds_toArray, List.set_cons_zero, List.set_cons_succ]
    refine wpAnyN_drop (i := 7) rfl (by kernel_rfl) (by kernel_rfl) (by kernel_rfl) (by kernel_rfl) (fun _ _ _ h => h) (by rfl) hS ?_
    simp only [Act.put, List.getElem_toArray, List.getElem_cons_zero, List.getElem_cons_succ, List.setIfInBounds_toArray, List.set_cons_zero, List.set_cons_succ]
    refine wpAnyN_drop (i := 8) rfl (by kernel_rfl) (by kernel_rfl) (by kernel_rfl) (by kernel_rfl) (fun _ _ _ h => h) (by rfl) hS ?_
    simp only [Act.put, List.getElem_toArray, List.getElem_cons_zero, List.getElem_cons_succ, List.setIfInBounds_toArray, List.set_cons_zero, List.set_cons_succ]
    refine wpAnyN_drop (i := 9) rfl (by kernel_rfl) (by kernel_rfl) (by kernel_rfl) (by kernel_rfl) (fun _ _ _ h => h) (by rfl) hS ?_
    simp only [Act.put, List.getElem_toArray, List.getElem_cons_zero, List.getElem_cons_succ, List.setIfInBounds_toArray, List.set_cons_zero, List.set_cons_succ]
    refine wpAnyN_drop (i := 10) rfl (by kernel_rfl) (by kernel_rfl) (by kernel_rfl) (by kernel_rfl) (fun _ _ _ h => h) (by rfl) hS ?_
    simp only [Act.put, List.getElem_toArray, List.getElem_cons_zero, List.getElem_cons_succ, List.setIfInBounds_toArray, List.set_cons_zero, List.set_cons_succ]
    refine wpAnyN_drop (i := 11) rfl (by kernel_rfl) (by kernel_rfl) (by kernel_rfl) (by kernel_rfl) (fun _ _ _ h => h) (by rfl) hS ?_
    simp only [Act.put, List.getElem_toArray, List.getElem_cons_zero, List.getElem_cons_succ, List.setIfInBounds_toArray, List.set_cons_zero, List.set_cons_succ]
    refine wpAnyN_drop (i := 12) rfl (by kernel_rfl) (by kernel_rfl) (by kernel_rfl) (by kernel_rfl) (fun _ _ _ h => h) (by rfl) hS ?_
    simp only [Act.put, List.getElem_toArray, List.getElem_cons_zero, List.getElem_cons_succ, List.setIfInBounds_toArray, List.set_cons_zero, List.set_cons_succ]
    refine wpAnyN_drop (i := 13) rfl (by kernel_rfl) (by kernel_rfl) (by kernel_rfl) (by kernel_rfl) (fun _ _ _ h => h) (by rfl) hS ?_
    simp only [Act.put, List.getElem_toArray, List.getElem_cons_zero, List.getElem_cons_succ, List.setIfInBounds_toArray, List.set_cons_zero, List.set_cons_succ]
    refine wpAnyN_drop (i := 14) rfl (by kernel_rfl) (by kernel_rfl) (by kernel_rfl) (by kernel_rfl) (fun _ _ _ h => h) (by rfl) hS ?_
    simp only [Act.put, List.getElem_toArray, List.getElem_cons_zero, List.getElem_cons_succ, List.setIfInBounds_toArray, List.set_cons_zero, List.set_cons_succ]
    refine wpAnyN_drop (i := 15) rfl (by kernel_rfl) (by kernel_rfl) (by kernel_rfl) (by kernel_rfl) (fun _ _ _ h => h) (by rfl) hS ?_
    simp only [Act.put, List.getElem_toArray, List.getElem_cons_zero, List.getElem_cons_succ, List.setIfInBounds_toArray, List.set_cons_zero, List.set_cons_succ]
    refine wpAnyN_drop (i := 16) rfl (by kernel_rfl) (by kernel_rfl) (by kernel_rfl) (by kernel_rfl) (fun _ _ _ h => h) (by rfl) hS ?_
    simp only [Act.put, List.getElem_toArray, List.getElem_cons_zero, List.getElem_cons_succ, List.setIfInBounds_toArray, List.set_cons_zero, List.set_cons_succ]
    refine wpAnyN_drop (i := 17) rfl (by kernel_rfl) (by kernel_rfl) (by kernel_rfl) (by kernel_rfl) (fun _ _ _ h => h) (by rfl) hS ?_
    simp only [Act.put, List.getElem_toArray, List.getElem_cons_zero, List.getElem_cons_succ, List.setIfInBounds_toArray, List.set_cons_zero, List.set_cons_succ]
    refine wpAnyN_drop (i := 18) rfl (by kernel_rfl) (by kernel_rfl) (by kernel_rfl) (by kernel_rfl) (fun _ _ _ h => h) (by rfl) hS ?_
    simp only [Act.put, List.getElem_toArray, List.getElem_cons_zero, List.getElem_cons_succ, List.setIfInBounds_toArray, List.set_cons_zero, List.set_cons_succ]
    refine wpAnyN_one (i := 19) (by kernel_rfl) rfl (fun K hK => ?_)
    simp only [List.getElem_toArray, List.getElem_cons_zero, List.getElem_cons_succ]
    go_simp
    refine hK.out _ _ (fun h => absurd h (by decide)) ?_
    clear hK
    refine wpAnyN_done (by kernel_rfl) ?_ _
    refine NoPanic.normal ?_
    try simp only [Act.put, List.getElem_toArray, List.getElem_cons_zero, List.getElem_cons_succ, List.setIfInBounds_toArray, List.set_cons_zero, List.set_cons_succ]
    go_wp2
    go_ret
    exact ⟨ret_bool HF.out.symm, b3⟩
  have HM : Aside (hMay M obs (regs ++ box) = true) := h12
  rw [h12]
  clear h12
  refine wpAnyN_take (i := 5) (v := ?v10) rfl (by kernel_rfl) (by kernel_rfl) (by kernel_rfl) (by kernel_rfl) (fun _ _ _ h => h) (by rfl) ?hy10 hS ?rest10
  case hy10 => (intro wy hSy; (try dsimp only at hSy); go_simp; try (with_reducible rfl))
  simp only [Act.put, List.getElem_toArray, List.getElem_cons_zero, List.getElem_cons_succ, List.setIfInBounds_toArray, List.set_cons_zero, List.set_cons_succ]
  refine wpAnyN_take (i := 6) (v := ?v11) rfl (by kernel_rfl) (by kernel_rfl) (by kernel_rfl) (by kernel_rfl) (fun _ _ _ h => h) (by rfl) ?hy11 hS ?rest11
  case hy11 => (intro wy hSy; (try dsimp only at hSy); go_simp; try (with_reducible rfl))
  simp only [Act.put, List.getElem_toArray, List.getElem_cons_zero, List.getElem_cons_succ, List.setIfInBounds_toArray, List.set_cons_zero, List.set_cons_succ]
  refine wpAnyN_take (i := 7) (v := ?v12) rfl (by kernel_rfl) (by kernel_rfl) (by kernel_rfl) (by kernel_rfl) (fun _ _ _ h => h) (by rfl) ?hy12 hS ?rest12
  case hy12 => (intro wy hSy; (try dsimp only at hSy); go_simp; try (with_reducible rfl))
  simp only [Act.put, List.getElem_toArray, List.getElem_cons_zero, List.getElem_cons_succ, List.setIfInBounds_toArray, List.set_cons_zero, List.set_cons_succ]
  refine wpAnyN_take (i := 8) (v := ?v13) rfl (by kernel_rfl) (by kernel_rfl) (by kernel_rfl) (by kernel_rfl) (fun _ _ _ h => h) (by rfl) ?hy13 hS ?rest13
  case hy13 => (intro wy hSy; (try dsimp only at hSy); go_simp; try (with_reducible rfl))
  simp only [Act.put, List.getElem_toArray, List.getElem_cons_zero, List.getElem_cons_succ, List.setIfInBounds_toArray, List.set_cons_zero, List.set_cons_succ]
  refine wpAnyN_take (i := 9) (v := ?v14) rfl (by kernel_rfl) (by kernel_rfl) (by kernel_rfl) (by kernel_rfl) (fun _ _ _ h => h) (by rfl) ?hy14 hS ?rest14
  case hy14 => (intro wy hSy; (try dsimp only at hSy); go_simp; try (with_reducible rfl))
  simp only [Act.put, List.getElem_toArray, List.getElem_cons_zero, List.getElem_cons_succ, List.setIfInBounds_toArray, List.set_cons_zero, List.set_cons_succ]
  refine wpAnyN_take (i := 10) (v := ?v15) rfl (by kernel_rfl) (by kernel_rfl) (by kernel_rfl) (by kernel_rfl) (fun _ _ _ h => h) (by rfl) ?hy15 hS ?rest15
  case hy15 => (intro wy hSy; (try dsimp only at hSy); go_simp; try (with_reducible rfl))
  simp only [Act.put, List.getElem_toArray, List.getElem_cons_zero, List.getElem_cons_succ, List.setIfInBounds_toArray, List.set_cons_zero, List.set_cons_succ]
  refine wpAnyN_take (i := 11) (v := ?v16) rfl (by kernel_rfl) (by kernel_rfl) (by kernel_rfl) (by kernel_rfl) (fun _ _ _ h => h) (by rfl) ?hy16 hS ?rest16
  case hy16 => (intro wy hSy; (try dsimp only at hSy); go_simp; try (with_reducible rfl))
  simp only [Act.put, List.getElem_toArray, List.getElem_cons_zero, List.getElem_cons_succ, List.setIfInBounds_toArray, List.set_cons_zero, List.set_cons_succ]
  refine wpAnyN_take (i := 12) (v := ?v17) rfl (by kernel_rfl) (by kernel_rfl) (by kernel_rfl) (by kernel_rfl) (fun _ _ _ h => h) (by rfl) ?hy17 hS ?rest17
  case hy17 => (intro wy hSy; (try dsimp only at hSy); go_simp; try (with_reducible rfl))
  simp only [Act.put, List.getElem_toArray, List.getElem_cons_zero, List.getElem_cons_succ, List.setIfInBounds_toArray, List.set_cons_zero, List.set_cons_succ]
  refine wpAnyN_take (i := 13) (v := ?v18) rfl (by kernel_rfl) (by kernel_rfl) (by kernel_rfl) (by kernel_rfl) (fun _ _ _ h => h) (by rfl) ?hy18 hS ?rest18
  case hy18 => (intro wy hSy; (try dsimp only at hSy); go_simp; try (with_reducible rfl))
  simp only [Act.put, List.getElem_toArray, List.getElem_cons_zero, List.getElem_cons_succ, List.setIfInBounds_toArray, List.set_cons_zero, List.set_cons_succ]
  refine wpAnyN_take (i := 14) (v := ?v19) rfl (by kernel_rfl) (by kernel_rfl) (by kernel_rfl) (by kernel_rfl) (fun _ _ _ h => h) (by rfl) ?hy19 hS ?rest19
  case hy19 => (intro wy hSy; (try dsimp only at hSy); go_simp; try (with_reducible rfl))
  simp only [Act.put, List.getElem_toArray, List.getElem_cons_zero, List.getElem_cons_succ, List.setIfInBounds_toArray, List.set_cons_zero, List.set_cons_succ]
  refine wpAnyN_take (i := 15) (v := ?v20) rfl (by kernel_rfl) (by kernel_rfl) (by kernel_rfl) (by kernel_rfl) (fun _ _ _ h => h) (by rfl) ?hy20 hS ?rest20
  case hy20 => (intro wy hSy; (try dsimp only at hSy); go_simp; try (with_reducible rfl))
  simp only [Act.put, List.getElem_toArray, List.getElem_cons_zero, List.getElem_cons_succ, List.setIfInBounds_toArray, List.set_cons_zero, List.set_cons_succ]
  refine wpAnyN_take (i := 16) (v := ?v21) rfl (by kernel_rfl) (by kernel_rfl) (by kernel_rfl) (by kernel_rfl) (fun _ _ _ h => h) (by rfl) ?hy21 hS ?rest21
  case hy21 => (intro wy hSy; (try dsimp only at hSy); go_simp; try (with_reducible rfl))
  simp only [Act.put, List.getElem_toArray, List.getElem_cons_zero, List.getElem_cons_succ, List.setIfInBounds_toArray, List.set_cons_zero, List.set_cons_succ]
  have hwr : IntKind.i64.wrap ((LK : Int) - 1) = (LK : Int) - 1 := by rw [IntKind.wrap_i64]; omega
  by_cases h6 : -1 ≤ pc ∧ pc < (LK : Int)
  rotate_left
  · have HF : Aside (RES = false) := by
      show RES = false
      rw [HR.out]
      refine Bool.eq_false_iff.2 (fun h => ?_)
      obtain ⟨q1, q2, q3, q4, q5, q6, q7, q8⟩ := acMay_true.1 h
      simp only at q1 q2 q3 q4 q5 q6 q7 q8
      have := HLK.out; simp only [Int.toNat_natCast] at q3; rw [← this] at q3; exact h6 q3
    have f6 : (decide (-1 ≤ pc) && decide (pc ≤ (LK : Int) - 1)) = false := by
      rw [Bool.eq_false_iff]; intro hc; simp only [Bool.and_eq_true, decide_eq_true_eq] at hc; omega
    refine wpAnyN_one (i := 17) (by kernel_rfl) rfl (fun K hK => ?_)
    simp only [List.getElem_toArray, List.getElem_cons_zero, List.getElem_cons_succ]
    go_simp
    refine (cin_any pc (-1) ((LK : Int) - 1) _).mono ?_
    rintro e w' ⟨rfl, hw'⟩
    replace hw' := hw'.symm
    subst hw'
    rw [f6]
    refine hK.out _ _ (fun _ => hSof _ hB2) ?_
    clear hK
    replace hS := hSof _ hB2
    try simp only [Act.put, List.getElem_toArray, List.getElem_cons_zero, List.getElem_cons_succ, List.setIfInBounds_toArray, List.set_cons_zero, List.set_cons_succ]
    refine wpAnyN_take (i := 18) (v := ?v22) rfl (by kernel_rfl) (by kernel_rfl) (by kernel_rfl) (by kernel_rfl) (fun _ _ _ h => h) (by rfl) ?hy22 hS ?rest22
    case hy22 => (intro wy hSy; (try dsimp only at hSy); go_simp; try (with_reducible rfl))
    simp only [Act.put, List.getElem_toArray, List.getElem_cons_zero, List.getElem_cons_succ, List.setIfInBounds_toArray, List.set_cons_zero, List.set_cons_succ]
    refine wpAnyN_one (i := 19) (by kernel_rfl) rfl (fun K hK => ?_)
    simp only [List.getElem_toArray, List.getElem_cons_zero, List.getElem_cons_succ]
    go_simp
    refine hK.out _ _ (fun h => absurd h (by decide)) ?_
    clear hK
    refine wpAnyN_done (by kernel_rfl) ?_ _
    refine NoPanic.normal ?_
    try simp only [Act.put, List.getElem_toArray, List.getElem_cons_zero, List.getElem_cons_succ, List.setIfInBounds_toArray, List.set_cons_zero, List.set_cons_succ]
    go_wp2
    go_ret
    exact ⟨ret_bool HF.out.symm, b3⟩
  have f6 : (decide (-1 ≤ pc) && decide (pc ≤ (LK : Int) - 1)) = true := by simp only [Bool.and_eq_true, decide_eq_true_eq]; omega
  refine wpAnyN_one (i := 17) (by kernel_rfl) rfl (fun K hK => ?_)
  simp only [List.getElem_toArray, List.getElem_cons_zero, List.getElem_cons_succ]
  go_simp
  refine (cin_any pc (-1) ((LK : Int) - 1) _).mono ?_
  rintro e w' ⟨rfl, hw'⟩
  replace hw' := hw'.symm
  subst hw'
  rw [f6]
  refine hK.out _ _ (fun _ => hSof _ hB2) ?_
  clear hK
  replace hS := hSof _ hB2
  try simp only [Act.put, List.getElem_toArray, List.getElem_cons_zero, List.getElem_cons_succ, List.setIfInBounds_toArray, List.set_cons_zero, List.set_cons_succ]
  refine wpAnyN_take (i := 18) (v := ?v23) rfl (by kernel_rfl) (by kernel_rfl) (by kernel_rfl) (by kernel_rfl) (fun _ _ _ h => h) (by rfl) ?hy23 hS ?rest23
  case hy23 => (intro wy hSy; (try dsimp only at hSy); go_simp; try (with_reducible rfl))
  simp only [Act.put, List.getElem_toArray, List.getElem_cons_zero, List.getElem_cons_succ, List.setIfInBounds_toArray, List.set_cons_zero, List.set_cons_succ]
  refine wpAnyN_one (i := 19) (by kernel_rfl) rfl (fun K hK => ?_)
  simp only [List.getElem_toArray, List.getElem_cons_zero, List.getElem_cons_succ]
  go_simp
  refine hK.out _ _ (fun h => absurd h (by decide)) ?_
  clear hK
  refine wpAnyN_done (by kernel_rfl) ?_ _
  refine NoPanic.normal ?_
  try simp only [Act.put, List.getElem_toArray, List.getElem_cons_zero, List.getElem_cons_succ, List.setIfInBounds_toArray, List.set_cons_zero, List.set_cons_succ]
  have HQ2 : Aside (-1 ≤ pc ∧ pc < (LK : Int)) := h6
  clear h6 f6 hS hSof k3 a0 a1 a2 a4 p0 hca
  go_wp2_with fail
  have h10c : (XL : Int) ≤ 6 := by omega
  go_loopg [7] XL (fun g s7 wr => ∃ i : Nat, i ≤ XL ∧ g = XL - i ∧ s7 = .int .i64 i ∧ wr = wc2 ∧ noObj box = noObj (box.drop i))
  case atStart => exact ⟨0, Nat.zero_le _, rfl, rfl, rfl, by simp⟩
  case round =>
    obtain ⟨i, hi, rfl, rfl, hwr, hno⟩ := hrel
    replace hwr := hwr.symm
    subst hwr
    have HNO : Aside (noObj box = noObj (box.drop i)) := hno
    clear hno
    by_cases hiX : i < XL
    · have hiz : (i : Int) < (XL : Int) := by omega
      obtain ⟨⟨vk, vn⟩, hv⟩ := at_some (l := box) (i := i) (by rw [← HL.out.2.2]; exact hiX)
      have HD : Aside (noObj (box.drop i) = ((vk != 2) || noObj (box.drop (i + 1)))) := by
        show noObj (box.drop i) = _
        obtain ⟨hlt, e⟩ := List.getElem?_eq_some_iff.1 hv
        rw [List.drop_eq_getElem_cons hlt, e]
        rfl
      obtain ⟨vb, vo, rfl, t1, t2⟩ := hb3 i _ hv
      simp only at t1 t2
      clear hv
      by_cases hk : vk = 2
      · subst hk
        go_wp2_with fail
        go_roundg (XL - (i + 1))
        case measure => go_light; omega
        case rel => go_light; exact ⟨i + 1, by omega, rfl, by go_num, rfl, by rw [HNO.out, HD.out]; rfl⟩
      · have hkb : (vk != 2) = true := by simp [hk]
        have HF : Aside (RES = false) := by
          show RES = false
          rw [HR.out]
          refine Bool.eq_false_iff.2 (fun h => ?_)
          have := (acMay_true.1 h).2.2.2.2.2.1
          simp only at this
          rw [HNO.out, HD.out, hkb] at this
          cases this
        go_wp2
        go_ret
        exact ⟨ret_bool HF.out.symm, b3⟩
    · have HN : Aside (noObj box = false) := by
        show noObj box = false
        rw [HNO.out, List.drop_eq_nil_of_le (by rw [← HL.out.2.2]; omega)]
        rfl
      have HA : Aside ((fin = 0 ∨ (XL = 0 ∧ OL = 0 ∧ pc = -1)) → RES = true) := fun h => by
        rw [HR.out]
        refine acMay_true.2 ⟨⟨by simp, by simpa using hkG⟩, HQ.out.1, ⟨HQ2.out.1, by simp only [Int.toNat_natCast]; rw [← HLK.out]; exact HQ2.out.2⟩, HQ.out.2, ⟨HL.out.2.1.symm, by simp only; rw [← HL.out.2.2]; omega⟩, HN.out, HM.out, ?_⟩
        simp only
        rw [← HL.out.2.2, ← HL.out.1]
        exact h
      have HB : Aside (¬ (fin = 0 ∨ (XL = 0 ∧ OL = 0 ∧ pc = -1)) → RES = false) := fun h => by
        rw [HR.out]
        refine Bool.eq_false_iff.2 (fun h' => h ?_)
        have := (acMay_true.1 h').2.2.2.2.2.2.2
        simp only at this
        rw [← HL.out.2.2, ← HL.out.1] at this
        exact this
      clear HR HNO
      by_cases h13 : fin = 0
      · have HT : Aside (RES = true) := HA.out (Or.inl h13)
        subst h13
        go_wp2
        go_ret
        exact ⟨ret_bool HT.out.symm, b3⟩
      · have h13b : (fin != 0) = true := by simp [h13]
        by_cases g1 : XL = 0
        · by_cases g2 : OL = 0
          · by_cases g3 : pc = -1
            · have HT : Aside (RES = true) := HA.out (Or.inr ⟨g1, g2, g3⟩)
              subst g1 g2 g3
              go_wp2
              go_ret
              exact ⟨ret_bool HT.out.symm, b3⟩
            · have HT : Aside (RES = false) := HB.out (fun h => h.elim h13 (fun h => g3 h.2.2))
              have g3b : (pc == -1) = false := by simp [g3]
              subst g1 g2
              go_wp2
              go_ret
              exact ⟨ret_bool HT.out.symm, b3⟩
          · have HT : Aside (RES = false) := HB.out (fun h => h.elim h13 (fun h => g2 h.2.1))
            have g2b : ((OL : Int) == 0) = false := by simp [g2]
            subst g1
            go_wp2
            go_ret
            exact ⟨ret_bool HT.out.symm, b3⟩
        · have HT : Aside (RES = false) := HB.out (fun h => h.elim h13 (fun h => g1 h.1))
          have g1b : ((XL : Int) == 0) = false := by simp [g1]
          go_wp2
          go_ret
          exact ⟨ret_bool HT.out.symm, b3⟩

end Go.Proofs.YtahcgnmhhgcfmaaDoor
