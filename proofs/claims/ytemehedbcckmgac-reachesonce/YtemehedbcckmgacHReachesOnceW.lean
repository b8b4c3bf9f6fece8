/- The walk of the law ReachesOnce. -/
import Derived.Test.YtemehedbcckmgacHRaw
import Derived.Test.YtemehedbcckmgacHPureC
import Derived.Test.YtemehedbcckmgacHHas
import Derived.WalkKit
import Derived.WalkSpells
import Derived.WalkLawsBesides
import Derived.Deep.LoopGhost
import Derived.Deep.Light
import Derived.Deep.QuietTactic
import Derived.BigQuiet
import Derived.Test.YtemehedbcckmgacHHeld
namespace Go.Proofs.Ytemehedbcckmgac
open Go.RowKit

theorem IntsOwn.room {w : World} {base : Nat} {ao : Option Addr} {n c : Nat} {l : List Int} (h : IntsOwn w base (.slice ao n c) l) (hn : 0 < l.length) : ∃ g, ao = some ⟨g, 0, none⟩ ∧ l.length ≤ c := by
  rcases h.2 with ⟨_, h0⟩ | ⟨g, cap, cur, hv, _, _, hle, _⟩
  · omega
  · simp only [Value.slice.injEq] at hv
    exact ⟨g, hv.1, by omega⟩

theorem IntsAt.take {w : World} {ao : Option Addr} {l : List Int} (h : IntsAt w ao l) (k : Nat) : IntsAt w ao (l.take k) := fun i z hi => by
  rw [List.getElem?_take] at hi
  split at hi
  · exact h i z hi
  · cases hi

set_option maxHeartbeats 1000000 in
theorem heapTells_any (w : World) :
    Calls Try.prog 22 #[] w fun e w' => e = .returned (.bool true) ∧ Below w.heap.size w w' := by
  go_enter Try.func22, Try.ntmps22
  go_wp2_with fail
  have hn := new_any 10 w
  have hnS : newS 10 = (10, 0) := by decide
  rw [hnS] at hn
  refine hn.mono ?_
  rintro e w1 ⟨rfl, hb⟩
  have hal := fun wy => alloc_any 10 none 0 [] 1 wy ⟨fun i x hi => by simp at hi, by simp⟩
  have hA : allocS 10 [] 1 = ⟨10, [⟨zeroVals 1, false⟩], 2, 0, 0⟩ := by rfl
  simp only [hA] at hal
  clear hn hA
  have b1 := hb.alloc hb.size (Obj.cells #[.int .i64 10, .slice none 0 0] 24)
  go_wp2_with (go_at_call 43; refine (hal _).mono ?_; rintro e w2 ⟨va, vc, rfl, hb2, rows, hr, hO⟩; replace b1 := b1.trans (hb2.mono b1.size); clear hal hO hr)
  go_ret
  first
    | exact ⟨rfl, b1⟩
    | exact ⟨rfl, b1.alloc b1.size _⟩
    | exact ⟨rfl, (b1.alloc b1.size _).alloc (by have := b1.size; simp; omega) _⟩

set_option maxRecDepth 100000 in
set_option maxHeartbeats 1600000 in
theorem reachesOnce_walk (ra : Option Addr) (rc : Nat) (l : List Rw) (a b : Int) (w : World) (h : RawsAt w ra l) (ha : -9223372036854775808 ≤ a ∧ a ≤ 9223372036854775807) (hb : -9223372036854775808 ≤ b ∧ b ≤ 9223372036854775807) :
    Calls Try.prog 7 #[.slice ra l.length rc, .int .i64 a, .int .i64 b] w fun e w' => e = .returned (.bool true) ∧ Below w.heap.size w w' := by
  go_enter Try.func7, Try.ntmps7
  go_wp2_with fail
  refine (heapTells_any w).mono ?_
  rintro e w0 ⟨rfl, b0⟩
  go_wp2_with fail
  refine (heapOf_any ra rc l 40 w0 (h.keeps (Keeps.below b0)) (by omega) (by omega)).mono ?_
  rintro e w1 ⟨oa, n, oc, aa, ac, rfl, b1, hv, obs, hlen, hob, hgood⟩
  clear h
  replace b1 := b0.trans (b1.mono b0.size)
  have hn40 : n ≤ 40 := by have := (hMay_parts.1 hgood.1).1; rw [hlen] at this; omega
  by_cases hn0 : n = 0
  · subst hn0
    go_wp2
    go_ret
    first
      | exact ⟨rfl, b1⟩
      | exact ⟨rfl, b1.alloc b1.size _⟩
  · have hnz : ((n : Int) == 0) = false := by simp; omega
    have pa := pick_bd (n := a) (many := n) (by omega)
    have pb := pick_bd (n := b) (many := n) (by omega)
    obtain ⟨jA, hjA⟩ : ∃ j : Nat, pick a n = j := ⟨(pick a n).toNat, by omega⟩
    obtain ⟨jB, hjB⟩ : ∃ j : Nat, pick b n = j := ⟨(pick b n).toNat, by omega⟩
    rw [hjA] at pa
    rw [hjB] at pb
    obtain ⟨gb, go, rfl, hvA1, hvA2⟩ := hv jA _ (allVals_get (by omega))
    obtain ⟨gb', go', hgg, hvB1, hvB2⟩ := hv jB _ (allVals_get (by omega))
    simp only [Option.some.injEq, Addr.mk.injEq, and_true] at hgg
    obtain ⟨rfl, rfl⟩ := hgg
    simp only at hvA1 hvA2 hvB1 hvB2
    go_wp2_with fail
    have k2 := Keeps.alloc w1 (Obj.cells #[.int .i64 40, .slice oa n oc] 24)
    replace hvA1 := k2 _ _ hvA1
    replace hvA2 := k2 _ _ hvA2
    replace hvB1 := k2 _ _ hvB1
    replace hvB2 := k2 _ _ hvB2
    replace hob := hob.keeps k2
    have N0 := Deep.blk_alloc_new w1 (Obj.cells #[.int .i64 40, .slice oa n oc] 24)
    have b2 := b1.trans ((below_box w1 (Obj.cells #[.int .i64 40, .slice oa n oc] 24)).mono b1.size)
    have hs2 : (w1.alloc (Obj.cells #[.int .i64 40, .slice oa n oc] 24)).heap.size = w1.heap.size + 1 := by simp
    generalize w1.alloc (Obj.cells #[.int .i64 40, .slice oa n oc] 24) = W2 at *
    generalize w1.heap.size = P at *
    clear k2 hv b1
    clear w1
    refine wp_region_need (fun j => j != 15 && j != 16) (fun wy => wy.cell? ⟨gb, go + jA * 2, none⟩ = some (.int .i64 2) ∧ wy.cell? ⟨gb, go + jA * 2 + 1, none⟩ = some (.int .i64 (jA : Int)) ∧ wy.cell? ⟨gb, go + jB * 2, none⟩ = some (.int .i64 2) ∧ wy.cell? ⟨gb, go + jB * 2 + 1, none⟩ = some (.int .i64 (jB : Int))) (by kernel_rfl) ⟨hvA1, hvA2, hvB1, hvB2⟩ (fun hS => ?_)
    refine wpAnyN_take (i := 0) (v := ?v1) rfl (by kernel_rfl) (by kernel_rfl) (by kernel_rfl) (by kernel_rfl) (fun _ _ _ h => h) (by rfl) ?hy1 hS ?rest1
    case hy1 => (intro wy hSy; (try dsimp only at hSy); go_simp; try (with_reducible rfl))
    simp only [Act.put, List.getElem_toArray, List.getElem_cons_zero, List.setIfInBounds_toArray, List.set_cons_zero, List.set_cons_succ]
    refine wpAnyN_take (i := 1) (v := ?v2) rfl (by kernel_rfl) (by kernel_rfl) (by kernel_rfl) (by kernel_rfl) (fun _ _ _ h => h) (by rfl) ?hy2 hS ?rest2
    case hy2 => (intro wy hSy; (try dsimp only at hSy); go_simp; try (with_reducible rfl))
    simp only [Act.put, List.getElem_toArray, List.getElem_cons_zero, List.getElem_cons_succ, List.setIfInBounds_toArray, List.set_cons_zero, List.set_cons_succ]
    refine wpAnyN_take (i := 2) (v := ?v3) rfl (by kernel_rfl) (by kernel_rfl) (by kernel_rfl) (by kernel_rfl) (fun _ _ _ h => h) (by rfl) ?hy3 hS ?rest3
    case hy3 => (intro wy hSy; (try dsimp only at hSy); go_simp; try (with_reducible rfl))
    simp only [Act.put, List.getElem_toArray, List.getElem_cons_zero, List.getElem_cons_succ, List.setIfInBounds_toArray, List.set_cons_zero, List.set_cons_succ]
    refine wpAnyN_take (i := 3) (v := ?v4) rfl (by kernel_rfl) (by kernel_rfl) (by kernel_rfl) (by kernel_rfl) (fun _ _ _ h => h) (by rfl) ?hy4 hS ?rest4
    case hy4 => (intro wy hSy; (try dsimp only at hSy); go_simp; try (with_reducible rfl))
    simp only [Act.put, List.getElem_toArray, List.getElem_cons_zero, List.getElem_cons_succ, List.setIfInBounds_toArray, List.set_cons_zero, List.set_cons_succ]
    refine wpAnyN_take (i := 7) (v := ?v5) rfl (by kernel_rfl) (by kernel_rfl) (by kernel_rfl) (by kernel_rfl) (fun _ _ _ h => h) (by rfl) ?hy5 hS ?rest5
    case hy5 => (intro wy hSy; (try dsimp only at hSy); go_simp; try (with_reducible rfl))
    simp only [Act.put, List.getElem_toArray, List.getElem_cons_zero, List.getElem_cons_succ, List.setIfInBounds_toArray, List.set_cons_zero, List.set_cons_succ]
    refine wpAnyN_take (i := 8) (v := ?v6) rfl (by kernel_rfl) (by kernel_rfl) (by kernel_rfl) (by kernel_rfl) (fun _ _ _ h => h) (by rfl) ?hy6 hS ?rest6
    case hy6 => (intro wy hSy; (try dsimp only at hSy); go_simp; try (with_reducible rfl))
    simp only [Act.put, List.getElem_toArray, List.getElem_cons_zero, List.getElem_cons_succ, List.setIfInBounds_toArray, List.set_cons_zero, List.set_cons_succ]
    refine wpAnyN_take (i := 9) (v := ?v7) rfl (by kernel_rfl) (by kernel_rfl) (by kernel_rfl) (by kernel_rfl) (fun _ _ _ h => h) (by rfl) ?hy7 hS ?rest7
    case hy7 => (intro wy hSy; (try dsimp only at hSy); go_simp; try (with_reducible rfl))
    simp only [Act.put, List.getElem_toArray, List.getElem_cons_zero, List.getElem_cons_succ, List.setIfInBounds_toArray, List.set_cons_zero, List.set_cons_succ]
    refine wpAnyN_take (i := 10) (v := ?v8) rfl (by kernel_rfl) (by kernel_rfl) (by kernel_rfl) (by kernel_rfl) (fun _ _ _ h => h) (by rfl) ?hy8 hS ?rest8
    case hy8 => (intro wy hSy; (try dsimp only at hSy); go_simp; try (with_reducible rfl))
    simp only [Act.put, List.getElem_toArray, List.getElem_cons_zero, List.getElem_cons_succ, List.setIfInBounds_toArray, List.set_cons_zero, List.set_cons_succ]
    refine wpAnyN_take (i := 11) (v := ?v9) rfl (by kernel_rfl) (by kernel_rfl) (by kernel_rfl) (by kernel_rfl) (fun _ _ _ h => h) (by rfl) ?hy9 hS ?rest9
    case hy9 => (intro wy hSy; (try dsimp only at hSy); go_simp; try (with_reducible rfl))
    simp only [Act.put, List.getElem_toArray, List.getElem_cons_zero, List.getElem_cons_succ, List.setIfInBounds_toArray, List.set_cons_zero, List.set_cons_succ]
    refine wpAnyN_one (i := 4) (by kernel_rfl) rfl (fun K hK => ?_)
    simp only [List.getElem_toArray, List.getElem_cons_zero, List.getElem_cons_succ]
    go_simp
    refine (picked_any a n _ ha.1 ha.2 (by omega) (by omega)).mono ?_
    rintro e wz ⟨rfl, rfl⟩
    rw [hjA]
    refine hK.out _ _ (fun _ => hS) ?_
    clear hK
    refine wpAnyN_take (i := 5) (v := ?v10) rfl (by kernel_rfl) (by kernel_rfl) (by kernel_rfl) (by kernel_rfl) (fun _ _ _ h => h) (by rfl) ?hy10 hS ?rest10
    case hy10 => (intro wy hSy; (try dsimp only at hSy); go_simp; try (with_reducible rfl))
    simp only [Act.put, List.getElem_toArray, List.getElem_cons_zero, List.getElem_cons_succ, List.setIfInBounds_toArray, List.set_cons_zero, List.set_cons_succ]
    refine wpAnyN_take (i := 6) (v := ?v11) rfl (by kernel_rfl) (by kernel_rfl) (by kernel_rfl) (by kernel_rfl) (fun _ _ _ h => h) (by rfl) ?hy11 hS ?rest11
    case hy11 => (intro wy hSy; (try dsimp only at hSy); go_simp; try (with_reducible rfl))
    simp only [Act.put, List.getElem_toArray, List.getElem_cons_zero, List.getElem_cons_succ, List.setIfInBounds_toArray, List.set_cons_zero, List.set_cons_succ]
    refine wpAnyN_one (i := 12) (by kernel_rfl) rfl (fun K hK => ?_)
    simp only [List.getElem_toArray, List.getElem_cons_zero, List.getElem_cons_succ]
    go_simp
    refine (picked_any b n _ hb.1 hb.2 (by omega) (by omega)).mono ?_
    rintro e wz ⟨rfl, rfl⟩
    rw [hjB]
    refine hK.out _ _ (fun _ => hS) ?_
    clear hK
    refine wpAnyN_take (i := 13) (v := ?v12) rfl (by kernel_rfl) (by kernel_rfl) (by kernel_rfl) (by kernel_rfl) (fun _ _ _ h => h) (by rfl) ?hy12 hS ?rest12
    case hy12 => (intro wy hSy; (try dsimp only at hSy); go_simp; try (with_reducible rfl))
    simp only [Act.put, List.getElem_toArray, List.getElem_cons_zero, List.getElem_cons_succ, List.setIfInBounds_toArray, List.set_cons_zero, List.set_cons_succ]
    refine wpAnyN_take (i := 14) (v := ?v13) rfl (by kernel_rfl) (by kernel_rfl) (by kernel_rfl) (by kernel_rfl) (fun _ _ _ h => h) (by rfl) ?hy13 hS ?rest13
    case hy13 => (intro wy hSy; (try dsimp only at hSy); go_simp; try (with_reducible rfl))
    simp only [Act.put, List.getElem_toArray, List.getElem_cons_zero, List.getElem_cons_succ, List.setIfInBounds_toArray, List.set_cons_zero, List.set_cons_succ]
    refine wpAnyN_one (i := 15) (by kernel_rfl) rfl (fun K hK => ?_)
    simp only [List.getElem_toArray, List.getElem_cons_zero, List.getElem_cons_succ]
    go_simp
    refine hK.out _ _ (fun h => absurd h (by decide)) ?_
    clear hK
    refine wpAnyN_one (i := 16) (by kernel_rfl) rfl (fun K hK => ?_)
    simp only [List.getElem_toArray, List.getElem_cons_zero, List.getElem_cons_succ]
    go_simp
    refine hK.out _ _ (fun h => absurd h (by decide)) ?_
    clear hK
    refine wpAnyN_done (by kernel_rfl) ?_ _
    refine NoPanic.normal ?_
    have NR := Deep.blk_alloc_new W2 (Obj.cells #[.int .i64 2, .int .i64 (jA : Int), .int .i64 1, .int .i64 5, .int .i64 2, .int .i64 (jB : Int)] 34)
    rw [hs2] at NR
    have bW : Below W2.heap.size W2 (W2.alloc (Obj.cells #[.int .i64 2, .int .i64 (jA : Int), .int .i64 1, .int .i64 5, .int .i64 2, .int .i64 (jB : Int)] 34)).drew := (below_box W2 _).drew
    replace NR : (W2.alloc (Obj.cells #[.int .i64 2, .int .i64 (jA : Int), .int .i64 1, .int .i64 5, .int .i64 2, .int .i64 (jB : Int)] 34)).drew.heap[P + 1]? = _ := NR
    generalize (W2.alloc (Obj.cells #[.int .i64 2, .int .i64 (jA : Int), .int .i64 1, .int .i64 5, .int .i64 2, .int .i64 (jB : Int)] 34)).drew = W3 at *
    replace hob := hob.keeps (Keeps.below bW)
    replace N0 := (bW.block P (by omega)).trans N0
    replace b2 := b2.trans (bW.mono b2.size)
    clear bW hvA1 hvA2 hvB1 hvB2 hs2 hS
    clear W2
    obtain ⟨roots, hro⟩ : ∃ roots : List Vl, roots = [⟨2, (jA : Int)⟩, ⟨1, 5⟩, ⟨2, (jB : Int)⟩] := ⟨_, rfl⟩
    have hrl : roots.length = 3 := by rw [hro]; rfl
    have hrv : ValsAt W3 (some ⟨P + 1, 0, none⟩) roots := by
      rw [hro]
      intro i v hi
      match i, hi with
      | 0, hi => simp at hi; subst hi; exact ⟨P + 1, 0, rfl, by simp [World.cell?, NR], by simp [World.cell?, NR]⟩
      | 1, hi => simp at hi; subst hi; exact ⟨P + 1, 0, rfl, by simp [World.cell?, NR], by simp [World.cell?, NR]⟩
      | 2, hi => simp at hi; subst hi; exact ⟨P + 1, 0, rfl, by simp [World.cell?, NR], by simp [World.cell?, NR]⟩
      | i + 3, hi => simp at hi
    have hrm : ∀ v ∈ roots, vMay obs.length v = true := by
      rw [hro]
      intro v hv
      simp at hv
      rcases hv with rfl | rfl | rfl <;> simp [vMay] <;> omega
    have hmy : hMay 40 obs roots = true := hMay_parts.2 ⟨(hMay_parts.1 hgood.1).1, (hMay_parts.1 hgood.1).2.1, hrm⟩
    have hra := reach_any 40 oa oc obs (some ⟨P + 1, 0, none⟩) 3 roots W3 hob hrv (by omega)
    have hrS : reachS 40 obs roots = (reach obs roots, 0) := by simp [reachS, hmy]
    rw [hrS, hrl, hlen] at hra
    have hok := reach_ok hmy roots (List.all_eq_true.2 hrm)
    have hcl : ∀ p ∈ reach obs roots, ∀ v ∈ fieldsOf obs p, v.k = 2 → v.n ∈ reach obs roots := fun p hp v hv hk => reach_closed hmy (List.all_eq_true.2 hrm) hp hv hk
    have hr0 : (reach obs roots)[0]? = some (jA : Int) := by rw [hro]; exact reach_first rfl
    have hr2 : (jB : Int) ∈ reach obs roots := reach_root (v := ⟨2, (jB : Int)⟩) (by rw [hro]; simp) rfl
    generalize reach obs roots = r at *
    obtain ⟨R, hR⟩ : ∃ R, R = r.length := ⟨_, rfl⟩
    have HRL : Aside (R = r.length) := hR
    have hR40 : R ≤ 40 := by have := hok.len; omega
    simp only at hra
    rw [← hR] at hra
    clear hR hrS hmy hrm hrv hro hrl
    have q0 : W3.cell? ⟨P, 0, none⟩ = some (.int .i64 40) := by simp [World.cell?, N0]
    have q1 : W3.cell? ⟨P, 1, none⟩ = some (.slice oa n oc) := by simp [World.cell?, N0]
    have q2 : W3.cell? ⟨P + 1, 1, none⟩ = some (.int .i64 (jA : Int)) := by simp [World.cell?, NR]
    have q3 : W3.cell? ⟨P + 1, 5, none⟩ = some (.int .i64 (jB : Int)) := by simp [World.cell?, NR]
    clear N0 NR
    go_wp2_with (go_at_call 23; refine hra.mono ?_; rintro e w4 ⟨ov, ovc, rfl, hb4, hI⟩; have k4 := Keeps.below hb4; replace q0 := k4 _ _ q0; replace q1 := k4 _ _ q1; replace q2 := k4 _ _ q2; replace q3 := k4 _ _ q3; replace hob := hob.keeps k4; replace b2 := b2.trans (hb4.mono b2.size); have hA := hI.at; have hroom := hI.room (by have := (List.getElem?_eq_some_iff.1 hr0).1; omega); clear k4 hb4 hI hra)
    obtain ⟨og, rfl, hroom⟩ := hroom
    rw [← HRL.out] at hroom
    go_loopg [50] R (fun g s50 wr => ∃ i : Nat, i ≤ R ∧ g = R - i ∧ s50 = .int .i64 i ∧ Below w4.heap.size w4 wr)
    case atStart => exact ⟨0, Nat.zero_le _, rfl, rfl, Below.refl _ _⟩
    case round =>
      obtain ⟨i, hi, rfl, rfl, hb5⟩ := hrel
      obtain ⟨W5, hW5⟩ : ∃ W5, W5 = wr := ⟨_, rfl⟩
      subst hW5
      have k5 := Keeps.below hb5
      by_cases hiR : i < R
      · have hiz : (i : Int) < (R : Int) := by omega
        obtain ⟨z, hz⟩ := at_some (l := r) (i := i) (by rw [← HRL.out]; exact hiR)
        have hzb := hok.2 z (List.mem_of_getElem? hz)
        obtain ⟨q, rfl⟩ := Int.eq_ofNat_of_zero_le hzb.1
        obtain ⟨ob, hq⟩ := at_some (l := obs) (i := q) (by omega)
        have hqn : (q : Int) < (n : Int) := by omega
        obtain ⟨bz, oz, hoz, cz⟩ := hA i _ hz
        simp only [Option.some.injEq, Addr.mk.injEq, and_true] at hoz
        obtain ⟨rfl, rfl⟩ := hoz
        replace cz := k5 _ _ cz
        rw [Nat.zero_add] at cz
        have hcn := contains_any (some ⟨og, 0, none⟩) ovc (r.take i) (q : Int) W5 ((hA.keeps k5).take i) (by simp; omega)
        have hni : decide ((q : Int) ∈ r.take i) = false := by
          simp only [decide_eq_false_iff_not]
          intro hm
          obtain ⟨j, hj⟩ := List.getElem?_of_mem hm
          have hjl := (List.getElem?_eq_some_iff.1 hj).1
          rw [List.length_take] at hjl
          rw [List.getElem?_take_of_lt (by omega)] at hj
          have := (List.getElem?_inj (i := j) (by rw [← HRL.out]; omega) hok.1).1 (hj.trans hz.symm)
          omega
        have htl : (r.take i).length = i := by rw [List.length_take, ← HRL.out]; omega
        rw [hni, htl] at hcn
        obtain ⟨bo, oo, fa, fc, hoa, f1, f2, f3, f4⟩ := (hob.keeps k5).cell q ob hq
        subst hoa
        have p1 := k5 _ _ q1
        obtain ⟨fs, hfs⟩ : ∃ fs, fs = ob.fs := ⟨_, rfl⟩
        have hcf : ∀ v ∈ fs, v.k = 2 → v.n ∈ r := fun v hv hk => hcl q (List.mem_of_getElem? hz) v (by simp only [fieldsOf, Int.toNat_natCast, hq]; rw [← hfs]; exact hv) hk
        rw [← hfs] at f1 f3 f4
        obtain ⟨F, hF⟩ : ∃ F, F = fs.length := ⟨_, rfl⟩
        have HF : Aside (F = fs.length) := hF
        rw [← hF] at f1 f4
        clear hF hfs hq hz hzb htl hni f2
        go_wp2_with (go_at_call 24; refine hcn.mono ?_; rintro e w' ⟨rfl, rfl⟩)
        have hA5 := hA.keeps k5
        clear cz p1 f1 hcn
        go_loopg [67] F (fun g s67 wr => ∃ j : Nat, j ≤ F ∧ g = F - j ∧ s67 = .int .i64 j ∧ Below W5.heap.size W5 wr)
        case atStart => exact ⟨0, Nat.zero_le _, rfl, rfl, Below.refl _ _⟩
        case round =>
          obtain ⟨j, hj, rfl, rfl, hb6⟩ := hrel
          by_cases hjF : j < F
          · have hjz : (j : Int) < (F : Int) := by omega
            obtain ⟨⟨vk, vn⟩, hvj⟩ := at_some (l := fs) (i := j) (by rw [← HF.out]; exact hjF)
            obtain ⟨bv, ov2, rfl, d1, d2⟩ := f3 j _ hvj
            replace d1 := Keeps.below hb6 _ _ d1
            replace d2 := Keeps.below hb6 _ _ d2
            simp only at d1 d2
            have hbx := hb6.trans ((below_box wr (Obj.cells #[.int .i64 vk, .int .i64 vn] 34)).mono hb6.size)
            by_cases hk2 : vk = 2
            · subst hk2
              have hcm := contains_any (some ⟨og, 0, none⟩) ovc r vn (wr.alloc (Obj.cells #[.int .i64 2, .int .i64 vn] 34)) (hA5.keeps (Keeps.below hbx)) (by rw [← HRL.out]; omega)
              have hin : decide (vn ∈ r) = true := by simpa using hcf ⟨2, vn⟩ (List.mem_of_getElem? hvj) rfl
              rw [hin, ← HRL.out] at hcm
              clear hvj
              go_wp2_with (go_at_call 24; refine hcm.mono ?_; rintro e w' ⟨rfl, rfl⟩)
              go_roundg (F - (j + 1))
              case measure => go_light; omega
              case rel => go_light; exact ⟨j + 1, by omega, rfl, by go_num, hbx⟩
            · have hkb : (vk == 2) = false := by simp [hk2]
              clear hvj
              go_wp2
              go_roundg (F - (j + 1))
              case measure => go_light; omega
              case rel => go_light; exact ⟨j + 1, by omega, rfl, by go_num, hbx⟩
          · have hjf : ¬ (j : Int) < (F : Int) := by omega
            have hb7 := hb5.trans (hb6.mono hb5.size)
            go_wp2
            go_roundg (R - (i + 1))
            case measure => go_light; omega
            case rel => go_light; exact ⟨i + 1, by omega, rfl, by go_num, hb7⟩
      · have hif : ¬ (i : Int) < (R : Int) := by omega
        have hR0 := (List.getElem?_eq_some_iff.1 hr0).1
        rw [← HRL.out] at hR0
        have hRz : (0 : Int) < (R : Int) := by omega
        obtain ⟨bz, oz, hoz, cz⟩ := hA 0 _ hr0
        simp only [Option.some.injEq, Addr.mk.injEq, and_true] at hoz
        obtain ⟨rfl, rfl⟩ := hoz
        replace cz := k5 _ _ cz
        replace q2 := k5 _ _ q2
        replace q3 := k5 _ _ q3
        simp only [Nat.add_zero] at cz
        have hin : decide ((jB : Int) ∈ r) = true := by simpa using hr2
        have hcm : ∀ m, Calls Try.prog 24 #[.slice (some ⟨og, 0, none⟩) R ovc, .int .i64 (jB : Int)] (W5.drewN m) fun e w' => e = .returned (.bool true) ∧ ∃ k, w' = (W5.drewN m).drewN k := fun m => by
          have := contains_any (some ⟨og, 0, none⟩) ovc r (jB : Int) (W5.drewN m) ((hA.keeps k5).keeps (Keeps.drewN _ _)) (by rw [← HRL.out]; omega)
          rw [hin, ← HRL.out] at this
          exact this.mono (fun e w' hq => ⟨hq.1, 0, hq.2.symm⟩)
        have hbe := b2.trans (hb5.mono b2.size)
        go_wp2_with fail
        go_quiet (first | (go_at_call 24; refine Calls.quiet_of (hcm _)))
        go_wp2
        go_ret
        exact ⟨rfl, below_drewN hbe _⟩

end Go.Proofs.Ytemehedbcckmgac
