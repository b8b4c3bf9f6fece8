/- The walk of the law CollectSame. -/
import Derived.Test.YtbifdcchdoflpacHRaw
import Derived.Test.YtbifdcchdoflpacHAgain
import Derived.Test.YtbifdcchdoflpacHCollect
import Derived.Test.YtbifdcchdoflpacHForm3
import Derived.Test.YtbifdcchdoflpacHEq
import Derived.Test.YtbifdcchdoflpacHHeld
import Derived.WalkKit
import Derived.WalkSpells
import Derived.WalkLawsBesides
import Derived.Deep.LoopGhost
import Derived.Deep.Light
import Derived.Deep.QuietTactic
import Derived.BigQuiet
namespace Go.Proofs.Ytbifdcchdoflpac
open Go.RowKit

set_option maxRecDepth 100000 in
set_option maxHeartbeats 1600000 in
theorem collectSame_walk (ra : Option Addr) (rc : Nat) (l : List Rw) (a b : Int) (w : World) (h : RawsAt w ra l) (ha : -9223372036854775808 ≤ a ∧ a ≤ 9223372036854775807) (hb : -9223372036854775808 ≤ b ∧ b ≤ 9223372036854775807) :
    Calls Try.prog 8 #[.slice ra l.length rc, .int .i64 a, .int .i64 b] w fun e w' => e = .returned (.bool true) ∧ Below w.heap.size w w' := by
  go_enter Try.func8, Try.ntmps8
  go_wp2_with fail
  refine (heapOf_any ra rc l 40 w h (by omega) (by omega)).mono ?_
  rintro e w1 ⟨oa, n, oc, aa, ac, rfl, b1, hv, obs, hlen, hob, hgood⟩
  clear h
  have hn40 : n ≤ 40 := by have := (hMay_parts.1 hgood.1).1; rw [hlen] at this; omega
  by_cases hn0 : n = 0
  · subst hn0
    go_wp2
    go_ret
    first
      | exact ⟨rfl, b1⟩
      | exact ⟨rfl, b1.alloc b1.size _⟩
  · have hnz : ((n : Int) == 0) = false := by simp; omega
    have pa := pick_bd (n := a) (many := n) (by omega)
    have pb := pick_bd (n := b) (many := n) (by omega)
    obtain ⟨jA, hjA⟩ : ∃ j : Nat, pick a n = j := ⟨(pick a n).toNat, by omega⟩
    obtain ⟨jB, hjB⟩ : ∃ j : Nat, pick b n = j := ⟨(pick b n).toNat, by omega⟩
    rw [hjA] at pa
    rw [hjB] at pb
    obtain ⟨gb, go, rfl, hvA1, hvA2⟩ := hv jA _ (allVals_get (by omega))
    obtain ⟨gb', go', hgg, hvB1, hvB2⟩ := hv jB _ (allVals_get (by omega))
    simp only [Option.some.injEq, Addr.mk.injEq, and_true] at hgg
    obtain ⟨rfl, rfl⟩ := hgg
    simp only at hvA1 hvA2 hvB1 hvB2
    go_wp2_with fail
    have k2 := Keeps.alloc w1 (Obj.cells #[.int .i64 40, .slice oa n oc] 24)
    replace hvA1 := k2 _ _ hvA1
    replace hvA2 := k2 _ _ hvA2
    replace hvB1 := k2 _ _ hvB1
    replace hvB2 := k2 _ _ hvB2
    replace hob := hob.keeps k2
    have N0 := Deep.blk_alloc_new w1 (Obj.cells #[.int .i64 40, .slice oa n oc] 24)
    have b2 := b1.trans ((below_box w1 (Obj.cells #[.int .i64 40, .slice oa n oc] 24)).mono b1.size)
    have hs2 : (w1.alloc (Obj.cells #[.int .i64 40, .slice oa n oc] 24)).heap.size = w1.heap.size + 1 := by simp
    generalize w1.alloc (Obj.cells #[.int .i64 40, .slice oa n oc] 24) = W2 at *
    generalize w1.heap.size = P at *
    clear k2 hv b1
    clear w1
    refine wp_region_need (fun j => j != 22 && j != 23) (fun wy => wy.cell? ⟨gb, go + jA * 2, none⟩ = some (.int .i64 2) ∧ wy.cell? ⟨gb, go + jA * 2 + 1, none⟩ = some (.int .i64 (jA : Int)) ∧ wy.cell? ⟨gb, go + jB * 2, none⟩ = some (.int .i64 2) ∧ wy.cell? ⟨gb, go + jB * 2 + 1, none⟩ = some (.int .i64 (jB : Int))) (by kernel_rfl) ⟨hvA1, hvA2, hvB1, hvB2⟩ (fun hS => ?_)
    refine wpAnyN_take (i := 0) (v := ?v1) rfl (by kernel_rfl) (by kernel_rfl) (by kernel_rfl) (by kernel_rfl) (fun _ _ _ h => h) (by rfl) ?hy1 hS ?rest1
    case hy1 => (intro wy hSy; (try dsimp only at hSy); go_simp; try (with_reducible rfl))
    simp only [Act.put, List.getElem_toArray, List.getElem_cons_zero, List.setIfInBounds_toArray, List.set_cons_zero, List.set_cons_succ]
    refine wpAnyN_take (i := 1) (v := ?v2) rfl (by kernel_rfl) (by kernel_rfl) (by kernel_rfl) (by kernel_rfl) (fun _ _ _ h => h) (by rfl) ?hy2 hS ?rest2
    case hy2 => (intro wy hSy; (try dsimp only at hSy); go_simp; try (with_reducible rfl))
    simp only [Act.put, List.getElem_toArray, List.getElem_cons_zero, List.getElem_cons_succ, List.setIfInBounds_toArray, List.set_cons_zero, List.set_cons_succ]
    refine wpAnyN_take (i := 2) (v := ?v3) rfl (by kernel_rfl) (by kernel_rfl) (by kernel_rfl) (by kernel_rfl) (fun _ _ _ h => h) (by rfl) ?hy3 hS ?rest3
    case hy3 => (intro wy hSy; (try dsimp only at hSy); go_simp; try (with_reducible rfl))
    simp only [Act.put, List.getElem_toArray, List.getElem_cons_zero, List.getElem_cons_succ, List.setIfInBounds_toArray, List.set_cons_zero, List.set_cons_succ]
    refine wpAnyN_take (i := 3) (v := ?v4) rfl (by kernel_rfl) (by kernel_rfl) (by kernel_rfl) (by kernel_rfl) (fun _ _ _ h => h) (by rfl) ?hy4 hS ?rest4
    case hy4 => (intro wy hSy; (try dsimp only at hSy); go_simp; try (with_reducible rfl))
    simp only [Act.put, List.getElem_toArray, List.getElem_cons_zero, List.getElem_cons_succ, List.setIfInBounds_toArray, List.set_cons_zero, List.set_cons_succ]
    refine wpAnyN_take (i := 7) (v := ?v5) rfl (by kernel_rfl) (by kernel_rfl) (by kernel_rfl) (by kernel_rfl) (fun _ _ _ h => h) (by rfl) ?hy5 hS ?rest5
    case hy5 => (intro wy hSy; (try dsimp only at hSy); go_simp; try (with_reducible rfl))
    simp only [Act.put, List.getElem_toArray, List.getElem_cons_zero, List.getElem_cons_succ, List.setIfInBounds_toArray, List.set_cons_zero, List.set_cons_succ]
    refine wpAnyN_take (i := 8) (v := ?v6) rfl (by kernel_rfl) (by kernel_rfl) (by kernel_rfl) (by kernel_rfl) (fun _ _ _ h => h) (by rfl) ?hy6 hS ?rest6
    case hy6 => (intro wy hSy; (try dsimp only at hSy); go_simp; try (with_reducible rfl))
    simp only [Act.put, List.getElem_toArray, List.getElem_cons_zero, List.getElem_cons_succ, List.setIfInBounds_toArray, List.set_cons_zero, List.set_cons_succ]
    refine wpAnyN_take (i := 9) (v := ?v7) rfl (by kernel_rfl) (by kernel_rfl) (by kernel_rfl) (by kernel_rfl) (fun _ _ _ h => h) (by rfl) ?hy7 hS ?rest7
    case hy7 => (intro wy hSy; (try dsimp only at hSy); go_simp; try (with_reducible rfl))
    simp only [Act.put, List.getElem_toArray, List.getElem_cons_zero, List.getElem_cons_succ, List.setIfInBounds_toArray, List.set_cons_zero, List.set_cons_succ]
    refine wpAnyN_take (i := 10) (v := ?v8) rfl (by kernel_rfl) (by kernel_rfl) (by kernel_rfl) (by kernel_rfl) (fun _ _ _ h => h) (by rfl) ?hy8 hS ?rest8
    case hy8 => (intro wy hSy; (try dsimp only at hSy); go_simp; try (with_reducible rfl))
    simp only [Act.put, List.getElem_toArray, List.getElem_cons_zero, List.getElem_cons_succ, List.setIfInBounds_toArray, List.set_cons_zero, List.set_cons_succ]
    refine wpAnyN_take (i := 11) (v := ?v9) rfl (by kernel_rfl) (by kernel_rfl) (by kernel_rfl) (by kernel_rfl) (fun _ _ _ h => h) (by rfl) ?hy9 hS ?rest9
    case hy9 => (intro wy hSy; (try dsimp only at hSy); go_simp; try (with_reducible rfl))
    simp only [Act.put, List.getElem_toArray, List.getElem_cons_zero, List.getElem_cons_succ, List.setIfInBounds_toArray, List.set_cons_zero, List.set_cons_succ]
    refine wpAnyN_take (i := 15) (v := ?v10) rfl (by kernel_rfl) (by kernel_rfl) (by kernel_rfl) (by kernel_rfl) (fun _ _ _ h => h) (by rfl) ?hy10 hS ?rest10
    case hy10 => (intro wy hSy; (try dsimp only at hSy); go_simp; try (with_reducible rfl))
    simp only [Act.put, List.getElem_toArray, List.getElem_cons_zero, List.getElem_cons_succ, List.setIfInBounds_toArray, List.set_cons_zero, List.set_cons_succ]
    refine wpAnyN_take (i := 16) (v := ?v11) rfl (by kernel_rfl) (by kernel_rfl) (by kernel_rfl) (by kernel_rfl) (fun _ _ _ h => h) (by rfl) ?hy11 hS ?rest11
    case hy11 => (intro wy hSy; (try dsimp only at hSy); go_simp; try (with_reducible rfl))
    simp only [Act.put, List.getElem_toArray, List.getElem_cons_zero, List.getElem_cons_succ, List.setIfInBounds_toArray, List.set_cons_zero, List.set_cons_succ]
    refine wpAnyN_take (i := 17) (v := ?v12) rfl (by kernel_rfl) (by kernel_rfl) (by kernel_rfl) (by kernel_rfl) (fun _ _ _ h => h) (by rfl) ?hy12 hS ?rest12
    case hy12 => (intro wy hSy; (try dsimp only at hSy); go_simp; try (with_reducible rfl))
    simp only [Act.put, List.getElem_toArray, List.getElem_cons_zero, List.getElem_cons_succ, List.setIfInBounds_toArray, List.set_cons_zero, List.set_cons_succ]
    refine wpAnyN_take (i := 18) (v := ?v13) rfl (by kernel_rfl) (by kernel_rfl) (by kernel_rfl) (by kernel_rfl) (fun _ _ _ h => h) (by rfl) ?hy13 hS ?rest13
    case hy13 => (intro wy hSy; (try dsimp only at hSy); go_simp; try (with_reducible rfl))
    simp only [Act.put, List.getElem_toArray, List.getElem_cons_zero, List.getElem_cons_succ, List.setIfInBounds_toArray, List.set_cons_zero, List.set_cons_succ]
    refine wpAnyN_one (i := 4) (by kernel_rfl) rfl (fun K hK => ?_)
    simp only [List.getElem_toArray, List.getElem_cons_zero, List.getElem_cons_succ]
    go_simp
    refine (picked_any a n _ ha.1 ha.2 (by omega) (by omega)).mono ?_
    rintro e wz ⟨rfl, rfl⟩
    rw [hjA]
    refine hK.out _ _ (fun _ => hS) ?_
    clear hK
    refine wpAnyN_take (i := 5) (v := ?v14) rfl (by kernel_rfl) (by kernel_rfl) (by kernel_rfl) (by kernel_rfl) (fun _ _ _ h => h) (by rfl) ?hy14 hS ?rest14
    case hy14 => (intro wy hSy; (try dsimp only at hSy); go_simp; try (with_reducible rfl))
    simp only [Act.put, List.getElem_toArray, List.getElem_cons_zero, List.getElem_cons_succ, List.setIfInBounds_toArray, List.set_cons_zero, List.set_cons_succ]
    refine wpAnyN_take (i := 6) (v := ?v15) rfl (by kernel_rfl) (by kernel_rfl) (by kernel_rfl) (by kernel_rfl) (fun _ _ _ h => h) (by rfl) ?hy15 hS ?rest15
    case hy15 => (intro wy hSy; (try dsimp only at hSy); go_simp; try (with_reducible rfl))
    simp only [Act.put, List.getElem_toArray, List.getElem_cons_zero, List.getElem_cons_succ, List.setIfInBounds_toArray, List.set_cons_zero, List.set_cons_succ]
    refine wpAnyN_one (i := 12) (by kernel_rfl) rfl (fun K hK => ?_)
    simp only [List.getElem_toArray, List.getElem_cons_zero, List.getElem_cons_succ]
    go_simp
    refine (picked_any b n _ hb.1 hb.2 (by omega) (by omega)).mono ?_
    rintro e wz ⟨rfl, rfl⟩
    rw [hjB]
    refine hK.out _ _ (fun _ => hS) ?_
    clear hK
    refine wpAnyN_take (i := 13) (v := ?v16) rfl (by kernel_rfl) (by kernel_rfl) (by kernel_rfl) (by kernel_rfl) (fun _ _ _ h => h) (by rfl) ?hy16 hS ?rest16
    case hy16 => (intro wy hSy; (try dsimp only at hSy); go_simp; try (with_reducible rfl))
    simp only [Act.put, List.getElem_toArray, List.getElem_cons_zero, List.getElem_cons_succ, List.setIfInBounds_toArray, List.set_cons_zero, List.set_cons_succ]
    refine wpAnyN_take (i := 14) (v := ?v17) rfl (by kernel_rfl) (by kernel_rfl) (by kernel_rfl) (by kernel_rfl) (fun _ _ _ h => h) (by rfl) ?hy17 hS ?rest17
    case hy17 => (intro wy hSy; (try dsimp only at hSy); go_simp; try (with_reducible rfl))
    simp only [Act.put, List.getElem_toArray, List.getElem_cons_zero, List.getElem_cons_succ, List.setIfInBounds_toArray, List.set_cons_zero, List.set_cons_succ]
    refine wpAnyN_one (i := 19) (by kernel_rfl) rfl (fun K hK => ?_)
    simp only [List.getElem_toArray, List.getElem_cons_zero, List.getElem_cons_succ]
    go_simp
    refine (picked_any a n _ ha.1 ha.2 (by omega) (by omega)).mono ?_
    rintro e wz ⟨rfl, rfl⟩
    rw [hjA]
    refine hK.out _ _ (fun _ => hS) ?_
    clear hK
    refine wpAnyN_take (i := 20) (v := ?v18) rfl (by kernel_rfl) (by kernel_rfl) (by kernel_rfl) (by kernel_rfl) (fun _ _ _ h => h) (by rfl) ?hy18 hS ?rest18
    case hy18 => (intro wy hSy; (try dsimp only at hSy); go_simp; try (with_reducible rfl))
    simp only [Act.put, List.getElem_toArray, List.getElem_cons_zero, List.getElem_cons_succ, List.setIfInBounds_toArray, List.set_cons_zero, List.set_cons_succ]
    refine wpAnyN_take (i := 21) (v := ?v19) rfl (by kernel_rfl) (by kernel_rfl) (by kernel_rfl) (by kernel_rfl) (fun _ _ _ h => h) (by rfl) ?hy19 hS ?rest19
    case hy19 => (intro wy hSy; (try dsimp only at hSy); go_simp; try (with_reducible rfl))
    simp only [Act.put, List.getElem_toArray, List.getElem_cons_zero, List.getElem_cons_succ, List.setIfInBounds_toArray, List.set_cons_zero, List.set_cons_succ]
    refine wpAnyN_one (i := 22) (by kernel_rfl) rfl (fun K hK => ?_)
    simp only [List.getElem_toArray, List.getElem_cons_zero, List.getElem_cons_succ]
    go_simp
    refine hK.out _ _ (fun h => absurd h (by decide)) ?_
    clear hK
    refine wpAnyN_one (i := 23) (by kernel_rfl) rfl (fun K hK => ?_)
    simp only [List.getElem_toArray, List.getElem_cons_zero, List.getElem_cons_succ]
    go_simp
    refine hK.out _ _ (fun h => absurd h (by decide)) ?_
    clear hK
    refine wpAnyN_done (by kernel_rfl) ?_ _
    refine NoPanic.normal ?_
    have NR := Deep.blk_alloc_new W2 (Obj.cells #[.int .i64 2, .int .i64 (jA : Int), .int .i64 0, .int .i64 0, .int .i64 2, .int .i64 (jB : Int), .int .i64 2, .int .i64 (jA : Int)] 34)
    rw [hs2] at NR
    have bW : Below W2.heap.size W2 (W2.alloc (Obj.cells #[.int .i64 2, .int .i64 (jA : Int), .int .i64 0, .int .i64 0, .int .i64 2, .int .i64 (jB : Int), .int .i64 2, .int .i64 (jA : Int)] 34)).drew := (below_box W2 _).drew
    replace NR : (W2.alloc (Obj.cells #[.int .i64 2, .int .i64 (jA : Int), .int .i64 0, .int .i64 0, .int .i64 2, .int .i64 (jB : Int), .int .i64 2, .int .i64 (jA : Int)] 34)).drew.heap[P + 1]? = _ := NR
    generalize (W2.alloc (Obj.cells #[.int .i64 2, .int .i64 (jA : Int), .int .i64 0, .int .i64 0, .int .i64 2, .int .i64 (jB : Int), .int .i64 2, .int .i64 (jA : Int)] 34)).drew = W3 at *
    replace hob := hob.keeps (Keeps.below bW)
    replace N0 := (bW.block P (by omega)).trans N0
    replace b2 := b2.trans (bW.mono b2.size)
    clear bW hvA1 hvA2 hvB1 hvB2 hs2 hS
    clear W2
    obtain ⟨roots, hro⟩ : ∃ roots : List Vl, roots = [⟨2, (jA : Int)⟩, ⟨0, 0⟩, ⟨2, (jB : Int)⟩, ⟨2, (jA : Int)⟩] := ⟨_, rfl⟩
    have hrl : roots.length = 4 := by rw [hro]; rfl
    have hrv : ValsAt W3 (some ⟨P + 1, 0, none⟩) roots := by
      rw [hro]
      intro i v hi
      match i, hi with
      | 0, hi => simp at hi; subst hi; exact ⟨P + 1, 0, rfl, by simp [World.cell?, NR], by simp [World.cell?, NR]⟩
      | 1, hi => simp at hi; subst hi; exact ⟨P + 1, 0, rfl, by simp [World.cell?, NR], by simp [World.cell?, NR]⟩
      | 2, hi => simp at hi; subst hi; exact ⟨P + 1, 0, rfl, by simp [World.cell?, NR], by simp [World.cell?, NR]⟩
      | 3, hi => simp at hi; subst hi; exact ⟨P + 1, 0, rfl, by simp [World.cell?, NR], by simp [World.cell?, NR]⟩
      | i + 4, hi => simp at hi
    have hrm : ∀ v ∈ roots, vMay obs.length v = true := by
      rw [hro]
      intro v hv
      simp at hv
      rcases hv with rfl | rfl | rfl | rfl <;> simp [vMay] <;> omega
    have hmy : hMay 40 obs roots = true := hMay_parts.2 ⟨(hMay_parts.1 hgood.1).1, (hMay_parts.1 hgood.1).2.1, hrm⟩
    have hok := reach_ok hmy roots (List.all_eq_true.2 hrm)
    have q0 : W3.cell? ⟨P, 0, none⟩ = some (.int .i64 40) := by simp [World.cell?, N0]
    have q1 : W3.cell? ⟨P, 1, none⟩ = some (.slice oa n oc) := by simp [World.cell?, N0]
    clear N0 NR hro hrm
    obtain ⟨g, s, hAg⟩ := again_of hmy
    obtain ⟨g', hsec, hg'⟩ := hAg.second
    have hgl := hAg.len
    have hsl := hAg.slen
    have hR40 : (reach obs roots).length ≤ 40 := by have := hok.len; omega
    have hra := reach_any 40 oa oc obs (some ⟨P + 1, 0, none⟩) 4 roots W3 hob hrv (by omega)
    have hrS : reachS 40 obs roots = (reach obs roots, 0) := by simp [reachS, hmy]
    have hCo := fun wy (hy : Keeps W3 wy) => collect_any 40 oa oc obs (some ⟨P + 1, 0, none⟩) 4 roots wy (hob.keeps hy) (hrv.keeps hy) (by omega)
    have hFo := fun wy (hy : Keeps W3 wy) => form_any 40 oa oc obs (some ⟨P + 1, 0, none⟩) 4 roots wy (hob.keeps hy) (hrv.keeps hy) (by omega) hmy
    have hCa := fun wy ga gc va vc (h1 : ObsAt wy ga g) (h2 : ValsAt wy va s) => collect_any 40 ga gc g va vc s wy h1 h2 (by omega)
    have hFa := fun wy ga gc va vc (h1 : ObsAt wy ga g) (h2 : ValsAt wy va s) => form_any 40 ga gc g va vc s wy h1 h2 (by omega) hAg.may
    have hCh := fun wy ga gc va vc (h1 : ObsAt wy ga g) (h2 : ValsAt wy va s) => check_any 40 ga gc g va vc s wy h1 h2 (by omega)
    have hfl : (form obs roots).length ≤ 1000000 := by
      have h1 := tellObs_length hmy (reach obs roots) (reach obs roots)
      rw [form, List.length_append, tells_length]
      omega
    obtain ⟨nr, hnr⟩ : ∃ nr, nr = (reach obs roots).length := ⟨_, rfl⟩
    simp only [hrS, hrl, hlen] at hra
    simp only [hAg.first, hrl, hlen, hgl, hsl] at hCo
    simp only [hrl, hlen] at hFo
    simp only [hsec, hg', hgl, hsl, hrl] at hCa
    simp only [hAg.form, hgl, hsl, hrl] at hFa
    simp only [hAg.may, erS_true, hgl, hsl, hrl] at hCh
    rw [← hnr] at hra hCa hFa hCh hgl hg' hR40
    rw [← hnr] at hCo
    have HSL : Aside (s.length = 4) := by show s.length = 4; omega
    obtain ⟨ff, hff⟩ : ∃ ff, ff = form obs roots := ⟨_, rfl⟩
    rw [← hff] at hFo hFa hfl
    have HG : Aside (g.length = nr) := hgl
    have HG' : Aside (g'.length = nr) := hg'
    clear hff hnr hrS hsec hAg hok hmy hgl hsl hg' hrl
    go_wp2_with fail
    refine hra.mono ?_
    rintro e w4 ⟨ov, ovc, rfl, hb4, hI⟩
    have k4 := Keeps.below hb4
    replace q0 := k4 _ _ q0
    replace q1 := k4 _ _ q1
    replace b2 := b2.trans (hb4.mono b2.size)
    clear hb4 hI hra
    go_wp2_with fail
    refine (hCo w4 k4).mono ?_
    rintro e w5 ⟨ga, gc, va, vc, rfl, hb5, hv5, rows, hrows, hO5⟩
    have hA5 := hO5.obs.2
    rw [hrows] at hA5
    have hw5 := hv5.vals.2
    have k5 := k4.trans (Keeps.below hb5)
    replace q0 := Keeps.below hb5 _ _ q0
    replace q1 := Keeps.below hb5 _ _ q1
    replace b2 := b2.trans (hb5.mono b2.size)
    clear hb5 hv5 hO5 hrows k4 hCo
    go_upto_region 7 with fail
    have k6 := Keeps.alloc w5 (Obj.cells #[.int .i64 40, .slice ga nr gc] 24)
    have g0 : (w5.alloc (Obj.cells #[.int .i64 40, .slice ga nr gc] 24)).cell? ⟨w5.heap.size, 0, none⟩ = some (.int .i64 40) := by simp
    have g1 : (w5.alloc (Obj.cells #[.int .i64 40, .slice ga nr gc] 24)).cell? ⟨w5.heap.size, 1, none⟩ = some (.slice ga nr gc) := by simp
    replace b2 := b2.alloc b2.size (Obj.cells #[.int .i64 40, .slice ga nr gc] 24)
    replace q0 := k6 _ _ q0
    replace q1 := k6 _ _ q1
    replace hA5 := hA5.keeps k6
    replace hw5 := hw5.keeps k6
    replace k5 := k5.trans k6
    clear k6
    generalize w5.alloc (Obj.cells #[.int .i64 40, .slice ga nr gc] 24) = w6 at *
    generalize w5.heap.size = G at *
    go_wp2_with fail
    refine (hCa w6 ga gc va vc hA5 hw5).mono ?_
    rintro e w7 ⟨xa, xc, ya, yc, rfl, hb7, hv7, rows7, hrows7, hO7⟩
    have hy7 := hv7.vals.2
    have k7 := Keeps.below hb7
    replace q0 := k7 _ _ q0
    replace q1 := k7 _ _ q1
    replace g0 := k7 _ _ g0
    replace g1 := k7 _ _ g1
    replace b2 := b2.trans (hb7.mono b2.size)
    replace hA5 := hA5.keeps k7
    replace hw5 := hw5.keeps k7
    replace k5 := k5.trans k7
    clear hb7 hv7 hO7 hrows7 hCa k7
    go_upto_region 8 with fail
    have k8 := Keeps.alloc w7 (Obj.cells #[.int .i64 40, .slice xa nr xc] 24)
    have x1 : (w7.alloc (Obj.cells #[.int .i64 40, .slice xa nr xc] 24)).cell? ⟨w7.heap.size, 1, none⟩ = some (.slice xa nr xc) := by simp
    replace b2 := b2.alloc b2.size (Obj.cells #[.int .i64 40, .slice xa nr xc] 24)
    replace q0 := k8 _ _ q0
    replace q1 := k8 _ _ q1
    replace g0 := k8 _ _ g0
    replace g1 := k8 _ _ g1
    replace hA5 := hA5.keeps k8
    replace hw5 := hw5.keeps k8
    replace hy7 := hy7.keeps k8
    replace k5 := k5.trans k8
    clear k8
    generalize w7.alloc (Obj.cells #[.int .i64 40, .slice xa nr xc] 24) = w8 at *
    generalize w7.heap.size = H at *
    refine wp_region_need (fun j => true) (fun w' => w'.cell? ⟨P, 0, none⟩ = some (.int .i64 40) ∧ w'.cell? ⟨P, 1, none⟩ = some (.slice oa n oc) ∧ w'.cell? ⟨G, 0, none⟩ = some (.int .i64 40) ∧ w'.cell? ⟨G, 1, none⟩ = some (.slice ga nr gc) ∧ w'.cell? ⟨H, 1, none⟩ = some (.slice xa nr xc)) (by kernel_rfl) ⟨q0, q1, g0, g1, x1⟩ (fun hS => ?_)
    have b8 : Below w.heap.size w w8.drew := b2.drew
    have kd : Keeps w8 w8.drew := fun _ _ h => h
    replace k5 := k5.trans kd
    replace hA5 := hA5.keeps kd
    replace hw5 := hw5.keeps kd
    replace hy7 := hy7.keeps kd
    clear q0 q1 g0 g1 x1 kd b2
    generalize w8.drew = wd at *
    refine wpAnyN_take (i := 0) (v := ?v20) rfl (by kernel_rfl) (by kernel_rfl) (by kernel_rfl) (by kernel_rfl) (fun _ _ _ h => h) (by rfl) ?hy20 hS ?rest20
    case hy20 => (intro wy hSy; (try dsimp only at hSy); go_simp; try (with_reducible rfl))
    simp only [Act.put, List.getElem_toArray, List.getElem_cons_zero, List.setIfInBounds_toArray, List.set_cons_zero, List.set_cons_succ]
    refine wpAnyN_take (i := 1) (v := ?v21) rfl (by kernel_rfl) (by kernel_rfl) (by kernel_rfl) (by kernel_rfl) (fun _ _ _ h => h) (by rfl) ?hy21 hS ?rest21
    case hy21 => (intro wy hSy; (try dsimp only at hSy); go_simp; try (with_reducible rfl))
    simp only [Act.put, List.getElem_toArray, List.getElem_cons_zero, List.getElem_cons_succ, List.setIfInBounds_toArray, List.set_cons_zero, List.set_cons_succ]
    refine wpAnyN_take (i := 2) (v := ?v22) rfl (by kernel_rfl) (by kernel_rfl) (by kernel_rfl) (by kernel_rfl) (fun _ _ _ h => h) (by rfl) ?hy22 hS ?rest22
    case hy22 => (intro wy hSy; (try dsimp only at hSy); go_simp; try (with_reducible rfl))
    simp only [Act.put, List.getElem_toArray, List.getElem_cons_zero, List.getElem_cons_succ, List.setIfInBounds_toArray, List.set_cons_zero, List.set_cons_succ]
    refine wpAnyN_take (i := 3) (v := ?v23) rfl (by kernel_rfl) (by kernel_rfl) (by kernel_rfl) (by kernel_rfl) (fun _ _ _ h => h) (by rfl) ?hy23 hS ?rest23
    case hy23 => (intro wy hSy; (try dsimp only at hSy); go_simp; try (with_reducible rfl))
    simp only [Act.put, List.getElem_toArray, List.getElem_cons_zero, List.getElem_cons_succ, List.setIfInBounds_toArray, List.set_cons_zero, List.set_cons_succ]
    refine wpAnyN_take (i := 4) (v := ?v24) rfl (by kernel_rfl) (by kernel_rfl) (by kernel_rfl) (by kernel_rfl) (fun _ _ _ h => h) (by rfl) ?hy24 hS ?rest24
    case hy24 => (intro wy hSy; (try dsimp only at hSy); go_simp; try (with_reducible rfl))
    simp only [Act.put, List.getElem_toArray, List.getElem_cons_zero, List.getElem_cons_succ, List.setIfInBounds_toArray, List.set_cons_zero, List.set_cons_succ]
    refine wpAnyN_take (i := 5) (v := ?v25) rfl (by kernel_rfl) (by kernel_rfl) (by kernel_rfl) (by kernel_rfl) (fun _ _ _ h => h) (by rfl) ?hy25 hS ?rest25
    case hy25 => (intro wy hSy; (try dsimp only at hSy); go_simp; try (with_reducible rfl))
    simp only [Act.put, List.getElem_toArray, List.getElem_cons_zero, List.getElem_cons_succ, List.setIfInBounds_toArray, List.set_cons_zero, List.set_cons_succ]
    refine wpAnyN_take (i := 6) (v := ?v26) rfl (by kernel_rfl) (by kernel_rfl) (by kernel_rfl) (by kernel_rfl) (fun _ _ _ h => h) (by rfl) ?hy26 hS ?rest26
    case hy26 => (intro wy hSy; (try dsimp only at hSy); go_simp; try (with_reducible rfl))
    simp only [Act.put, List.getElem_toArray, List.getElem_cons_zero, List.getElem_cons_succ, List.setIfInBounds_toArray, List.set_cons_zero, List.set_cons_succ]
    refine wpAnyN_take (i := 7) (v := ?v27) rfl (by kernel_rfl) (by kernel_rfl) (by kernel_rfl) (by kernel_rfl) (fun _ _ _ h => h) (by rfl) ?hy27 hS ?rest27
    case hy27 => (intro wy hSy; (try dsimp only at hSy); go_simp; try (with_reducible rfl))
    simp only [Act.put, List.getElem_toArray, List.getElem_cons_zero, List.getElem_cons_succ, List.setIfInBounds_toArray, List.set_cons_zero, List.set_cons_succ]
    refine wpAnyN_take (i := 8) (v := ?v28) rfl (by kernel_rfl) (by kernel_rfl) (by kernel_rfl) (by kernel_rfl) (fun _ _ _ h => h) (by rfl) ?hy28 hS ?rest28
    case hy28 => (intro wy hSy; (try dsimp only at hSy); go_simp; try (with_reducible rfl))
    simp only [Act.put, List.getElem_toArray, List.getElem_cons_zero, List.getElem_cons_succ, List.setIfInBounds_toArray, List.set_cons_zero, List.set_cons_succ]
    refine wpAnyN_take (i := 9) (v := ?v29) rfl (by kernel_rfl) (by kernel_rfl) (by kernel_rfl) (by kernel_rfl) (fun _ _ _ h => h) (by rfl) ?hy29 hS ?rest29
    case hy29 => (intro wy hSy; (try dsimp only at hSy); go_simp; try (with_reducible rfl))
    simp only [Act.put, List.getElem_toArray, List.getElem_cons_zero, List.getElem_cons_succ, List.setIfInBounds_toArray, List.set_cons_zero, List.set_cons_succ]
    refine wpAnyN_take (i := 10) (v := ?v30) rfl (by kernel_rfl) (by kernel_rfl) (by kernel_rfl) (by kernel_rfl) (fun _ _ _ h => h) (by rfl) ?hy30 hS ?rest30
    case hy30 => (intro wy hSy; (try dsimp only at hSy); go_simp; try (with_reducible rfl))
    simp only [Act.put, List.getElem_toArray, List.getElem_cons_zero, List.getElem_cons_succ, List.setIfInBounds_toArray, List.set_cons_zero, List.set_cons_succ]
    refine wpAnyN_take (i := 11) (v := ?v31) rfl (by kernel_rfl) (by kernel_rfl) (by kernel_rfl) (by kernel_rfl) (fun _ _ _ h => h) (by rfl) ?hy31 hS ?rest31
    case hy31 => (intro wy hSy; (try dsimp only at hSy); go_simp; try (with_reducible rfl))
    simp only [Act.put, List.getElem_toArray, List.getElem_cons_zero, List.getElem_cons_succ, List.setIfInBounds_toArray, List.set_cons_zero, List.set_cons_succ]
    refine wpAnyN_take (i := 12) (v := ?v32) rfl (by kernel_rfl) (by kernel_rfl) (by kernel_rfl) (by kernel_rfl) (fun _ _ _ h => h) (by rfl) ?hy32 hS ?rest32
    case hy32 => (intro wy hSy; (try dsimp only at hSy); go_simp; try (with_reducible rfl))
    simp only [Act.put, List.getElem_toArray, List.getElem_cons_zero, List.getElem_cons_succ, List.setIfInBounds_toArray, List.set_cons_zero, List.set_cons_succ]
    refine wpAnyN_take (i := 13) (v := ?v33) rfl (by kernel_rfl) (by kernel_rfl) (by kernel_rfl) (by kernel_rfl) (fun _ _ _ h => h) (by rfl) ?hy33 hS ?rest33
    case hy33 => (intro wy hSy; (try dsimp only at hSy); go_simp; try (with_reducible rfl))
    simp only [Act.put, List.getElem_toArray, List.getElem_cons_zero, List.getElem_cons_succ, List.setIfInBounds_toArray, List.set_cons_zero, List.set_cons_succ]
    refine wpAnyN_take (i := 14) (v := ?v34) rfl (by kernel_rfl) (by kernel_rfl) (by kernel_rfl) (by kernel_rfl) (fun _ _ _ h => h) (by rfl) ?hy34 hS ?rest34
    case hy34 => (intro wy hSy; (try dsimp only at hSy); go_simp; try (with_reducible rfl))
    simp only [Act.put, List.getElem_toArray, List.getElem_cons_zero, List.getElem_cons_succ, List.setIfInBounds_toArray, List.set_cons_zero, List.set_cons_succ]
    refine wpAnyN_take (i := 15) (v := ?v35) rfl (by kernel_rfl) (by kernel_rfl) (by kernel_rfl) (by kernel_rfl) (fun _ _ _ h => h) (by rfl) ?hy35 hS ?rest35
    case hy35 => (intro wy hSy; (try dsimp only at hSy); go_simp; try (with_reducible rfl))
    simp only [Act.put, List.getElem_toArray, List.getElem_cons_zero, List.getElem_cons_succ, List.setIfInBounds_toArray, List.set_cons_zero, List.set_cons_succ]
    refine wpAnyN_take (i := 16) (v := ?v36) rfl (by kernel_rfl) (by kernel_rfl) (by kernel_rfl) (by kernel_rfl) (fun _ _ _ h => h) (by rfl) ?hy36 hS ?rest36
    case hy36 => (intro wy hSy; (try dsimp only at hSy); go_simp; try (with_reducible rfl))
    simp only [Act.put, List.getElem_toArray, List.getElem_cons_zero, List.getElem_cons_succ, List.setIfInBounds_toArray, List.set_cons_zero, List.set_cons_succ]
    refine wpAnyN_take (i := 17) (v := ?v37) rfl (by kernel_rfl) (by kernel_rfl) (by kernel_rfl) (by kernel_rfl) (fun _ _ _ h => h) (by rfl) ?hy37 hS ?rest37
    case hy37 => (intro wy hSy; (try dsimp only at hSy); go_simp; try (with_reducible rfl))
    simp only [Act.put, List.getElem_toArray, List.getElem_cons_zero, List.getElem_cons_succ, List.setIfInBounds_toArray, List.set_cons_zero, List.set_cons_succ]
    refine wpAnyN_take (i := 18) (v := ?v38) rfl (by kernel_rfl) (by kernel_rfl) (by kernel_rfl) (by kernel_rfl) (fun _ _ _ h => h) (by rfl) ?hy38 hS ?rest38
    case hy38 => (intro wy hSy; (try dsimp only at hSy); go_simp; try (with_reducible rfl))
    simp only [Act.put, List.getElem_toArray, List.getElem_cons_zero, List.getElem_cons_succ, List.setIfInBounds_toArray, List.set_cons_zero, List.set_cons_succ]
    refine wpAnyN_take (i := 19) (v := ?v39) rfl (by kernel_rfl) (by kernel_rfl) (by kernel_rfl) (by kernel_rfl) (fun _ _ _ h => h) (by rfl) ?hy39 hS ?rest39
    case hy39 => (intro wy hSy; (try dsimp only at hSy); go_simp; try (with_reducible rfl))
    simp only [Act.put, List.getElem_toArray, List.getElem_cons_zero, List.getElem_cons_succ, List.setIfInBounds_toArray, List.set_cons_zero, List.set_cons_succ]
    refine wpAnyN_take (i := 20) (v := ?v40) rfl (by kernel_rfl) (by kernel_rfl) (by kernel_rfl) (by kernel_rfl) (fun _ _ _ h => h) (by rfl) ?hy40 hS ?rest40
    case hy40 => (intro wy hSy; (try dsimp only at hSy); go_simp; try (with_reducible rfl))
    simp only [Act.put, List.getElem_toArray, List.getElem_cons_zero, List.getElem_cons_succ, List.setIfInBounds_toArray, List.set_cons_zero, List.set_cons_succ]
    refine wpAnyN_one (i := 21) (by kernel_rfl) rfl (fun K hK => ?_)
    simp only [List.getElem_toArray, List.getElem_cons_zero, List.getElem_cons_succ]
    go_simp
    refine (hCh wd ga gc va vc hA5 hw5).mono ?_
    rintro e w9 ⟨rfl, hb9⟩
    have k9 := Keeps.below hb9
    replace hS := (⟨k9 _ _ hS.1, k9 _ _ hS.2.1, k9 _ _ hS.2.2.1, k9 _ _ hS.2.2.2.1, k9 _ _ hS.2.2.2.2⟩ : w9.cell? ⟨P, 0, none⟩ = some (.int .i64 40) ∧ w9.cell? ⟨P, 1, none⟩ = some (.slice oa n oc) ∧ w9.cell? ⟨G, 0, none⟩ = some (.int .i64 40) ∧ w9.cell? ⟨G, 1, none⟩ = some (.slice ga nr gc) ∧ w9.cell? ⟨H, 1, none⟩ = some (.slice xa nr xc))
    refine hK.out _ _ (fun _ => hS) ?_
    replace b8 := b8.trans (hb9.mono b8.size)
    replace hA5 := hA5.keeps k9
    replace hw5 := hw5.keeps k9
    replace hy7 := hy7.keeps k9
    replace k5 := k5.trans k9
    clear hK hb9 k9 hCh
    refine wpAnyN_take (i := 22) (v := ?v41) rfl (by kernel_rfl) (by kernel_rfl) (by kernel_rfl) (by kernel_rfl) (fun _ _ _ h => h) (by rfl) ?hy41 hS ?rest41
    case hy41 => (intro wy hSy; (try dsimp only at hSy); go_simp; try (with_reducible rfl))
    simp only [Act.put, List.getElem_toArray, List.getElem_cons_zero, List.getElem_cons_succ, List.setIfInBounds_toArray, List.set_cons_zero, List.set_cons_succ]
    refine wpAnyN_take (i := 23) (v := ?v42) rfl (by kernel_rfl) (by kernel_rfl) (by kernel_rfl) (by kernel_rfl) (fun _ _ _ h => h) (by rfl) ?hy42 hS ?rest42
    case hy42 => (intro wy hSy; (try dsimp only at hSy); go_simp; try (with_reducible rfl))
    simp only [Act.put, List.getElem_toArray, List.getElem_cons_zero, List.getElem_cons_succ, List.setIfInBounds_toArray, List.set_cons_zero, List.set_cons_succ]
    refine wpAnyN_take (i := 24) (v := ?v43) rfl (by kernel_rfl) (by kernel_rfl) (by kernel_rfl) (by kernel_rfl) (fun _ _ _ h => h) (by rfl) ?hy43 hS ?rest43
    case hy43 => (intro wy hSy; (try dsimp only at hSy); go_simp; try (with_reducible rfl))
    simp only [Act.put, List.getElem_toArray, List.getElem_cons_zero, List.getElem_cons_succ, List.setIfInBounds_toArray, List.set_cons_zero, List.set_cons_succ]
    refine wpAnyN_take (i := 25) (v := ?v44) rfl (by kernel_rfl) (by kernel_rfl) (by kernel_rfl) (by kernel_rfl) (fun _ _ _ h => h) (by rfl) ?hy44 hS ?rest44
    case hy44 => (intro wy hSy; (try dsimp only at hSy); go_simp; try (with_reducible rfl))
    simp only [Act.put, List.getElem_toArray, List.getElem_cons_zero, List.getElem_cons_succ, List.setIfInBounds_toArray, List.set_cons_zero, List.set_cons_succ]
    refine wpAnyN_take (i := 26) (v := ?v45) rfl (by kernel_rfl) (by kernel_rfl) (by kernel_rfl) (by kernel_rfl) (fun _ _ _ h => h) (by rfl) ?hy45 hS ?rest45
    case hy45 => (intro wy hSy; (try dsimp only at hSy); go_simp; try (with_reducible rfl))
    simp only [Act.put, List.getElem_toArray, List.getElem_cons_zero, List.getElem_cons_succ, List.setIfInBounds_toArray, List.set_cons_zero, List.set_cons_succ]
    refine wpAnyN_take (i := 28) (v := ?v46) rfl (by kernel_rfl) (by kernel_rfl) (by kernel_rfl) (by kernel_rfl) (fun _ _ _ h => h) (by rfl) ?hy46 hS ?rest46
    case hy46 => (intro wy hSy; (try dsimp only at hSy); go_simp; try (with_reducible rfl))
    simp only [Act.put, List.getElem_toArray, List.getElem_cons_zero, List.getElem_cons_succ, List.setIfInBounds_toArray, List.set_cons_zero, List.set_cons_succ]
    refine wpAnyN_take (i := 29) (v := ?v47) rfl (by kernel_rfl) (by kernel_rfl) (by kernel_rfl) (by kernel_rfl) (fun _ _ _ h => h) (by rfl) ?hy47 hS ?rest47
    case hy47 => (intro wy hSy; (try dsimp only at hSy); go_simp; try (with_reducible rfl))
    simp only [Act.put, List.getElem_toArray, List.getElem_cons_zero, List.getElem_cons_succ, List.setIfInBounds_toArray, List.set_cons_zero, List.set_cons_succ]
    refine wpAnyN_one (i := 27) (by kernel_rfl) rfl (fun K hK => ?_)
    simp only [List.getElem_toArray, List.getElem_cons_zero, List.getElem_cons_succ]
    go_simp
    refine (hFo w9 k5).mono ?_
    rintro e wa ⟨fa, fc, rfl, hba, hIa⟩
    have k9 := Keeps.below hba
    replace hS := (⟨k9 _ _ hS.1, k9 _ _ hS.2.1, k9 _ _ hS.2.2.1, k9 _ _ hS.2.2.2.1, k9 _ _ hS.2.2.2.2⟩ : wa.cell? ⟨P, 0, none⟩ = some (.int .i64 40) ∧ wa.cell? ⟨P, 1, none⟩ = some (.slice oa n oc) ∧ wa.cell? ⟨G, 0, none⟩ = some (.int .i64 40) ∧ wa.cell? ⟨G, 1, none⟩ = some (.slice ga nr gc) ∧ wa.cell? ⟨H, 1, none⟩ = some (.slice xa nr xc))
    refine hK.out _ _ (fun _ => hS) ?_
    have hfa := hIa.at
    replace b8 := b8.trans (hba.mono b8.size)
    replace hA5 := hA5.keeps k9
    replace hw5 := hw5.keeps k9
    replace hy7 := hy7.keeps k9
    clear hK hba k9 hFo k5 hIa
    refine wpAnyN_one (i := 30) (by kernel_rfl) rfl (fun K hK => ?_)
    simp only [List.getElem_toArray, List.getElem_cons_zero, List.getElem_cons_succ]
    go_simp
    refine (hFa wa ga gc va vc hA5 hw5).mono ?_
    rintro e wb ⟨fb, fbc, rfl, hba, hIb⟩
    have k9 := Keeps.below hba
    replace hS := (⟨k9 _ _ hS.1, k9 _ _ hS.2.1, k9 _ _ hS.2.2.1, k9 _ _ hS.2.2.2.1, k9 _ _ hS.2.2.2.2⟩ : wb.cell? ⟨P, 0, none⟩ = some (.int .i64 40) ∧ wb.cell? ⟨P, 1, none⟩ = some (.slice oa n oc) ∧ wb.cell? ⟨G, 0, none⟩ = some (.int .i64 40) ∧ wb.cell? ⟨G, 1, none⟩ = some (.slice ga nr gc) ∧ wb.cell? ⟨H, 1, none⟩ = some (.slice xa nr xc))
    refine hK.out _ _ (fun _ => hS) ?_
    have hfb := hIb.at
    replace b8 := b8.trans (hba.mono b8.size)
    replace hfa := hfa.keeps k9
    replace hw5 := hw5.keeps k9
    replace hy7 := hy7.keeps k9
    clear hK hba k9 hFa hIb hA5
    refine wpAnyN_one (i := 31) (by kernel_rfl) rfl (fun K hK => ?_)
    simp only [List.getElem_toArray, List.getElem_cons_zero, List.getElem_cons_succ]
    go_simp
    refine (equalInts_any fa fb fc fbc ff wb hfa hfb hfl).mono ?_
    rintro e we ⟨rfl, ne, rfl⟩
    have k9 := Keeps.drewN wb ne
    replace hS := (⟨k9 _ _ hS.1, k9 _ _ hS.2.1, k9 _ _ hS.2.2.1, k9 _ _ hS.2.2.2.1, k9 _ _ hS.2.2.2.2⟩ : (wb.drewN ne).cell? ⟨P, 0, none⟩ = some (.int .i64 40) ∧ (wb.drewN ne).cell? ⟨P, 1, none⟩ = some (.slice oa n oc) ∧ (wb.drewN ne).cell? ⟨G, 0, none⟩ = some (.int .i64 40) ∧ (wb.drewN ne).cell? ⟨G, 1, none⟩ = some (.slice ga nr gc) ∧ (wb.drewN ne).cell? ⟨H, 1, none⟩ = some (.slice xa nr xc))
    refine hK.out _ _ (fun _ => hS) ?_
    replace b8 := below_drewN b8 ne
    replace hw5 := hw5.keeps k9
    replace hy7 := hy7.keeps k9
    clear hK k9 hfa hfb
    generalize wb.drewN ne = we at *
    refine wpAnyN_take (i := 32) (v := ?v48) rfl (by kernel_rfl) (by kernel_rfl) (by kernel_rfl) (by kernel_rfl) (fun _ _ _ h => h) (by rfl) ?hy48 hS ?rest48
    case hy48 => (intro wy hSy; (try dsimp only at hSy); go_simp; try (with_reducible rfl))
    simp only [Act.put, List.getElem_toArray, List.getElem_cons_zero, List.getElem_cons_succ, List.setIfInBounds_toArray, List.set_cons_zero, List.set_cons_succ]
    refine wpAnyN_take (i := 33) (v := ?v49) rfl (by kernel_rfl) (by kernel_rfl) (by kernel_rfl) (by kernel_rfl) (fun _ _ _ h => h) (by rfl) ?hy49 hS ?rest49
    case hy49 => (intro wy hSy; (try dsimp only at hSy); go_simp; try (with_reducible rfl))
    simp only [Act.put, List.getElem_toArray, List.getElem_cons_zero, List.getElem_cons_succ, List.setIfInBounds_toArray, List.set_cons_zero, List.set_cons_succ]
    refine wpAnyN_take (i := 34) (v := ?v50) rfl (by kernel_rfl) (by kernel_rfl) (by kernel_rfl) (by kernel_rfl) (fun _ _ _ h => h) (by rfl) ?hy50 hS ?rest50
    case hy50 => (intro wy hSy; (try dsimp only at hSy); go_simp; try (with_reducible rfl))
    simp only [Act.put, List.getElem_toArray, List.getElem_cons_zero, List.getElem_cons_succ, List.setIfInBounds_toArray, List.set_cons_zero, List.set_cons_succ]
    refine wpAnyN_take (i := 35) (v := ?v51) rfl (by kernel_rfl) (by kernel_rfl) (by kernel_rfl) (by kernel_rfl) (fun _ _ _ h => h) (by rfl) ?hy51 hS ?rest51
    case hy51 => (intro wy hSy; (try dsimp only at hSy); go_simp; try (with_reducible rfl))
    simp only [Act.put, List.getElem_toArray, List.getElem_cons_zero, List.getElem_cons_succ, List.setIfInBounds_toArray, List.set_cons_zero, List.set_cons_succ]
    have hEq := equalVals_any va ya vc yc s we hw5 hy7 (by have := HSL.out; omega)
    rw [HSL.out] at hEq
    refine wpAnyN_one (i := 36) (by kernel_rfl) rfl (fun K hK => ?_)
    simp only [List.getElem_toArray, List.getElem_cons_zero, List.getElem_cons_succ]
    go_simp
    refine hEq.mono ?_
    rintro e wf ⟨rfl, nf, rfl⟩
    have k9 := Keeps.drewN we nf
    replace hS := (⟨k9 _ _ hS.1, k9 _ _ hS.2.1, k9 _ _ hS.2.2.1, k9 _ _ hS.2.2.2.1, k9 _ _ hS.2.2.2.2⟩ : (we.drewN nf).cell? ⟨P, 0, none⟩ = some (.int .i64 40) ∧ (we.drewN nf).cell? ⟨P, 1, none⟩ = some (.slice oa n oc) ∧ (we.drewN nf).cell? ⟨G, 0, none⟩ = some (.int .i64 40) ∧ (we.drewN nf).cell? ⟨G, 1, none⟩ = some (.slice ga nr gc) ∧ (we.drewN nf).cell? ⟨H, 1, none⟩ = some (.slice xa nr xc))
    refine hK.out _ _ (fun _ => hS) ?_
    replace b8 := below_drewN b8 nf
    clear hK k9 hw5 hy7 hEq
    generalize we.drewN nf = wf at *
    refine wpAnyN_take (i := 37) (v := ?v52) rfl (by kernel_rfl) (by kernel_rfl) (by kernel_rfl) (by kernel_rfl) (fun _ _ _ h => h) (by rfl) ?hy52 hS ?rest52
    case hy52 => (intro wy hSy; (try dsimp only at hSy); go_simp; try (with_reducible rfl))
    simp only [Act.put, List.getElem_toArray, List.getElem_cons_zero, List.getElem_cons_succ, List.setIfInBounds_toArray, List.set_cons_zero, List.set_cons_succ]
    refine wpAnyN_take (i := 38) (v := ?v53) rfl (by kernel_rfl) (by kernel_rfl) (by kernel_rfl) (by kernel_rfl) (fun _ _ _ h => h) (by rfl) ?hy53 hS ?rest53
    case hy53 => (intro wy hSy; (try dsimp only at hSy); go_simp; try (with_reducible rfl))
    simp only [Act.put, List.getElem_toArray, List.getElem_cons_zero, List.getElem_cons_succ, List.setIfInBounds_toArray, List.set_cons_zero, List.set_cons_succ]
    refine wpAnyN_take (i := 39) (v := ?v54) rfl (by kernel_rfl) (by kernel_rfl) (by kernel_rfl) (by kernel_rfl) (fun _ _ _ h => h) (by rfl) ?hy54 hS ?rest54
    case hy54 => (intro wy hSy; (try dsimp only at hSy); go_simp; try (with_reducible rfl))
    simp only [Act.put, List.getElem_toArray, List.getElem_cons_zero, List.getElem_cons_succ, List.setIfInBounds_toArray, List.set_cons_zero, List.set_cons_succ]
    refine wpAnyN_take (i := 40) (v := ?v55) rfl (by kernel_rfl) (by kernel_rfl) (by kernel_rfl) (by kernel_rfl) (fun _ _ _ h => h) (by rfl) ?hy55 hS ?rest55
    case hy55 => (intro wy hSy; (try dsimp only at hSy); go_simp; try (with_reducible rfl))
    simp only [Act.put, List.getElem_toArray, List.getElem_cons_zero, List.getElem_cons_succ, List.setIfInBounds_toArray, List.set_cons_zero, List.set_cons_succ]
    refine wpAnyN_take (i := 41) (v := ?v56) rfl (by kernel_rfl) (by kernel_rfl) (by kernel_rfl) (by kernel_rfl) (fun _ _ _ h => h) (by rfl) ?hy56 hS ?rest56
    case hy56 => (intro wy hSy; (try dsimp only at hSy); go_simp; try (with_reducible rfl))
    simp only [Act.put, List.getElem_toArray, List.getElem_cons_zero, List.getElem_cons_succ, List.setIfInBounds_toArray, List.set_cons_zero, List.set_cons_succ]
    refine wpAnyN_take (i := 42) (v := ?v57) rfl (by kernel_rfl) (by kernel_rfl) (by kernel_rfl) (by kernel_rfl) (fun _ _ _ h => h) (by rfl) ?hy57 hS ?rest57
    case hy57 => (intro wy hSy; (try dsimp only at hSy); go_simp; try (with_reducible rfl))
    simp only [Act.put, List.getElem_toArray, List.getElem_cons_zero, List.getElem_cons_succ, List.setIfInBounds_toArray, List.set_cons_zero, List.set_cons_succ]
    refine wpAnyN_take (i := 43) (v := ?v58) rfl (by kernel_rfl) (by kernel_rfl) (by kernel_rfl) (by kernel_rfl) (fun _ _ _ h => h) (by rfl) ?hy58 hS ?rest58
    case hy58 => (intro wy hSy; (try dsimp only at hSy); go_simp; try (with_reducible rfl))
    simp only [Act.put, List.getElem_toArray, List.getElem_cons_zero, List.getElem_cons_succ, List.setIfInBounds_toArray, List.set_cons_zero, List.set_cons_succ]
    refine wpAnyN_take (i := 44) (v := ?v59) rfl (by kernel_rfl) (by kernel_rfl) (by kernel_rfl) (by kernel_rfl) (fun _ _ _ h => h) (by rfl) ?hy59 hS ?rest59
    case hy59 => (intro wy hSy; (try dsimp only at hSy); go_simp; try (with_reducible rfl))
    simp only [Act.put, List.getElem_toArray, List.getElem_cons_zero, List.getElem_cons_succ, List.setIfInBounds_toArray, List.set_cons_zero, List.set_cons_succ]
    refine wpAnyN_take (i := 45) (v := ?v60) rfl (by kernel_rfl) (by kernel_rfl) (by kernel_rfl) (by kernel_rfl) (fun _ _ _ h => h) (by rfl) ?hy60 hS ?rest60
    case hy60 => (intro wy hSy; (try dsimp only at hSy); go_simp; try (with_reducible rfl))
    simp only [Act.put, List.getElem_toArray, List.getElem_cons_zero, List.getElem_cons_succ, List.setIfInBounds_toArray, List.set_cons_zero, List.set_cons_succ]
    refine wpAnyN_take (i := 46) (v := ?v61) rfl (by kernel_rfl) (by kernel_rfl) (by kernel_rfl) (by kernel_rfl) (fun _ _ _ h => h) (by rfl) ?hy61 hS ?rest61
    case hy61 => (intro wy hSy; (try dsimp only at hSy); go_simp; try (with_reducible rfl))
    simp only [Act.put, List.getElem_toArray, List.getElem_cons_zero, List.getElem_cons_succ, List.setIfInBounds_toArray, List.set_cons_zero, List.set_cons_succ]
    refine wpAnyN_take (i := 47) (v := ?v62) rfl (by kernel_rfl) (by kernel_rfl) (by kernel_rfl) (by kernel_rfl) (fun _ _ _ h => h) (by rfl) ?hy62 hS ?rest62
    case hy62 => (intro wy hSy; (try dsimp only at hSy); go_simp; try (with_reducible rfl))
    simp only [Act.put, List.getElem_toArray, List.getElem_cons_zero, List.getElem_cons_succ, List.setIfInBounds_toArray, List.set_cons_zero, List.set_cons_succ]
    refine wpAnyN_take (i := 48) (v := ?v63) rfl (by kernel_rfl) (by kernel_rfl) (by kernel_rfl) (by kernel_rfl) (fun _ _ _ h => h) (by rfl) ?hy63 hS ?rest63
    case hy63 => (intro wy hSy; (try dsimp only at hSy); go_simp; try (with_reducible rfl))
    simp only [Act.put, List.getElem_toArray, List.getElem_cons_zero, List.getElem_cons_succ, List.setIfInBounds_toArray, List.set_cons_zero, List.set_cons_succ]
    refine wpAnyN_take (i := 49) (v := ?v64) rfl (by kernel_rfl) (by kernel_rfl) (by kernel_rfl) (by kernel_rfl) (fun _ _ _ h => h) (by rfl) ?hy64 hS ?rest64
    case hy64 => (intro wy hSy; (try dsimp only at hSy); go_simp; try (with_reducible rfl))
    simp only [Act.put, List.getElem_toArray, List.getElem_cons_zero, List.getElem_cons_succ, List.setIfInBounds_toArray, List.set_cons_zero, List.set_cons_succ]
    refine wpAnyN_take (i := 50) (v := ?v65) rfl (by kernel_rfl) (by kernel_rfl) (by kernel_rfl) (by kernel_rfl) (fun _ _ _ h => h) (by rfl) ?hy65 hS ?rest65
    case hy65 => (intro wy hSy; (try dsimp only at hSy); go_simp; try (with_reducible rfl))
    simp only [Act.put, List.getElem_toArray, List.getElem_cons_zero, List.getElem_cons_succ, List.setIfInBounds_toArray, List.set_cons_zero, List.set_cons_succ]
    refine wpAnyN_take (i := 51) (v := ?v66) rfl (by kernel_rfl) (by kernel_rfl) (by kernel_rfl) (by kernel_rfl) (fun _ _ _ h => h) (by rfl) ?hy66 hS ?rest66
    case hy66 => (intro wy hSy; (try dsimp only at hSy); go_simp; try (with_reducible rfl))
    simp only [Act.put, List.getElem_toArray, List.getElem_cons_zero, List.getElem_cons_succ, List.setIfInBounds_toArray, List.set_cons_zero, List.set_cons_succ]
    refine wpAnyN_take (i := 52) (v := ?v67) rfl (by kernel_rfl) (by kernel_rfl) (by kernel_rfl) (by kernel_rfl) (fun _ _ _ h => h) (by rfl) ?hy67 hS ?rest67
    case hy67 => (intro wy hSy; (try dsimp only at hSy); go_simp; try (with_reducible rfl))
    simp only [Act.put, List.getElem_toArray, List.getElem_cons_zero, List.getElem_cons_succ, List.setIfInBounds_toArray, List.set_cons_zero, List.set_cons_succ]
    refine wpAnyN_take (i := 53) (v := ?v68) rfl (by kernel_rfl) (by kernel_rfl) (by kernel_rfl) (by kernel_rfl) (fun _ _ _ h => h) (by rfl) ?hy68 hS ?rest68
    case hy68 => (intro wy hSy; (try dsimp only at hSy); go_simp; try (with_reducible rfl))
    simp only [Act.put, List.getElem_toArray, List.getElem_cons_zero, List.getElem_cons_succ, List.setIfInBounds_toArray, List.set_cons_zero, List.set_cons_succ]
    refine wpAnyN_done (by kernel_rfl) ?_ _
    refine NoPanic.normal ?_
    clear hS
    go_wp2
    go_ret
    exact ⟨rfl, b8⟩

end Go.Proofs.Ytbifdcchdoflpac
