/- The walk of the law VerifyTypes. -/
import Derived.Test.YtcgdabmmhjnidaaDoorVTypes
namespace Go.Proofs.YtcgdabmmhjnidaaDoor
open Go.RowKit

set_option maxHeartbeats 400000 in
theorem sameIntsV_any (aa ab : Option Addr) (ca cb : Nat) (l : List Int) (w : World) (ha : VInts w aa l) (hb : VInts w ab l) (hl : l.length ≤ 1000000) :
    Calls Tryd.prog 37 #[.slice aa l.length ca, .slice ab l.length cb] w fun e w' => e = .returned (.bool true) ∧ ∃ n, w' = w.drewN n := by
  obtain ⟨L, hL⟩ : ∃ L, L = l.length := ⟨_, rfl⟩
  have HL : Aside (L = l.length) := hL
  rw [← hL] at hl ⊢
  clear hL
  go_enter Tryd.func37, Tryd.ntmps37
  go_wp2
  go_loopg [5] L (fun g s5 wr => ∃ i : Nat, i ≤ L ∧ g = L - i ∧ s5 = .int .i64 i ∧ ∃ n, wr = w.drewN n)
  case atStart => exact ⟨0, Nat.zero_le _, rfl, rfl, 0, rfl⟩
  case round =>
    obtain ⟨i, hi, rfl, rfl, n, rfl⟩ := hrel
    by_cases hiL : i < L
    · have hiz : (i : Int) < (L : Int) := by omega
      have hi0 : (0 : Int) ≤ (i : Int) := Int.natCast_nonneg _
      obtain ⟨z, hz⟩ := at_some (l := l) (i := i) (by rw [← HL.out]; exact hiL)
      obtain ⟨b1, o1, rfl, c1⟩ := ha i z hz
      obtain ⟨b2, o2, rfl, c2⟩ := hb i z hz
      have hne : (z != z) = false := by simp
      clear hz
      go_upto_region 6 with fail
      go_quiet (fail)
      go_wp2
      go_roundg (L - (i + 1))
      case measure => go_light; omega
      case rel => go_light; exact ⟨i + 1, by omega, rfl, by go_num, n + nq, rfl⟩
    · go_wp2
      go_ret
      exact ⟨rfl, n, rfl⟩

set_option maxHeartbeats 1000000 in
theorem sameRows_any (g1 c1 g2 c2 L b1 b2 : Nat) (st : List Pt) (rows1 rows2 : List Value) (w : World) (hg : VGood L st) (hL : L ≤ 60) (h1 : RfAt w b1 g1 c1 L st rows1) (h2 : RfAt w b2 g2 c2 L st rows2) :
    Calls Tryd.prog 13 #[.slice (some ⟨g1, 0, none⟩) L c1, .slice (some ⟨g2, 0, none⟩) L c2] w fun e w' => e = .returned (.bool true) ∧ ∃ n, w' = w.drewN n := by
  go_enter Tryd.func13, Tryd.ntmps13
  go_wp2
  go_loopg [5] L (fun g s5 wr => ∃ i : Nat, i ≤ L ∧ g = L - i ∧ s5 = .int .i64 i ∧ ∃ n, wr = w.drewN n)
  case atStart => exact ⟨0, Nat.zero_le _, rfl, rfl, 0, rfl⟩
  case round =>
    obtain ⟨i, hi, rfl, rfl, n, rfl⟩ := hrel
    by_cases hiL : i < L
    · have hiz : (i : Int) < (L : Int) := by omega
      have hi0 : (0 : Int) ≤ (i : Int) := Int.natCast_nonneg _
      obtain ⟨p, hp⟩ : ∃ p, st[i]? = some p := ⟨st[i]'(by rw [hg.1]; exact hiL), List.getElem?_eq_getElem _⟩
      obtain ⟨a1, k1, q1, v1⟩ := h1.cell hp
      obtain ⟨a2, k2, q2, v2⟩ := h2.cell hp
      have hl8 : (p.getD []).length ≤ 8 := by
        cases p with
        | none => simp
        | some k => simp [hg.2 k (List.mem_of_getElem? hp)]
      generalize p.getD [] = l at *
      go_upto_region 6 with fail
      refine wp_region_need (fun j => true) (fun w' => w'.cell? ⟨g1, i, none⟩ = some (.slice a1 l.length k1) ∧ w'.cell? ⟨g2, i, none⟩ = some (.slice a2 l.length k2)) (by kernel_rfl) ⟨q1, q2⟩ (fun hS => ?_)
      refine wpAnyN_take (i := 0) (v := ?v1) rfl (by kernel_rfl) (by kernel_rfl) (by kernel_rfl) (by kernel_rfl) (fun _ _ _ h => h) (by rfl) ?hy1 hS ?rest1
      case hy1 => (intro wy hSy; (try dsimp only at hSy); go_simp; try (with_reducible rfl))
      simp only [Act.put, List.getElem_toArray, List.getElem_cons_zero, List.setIfInBounds_toArray, List.set_cons_zero, List.set_cons_succ]
      refine wpAnyN_take (i := 1) (v := ?v2) rfl (by kernel_rfl) (by kernel_rfl) (by kernel_rfl) (by kernel_rfl) (fun _ _ _ h => h) (by rfl) ?hy2 hS ?rest2
      case hy2 => (intro wy hSy; (try dsimp only at hSy); go_simp; try (with_reducible rfl))
      simp only [Act.put, List.getElem_toArray, List.getElem_cons_zero, List.getElem_cons_succ, List.setIfInBounds_toArray, List.set_cons_zero, List.set_cons_succ]
      refine wpAnyN_take (i := 2) (v := ?v3) rfl (by kernel_rfl) (by kernel_rfl) (by kernel_rfl) (by kernel_rfl) (fun _ _ _ h => h) (by rfl) ?hy3 hS ?rest3
      case hy3 => (intro wy hSy; (try dsimp only at hSy); go_simp; try (with_reducible rfl))
      simp only [Act.put, List.getElem_toArray, List.getElem_cons_zero, List.getElem_cons_succ, List.setIfInBounds_toArray, List.set_cons_zero, List.set_cons_succ]
      refine wpAnyN_take (i := 3) (v := ?v4) rfl (by kernel_rfl) (by kernel_rfl) (by kernel_rfl) (by kernel_rfl) (fun _ _ _ h => h) (by rfl) ?hy4 hS ?rest4
      case hy4 => (intro wy hSy; (try dsimp only at hSy); go_simp; try (with_reducible rfl))
      simp only [Act.put, List.getElem_toArray, List.getElem_cons_zero, List.getElem_cons_succ, List.setIfInBounds_toArray, List.set_cons_zero, List.set_cons_succ]
      refine wpAnyN_take (i := 4) (v := ?v5) rfl (by kernel_rfl) (by kernel_rfl) (by kernel_rfl) (by kernel_rfl) (fun _ _ _ h => h) (by rfl) ?hy5 hS ?rest5
      case hy5 => (intro wy hSy; (try dsimp only at hSy); go_simp; try (with_reducible rfl))
      simp only [Act.put, List.getElem_toArray, List.getElem_cons_zero, List.getElem_cons_succ, List.setIfInBounds_toArray, List.set_cons_zero, List.set_cons_succ]
      refine wpAnyN_take (i := 5) (v := ?v6) rfl (by kernel_rfl) (by kernel_rfl) (by kernel_rfl) (by kernel_rfl) (fun _ _ _ h => h) (by rfl) ?hy6 hS ?rest6
      case hy6 => (intro wy hSy; (try dsimp only at hSy); go_simp; try (with_reducible rfl))
      simp only [Act.put, List.getElem_toArray, List.getElem_cons_zero, List.getElem_cons_succ, List.setIfInBounds_toArray, List.set_cons_zero, List.set_cons_succ]
      refine wpAnyN_take (i := 6) (v := ?v7) rfl (by kernel_rfl) (by kernel_rfl) (by kernel_rfl) (by kernel_rfl) (fun _ _ _ h => h) (by rfl) ?hy7 hS ?rest7
      case hy7 => (intro wy hSy; (try dsimp only at hSy); go_simp; try (with_reducible rfl))
      simp only [Act.put, List.getElem_toArray, List.getElem_cons_zero, List.getElem_cons_succ, List.setIfInBounds_toArray, List.set_cons_zero, List.set_cons_succ]
      refine wpAnyN_take (i := 7) (v := ?v8) rfl (by kernel_rfl) (by kernel_rfl) (by kernel_rfl) (by kernel_rfl) (fun _ _ _ h => h) (by rfl) ?hy8 hS ?rest8
      case hy8 => (intro wy hSy; (try dsimp only at hSy); go_simp; try (with_reducible rfl))
      simp only [Act.put, List.getElem_toArray, List.getElem_cons_zero, List.getElem_cons_succ, List.setIfInBounds_toArray, List.set_cons_zero, List.set_cons_succ]
      refine wpAnyN_one (i := 8) (by kernel_rfl) rfl (fun K hK => ?_)
      simp only [List.getElem_toArray, List.getElem_cons_zero, List.getElem_cons_succ]
      go_simp
      refine (sameIntsV_any a1 a2 k1 k2 l (w.drewN (n + 1)) (v1.other (fun _ _ _ _ => rfl)) (v2.other (fun _ _ _ _ => rfl)) (by omega)).mono ?_
      rintro e w5 ⟨rfl, m, rfl⟩
      refine hK.out _ _ (fun _ => hS) ?_
      clear hK
      replace hS := hS
      try simp only [Act.put, List.getElem_toArray, List.getElem_cons_zero, List.getElem_cons_succ, List.setIfInBounds_toArray, List.set_cons_zero, List.set_cons_succ]
      refine wpAnyN_take (i := 9) (v := ?v9) rfl (by kernel_rfl) (by kernel_rfl) (by kernel_rfl) (by kernel_rfl) (fun _ _ _ h => h) (by rfl) ?hy9 hS ?rest9
      case hy9 => (intro wy hSy; (try dsimp only at hSy); go_simp; try (with_reducible rfl))
      simp only [Act.put, List.getElem_toArray, List.getElem_cons_zero, List.getElem_cons_succ, List.setIfInBounds_toArray, List.set_cons_zero, List.set_cons_succ]
      refine wpAnyN_done (by kernel_rfl) ?_ _
      refine NoPanic.normal ?_
      go_wp2
      go_roundg (L - (i + 1))
      case measure => go_light; omega
      case rel => go_light; exact ⟨i + 1, by omega, rfl, by go_num, n + 1 + m, by simp [World.drewN, Nat.add_assoc]⟩
    · go_wp2
      go_ret
      exact ⟨rfl, n, rfl⟩

set_option maxHeartbeats 400000 in
theorem sameRows_none (w : World) :
    Calls Tryd.prog 13 #[.slice none 0 0, .slice none 0 0] w fun e w' => e = .returned (.bool true) ∧ w' = w := by
  go_enter Tryd.func13, Tryd.ntmps13
  go_wp2
  go_loopg [5] 0 (fun g s5 wr => s5 = .int .i64 0 ∧ wr = w)
  case atStart => exact ⟨rfl, rfl⟩
  case round =>
    obtain ⟨rfl, rfl⟩ := hrel
    go_wp2
    go_ret
    exact ⟨rfl, rfl⟩

set_option maxHeartbeats 1000000 in
theorem verifyTypes_walk (ao : Option Addr) (G cap : Nat) (A : Nat → Option Addr) (L C : Nat → Nat) (X : Nat → Nat → Nat → Int) (kind : Int) (w : World) (hT : TabAt 0 w) (hp : ProgAt w ao G A L C X) (_ : -9223372036854775808 ≤ kind ∧ kind ≤ 9223372036854775807) :
    Calls Tryd.prog 3 #[.agg #[.slice ao G cap], .int .i64 kind] w fun e w' => e = .returned (.bool true) ∧ Below w.heap.size w w' := by
  by_cases he : tyErr G L X kind = 0
  · have hf : progFault G L X = 0 := by
      unfold tyErr at he
      by_cases h : progFault G L X ≠ 0
      · rw [if_pos h] at he; exact absurd he h
      · exact Classical.byContradiction h
    have hk : ¬ (kind < 0 ∨ (G : Int) ≤ kind) := fun h => by
      unfold tyErr at he
      rw [if_neg (by simp [hf]), if_pos h] at he
      omega
    obtain ⟨kd, rfl⟩ := Int.eq_ofNat_of_zero_le (show 0 ≤ kind by omega)
    have hkG : kd < G := by omega
    have hx := rowV_ok hf hkG
    have hLk := hx.len
    have hgd := flowS_good (X kd) (L kd)
    go_enter Tryd.func3, Tryd.ntmps3
    go_wp2_with fail
    have k1 := Keeps.alloc w (Obj.cells #[Value.slice ao G cap] 24)
    have b1 := below_box w (Obj.cells #[Value.slice ao G cap] 24)
    have c1 : (w.alloc (Obj.cells #[Value.slice ao G cap] 24)).cell? ⟨w.heap.size, 0, none⟩ = some (.slice ao G cap) := by simp
    generalize w.alloc (Obj.cells #[Value.slice ao G cap] 24) = W at *
    refine (types_ok ao G cap A L C X kd _ (hT.keeps k1) (hp.keeps k1) hf hkG).mono ?_
    rintro e w1 ⟨g1, q1, rfl, hb1, rows1, hR1⟩
    have b2 := b1.trans (hb1.mono b1.size)
    have c2 := Keeps.below hb1 _ _ c1
    have hp2 := (hp.keeps k1).keeps (Keeps.below hb1)
    clear c1 b1 hb1 k1
    go_wp2_with fail
    refine (typesOf_ok ao G cap A L C X kd _ hp2 hf hkG).mono ?_
    rintro e w2 ⟨g2, q2, rfl, hb2, rows2, hR2⟩
    have b3 := b2.trans (hb2.mono b2.size)
    have hR3 := hR1.below hb2
    clear hb2 c2 hR1 hp2
    go_wp2_with (go_at_call 13; refine (sameRows_any g1 q1 g2 q2 (L kd) _ _ _ rows1 rows2 w2 hgd hLk.2 hR3 hR2).mono ?_; rintro e w4 ⟨rfl, nn, rfl⟩)
    go_ret
    exact ⟨rfl, below_drewN b3 nn⟩
  · go_enter Tryd.func3, Tryd.ntmps3
    go_wp2_with fail
    have k1 := Keeps.alloc w (Obj.cells #[Value.slice ao G cap] 24)
    have b1 := below_box w (Obj.cells #[Value.slice ao G cap] 24)
    have c1 : (w.alloc (Obj.cells #[Value.slice ao G cap] 24)).cell? ⟨w.heap.size, 0, none⟩ = some (.slice ao G cap) := by simp
    generalize w.alloc (Obj.cells #[Value.slice ao G cap] 24) = W at *
    refine (types_bad ao G cap A L C X kind _ (hT.keeps k1) (hp.keeps k1) he).mono ?_
    rintro e w1 ⟨rfl, hb1⟩
    have b2 := b1.trans (hb1.mono b1.size)
    have c2 := Keeps.below hb1 _ _ c1
    have hp2 := (hp.keeps k1).keeps (Keeps.below hb1)
    clear c1 b1 hb1 k1
    go_wp2_with fail
    refine (typesOf_bad ao G cap A L C X kind _ hp2 he).mono ?_
    rintro e w2 ⟨rfl, hb2⟩
    have b3 := b2.trans (hb2.mono b2.size)
    clear hb2 c2 hp2
    go_wp2_with (go_at_call 13; refine (sameRows_none w2).mono ?_; rintro e w4 ⟨rfl, rfl⟩)
    go_ret
    exact ⟨rfl, b3⟩

end Go.Proofs.YtcgdabmmhjnidaaDoor
