/- The walk of the reference's new world. -/
import Derived.Test.YtahcgnmhhgcfmaaDoorCWNew
namespace Go.Proofs.YtahcgnmhhgcfmaaDoor
open Go.RowKit

set_option maxHeartbeats 400000 in
theorem rnum_any (n : Int) (w : World) : Calls Tryd.prog 39 #[.int .i64 n] w fun e w' => e = .returned (.agg #[.int .i64 1, .int .i64 n]) ∧ Below w.heap.size w w' := by
  go_enter Tryd.func39, Tryd.ntmps39
  go_wp2
  exact bodyPost_ret (v := .agg #[.int .i64 1, .int .i64 n]) (by simp [results, Tryd.results39, go_sem]) rfl ⟨rfl, below_box _ _⟩

set_option maxRecDepth 100000 in
set_option maxHeartbeats 400000 in
theorem rnone_any (w : World) : Calls Tryd.prog 38 #[] w fun e w' => e = .returned (.slice (some ⟨w.heap.size, 0, none⟩) 8 8) ∧ w' = w.alloc (.cells #[.int .i64 0, .int .i64 0, .int .i64 0, .int .i64 0, .int .i64 0, .int .i64 0, .int .i64 0, .int .i64 0, .int .i64 0, .int .i64 0, .int .i64 0, .int .i64 0, .int .i64 0, .int .i64 0, .int .i64 0, .int .i64 0] 78) := by
  have hmk := make8
  go_enter Tryd.func38, Tryd.ntmps38
  go_wp2
  go_ret
  exact ⟨rfl, rfl⟩

theorem two_blk {w : World} {A : Nat} {c : Array Value} {t : TypeId} (h : w.heap[A]? = some (.cells c t (0, 0))) (j k : Nat) (x y : Value) : ((w.setCell ⟨A, j, none⟩ x).setCell ⟨A, k, none⟩ y).heap[A]? = some (.cells ((c.setIfInBounds j x).setIfInBounds k y) t (0, 0)) :=
  setCell_blk (setCell_blk h j x) k y

theorem two_below {B : Nat} {w0 w : World} (h : Below B w0 w) {A : Nat} (hA : B ≤ A) (j k : Nat) (x y : Value) : Below B w0 ((w.setCell ⟨A, j, none⟩ x).setCell ⟨A, k, none⟩ y) := (h.setCell hA _).setCell hA _

theorem two_size (w : World) (A j k : Nat) (x y : Value) : ((w.setCell ⟨A, j, none⟩ x).setCell ⟨A, k, none⟩ y).heap.size = w.heap.size := by simp [World.setCell]

theorem two_other {w : World} {A B : Nat} (j k : Nat) (x y : Value) (h : B ≠ A) : ((w.setCell ⟨A, j, none⟩ x).setCell ⟨A, k, none⟩ y).heap[B]? = w.heap[B]? :=
  (Deep.blk_setCell_other _ ⟨A, k, none⟩ _ _ h).trans (Deep.blk_setCell_other _ ⟨A, j, none⟩ _ _ h)

set_option maxRecDepth 100000 in
set_option maxHeartbeats 1600000 in
theorem rnew_any (ao : Option Addr) (G cap : Nat) (A : Nat → Option Addr) (L C : Nat → Nat) (X : Nat → Nat → Nat → Int) (most : Int) (w : World) (hp : ProgAt w ao G A L C X) :
    Calls Tryd.prog 22 #[.agg #[.slice ao G cap], .int .i64 most] w fun e w' => ∃ aa ca,
      e = .returned (.tuple #[.agg #[.slice aa (wnew G L X most).acts.length ca, .slice none (wnew G L X most).prints.length 0], .int .i64 (wnewE G L X most)]) ∧ Below w.heap.size w w' ∧ ActsAt w' aa (wnew G L X most).acts ∧ ToldAt w' none (wnew G L X most).prints := by
  have HE : Aside (wnewE G L X most = if (ckS G L X).2.2 ≠ 0 then (ckS G L X).2.2 else if most < 2 ∨ 60 < most then 2 else 0) := rfl
  have HW : Aside (wnew G L X most = if wnewE G L X most = 0 then newW most else ⟨[], []⟩) := rfl
  generalize wnew G L X most = V at *
  generalize wnewE G L X most = E at *
  obtain ⟨B0, B1, k1, b1, s1⟩ := boxes2 w (.cells #[.slice ao G cap] 26) (.cells #[.slice none 0 0, .slice none 0 0] 54)
  go_enter Tryd.func22, Tryd.ntmps22
  go_wp2_with fail
  replace hp := hp.keeps k1
  generalize (w.alloc (.cells #[.slice ao G cap] 26)).alloc (.cells #[.slice none 0 0, .slice none 0 0] 54) = W at *
  refine (verifiedOf_any ao G cap A L C X _ hp).mono ?_
  rintro e w1 ⟨rfl, hb1⟩
  have N1 : w1.heap[w.heap.size + 1]? = some (.cells #[.slice none 0 0, .slice none 0 0] 54) := (hb1.block _ (by rw [s1]; omega)).trans B1
  have b2 := b1.trans (hb1.mono b1.size)
  have e0 := cell_blk N1 0
  have e1 := cell_blk N1 1
  have g0 := fz_blk N1 0
  have g1 := fz_blk N1 1
  simp at e0 e1
  have hs : w.heap.size + 1 < w1.heap.size := by have := hb1.size; omega
  clear B0 B1 hb1 b1 s1 hp k1
  obtain ⟨p, hp⟩ : ∃ p, p = ckS G L X := ⟨_, rfl⟩
  rw [← hp] at HE ⊢
  clear hp
  obtain ⟨p1, p2, p3⟩ := p
  simp only at HE ⊢
  by_cases h3 : p3 = 0
  · subst h3
    by_cases hm : most < 2 ∨ 60 < most
    · have hE : E = 2 := by rw [HE.out]; simp [hm]
      have hV : V = ⟨[], []⟩ := by rw [HW.out, hE]; simp
      have HVE : Aside (V = _ ∧ E = _) := ⟨hV, hE⟩
      clear hV hE
      have M := put2_blk N1 (.slice none 0 0) (.slice none 0 0)
      have hbM := put2_below b2 (Nat.le_succ _) (A := w.heap.size + 1) (.slice none 0 0) (.slice none 0 0)
      have hin : (decide (2 ≤ most) && decide (most ≤ 60)) = false := by
        rcases hm with h | h
        · simp; omega
        · simp; omega
      clear hm
      go_wp2_with fail
      refine (cin_any most 2 60 _).mono ?_
      rintro e w2 ⟨rfl, hw2⟩
      replace hw2 := hw2.symm
      subst hw2
      rw [hin]
      go_wp2
      change bodyPost _ _ _ _ _ (put2 w1 (w.heap.size + 1) (.slice none 0 0) (.slice none 0 0))
      generalize put2 w1 (w.heap.size + 1) (.slice none 0 0) (.slice none 0 0) = W3 at *
      have m0 := cell_blk M 0
      have m1 := cell_blk M 1
      simp at m0 m1
      exact bodyPost_ret (v := .tuple #[.agg #[.slice none 0 0, .slice none 0 0], .int .i64 2]) (by simp [results, Tryd.results22, go_sem, m0, m1]) rfl ⟨none, 0, by rw [HVE.out.1, HVE.out.2]; rfl, hbM, by rw [HVE.out.1]; exact ActsAt.nil _ _, by rw [HVE.out.1]; exact ToldAt.nil _ _⟩
    · have hE : E = 0 := by rw [HE.out]; simp [hm]
      have hV : V = newW most := by rw [HW.out, hE]; simp
      have HVE : Aside (V = _ ∧ E = _) := ⟨hV, hE⟩
      clear hV hE
      simp only [not_or, Int.not_lt] at hm
      obtain ⟨hm1, hm2⟩ := hm
      have hin : (decide (2 ≤ most) && decide (most ≤ 60)) = true := by simp; omega
      go_wp2_with fail
      refine (cin_any most 2 60 _).mono ?_
      rintro e w2 ⟨rfl, hw2⟩
      replace hw2 := hw2.symm
      subst hw2
      rw [hin]
      go_wp2_with fail
      refine (rnone_any _).mono ?_
      rintro e w3 ⟨rfl, rfl⟩
      obtain ⟨R, Bx, _, b4, s4⟩ := boxes2 w1 (.cells #[.int .i64 0, .int .i64 0, .int .i64 0, .int .i64 0, .int .i64 0, .int .i64 0, .int .i64 0, .int .i64 0, .int .i64 0, .int .i64 0, .int .i64 0, .int .i64 0, .int .i64 0, .int .i64 0, .int .i64 0, .int .i64 0] 78) (.cells #[.int .i64 0, .int .i64 (-1), .int .i64 0, .slice none 0 0, .slice (some ⟨w1.heap.size, 0, none⟩) 8 8, .int .i64 (-1), .slice none 0 0, .int .i64 0] 87)
      go_wp2_with fail
      have N4 := (b4.block _ hs).trans N1
      generalize (w1.alloc (.cells #[.int .i64 0, .int .i64 0, .int .i64 0, .int .i64 0, .int .i64 0, .int .i64 0, .int .i64 0, .int .i64 0, .int .i64 0, .int .i64 0, .int .i64 0, .int .i64 0, .int .i64 0, .int .i64 0, .int .i64 0, .int .i64 0] 78)).alloc (.cells #[.int .i64 0, .int .i64 (-1), .int .i64 0, .slice none 0 0, .slice (some ⟨w1.heap.size, 0, none⟩) 8 8, .int .i64 (-1), .slice none 0 0, .int .i64 0] 87) = W4 at *
      refine (rnum_any 0 _).mono ?_
      rintro e w5 ⟨rfl, hb5⟩
      go_wp2_with fail
      refine (rnum_any 0 _).mono ?_
      rintro e w6 ⟨rfl, hb6⟩
      have b6 := hb5.trans (hb6.mono hb5.size)
      have N6 := (b6.block _ (by omega)).trans N4
      have R6 := (b6.block _ (by omega)).trans R
      have X6 := (b6.block _ (by omega)).trans Bx
      have b7 := b2.trans ((b4.trans (b6.mono b4.size)).mono b2.size)
      have hs6 := b6.size
      clear hb5 hb6 b6 b4 N4 R Bx b2 N1 e0 e1 g0 g1
      obtain ⟨F8, O8, _, b8, s8⟩ := boxes2 w6 (.cells #[.int .i64 1, .int .i64 0, .int .i64 1, .int .i64 0] 78) (.cells #[.slice (some ⟨w6.heap.size, 0, none⟩) 2 2, .bool false] 82)
      have N8 := (b8.block _ (by omega)).trans N6
      have R8 := (b8.block _ (by omega)).trans R6
      have X8 := (b8.block _ (by omega)).trans X6
      have q2 := cell_blk X8 2
      have q3 := cell_blk X8 3
      have z2 := fz_blk X8 2
      have z3 := fz_blk X8 3
      simp only [List.getElem?_toArray, List.getElem?_cons_zero, List.getElem?_cons_succ] at q2 q3
      have b9 := b7.trans (b8.mono b7.size)
      clear N6 R6 X6
      go_upto_region 8 with fail
      clear q2 q3 z2 z3 b8
      generalize (w6.alloc (.cells #[.int .i64 1, .int .i64 0, .int .i64 1, .int .i64 0] 78)).alloc (.cells #[.slice (some ⟨w6.heap.size, 0, none⟩) 2 2, .bool false] 82) = W8 at *
      have F9 := (two_other 2 3 (.int .i64 most) (.slice (some ⟨w6.heap.size + 1, 0, none⟩) 1 1) (show w6.heap.size ≠ w1.heap.size + 1 by omega)).trans F8
      have O9 := (two_other 2 3 (.int .i64 most) (.slice (some ⟨w6.heap.size + 1, 0, none⟩) 1 1) (show w6.heap.size + 1 ≠ w1.heap.size + 1 by omega)).trans O8
      have N9 := (two_other 2 3 (.int .i64 most) (.slice (some ⟨w6.heap.size + 1, 0, none⟩) 1 1) (show w.heap.size + 1 ≠ w1.heap.size + 1 by omega)).trans N8
      have R9 := (two_other 2 3 (.int .i64 most) (.slice (some ⟨w6.heap.size + 1, 0, none⟩) 1 1) (show w1.heap.size ≠ w1.heap.size + 1 by omega)).trans R8
      have X9 := two_blk X8 2 3 (.int .i64 most) (.slice (some ⟨w6.heap.size + 1, 0, none⟩) 1 1)
      have b10 := two_below b9 (show w.heap.size ≤ w1.heap.size + 1 by omega) 2 3 (.int .i64 most) (.slice (some ⟨w6.heap.size + 1, 0, none⟩) 1 1)
      have s9 : ((W8.setCell ⟨w1.heap.size + 1, 2, none⟩ (.int .i64 most)).setCell ⟨w1.heap.size + 1, 3, none⟩ (.slice (some ⟨w6.heap.size + 1, 0, none⟩) 1 1)).heap.size = W8.heap.size := two_size ..
      generalize (W8.setCell ⟨w1.heap.size + 1, 2, none⟩ (.int .i64 most)).setCell ⟨w1.heap.size + 1, 3, none⟩ (.slice (some ⟨w6.heap.size + 1, 0, none⟩) 1 1) = W9 at *
      replace X9 : W9.heap[w1.heap.size + 1]? = some (.cells #[.int .i64 0, .int .i64 (-1), .int .i64 most, .slice (some ⟨w6.heap.size + 1, 0, none⟩) 1 1, .slice (some ⟨w1.heap.size, 0, none⟩) 8 8, .int .i64 (-1), .slice none 0 0, .int .i64 0] 87) := X9
      clear F8 O8 N8 R8 X8 b9
      have q4 := cell_blk X9 4
      have r0 := cell_blk R9 0
      have r1 := cell_blk R9 1
      have z0 := fz_blk R9 0
      have z1 := fz_blk R9 1
      simp only [List.getElem?_toArray, List.getElem?_cons_zero, List.getElem?_cons_succ] at q4 r0 r1
      go_upto_region 9 with fail
      have F10 := (two_other 0 1 (.int .i64 2) (.int .i64 0) (show w6.heap.size ≠ w1.heap.size by omega)).trans F9
      have O10 := (two_other 0 1 (.int .i64 2) (.int .i64 0) (show w6.heap.size + 1 ≠ w1.heap.size by omega)).trans O9
      have N10 := (two_other 0 1 (.int .i64 2) (.int .i64 0) (show w.heap.size + 1 ≠ w1.heap.size by omega)).trans N9
      have X10 := (two_other 0 1 (.int .i64 2) (.int .i64 0) (show w1.heap.size + 1 ≠ w1.heap.size by omega)).trans X9
      have R10 := two_blk R9 0 1 (.int .i64 2) (.int .i64 0)
      have b11 := two_below b10 (show w.heap.size ≤ w1.heap.size by omega) 0 1 (.int .i64 2) (.int .i64 0)
      have s10 := two_size W9 w1.heap.size 0 1 (.int .i64 2) (.int .i64 0)
      generalize (W9.setCell ⟨w1.heap.size, 0, none⟩ (.int .i64 2)).setCell ⟨w1.heap.size, 1, none⟩ (.int .i64 0) = WX at *
      replace R10 : WX.heap[w1.heap.size]? = some (.cells #[.int .i64 2, .int .i64 0, .int .i64 0, .int .i64 0, .int .i64 0, .int .i64 0, .int .i64 0, .int .i64 0, .int .i64 0, .int .i64 0, .int .i64 0, .int .i64 0, .int .i64 0, .int .i64 0, .int .i64 0, .int .i64 0] 78) := R10
      have hsX : w6.heap.size + 1 < WX.heap.size := by omega
      clear F9 O9 N9 R9 X9 b10 q4 r0 r1 z0 z1 s10 s9 s8
      have x0 := cell_blk X10 0
      have x1 := cell_blk X10 1
      have x2 := cell_blk X10 2
      have x3 := cell_blk X10 3
      have x4 := cell_blk X10 4
      have x5 := cell_blk X10 5
      have x6 := cell_blk X10 6
      have x7 := cell_blk X10 7
      simp only [List.getElem?_toArray, List.getElem?_cons_zero, List.getElem?_cons_succ] at x0 x1 x2 x3 x4 x5 x6 x7
      obtain ⟨T6, _, b6, _⟩ := boxes1 WX (.cells #[.int .i64 0, .int .i64 (-1), .int .i64 most, .slice (some ⟨w6.heap.size + 1, 0, none⟩) 1 1, .slice (some ⟨w1.heap.size, 0, none⟩) 8 8, .int .i64 (-1), .slice none 0 0, .int .i64 0] 87)
      have N6 := (b6.block _ (by omega)).trans N10
      have F6 := (b6.block _ (by omega)).trans F10
      have O6 := (b6.block _ (by omega)).trans O10
      have R6 := (b6.block _ (by omega)).trans R10
      have e0 := cell_blk N6 0
      have e1 := cell_blk N6 1
      have g0 := fz_blk N6 0
      have g1 := fz_blk N6 1
      simp only [List.getElem?_toArray, List.getElem?_cons_zero, List.getElem?_cons_succ] at e0 e1
      have b12 := b11.trans (b6.mono b11.size)
      clear b6 N10 F10 O10 R10 X10 b11
      go_wp2_with fail
      generalize WX.alloc (.cells #[.int .i64 0, .int .i64 (-1), .int .i64 most, .slice (some ⟨w6.heap.size + 1, 0, none⟩) 1 1, .slice (some ⟨w1.heap.size, 0, none⟩) 8 8, .int .i64 (-1), .slice none 0 0, .int .i64 0] 87) = W7 at *
      have M := put2_blk N6 (.slice (some ⟨WX.heap.size, 0, none⟩) 1 1) (.slice none 0 0)
      have hbM := put2_below b12 (Nat.le_succ _) (A := w.heap.size + 1) (.slice (some ⟨WX.heap.size, 0, none⟩) 1 1) (.slice none 0 0)
      have T7 := (put2_other (.slice (some ⟨WX.heap.size, 0, none⟩) 1 1) (.slice none 0 0) (show WX.heap.size ≠ w.heap.size + 1 by omega)).trans T6
      have F7 := (put2_other (.slice (some ⟨WX.heap.size, 0, none⟩) 1 1) (.slice none 0 0) (show w6.heap.size ≠ w.heap.size + 1 by omega)).trans F6
      have O7 := (put2_other (.slice (some ⟨WX.heap.size, 0, none⟩) 1 1) (.slice none 0 0) (show w6.heap.size + 1 ≠ w.heap.size + 1 by omega)).trans O6
      have R7 := (put2_other (.slice (some ⟨WX.heap.size, 0, none⟩) 1 1) (.slice none 0 0) (show w1.heap.size ≠ w.heap.size + 1 by omega)).trans R6
      change bodyPost _ _ _ _ _ (put2 W7 (w.heap.size + 1) (.slice (some ⟨WX.heap.size, 0, none⟩) 1 1) (.slice none 0 0))
      generalize put2 W7 (w.heap.size + 1) (.slice (some ⟨WX.heap.size, 0, none⟩) 1 1) (.slice none 0 0) = WE at *
      have m0 := cell_blk M 0
      have m1 := cell_blk M 1
      simp at m0 m1
      have hacts : ActsAt WE (some ⟨WX.heap.size, 0, none⟩) (newW most).acts := newW_at T7 F7 O7 R7
      exact bodyPost_ret (v := .tuple #[.agg #[.slice (some ⟨WX.heap.size, 0, none⟩) 1 1, .slice none 0 0], .int .i64 0]) (by simp [results, Tryd.results22, go_sem, m0, m1]) rfl ⟨_, 1, by rw [HVE.out.1, HVE.out.2]; rfl, hbM, by rw [HVE.out.1]; exact hacts, by rw [HVE.out.1]; exact ToldAt.nil _ _⟩
  · have hE : E = p3 := by rw [HE.out]; simp [h3]
    have hV : V = ⟨[], []⟩ := by rw [HW.out, hE]; simp [h3]
    have HVE : Aside (V = _ ∧ E = _) := ⟨hV, hE⟩
    clear hV hE
    have M := put2_blk N1 (.slice none 0 0) (.slice none 0 0)
    have hbM := put2_below b2 (Nat.le_succ _) (A := w.heap.size + 1) (.slice none 0 0) (.slice none 0 0)
    have h3b : (p3 != 0) = true := by simp [h3]
    have h3c : (p3 == 0) = false := by simp [h3]
    go_wp2
    change bodyPost _ _ _ _ _ (put2 w1 (w.heap.size + 1) (.slice none 0 0) (.slice none 0 0))
    generalize put2 w1 (w.heap.size + 1) (.slice none 0 0) (.slice none 0 0) = W3 at *
    have m0 := cell_blk M 0
    have m1 := cell_blk M 1
    simp at m0 m1
    exact bodyPost_ret (v := .tuple #[.agg #[.slice none 0 0, .slice none 0 0], .int .i64 p3]) (by simp [results, Tryd.results22, go_sem, m0, m1]) rfl ⟨none, 0, by rw [HVE.out.1, HVE.out.2]; rfl, hbM, by rw [HVE.out.1]; exact ActsAt.nil _ _, by rw [HVE.out.1]; exact ToldAt.nil _ _⟩

end Go.Proofs.YtahcgnmhhgcfmaaDoor
