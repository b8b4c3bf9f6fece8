/- What is known behind an instruction: behindPutRef, behindMove, behind. -/
import Derived.Test.YtahcgnmhhgcfmaaDoorCVRegs
import Derived.BigRegion
namespace Go.Proofs.YtahcgnmhhgcfmaaDoor
open Go.RowKit

theorem vBoxes3 (w : World) (o0 o1 o2 : Obj) : (((w.alloc o0).alloc o1).alloc o2).heap[w.heap.size]? = some o0 ∧ (((w.alloc o0).alloc o1).alloc o2).heap[w.heap.size + 1]? = some o1 ∧ (((w.alloc o0).alloc o1).alloc o2).heap[w.heap.size + 1 + 1]? = some o2 ∧ Below w.heap.size w (((w.alloc o0).alloc o1).alloc o2) ∧ w.heap.size + 1 + 1 + 1 ≤ (((w.alloc o0).alloc o1).alloc o2).heap.size := by
  have s1 : (w.alloc o0).heap.size = w.heap.size + 1 := by simp
  have s2 : ((w.alloc o0).alloc o1).heap.size = w.heap.size + 1 + 1 := by simp
  refine ⟨(Deep.blk_alloc_lt _ _ _ (by omega)).trans ((Deep.blk_alloc_lt _ _ _ (by omega)).trans (Deep.blk_alloc_new w o0)), (Deep.blk_alloc_lt _ _ _ (by omega)).trans (by rw [← s1]; exact Deep.blk_alloc_new _ o1), by rw [← s2]; exact Deep.blk_alloc_new _ o2, ((below_box w o0).alloc (by omega) _).alloc (by omega) _, by simp⟩

/-- A variable of eight registers is written whole. -/
def putReg (w : World) (A : Nat) (k : List Int) : World := (((((((w.setCell ⟨A, 0, none⟩ (.int .i64 (vAt k 0))).setCell ⟨A, 1, none⟩ (.int .i64 (vAt k 1))).setCell ⟨A, 2, none⟩ (.int .i64 (vAt k 2))).setCell ⟨A, 3, none⟩ (.int .i64 (vAt k 3))).setCell ⟨A, 4, none⟩ (.int .i64 (vAt k 4))).setCell ⟨A, 5, none⟩ (.int .i64 (vAt k 5))).setCell ⟨A, 6, none⟩ (.int .i64 (vAt k 6))).setCell ⟨A, 7, none⟩ (.int .i64 (vAt k 7))

theorem vSet_blk {w : World} {g : Nat} {cur : Array Value} {t : TypeId} {fr : Nat × Nat} (h : w.heap[g]? = some (.cells cur t fr)) (j : Nat) (u : Value) : (w.setCell ⟨g, j, none⟩ u).heap[g]? = some (.cells (cur.setIfInBounds j u) t fr) := by
  simp only [World.setCell, Array.getElem?_modify, h]
  simp

theorem set8_blk {w : World} {A : Nat} {c0 c1 c2 c3 c4 c5 c6 c7 : Value} {t : TypeId} (h : w.heap[A]? = some (.cells #[c0, c1, c2, c3, c4, c5, c6, c7] t (0, 0))) (x0 x1 x2 x3 x4 x5 x6 x7 : Value) :
    ((((((((w.setCell ⟨A, 0, none⟩ x0).setCell ⟨A, 1, none⟩ x1).setCell ⟨A, 2, none⟩ x2).setCell ⟨A, 3, none⟩ x3).setCell ⟨A, 4, none⟩ x4).setCell ⟨A, 5, none⟩ x5).setCell ⟨A, 6, none⟩ x6).setCell ⟨A, 7, none⟩ x7).heap[A]? = some (.cells #[x0, x1, x2, x3, x4, x5, x6, x7] t (0, 0)) := by
  have h1 : (w.setCell ⟨A, 0, none⟩ x0).heap[A]? = some (.cells #[x0, c1, c2, c3, c4, c5, c6, c7] t (0, 0)) := by rw [vSet_blk h]; rfl
  have h2 : ((w.setCell ⟨A, 0, none⟩ x0).setCell ⟨A, 1, none⟩ x1).heap[A]? = some (.cells #[x0, x1, c2, c3, c4, c5, c6, c7] t (0, 0)) := by rw [vSet_blk h1]; rfl
  have h3 : (((w.setCell ⟨A, 0, none⟩ x0).setCell ⟨A, 1, none⟩ x1).setCell ⟨A, 2, none⟩ x2).heap[A]? = some (.cells #[x0, x1, x2, c3, c4, c5, c6, c7] t (0, 0)) := by rw [vSet_blk h2]; rfl
  have h4 : ((((w.setCell ⟨A, 0, none⟩ x0).setCell ⟨A, 1, none⟩ x1).setCell ⟨A, 2, none⟩ x2).setCell ⟨A, 3, none⟩ x3).heap[A]? = some (.cells #[x0, x1, x2, x3, c4, c5, c6, c7] t (0, 0)) := by rw [vSet_blk h3]; rfl
  have h5 : (((((w.setCell ⟨A, 0, none⟩ x0).setCell ⟨A, 1, none⟩ x1).setCell ⟨A, 2, none⟩ x2).setCell ⟨A, 3, none⟩ x3).setCell ⟨A, 4, none⟩ x4).heap[A]? = some (.cells #[x0, x1, x2, x3, x4, c5, c6, c7] t (0, 0)) := by rw [vSet_blk h4]; rfl
  have h6 : ((((((w.setCell ⟨A, 0, none⟩ x0).setCell ⟨A, 1, none⟩ x1).setCell ⟨A, 2, none⟩ x2).setCell ⟨A, 3, none⟩ x3).setCell ⟨A, 4, none⟩ x4).setCell ⟨A, 5, none⟩ x5).heap[A]? = some (.cells #[x0, x1, x2, x3, x4, x5, c6, c7] t (0, 0)) := by rw [vSet_blk h5]; rfl
  have h7 : (((((((w.setCell ⟨A, 0, none⟩ x0).setCell ⟨A, 1, none⟩ x1).setCell ⟨A, 2, none⟩ x2).setCell ⟨A, 3, none⟩ x3).setCell ⟨A, 4, none⟩ x4).setCell ⟨A, 5, none⟩ x5).setCell ⟨A, 6, none⟩ x6).heap[A]? = some (.cells #[x0, x1, x2, x3, x4, x5, x6, c7] t (0, 0)) := by rw [vSet_blk h6]; rfl
  have h8 : ((((((((w.setCell ⟨A, 0, none⟩ x0).setCell ⟨A, 1, none⟩ x1).setCell ⟨A, 2, none⟩ x2).setCell ⟨A, 3, none⟩ x3).setCell ⟨A, 4, none⟩ x4).setCell ⟨A, 5, none⟩ x5).setCell ⟨A, 6, none⟩ x6).setCell ⟨A, 7, none⟩ x7).heap[A]? = some (.cells #[x0, x1, x2, x3, x4, x5, x6, x7] t (0, 0)) := by rw [vSet_blk h7]; rfl
  exact h8

theorem putReg_blk {w : World} {A : Nat} {c0 c1 c2 c3 c4 c5 c6 c7 : Value} {t : TypeId} (h : w.heap[A]? = some (.cells #[c0, c1, c2, c3, c4, c5, c6, c7] t (0, 0))) (k : List Int) : (putReg w A k).heap[A]? = some (.cells (regA k) t (0, 0)) :=
  set8_blk h _ _ _ _ _ _ _ _

theorem putReg_below {B : Nat} {w0 w : World} (h : Below B w0 w) {A : Nat} (hA : B ≤ A) (k : List Int) : Below B w0 (putReg w A k) :=
  (((((((h.setCell hA _).setCell hA _).setCell hA _).setCell hA _).setCell hA _).setCell hA _).setCell hA _).setCell hA _

set_option maxHeartbeats 1000000 in
theorem behindPutRef_any (op n : Int) (a b : Nat) (k : List Int) (w : World) (hk : k.length = 8) (ha : a < 8) (hb : b < 8) :
    Calls Tryd.prog 84 #[insV op a b n, regV k] w fun e w' => e = .returned (regV (if (a : Int) = b ∨ vAt k b = 2 then vPut k a 2 else vPut k b 0)) ∧ Below w.heap.size w w' := by
  obtain ⟨r, hr⟩ : ∃ r, r = if (a : Int) = b ∨ vAt k b = 2 then vPut k a 2 else vPut k b 0 := ⟨_, rfl⟩
  have HR : Aside (r = if (a : Int) = b ∨ vAt k b = 2 then vPut k a 2 else vPut k b 0) := hr
  rw [← hr]
  clear hr
  have haz : (a : Int) < 8 := by omega
  have hbz : (b : Int) < 8 := by omega
  go_enter Tryd.func84, Tryd.ntmps84
  go_upto_region 1 with fail
  obtain ⟨N0, N1, N2, b1, hs⟩ := vBoxes3 w (Obj.cells #[.int .i64 op, .int .i64 a, .int .i64 b, .int .i64 n] 40) (Obj.cells (regA k) 73) (Obj.cells #[.int .i64 0, .int .i64 0, .int .i64 0, .int .i64 0, .int .i64 0, .int .i64 0, .int .i64 0, .int .i64 0] 73)
  generalize ((w.alloc (Obj.cells #[.int .i64 op, .int .i64 a, .int .i64 b, .int .i64 n] 40)).alloc (Obj.cells (regA k) 73)).alloc (Obj.cells #[.int .i64 0, .int .i64 0, .int .i64 0, .int .i64 0, .int .i64 0, .int .i64 0, .int .i64 0, .int .i64 0] 73) = W at *
  have i1 := vCell_blk N0 1
  have i2 := vCell_blk N0 2
  have ra := reg_at N1 ha
  have rb := reg_at N1 hb
  have fz : ∀ j, W.frozen? ⟨w.heap.size + 1, j, none⟩ = false := fun j => by simp [World.frozen?, N1]
  simp at i1 i2
  by_cases hab : (a : Int) = b
  · have e1 : ((a : Int) == (b : Int)) = true := by simp [hab]
    have HRR : Aside (r = vPut k a 2) := by show r = _; rw [HR.out, if_pos (Or.inl hab)]
    clear hab
    go_upto_region 4 with fail
    have M1 := reg_set N1 hk ha 2
    rw [← HRR.out] at M1
    have M2 := (Deep.blk_setCell_other W ⟨w.heap.size + 1, a, none⟩ (.int .i64 2) (w.heap.size + 1 + 1) (by show w.heap.size + 1 + 1 ≠ w.heap.size + 1; omega)).trans N2
    have bx : Below w.heap.size w (W.setCell ⟨w.heap.size + 1, a, none⟩ (.int .i64 2)) := b1.setCell (by show w.heap.size ≤ w.heap.size + 1; omega) _
    clear N0 N1 N2 b1 i1 i2 ra rb fz HR e1
    generalize W.setCell ⟨w.heap.size + 1, a, none⟩ (.int .i64 2) = wx at *
    have g0 : wx.cell? ⟨w.heap.size + 1, 0, none⟩ = some (.int .i64 (vAt r 0)) := reg_at M1 (a := 0) (by omega)
    have g1 : wx.cell? ⟨w.heap.size + 1, 1, none⟩ = some (.int .i64 (vAt r 1)) := reg_at M1 (a := 1) (by omega)
    have g2 : wx.cell? ⟨w.heap.size + 1, 2, none⟩ = some (.int .i64 (vAt r 2)) := reg_at M1 (a := 2) (by omega)
    have g3 : wx.cell? ⟨w.heap.size + 1, 3, none⟩ = some (.int .i64 (vAt r 3)) := reg_at M1 (a := 3) (by omega)
    have g4 : wx.cell? ⟨w.heap.size + 1, 4, none⟩ = some (.int .i64 (vAt r 4)) := reg_at M1 (a := 4) (by omega)
    have g5 : wx.cell? ⟨w.heap.size + 1, 5, none⟩ = some (.int .i64 (vAt r 5)) := reg_at M1 (a := 5) (by omega)
    have g6 : wx.cell? ⟨w.heap.size + 1, 6, none⟩ = some (.int .i64 (vAt r 6)) := reg_at M1 (a := 6) (by omega)
    have g7 : wx.cell? ⟨w.heap.size + 1, 7, none⟩ = some (.int .i64 (vAt r 7)) := reg_at M1 (a := 7) (by omega)
    have z0 := vCell_blk M2 0
    have z1 := vCell_blk M2 1
    have z2 := vCell_blk M2 2
    have z3 := vCell_blk M2 3
    have z4 := vCell_blk M2 4
    have z5 := vCell_blk M2 5
    have z6 := vCell_blk M2 6
    have z7 := vCell_blk M2 7
    simp at z0 z1 z2 z3 z4 z5 z6 z7
    have fr : ∀ j, wx.frozen? ⟨w.heap.size + 1 + 1, j, none⟩ = false := fun j => by simp [World.frozen?, M2]
    have P := putReg_blk M2 r
    have bp := putReg_below bx (A := w.heap.size + 1 + 1) (by omega) r
    clear M1 M2
    go_wp2
    change bodyPost _ _ _ _ _ (putReg wx (w.heap.size + 1 + 1) r)
    clear g0 g1 g2 g3 g4 g5 g6 g7 z0 z1 z2 z3 z4 z5 z6 z7 fr
    generalize putReg wx (w.heap.size + 1 + 1) r = wy at *
    have y0 : wy.cell? ⟨w.heap.size + 1 + 1, 0, none⟩ = some (.int .i64 (vAt r 0)) := reg_at P (a := 0) (by omega)
    have y1 : wy.cell? ⟨w.heap.size + 1 + 1, 1, none⟩ = some (.int .i64 (vAt r 1)) := reg_at P (a := 1) (by omega)
    have y2 : wy.cell? ⟨w.heap.size + 1 + 1, 2, none⟩ = some (.int .i64 (vAt r 2)) := reg_at P (a := 2) (by omega)
    have y3 : wy.cell? ⟨w.heap.size + 1 + 1, 3, none⟩ = some (.int .i64 (vAt r 3)) := reg_at P (a := 3) (by omega)
    have y4 : wy.cell? ⟨w.heap.size + 1 + 1, 4, none⟩ = some (.int .i64 (vAt r 4)) := reg_at P (a := 4) (by omega)
    have y5 : wy.cell? ⟨w.heap.size + 1 + 1, 5, none⟩ = some (.int .i64 (vAt r 5)) := reg_at P (a := 5) (by omega)
    have y6 : wy.cell? ⟨w.heap.size + 1 + 1, 6, none⟩ = some (.int .i64 (vAt r 6)) := reg_at P (a := 6) (by omega)
    have y7 : wy.cell? ⟨w.heap.size + 1 + 1, 7, none⟩ = some (.int .i64 (vAt r 7)) := reg_at P (a := 7) (by omega)
    exact bodyPost_ret (v := regV r) (by simp [results, Tryd.results84, go_sem, y0, y1, y2, y3, y4, y5, y6, y7]) rfl ⟨rfl, bp⟩
  · have e1 : ((a : Int) == (b : Int)) = false := by simp only [beq_eq_false_iff_ne]; exact hab
    by_cases h2 : vAt k b = 2
    · have e2 : (vAt k b == 2) = true := by simp [h2]
      have HRR : Aside (r = vPut k a 2) := by show r = _; rw [HR.out, if_pos (Or.inr h2)]
      clear hab h2
      go_upto_region 4 with fail
      have M1 := reg_set N1 hk ha 2
      rw [← HRR.out] at M1
      have M2 := (Deep.blk_setCell_other W ⟨w.heap.size + 1, a, none⟩ (.int .i64 2) (w.heap.size + 1 + 1) (by show w.heap.size + 1 + 1 ≠ w.heap.size + 1; omega)).trans N2
      have bx : Below w.heap.size w (W.setCell ⟨w.heap.size + 1, a, none⟩ (.int .i64 2)) := b1.setCell (by show w.heap.size ≤ w.heap.size + 1; omega) _
      clear N0 N1 N2 b1 i1 i2 ra rb fz HR e1 e2
      generalize W.setCell ⟨w.heap.size + 1, a, none⟩ (.int .i64 2) = wx at *
      have g0 : wx.cell? ⟨w.heap.size + 1, 0, none⟩ = some (.int .i64 (vAt r 0)) := reg_at M1 (a := 0) (by omega)
      have g1 : wx.cell? ⟨w.heap.size + 1, 1, none⟩ = some (.int .i64 (vAt r 1)) := reg_at M1 (a := 1) (by omega)
      have g2 : wx.cell? ⟨w.heap.size + 1, 2, none⟩ = some (.int .i64 (vAt r 2)) := reg_at M1 (a := 2) (by omega)
      have g3 : wx.cell? ⟨w.heap.size + 1, 3, none⟩ = some (.int .i64 (vAt r 3)) := reg_at M1 (a := 3) (by omega)
      have g4 : wx.cell? ⟨w.heap.size + 1, 4, none⟩ = some (.int .i64 (vAt r 4)) := reg_at M1 (a := 4) (by omega)
      have g5 : wx.cell? ⟨w.heap.size + 1, 5, none⟩ = some (.int .i64 (vAt r 5)) := reg_at M1 (a := 5) (by omega)
      have g6 : wx.cell? ⟨w.heap.size + 1, 6, none⟩ = some (.int .i64 (vAt r 6)) := reg_at M1 (a := 6) (by omega)
      have g7 : wx.cell? ⟨w.heap.size + 1, 7, none⟩ = some (.int .i64 (vAt r 7)) := reg_at M1 (a := 7) (by omega)
      have z0 := vCell_blk M2 0
      have z1 := vCell_blk M2 1
      have z2 := vCell_blk M2 2
      have z3 := vCell_blk M2 3
      have z4 := vCell_blk M2 4
      have z5 := vCell_blk M2 5
      have z6 := vCell_blk M2 6
      have z7 := vCell_blk M2 7
      simp at z0 z1 z2 z3 z4 z5 z6 z7
      have fr : ∀ j, wx.frozen? ⟨w.heap.size + 1 + 1, j, none⟩ = false := fun j => by simp [World.frozen?, M2]
      have P := putReg_blk M2 r
      have bp := putReg_below bx (A := w.heap.size + 1 + 1) (by omega) r
      clear M1 M2
      go_wp2
      change bodyPost _ _ _ _ _ (putReg wx (w.heap.size + 1 + 1) r)
      clear g0 g1 g2 g3 g4 g5 g6 g7 z0 z1 z2 z3 z4 z5 z6 z7 fr
      generalize putReg wx (w.heap.size + 1 + 1) r = wy at *
      have y0 : wy.cell? ⟨w.heap.size + 1 + 1, 0, none⟩ = some (.int .i64 (vAt r 0)) := reg_at P (a := 0) (by omega)
      have y1 : wy.cell? ⟨w.heap.size + 1 + 1, 1, none⟩ = some (.int .i64 (vAt r 1)) := reg_at P (a := 1) (by omega)
      have y2 : wy.cell? ⟨w.heap.size + 1 + 1, 2, none⟩ = some (.int .i64 (vAt r 2)) := reg_at P (a := 2) (by omega)
      have y3 : wy.cell? ⟨w.heap.size + 1 + 1, 3, none⟩ = some (.int .i64 (vAt r 3)) := reg_at P (a := 3) (by omega)
      have y4 : wy.cell? ⟨w.heap.size + 1 + 1, 4, none⟩ = some (.int .i64 (vAt r 4)) := reg_at P (a := 4) (by omega)
      have y5 : wy.cell? ⟨w.heap.size + 1 + 1, 5, none⟩ = some (.int .i64 (vAt r 5)) := reg_at P (a := 5) (by omega)
      have y6 : wy.cell? ⟨w.heap.size + 1 + 1, 6, none⟩ = some (.int .i64 (vAt r 6)) := reg_at P (a := 6) (by omega)
      have y7 : wy.cell? ⟨w.heap.size + 1 + 1, 7, none⟩ = some (.int .i64 (vAt r 7)) := reg_at P (a := 7) (by omega)
      exact bodyPost_ret (v := regV r) (by simp [results, Tryd.results84, go_sem, y0, y1, y2, y3, y4, y5, y6, y7]) rfl ⟨rfl, bp⟩
    · have e2 : (vAt k b == 2) = false := by simp [h2]
      have HRR : Aside (r = vPut k b 0) := by show r = _; rw [HR.out, if_neg (fun x => x.elim hab h2)]
      clear hab h2
      go_upto_region 4 with fail
      have M1 := reg_set N1 hk hb 0
      rw [← HRR.out] at M1
      have M2 := (Deep.blk_setCell_other W ⟨w.heap.size + 1, b, none⟩ (.int .i64 0) (w.heap.size + 1 + 1) (by show w.heap.size + 1 + 1 ≠ w.heap.size + 1; omega)).trans N2
      have bx : Below w.heap.size w (W.setCell ⟨w.heap.size + 1, b, none⟩ (.int .i64 0)) := b1.setCell (by show w.heap.size ≤ w.heap.size + 1; omega) _
      clear N0 N1 N2 b1 i1 i2 ra rb fz HR e1 e2
      generalize W.setCell ⟨w.heap.size + 1, b, none⟩ (.int .i64 0) = wx at *
      have g0 : wx.cell? ⟨w.heap.size + 1, 0, none⟩ = some (.int .i64 (vAt r 0)) := reg_at M1 (a := 0) (by omega)
      have g1 : wx.cell? ⟨w.heap.size + 1, 1, none⟩ = some (.int .i64 (vAt r 1)) := reg_at M1 (a := 1) (by omega)
      have g2 : wx.cell? ⟨w.heap.size + 1, 2, none⟩ = some (.int .i64 (vAt r 2)) := reg_at M1 (a := 2) (by omega)
      have g3 : wx.cell? ⟨w.heap.size + 1, 3, none⟩ = some (.int .i64 (vAt r 3)) := reg_at M1 (a := 3) (by omega)
      have g4 : wx.cell? ⟨w.heap.size + 1, 4, none⟩ = some (.int .i64 (vAt r 4)) := reg_at M1 (a := 4) (by omega)
      have g5 : wx.cell? ⟨w.heap.size + 1, 5, none⟩ = some (.int .i64 (vAt r 5)) := reg_at M1 (a := 5) (by omega)
      have g6 : wx.cell? ⟨w.heap.size + 1, 6, none⟩ = some (.int .i64 (vAt r 6)) := reg_at M1 (a := 6) (by omega)
      have g7 : wx.cell? ⟨w.heap.size + 1, 7, none⟩ = some (.int .i64 (vAt r 7)) := reg_at M1 (a := 7) (by omega)
      have z0 := vCell_blk M2 0
      have z1 := vCell_blk M2 1
      have z2 := vCell_blk M2 2
      have z3 := vCell_blk M2 3
      have z4 := vCell_blk M2 4
      have z5 := vCell_blk M2 5
      have z6 := vCell_blk M2 6
      have z7 := vCell_blk M2 7
      simp at z0 z1 z2 z3 z4 z5 z6 z7
      have fr : ∀ j, wx.frozen? ⟨w.heap.size + 1 + 1, j, none⟩ = false := fun j => by simp [World.frozen?, M2]
      have P := putReg_blk M2 r
      have bp := putReg_below bx (A := w.heap.size + 1 + 1) (by omega) r
      clear M1 M2
      go_wp2
      change bodyPost _ _ _ _ _ (putReg wx (w.heap.size + 1 + 1) r)
      clear g0 g1 g2 g3 g4 g5 g6 g7 z0 z1 z2 z3 z4 z5 z6 z7 fr
      generalize putReg wx (w.heap.size + 1 + 1) r = wy at *
      have y0 : wy.cell? ⟨w.heap.size + 1 + 1, 0, none⟩ = some (.int .i64 (vAt r 0)) := reg_at P (a := 0) (by omega)
      have y1 : wy.cell? ⟨w.heap.size + 1 + 1, 1, none⟩ = some (.int .i64 (vAt r 1)) := reg_at P (a := 1) (by omega)
      have y2 : wy.cell? ⟨w.heap.size + 1 + 1, 2, none⟩ = some (.int .i64 (vAt r 2)) := reg_at P (a := 2) (by omega)
      have y3 : wy.cell? ⟨w.heap.size + 1 + 1, 3, none⟩ = some (.int .i64 (vAt r 3)) := reg_at P (a := 3) (by omega)
      have y4 : wy.cell? ⟨w.heap.size + 1 + 1, 4, none⟩ = some (.int .i64 (vAt r 4)) := reg_at P (a := 4) (by omega)
      have y5 : wy.cell? ⟨w.heap.size + 1 + 1, 5, none⟩ = some (.int .i64 (vAt r 5)) := reg_at P (a := 5) (by omega)
      have y6 : wy.cell? ⟨w.heap.size + 1 + 1, 6, none⟩ = some (.int .i64 (vAt r 6)) := reg_at P (a := 6) (by omega)
      have y7 : wy.cell? ⟨w.heap.size + 1 + 1, 7, none⟩ = some (.int .i64 (vAt r 7)) := reg_at P (a := 7) (by omega)
      exact bodyPost_ret (v := regV r) (by simp [results, Tryd.results84, go_sem, y0, y1, y2, y3, y4, y5, y6, y7]) rfl ⟨rfl, bp⟩

theorem vPut_len8 {k : List Int} (hk : k.length = 8) (a : Int) (x : Int) : (vPut k a x).length = 8 := by rw [vPut_length]; exact hk

set_option maxHeartbeats 1000000 in
theorem behindMove_any (op n : Int) (a b : Nat) (k : List Int) (w : World) (hk : k.length = 8) (ha : a < 8) (hb : b < 8) :
    Calls Tryd.prog 85 #[insV op a b n, regV k] w fun e w' => e = .returned (regV (vPut (if vAt k b = 3 then vPut k b 0 else k) a (vAt k b))) ∧ Below w.heap.size w w' := by
  obtain ⟨r, hr⟩ : ∃ r, r = vPut (if vAt k b = 3 then vPut k b 0 else k) a (vAt k b) := ⟨_, rfl⟩
  have HR : Aside (r = vPut (if vAt k b = 3 then vPut k b 0 else k) a (vAt k b)) := hr
  rw [← hr]
  clear hr
  have haz : (a : Int) < 8 := by omega
  have hbz : (b : Int) < 8 := by omega
  go_enter Tryd.func85, Tryd.ntmps85
  go_upto_region 1 with fail
  obtain ⟨N0, N1, N2, b1, hs⟩ := vBoxes3 w (Obj.cells #[.int .i64 op, .int .i64 a, .int .i64 b, .int .i64 n] 40) (Obj.cells (regA k) 73) (Obj.cells #[.int .i64 0, .int .i64 0, .int .i64 0, .int .i64 0, .int .i64 0, .int .i64 0, .int .i64 0, .int .i64 0] 73)
  generalize ((w.alloc (Obj.cells #[.int .i64 op, .int .i64 a, .int .i64 b, .int .i64 n] 40)).alloc (Obj.cells (regA k) 73)).alloc (Obj.cells #[.int .i64 0, .int .i64 0, .int .i64 0, .int .i64 0, .int .i64 0, .int .i64 0, .int .i64 0, .int .i64 0] 73) = W at *
  have i0 := vCell_blk N0 0
  have i1 := vCell_blk N0 1
  have i2 := vCell_blk N0 2
  have i3 := vCell_blk N0 3
  have ra := reg_at N1 ha
  have rb := reg_at N1 hb
  have fz : ∀ j, W.frozen? ⟨w.heap.size + 1, j, none⟩ = false := fun j => by simp [World.frozen?, N1]
  simp at i0 i1 i2 i3
  by_cases h3 : vAt k b = 3
  · have e3 : (vAt k b == 3) = true := by simp [h3]
    have HRR : Aside (r = vPut (vPut k b 0) a (vAt k b)) := by show r = _; rw [HR.out, if_pos h3]
    clear h3
    go_upto_region 4 with fail
    have M1 := reg_set N1 hk hb 0
    have M2 := (Deep.blk_setCell_other W ⟨w.heap.size + 1, b, none⟩ (.int .i64 0) (w.heap.size + 1 + 1) (by show w.heap.size + 1 + 1 ≠ w.heap.size + 1; omega)).trans N2
    have M0 := (Deep.blk_setCell_other W ⟨w.heap.size + 1, b, none⟩ (.int .i64 0) w.heap.size (by show w.heap.size ≠ w.heap.size + 1; omega)).trans N0
    have bx : Below w.heap.size w (W.setCell ⟨w.heap.size + 1, b, none⟩ (.int .i64 0)) := b1.setCell (by show w.heap.size ≤ w.heap.size + 1; omega) _
    clear i0 i1 i2 i3 ra rb fz HR N0 N1 N2 b1
    generalize W.setCell ⟨w.heap.size + 1, b, none⟩ (.int .i64 0) = wv at *
    have i1 := vCell_blk M0 1
    simp at i1
    have ra := reg_at M1 ha
    have fz : ∀ j, wv.frozen? ⟨w.heap.size + 1, j, none⟩ = false := fun j => by simp [World.frozen?, M1]
    have O1 := M1
    have O2 := M2
    have ob := bx
    clear M1 M2 bx
    go_upto_region 5 with fail
    have M1 := reg_set O1 (vPut_len8 hk b 0) ha (vAt k b)
    rw [← HRR.out] at M1
    have M2 := (Deep.blk_setCell_other wv ⟨w.heap.size + 1, a, none⟩ (.int .i64 (vAt k b)) (w.heap.size + 1 + 1) (by show w.heap.size + 1 + 1 ≠ w.heap.size + 1; omega)).trans O2
    have bx : Below w.heap.size w (wv.setCell ⟨w.heap.size + 1, a, none⟩ (.int .i64 (vAt k b))) := ob.setCell (by show w.heap.size ≤ w.heap.size + 1; omega) _
    clear O1 O2 ob M0 i1 ra fz e3
    generalize wv.setCell ⟨w.heap.size + 1, a, none⟩ (.int .i64 (vAt k b)) = wx at *
    have g0 : wx.cell? ⟨w.heap.size + 1, 0, none⟩ = some (.int .i64 (vAt r 0)) := reg_at M1 (a := 0) (by omega)
    have g1 : wx.cell? ⟨w.heap.size + 1, 1, none⟩ = some (.int .i64 (vAt r 1)) := reg_at M1 (a := 1) (by omega)
    have g2 : wx.cell? ⟨w.heap.size + 1, 2, none⟩ = some (.int .i64 (vAt r 2)) := reg_at M1 (a := 2) (by omega)
    have g3 : wx.cell? ⟨w.heap.size + 1, 3, none⟩ = some (.int .i64 (vAt r 3)) := reg_at M1 (a := 3) (by omega)
    have g4 : wx.cell? ⟨w.heap.size + 1, 4, none⟩ = some (.int .i64 (vAt r 4)) := reg_at M1 (a := 4) (by omega)
    have g5 : wx.cell? ⟨w.heap.size + 1, 5, none⟩ = some (.int .i64 (vAt r 5)) := reg_at M1 (a := 5) (by omega)
    have g6 : wx.cell? ⟨w.heap.size + 1, 6, none⟩ = some (.int .i64 (vAt r 6)) := reg_at M1 (a := 6) (by omega)
    have g7 : wx.cell? ⟨w.heap.size + 1, 7, none⟩ = some (.int .i64 (vAt r 7)) := reg_at M1 (a := 7) (by omega)
    have z0 := vCell_blk M2 0
    have z1 := vCell_blk M2 1
    have z2 := vCell_blk M2 2
    have z3 := vCell_blk M2 3
    have z4 := vCell_blk M2 4
    have z5 := vCell_blk M2 5
    have z6 := vCell_blk M2 6
    have z7 := vCell_blk M2 7
    simp at z0 z1 z2 z3 z4 z5 z6 z7
    have fr : ∀ j, wx.frozen? ⟨w.heap.size + 1 + 1, j, none⟩ = false := fun j => by simp [World.frozen?, M2]
    have P := putReg_blk M2 r
    have bp := putReg_below bx (A := w.heap.size + 1 + 1) (by omega) r
    clear M1 M2
    go_wp2
    change bodyPost _ _ _ _ _ (putReg wx (w.heap.size + 1 + 1) r)
    clear g0 g1 g2 g3 g4 g5 g6 g7 z0 z1 z2 z3 z4 z5 z6 z7 fr
    generalize putReg wx (w.heap.size + 1 + 1) r = wy at *
    have y0 : wy.cell? ⟨w.heap.size + 1 + 1, 0, none⟩ = some (.int .i64 (vAt r 0)) := reg_at P (a := 0) (by omega)
    have y1 : wy.cell? ⟨w.heap.size + 1 + 1, 1, none⟩ = some (.int .i64 (vAt r 1)) := reg_at P (a := 1) (by omega)
    have y2 : wy.cell? ⟨w.heap.size + 1 + 1, 2, none⟩ = some (.int .i64 (vAt r 2)) := reg_at P (a := 2) (by omega)
    have y3 : wy.cell? ⟨w.heap.size + 1 + 1, 3, none⟩ = some (.int .i64 (vAt r 3)) := reg_at P (a := 3) (by omega)
    have y4 : wy.cell? ⟨w.heap.size + 1 + 1, 4, none⟩ = some (.int .i64 (vAt r 4)) := reg_at P (a := 4) (by omega)
    have y5 : wy.cell? ⟨w.heap.size + 1 + 1, 5, none⟩ = some (.int .i64 (vAt r 5)) := reg_at P (a := 5) (by omega)
    have y6 : wy.cell? ⟨w.heap.size + 1 + 1, 6, none⟩ = some (.int .i64 (vAt r 6)) := reg_at P (a := 6) (by omega)
    have y7 : wy.cell? ⟨w.heap.size + 1 + 1, 7, none⟩ = some (.int .i64 (vAt r 7)) := reg_at P (a := 7) (by omega)
    exact bodyPost_ret (v := regV r) (by simp [results, Tryd.results85, go_sem, y0, y1, y2, y3, y4, y5, y6, y7]) rfl ⟨rfl, bp⟩
  · have e3 : (vAt k b == 3) = false := by simp [h3]
    have HRR : Aside (r = vPut k a (vAt k b)) := by show r = _; rw [HR.out, if_neg h3]
    clear h3
    go_upto_region 5 with fail
    have M1 := reg_set N1 hk ha (vAt k b)
    rw [← HRR.out] at M1
    have M2 := (Deep.blk_setCell_other W ⟨w.heap.size + 1, a, none⟩ (.int .i64 (vAt k b)) (w.heap.size + 1 + 1) (by show w.heap.size + 1 + 1 ≠ w.heap.size + 1; omega)).trans N2
    have bx : Below w.heap.size w (W.setCell ⟨w.heap.size + 1, a, none⟩ (.int .i64 (vAt k b))) := b1.setCell (by show w.heap.size ≤ w.heap.size + 1; omega) _
    clear N0 N1 N2 b1 i0 i1 i2 i3 ra rb fz HR e3
    generalize W.setCell ⟨w.heap.size + 1, a, none⟩ (.int .i64 (vAt k b)) = wx at *
    have g0 : wx.cell? ⟨w.heap.size + 1, 0, none⟩ = some (.int .i64 (vAt r 0)) := reg_at M1 (a := 0) (by omega)
    have g1 : wx.cell? ⟨w.heap.size + 1, 1, none⟩ = some (.int .i64 (vAt r 1)) := reg_at M1 (a := 1) (by omega)
    have g2 : wx.cell? ⟨w.heap.size + 1, 2, none⟩ = some (.int .i64 (vAt r 2)) := reg_at M1 (a := 2) (by omega)
    have g3 : wx.cell? ⟨w.heap.size + 1, 3, none⟩ = some (.int .i64 (vAt r 3)) := reg_at M1 (a := 3) (by omega)
    have g4 : wx.cell? ⟨w.heap.size + 1, 4, none⟩ = some (.int .i64 (vAt r 4)) := reg_at M1 (a := 4) (by omega)
    have g5 : wx.cell? ⟨w.heap.size + 1, 5, none⟩ = some (.int .i64 (vAt r 5)) := reg_at M1 (a := 5) (by omega)
    have g6 : wx.cell? ⟨w.heap.size + 1, 6, none⟩ = some (.int .i64 (vAt r 6)) := reg_at M1 (a := 6) (by omega)
    have g7 : wx.cell? ⟨w.heap.size + 1, 7, none⟩ = some (.int .i64 (vAt r 7)) := reg_at M1 (a := 7) (by omega)
    have z0 := vCell_blk M2 0
    have z1 := vCell_blk M2 1
    have z2 := vCell_blk M2 2
    have z3 := vCell_blk M2 3
    have z4 := vCell_blk M2 4
    have z5 := vCell_blk M2 5
    have z6 := vCell_blk M2 6
    have z7 := vCell_blk M2 7
    simp at z0 z1 z2 z3 z4 z5 z6 z7
    have fr : ∀ j, wx.frozen? ⟨w.heap.size + 1 + 1, j, none⟩ = false := fun j => by simp [World.frozen?, M2]
    have P := putReg_blk M2 r
    have bp := putReg_below bx (A := w.heap.size + 1 + 1) (by omega) r
    clear M1 M2
    go_wp2
    change bodyPost _ _ _ _ _ (putReg wx (w.heap.size + 1 + 1) r)
    clear g0 g1 g2 g3 g4 g5 g6 g7 z0 z1 z2 z3 z4 z5 z6 z7 fr
    generalize putReg wx (w.heap.size + 1 + 1) r = wy at *
    have y0 : wy.cell? ⟨w.heap.size + 1 + 1, 0, none⟩ = some (.int .i64 (vAt r 0)) := reg_at P (a := 0) (by omega)
    have y1 : wy.cell? ⟨w.heap.size + 1 + 1, 1, none⟩ = some (.int .i64 (vAt r 1)) := reg_at P (a := 1) (by omega)
    have y2 : wy.cell? ⟨w.heap.size + 1 + 1, 2, none⟩ = some (.int .i64 (vAt r 2)) := reg_at P (a := 2) (by omega)
    have y3 : wy.cell? ⟨w.heap.size + 1 + 1, 3, none⟩ = some (.int .i64 (vAt r 3)) := reg_at P (a := 3) (by omega)
    have y4 : wy.cell? ⟨w.heap.size + 1 + 1, 4, none⟩ = some (.int .i64 (vAt r 4)) := reg_at P (a := 4) (by omega)
    have y5 : wy.cell? ⟨w.heap.size + 1 + 1, 5, none⟩ = some (.int .i64 (vAt r 5)) := reg_at P (a := 5) (by omega)
    have y6 : wy.cell? ⟨w.heap.size + 1 + 1, 6, none⟩ = some (.int .i64 (vAt r 6)) := reg_at P (a := 6) (by omega)
    have y7 : wy.cell? ⟨w.heap.size + 1 + 1, 7, none⟩ = some (.int .i64 (vAt r 7)) := reg_at P (a := 7) (by omega)
    exact bodyPost_ret (v := regV r) (by simp [results, Tryd.results85, go_sem, y0, y1, y2, y3, y4, y5, y6, y7]) rfl ⟨rfl, bp⟩

end Go.Proofs.YtahcgnmhhgcfmaaDoor
