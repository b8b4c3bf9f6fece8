/- What is known behind an instruction: those that do more. -/
import Derived.Test.YtahcgnmhhgcfmaaDoorCVBehind
namespace Go.Proofs.YtahcgnmhhgcfmaaDoor
open Go.RowKit

set_option maxHeartbeats 1000000 in
theorem behind17_any (n : Int) (a b : Nat) (k : List Int) (w : World) (hk : k.length = 8) (ha : a < 8) (hb : b < 8) :
    Calls Tryd.prog 63 #[insV 17 a b n, regV k] w fun e w' => e = .returned (regV (vBehind 17 a b k)) ∧ Below w.heap.size w w' := by
  obtain ⟨r, hr⟩ : ∃ r, r = vBehind 17 a b k := ⟨_, rfl⟩
  have HRR : Aside (r = vPut (vPut k b 0) a 1) := by show r = _; rw [hr]; rfl
  rw [← hr]
  clear hr
  have haz : (a : Int) < 8 := by omega
  have hbz : (b : Int) < 8 := by omega
  go_enter Tryd.func63, Tryd.ntmps63
  go_upto_region 1 with fail
  obtain ⟨N0, N1, N2, b1, hs⟩ := vBoxes3 w (Obj.cells #[.int .i64 17, .int .i64 a, .int .i64 b, .int .i64 n] 40) (Obj.cells (regA k) 73) (Obj.cells #[.int .i64 0, .int .i64 0, .int .i64 0, .int .i64 0, .int .i64 0, .int .i64 0, .int .i64 0, .int .i64 0] 73)
  generalize ((w.alloc (Obj.cells #[.int .i64 17, .int .i64 a, .int .i64 b, .int .i64 n] 40)).alloc (Obj.cells (regA k) 73)).alloc (Obj.cells #[.int .i64 0, .int .i64 0, .int .i64 0, .int .i64 0, .int .i64 0, .int .i64 0, .int .i64 0, .int .i64 0] 73) = W at *
  have i0 := vCell_blk N0 0
  have i1 := vCell_blk N0 1
  have i2 := vCell_blk N0 2
  have i3 := vCell_blk N0 3
  have ra := reg_at N1 ha
  have rb := reg_at N1 hb
  have fz : ∀ j, W.frozen? ⟨w.heap.size + 1, j, none⟩ = false := fun j => by simp [World.frozen?, N1]
  simp at i0 i1 i2 i3
  go_upto_region 22 with fail
  have M1 := reg_set N1 hk hb 0
  have M2 := (Deep.blk_setCell_other W ⟨w.heap.size + 1, b, none⟩ (.int .i64 0) (w.heap.size + 1 + 1) (by show w.heap.size + 1 + 1 ≠ w.heap.size + 1; omega)).trans N2
  have M0 := (Deep.blk_setCell_other W ⟨w.heap.size + 1, b, none⟩ (.int .i64 0) w.heap.size (by show w.heap.size ≠ w.heap.size + 1; omega)).trans N0
  have bx : Below w.heap.size w (W.setCell ⟨w.heap.size + 1, b, none⟩ (.int .i64 0)) := b1.setCell (by show w.heap.size ≤ w.heap.size + 1; omega) _
  clear i0 i1 i2 i3 ra rb fz N0 N1 N2 b1
  generalize W.setCell ⟨w.heap.size + 1, b, none⟩ (.int .i64 0) = wv at *
  have i1 := vCell_blk M0 1
  simp at i1
  have ra := reg_at M1 ha
  have fz : ∀ j, wv.frozen? ⟨w.heap.size + 1, j, none⟩ = false := fun j => by simp [World.frozen?, M1]
  have O1 := M1
  have O2 := M2
  have ob := bx
  clear M1 M2 bx
  go_upto_region 23 with fail
  have M1 := reg_set O1 (vPut_len8 hk b 0) ha 1
  rw [← HRR.out] at M1
  have M2 := (Deep.blk_setCell_other wv ⟨w.heap.size + 1, a, none⟩ (.int .i64 1) (w.heap.size + 1 + 1) (by show w.heap.size + 1 + 1 ≠ w.heap.size + 1; omega)).trans O2
  have bx : Below w.heap.size w (wv.setCell ⟨w.heap.size + 1, a, none⟩ (.int .i64 1)) := ob.setCell (by show w.heap.size ≤ w.heap.size + 1; omega) _
  clear O1 O2 ob M0 i1 ra fz
  generalize wv.setCell ⟨w.heap.size + 1, a, none⟩ (.int .i64 1) = wx at *
  have g0 : wx.cell? ⟨w.heap.size + 1, 0, none⟩ = some (.int .i64 (vAt r 0)) := reg_at M1 (a := 0) (by omega)
  have g1 : wx.cell? ⟨w.heap.size + 1, 1, none⟩ = some (.int .i64 (vAt r 1)) := reg_at M1 (a := 1) (by omega)
  have g2 : wx.cell? ⟨w.heap.size + 1, 2, none⟩ = some (.int .i64 (vAt r 2)) := reg_at M1 (a := 2) (by omega)
  have g3 : wx.cell? ⟨w.heap.size + 1, 3, none⟩ = some (.int .i64 (vAt r 3)) := reg_at M1 (a := 3) (by omega)
  have g4 : wx.cell? ⟨w.heap.size + 1, 4, none⟩ = some (.int .i64 (vAt r 4)) := reg_at M1 (a := 4) (by omega)
  have g5 : wx.cell? ⟨w.heap.size + 1, 5, none⟩ = some (.int .i64 (vAt r 5)) := reg_at M1 (a := 5) (by omega)
  have g6 : wx.cell? ⟨w.heap.size + 1, 6, none⟩ = some (.int .i64 (vAt r 6)) := reg_at M1 (a := 6) (by omega)
  have g7 : wx.cell? ⟨w.heap.size + 1, 7, none⟩ = some (.int .i64 (vAt r 7)) := reg_at M1 (a := 7) (by omega)
  have z0 := vCell_blk M2 0
  have z1 := vCell_blk M2 1
  have z2 := vCell_blk M2 2
  have z3 := vCell_blk M2 3
  have z4 := vCell_blk M2 4
  have z5 := vCell_blk M2 5
  have z6 := vCell_blk M2 6
  have z7 := vCell_blk M2 7
  simp at z0 z1 z2 z3 z4 z5 z6 z7
  have fr : ∀ j, wx.frozen? ⟨w.heap.size + 1 + 1, j, none⟩ = false := fun j => by simp [World.frozen?, M2]
  have P := putReg_blk M2 r
  have bp := putReg_below bx (A := w.heap.size + 1 + 1) (by omega) r
  clear M1 M2
  go_wp2
  change bodyPost _ _ _ _ _ (putReg wx (w.heap.size + 1 + 1) r)
  clear g0 g1 g2 g3 g4 g5 g6 g7 z0 z1 z2 z3 z4 z5 z6 z7 fr
  generalize putReg wx (w.heap.size + 1 + 1) r = wy at *
  have y0 : wy.cell? ⟨w.heap.size + 1 + 1, 0, none⟩ = some (.int .i64 (vAt r 0)) := reg_at P (a := 0) (by omega)
  have y1 : wy.cell? ⟨w.heap.size + 1 + 1, 1, none⟩ = some (.int .i64 (vAt r 1)) := reg_at P (a := 1) (by omega)
  have y2 : wy.cell? ⟨w.heap.size + 1 + 1, 2, none⟩ = some (.int .i64 (vAt r 2)) := reg_at P (a := 2) (by omega)
  have y3 : wy.cell? ⟨w.heap.size + 1 + 1, 3, none⟩ = some (.int .i64 (vAt r 3)) := reg_at P (a := 3) (by omega)
  have y4 : wy.cell? ⟨w.heap.size + 1 + 1, 4, none⟩ = some (.int .i64 (vAt r 4)) := reg_at P (a := 4) (by omega)
  have y5 : wy.cell? ⟨w.heap.size + 1 + 1, 5, none⟩ = some (.int .i64 (vAt r 5)) := reg_at P (a := 5) (by omega)
  have y6 : wy.cell? ⟨w.heap.size + 1 + 1, 6, none⟩ = some (.int .i64 (vAt r 6)) := reg_at P (a := 6) (by omega)
  have y7 : wy.cell? ⟨w.heap.size + 1 + 1, 7, none⟩ = some (.int .i64 (vAt r 7)) := reg_at P (a := 7) (by omega)
  exact bodyPost_ret (v := regV r) (by simp [results, Tryd.results63, go_sem, y0, y1, y2, y3, y4, y5, y6, y7]) rfl ⟨rfl, bp⟩

set_option maxHeartbeats 1000000 in
theorem behind11_any (n : Int) (a b : Nat) (k : List Int) (w : World) (hk : k.length = 8) (ha : a < 8) (hb : b < 8) :
    Calls Tryd.prog 63 #[insV 11 a b n, regV k] w fun e w' => e = .returned (regV (vBehind 11 a b k)) ∧ Below w.heap.size w w' := by
  obtain ⟨r, hr⟩ : ∃ r, r = vBehind 11 a b k := ⟨_, rfl⟩
  have HRR : Aside (r = if (a : Int) = b ∨ vAt k b = 2 then vPut k a 2 else vPut k b 0) := by show r = _; rw [hr]; rfl
  rw [← hr]
  clear hr
  have haz : (a : Int) < 8 := by omega
  have hbz : (b : Int) < 8 := by omega
  go_enter Tryd.func63, Tryd.ntmps63
  go_upto_region 1 with fail
  obtain ⟨N0, N1, N2, b1, hs⟩ := vBoxes3 w (Obj.cells #[.int .i64 11, .int .i64 a, .int .i64 b, .int .i64 n] 40) (Obj.cells (regA k) 73) (Obj.cells #[.int .i64 0, .int .i64 0, .int .i64 0, .int .i64 0, .int .i64 0, .int .i64 0, .int .i64 0, .int .i64 0] 73)
  generalize ((w.alloc (Obj.cells #[.int .i64 11, .int .i64 a, .int .i64 b, .int .i64 n] 40)).alloc (Obj.cells (regA k) 73)).alloc (Obj.cells #[.int .i64 0, .int .i64 0, .int .i64 0, .int .i64 0, .int .i64 0, .int .i64 0, .int .i64 0, .int .i64 0] 73) = W at *
  have i0 := vCell_blk N0 0
  have i1 := vCell_blk N0 1
  have i2 := vCell_blk N0 2
  have i3 := vCell_blk N0 3
  have ra := reg_at N1 ha
  have rb := reg_at N1 hb
  have fz : ∀ j, W.frozen? ⟨w.heap.size + 1, j, none⟩ = false := fun j => by simp [World.frozen?, N1]
  simp at i0 i1 i2 i3
  have g0 : W.cell? ⟨w.heap.size + 1, 0, none⟩ = some (.int .i64 (vAt k 0)) := reg_at N1 (a := 0) (by omega)
  have g1 : W.cell? ⟨w.heap.size + 1, 1, none⟩ = some (.int .i64 (vAt k 1)) := reg_at N1 (a := 1) (by omega)
  have g2 : W.cell? ⟨w.heap.size + 1, 2, none⟩ = some (.int .i64 (vAt k 2)) := reg_at N1 (a := 2) (by omega)
  have g3 : W.cell? ⟨w.heap.size + 1, 3, none⟩ = some (.int .i64 (vAt k 3)) := reg_at N1 (a := 3) (by omega)
  have g4 : W.cell? ⟨w.heap.size + 1, 4, none⟩ = some (.int .i64 (vAt k 4)) := reg_at N1 (a := 4) (by omega)
  have g5 : W.cell? ⟨w.heap.size + 1, 5, none⟩ = some (.int .i64 (vAt k 5)) := reg_at N1 (a := 5) (by omega)
  have g6 : W.cell? ⟨w.heap.size + 1, 6, none⟩ = some (.int .i64 (vAt k 6)) := reg_at N1 (a := 6) (by omega)
  have g7 : W.cell? ⟨w.heap.size + 1, 7, none⟩ = some (.int .i64 (vAt k 7)) := reg_at N1 (a := 7) (by omega)
  have hc := behindPutRef_any 11 n a b k W hk ha hb
  rw [← HRR.out] at hc
  go_wp2_with fail
  refine hc.mono ?_
  clear hc
  rintro e wx ⟨rfl, hbx⟩
  have M2 := (hbx.block (w.heap.size + 1 + 1) (by omega)).trans N2
  have bx := b1.trans (hbx.mono b1.size)
  clear N0 N1 N2 b1 i0 i1 i2 i3 ra rb fz g0 g1 g2 g3 g4 g5 g6 g7 hbx
  have z0 := vCell_blk M2 0
  have z1 := vCell_blk M2 1
  have z2 := vCell_blk M2 2
  have z3 := vCell_blk M2 3
  have z4 := vCell_blk M2 4
  have z5 := vCell_blk M2 5
  have z6 := vCell_blk M2 6
  have z7 := vCell_blk M2 7
  simp at z0 z1 z2 z3 z4 z5 z6 z7
  have fr : ∀ j, wx.frozen? ⟨w.heap.size + 1 + 1, j, none⟩ = false := fun j => by simp [World.frozen?, M2]
  have P := putReg_blk M2 r
  have bp := putReg_below bx (A := w.heap.size + 1 + 1) (by omega) r
  clear M2
  go_wp2
  change bodyPost _ _ _ _ _ (putReg wx (w.heap.size + 1 + 1) r)
  clear z0 z1 z2 z3 z4 z5 z6 z7 fr
  generalize putReg wx (w.heap.size + 1 + 1) r = wy at *
  have y0 : wy.cell? ⟨w.heap.size + 1 + 1, 0, none⟩ = some (.int .i64 (vAt r 0)) := reg_at P (a := 0) (by omega)
  have y1 : wy.cell? ⟨w.heap.size + 1 + 1, 1, none⟩ = some (.int .i64 (vAt r 1)) := reg_at P (a := 1) (by omega)
  have y2 : wy.cell? ⟨w.heap.size + 1 + 1, 2, none⟩ = some (.int .i64 (vAt r 2)) := reg_at P (a := 2) (by omega)
  have y3 : wy.cell? ⟨w.heap.size + 1 + 1, 3, none⟩ = some (.int .i64 (vAt r 3)) := reg_at P (a := 3) (by omega)
  have y4 : wy.cell? ⟨w.heap.size + 1 + 1, 4, none⟩ = some (.int .i64 (vAt r 4)) := reg_at P (a := 4) (by omega)
  have y5 : wy.cell? ⟨w.heap.size + 1 + 1, 5, none⟩ = some (.int .i64 (vAt r 5)) := reg_at P (a := 5) (by omega)
  have y6 : wy.cell? ⟨w.heap.size + 1 + 1, 6, none⟩ = some (.int .i64 (vAt r 6)) := reg_at P (a := 6) (by omega)
  have y7 : wy.cell? ⟨w.heap.size + 1 + 1, 7, none⟩ = some (.int .i64 (vAt r 7)) := reg_at P (a := 7) (by omega)
  exact bodyPost_ret (v := regV r) (by simp [results, Tryd.results63, go_sem, y0, y1, y2, y3, y4, y5, y6, y7]) rfl ⟨rfl, bp⟩

set_option maxHeartbeats 1000000 in
theorem behind12_any (n : Int) (a b : Nat) (k : List Int) (w : World) (hk : k.length = 8) (ha : a < 8) (hb : b < 8) :
    Calls Tryd.prog 63 #[insV 12 a b n, regV k] w fun e w' => e = .returned (regV (vBehind 12 a b k)) ∧ Below w.heap.size w w' := by
  obtain ⟨r, hr⟩ : ∃ r, r = vBehind 12 a b k := ⟨_, rfl⟩
  have HRR : Aside (r = vPut (if vAt k b = 3 then vPut k b 0 else k) a (vAt k b)) := by show r = _; rw [hr]; rfl
  rw [← hr]
  clear hr
  have haz : (a : Int) < 8 := by omega
  have hbz : (b : Int) < 8 := by omega
  go_enter Tryd.func63, Tryd.ntmps63
  go_upto_region 1 with fail
  obtain ⟨N0, N1, N2, b1, hs⟩ := vBoxes3 w (Obj.cells #[.int .i64 12, .int .i64 a, .int .i64 b, .int .i64 n] 40) (Obj.cells (regA k) 73) (Obj.cells #[.int .i64 0, .int .i64 0, .int .i64 0, .int .i64 0, .int .i64 0, .int .i64 0, .int .i64 0, .int .i64 0] 73)
  generalize ((w.alloc (Obj.cells #[.int .i64 12, .int .i64 a, .int .i64 b, .int .i64 n] 40)).alloc (Obj.cells (regA k) 73)).alloc (Obj.cells #[.int .i64 0, .int .i64 0, .int .i64 0, .int .i64 0, .int .i64 0, .int .i64 0, .int .i64 0, .int .i64 0] 73) = W at *
  have i0 := vCell_blk N0 0
  have i1 := vCell_blk N0 1
  have i2 := vCell_blk N0 2
  have i3 := vCell_blk N0 3
  have ra := reg_at N1 ha
  have rb := reg_at N1 hb
  have fz : ∀ j, W.frozen? ⟨w.heap.size + 1, j, none⟩ = false := fun j => by simp [World.frozen?, N1]
  simp at i0 i1 i2 i3
  have g0 : W.cell? ⟨w.heap.size + 1, 0, none⟩ = some (.int .i64 (vAt k 0)) := reg_at N1 (a := 0) (by omega)
  have g1 : W.cell? ⟨w.heap.size + 1, 1, none⟩ = some (.int .i64 (vAt k 1)) := reg_at N1 (a := 1) (by omega)
  have g2 : W.cell? ⟨w.heap.size + 1, 2, none⟩ = some (.int .i64 (vAt k 2)) := reg_at N1 (a := 2) (by omega)
  have g3 : W.cell? ⟨w.heap.size + 1, 3, none⟩ = some (.int .i64 (vAt k 3)) := reg_at N1 (a := 3) (by omega)
  have g4 : W.cell? ⟨w.heap.size + 1, 4, none⟩ = some (.int .i64 (vAt k 4)) := reg_at N1 (a := 4) (by omega)
  have g5 : W.cell? ⟨w.heap.size + 1, 5, none⟩ = some (.int .i64 (vAt k 5)) := reg_at N1 (a := 5) (by omega)
  have g6 : W.cell? ⟨w.heap.size + 1, 6, none⟩ = some (.int .i64 (vAt k 6)) := reg_at N1 (a := 6) (by omega)
  have g7 : W.cell? ⟨w.heap.size + 1, 7, none⟩ = some (.int .i64 (vAt k 7)) := reg_at N1 (a := 7) (by omega)
  have hc := behindMove_any 12 n a b k W hk ha hb
  rw [← HRR.out] at hc
  go_wp2_with fail
  refine hc.mono ?_
  clear hc
  rintro e wx ⟨rfl, hbx⟩
  have M2 := (hbx.block (w.heap.size + 1 + 1) (by omega)).trans N2
  have bx := b1.trans (hbx.mono b1.size)
  clear N0 N1 N2 b1 i0 i1 i2 i3 ra rb fz g0 g1 g2 g3 g4 g5 g6 g7 hbx
  have z0 := vCell_blk M2 0
  have z1 := vCell_blk M2 1
  have z2 := vCell_blk M2 2
  have z3 := vCell_blk M2 3
  have z4 := vCell_blk M2 4
  have z5 := vCell_blk M2 5
  have z6 := vCell_blk M2 6
  have z7 := vCell_blk M2 7
  simp at z0 z1 z2 z3 z4 z5 z6 z7
  have fr : ∀ j, wx.frozen? ⟨w.heap.size + 1 + 1, j, none⟩ = false := fun j => by simp [World.frozen?, M2]
  have P := putReg_blk M2 r
  have bp := putReg_below bx (A := w.heap.size + 1 + 1) (by omega) r
  clear M2
  go_wp2
  change bodyPost _ _ _ _ _ (putReg wx (w.heap.size + 1 + 1) r)
  clear z0 z1 z2 z3 z4 z5 z6 z7 fr
  generalize putReg wx (w.heap.size + 1 + 1) r = wy at *
  have y0 : wy.cell? ⟨w.heap.size + 1 + 1, 0, none⟩ = some (.int .i64 (vAt r 0)) := reg_at P (a := 0) (by omega)
  have y1 : wy.cell? ⟨w.heap.size + 1 + 1, 1, none⟩ = some (.int .i64 (vAt r 1)) := reg_at P (a := 1) (by omega)
  have y2 : wy.cell? ⟨w.heap.size + 1 + 1, 2, none⟩ = some (.int .i64 (vAt r 2)) := reg_at P (a := 2) (by omega)
  have y3 : wy.cell? ⟨w.heap.size + 1 + 1, 3, none⟩ = some (.int .i64 (vAt r 3)) := reg_at P (a := 3) (by omega)
  have y4 : wy.cell? ⟨w.heap.size + 1 + 1, 4, none⟩ = some (.int .i64 (vAt r 4)) := reg_at P (a := 4) (by omega)
  have y5 : wy.cell? ⟨w.heap.size + 1 + 1, 5, none⟩ = some (.int .i64 (vAt r 5)) := reg_at P (a := 5) (by omega)
  have y6 : wy.cell? ⟨w.heap.size + 1 + 1, 6, none⟩ = some (.int .i64 (vAt r 6)) := reg_at P (a := 6) (by omega)
  have y7 : wy.cell? ⟨w.heap.size + 1 + 1, 7, none⟩ = some (.int .i64 (vAt r 7)) := reg_at P (a := 7) (by omega)
  exact bodyPost_ret (v := regV r) (by simp [results, Tryd.results63, go_sem, y0, y1, y2, y3, y4, y5, y6, y7]) rfl ⟨rfl, bp⟩

set_option maxHeartbeats 1000000 in
theorem behind10_any (n : Int) (a b : Nat) (k : List Int) (w : World) (hk : k.length = 8) (ha : a < 8) (hb : b < 8) :
    Calls Tryd.prog 63 #[insV 10 a b n, regV k] w fun e w' => e = .returned (regV (vBehind 10 a b k)) ∧ Below w.heap.size w w' := by
  obtain ⟨r, hr⟩ : ∃ r, r = vBehind 10 a b k := ⟨_, rfl⟩
  have HRR : Aside (r = vPut (vPut k a 2) b 2) := by show r = _; rw [hr]; rfl
  rw [← hr]
  clear hr
  have haz : (a : Int) < 8 := by omega
  have hbz : (b : Int) < 8 := by omega
  go_enter Tryd.func63, Tryd.ntmps63
  go_upto_region 1 with fail
  obtain ⟨N0, N1, N2, b1, hs⟩ := vBoxes3 w (Obj.cells #[.int .i64 10, .int .i64 a, .int .i64 b, .int .i64 n] 40) (Obj.cells (regA k) 73) (Obj.cells #[.int .i64 0, .int .i64 0, .int .i64 0, .int .i64 0, .int .i64 0, .int .i64 0, .int .i64 0, .int .i64 0] 73)
  generalize ((w.alloc (Obj.cells #[.int .i64 10, .int .i64 a, .int .i64 b, .int .i64 n] 40)).alloc (Obj.cells (regA k) 73)).alloc (Obj.cells #[.int .i64 0, .int .i64 0, .int .i64 0, .int .i64 0, .int .i64 0, .int .i64 0, .int .i64 0, .int .i64 0] 73) = W at *
  have i0 := vCell_blk N0 0
  have i1 := vCell_blk N0 1
  have i2 := vCell_blk N0 2
  have i3 := vCell_blk N0 3
  have ra := reg_at N1 ha
  have rb := reg_at N1 hb
  have fz : ∀ j, W.frozen? ⟨w.heap.size + 1, j, none⟩ = false := fun j => by simp [World.frozen?, N1]
  simp at i0 i1 i2 i3
  have q1 := reg_set N1 hk ha 2
  have q2 := reg_at q1 hb
  have q3 : ∀ j, (W.setCell ⟨w.heap.size + 1, a, none⟩ (.int .i64 2)).frozen? ⟨w.heap.size + 1, j, none⟩ = false := fun j => by simp [World.frozen?, q1]
  have M1 : ((W.setCell ⟨w.heap.size + 1, a, none⟩ (.int .i64 2)).setCell ⟨w.heap.size + 1, b, none⟩ (.int .i64 2)).drew.heap[w.heap.size + 1]? = _ := reg_set q1 (vPut_len8 hk a 2) hb 2
  rw [← HRR.out] at M1
  have M2 : ((W.setCell ⟨w.heap.size + 1, a, none⟩ (.int .i64 2)).setCell ⟨w.heap.size + 1, b, none⟩ (.int .i64 2)).drew.heap[w.heap.size + 1 + 1]? = _ := ((Deep.blk_setCell_other (W.setCell ⟨w.heap.size + 1, a, none⟩ (.int .i64 2)) ⟨w.heap.size + 1, b, none⟩ (.int .i64 2) (w.heap.size + 1 + 1) (by show w.heap.size + 1 + 1 ≠ w.heap.size + 1; omega)).trans (Deep.blk_setCell_other W ⟨w.heap.size + 1, a, none⟩ (.int .i64 2) (w.heap.size + 1 + 1) (by show w.heap.size + 1 + 1 ≠ w.heap.size + 1; omega))).trans N2
  have bx : Below w.heap.size w ((W.setCell ⟨w.heap.size + 1, a, none⟩ (.int .i64 2)).setCell ⟨w.heap.size + 1, b, none⟩ (.int .i64 2)).drew := ((b1.setCell (by show w.heap.size ≤ w.heap.size + 1; omega) _).setCell (by show w.heap.size ≤ w.heap.size + 1; omega) _).drew
  have HM : Aside (((W.setCell ⟨w.heap.size + 1, a, none⟩ (.int .i64 2)).setCell ⟨w.heap.size + 1, b, none⟩ (.int .i64 2)).drew.heap[w.heap.size + 1]? = some (.cells (regA r) 73 (0, 0)) ∧ ((W.setCell ⟨w.heap.size + 1, a, none⟩ (.int .i64 2)).setCell ⟨w.heap.size + 1, b, none⟩ (.int .i64 2)).drew.heap[w.heap.size + 1 + 1]? = some (.cells #[.int .i64 0, .int .i64 0, .int .i64 0, .int .i64 0, .int .i64 0, .int .i64 0, .int .i64 0, .int .i64 0] 73 (0, 0)) ∧ Below w.heap.size w ((W.setCell ⟨w.heap.size + 1, a, none⟩ (.int .i64 2)).setCell ⟨w.heap.size + 1, b, none⟩ (.int .i64 2)).drew) := ⟨M1, M2, bx⟩
  clear M1 M2 bx q1
  go_upto_region 12 with fail
  go_region
  all_goals
    obtain ⟨M1, M2, bx⟩ := HM.out
    clear HM q2 q3 N0 N1 N2 b1 i0 i1 i2 i3 ra rb fz
    generalize ((W.setCell ⟨w.heap.size + 1, a, none⟩ (.int .i64 2)).setCell ⟨w.heap.size + 1, b, none⟩ (.int .i64 2)).drew = wx at *
    have g0 : wx.cell? ⟨w.heap.size + 1, 0, none⟩ = some (.int .i64 (vAt r 0)) := reg_at M1 (a := 0) (by omega)
    have g1 : wx.cell? ⟨w.heap.size + 1, 1, none⟩ = some (.int .i64 (vAt r 1)) := reg_at M1 (a := 1) (by omega)
    have g2 : wx.cell? ⟨w.heap.size + 1, 2, none⟩ = some (.int .i64 (vAt r 2)) := reg_at M1 (a := 2) (by omega)
    have g3 : wx.cell? ⟨w.heap.size + 1, 3, none⟩ = some (.int .i64 (vAt r 3)) := reg_at M1 (a := 3) (by omega)
    have g4 : wx.cell? ⟨w.heap.size + 1, 4, none⟩ = some (.int .i64 (vAt r 4)) := reg_at M1 (a := 4) (by omega)
    have g5 : wx.cell? ⟨w.heap.size + 1, 5, none⟩ = some (.int .i64 (vAt r 5)) := reg_at M1 (a := 5) (by omega)
    have g6 : wx.cell? ⟨w.heap.size + 1, 6, none⟩ = some (.int .i64 (vAt r 6)) := reg_at M1 (a := 6) (by omega)
    have g7 : wx.cell? ⟨w.heap.size + 1, 7, none⟩ = some (.int .i64 (vAt r 7)) := reg_at M1 (a := 7) (by omega)
    have z0 := vCell_blk M2 0
    have z1 := vCell_blk M2 1
    have z2 := vCell_blk M2 2
    have z3 := vCell_blk M2 3
    have z4 := vCell_blk M2 4
    have z5 := vCell_blk M2 5
    have z6 := vCell_blk M2 6
    have z7 := vCell_blk M2 7
    simp at z0 z1 z2 z3 z4 z5 z6 z7
    have fr : ∀ j, wx.frozen? ⟨w.heap.size + 1 + 1, j, none⟩ = false := fun j => by simp [World.frozen?, M2]
    have P := putReg_blk M2 r
    have bp := putReg_below bx (A := w.heap.size + 1 + 1) (by omega) r
    clear M1 M2
    go_wp2
    change bodyPost _ _ _ _ _ (putReg wx (w.heap.size + 1 + 1) r)
    clear g0 g1 g2 g3 g4 g5 g6 g7 z0 z1 z2 z3 z4 z5 z6 z7 fr
    generalize putReg wx (w.heap.size + 1 + 1) r = wy at *
    have y0 : wy.cell? ⟨w.heap.size + 1 + 1, 0, none⟩ = some (.int .i64 (vAt r 0)) := reg_at P (a := 0) (by omega)
    have y1 : wy.cell? ⟨w.heap.size + 1 + 1, 1, none⟩ = some (.int .i64 (vAt r 1)) := reg_at P (a := 1) (by omega)
    have y2 : wy.cell? ⟨w.heap.size + 1 + 1, 2, none⟩ = some (.int .i64 (vAt r 2)) := reg_at P (a := 2) (by omega)
    have y3 : wy.cell? ⟨w.heap.size + 1 + 1, 3, none⟩ = some (.int .i64 (vAt r 3)) := reg_at P (a := 3) (by omega)
    have y4 : wy.cell? ⟨w.heap.size + 1 + 1, 4, none⟩ = some (.int .i64 (vAt r 4)) := reg_at P (a := 4) (by omega)
    have y5 : wy.cell? ⟨w.heap.size + 1 + 1, 5, none⟩ = some (.int .i64 (vAt r 5)) := reg_at P (a := 5) (by omega)
    have y6 : wy.cell? ⟨w.heap.size + 1 + 1, 6, none⟩ = some (.int .i64 (vAt r 6)) := reg_at P (a := 6) (by omega)
    have y7 : wy.cell? ⟨w.heap.size + 1 + 1, 7, none⟩ = some (.int .i64 (vAt r 7)) := reg_at P (a := 7) (by omega)
    exact bodyPost_ret (v := regV r) (by simp [results, Tryd.results63, go_sem, y0, y1, y2, y3, y4, y5, y6, y7]) rfl ⟨rfl, bp⟩

end Go.Proofs.YtahcgnmhhgcfmaaDoor
