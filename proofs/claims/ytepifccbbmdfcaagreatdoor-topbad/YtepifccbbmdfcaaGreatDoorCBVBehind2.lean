/- VBehind2. -/
import Derived.Test.YtepifccbbmdfcaaGreatDoorCBVBehind
namespace Go.Proofs.YtepifccbbmdfcaaGreatDoor
set_option maxRecDepth 100000
set_option maxHeartbeats 8000000
open Go.RowKit
theorem behind1_any (n:Int) (a b:Nat) (k:List Int) (w:World) (hk:k.length=8) (ha:a<8) (hb:b<8) :
  Calls Tryz.prog 98 #[insV 1 a b n,regV k] w fun e w'=>e=.returned (regV (vBehind 1 a b k))/\Below w.heap.size w w':=by
 obtain⟨r,hr⟩:∃ r,r=vBehind 1 a b k:=⟨_,rfl⟩;have HRR:Aside (r=vPut k a 1):=by show r=_;rw[hr];rfl
 rw[<- hr];clear hr;have haz:(a:Int)<8:=by omega
 have hbz:(b:Int)<8:=by omega
 go_enter Tryz.func98,Tryz.ntmps98
 go_upto_region 1 with fail
 obtain⟨N0,N1,N2,b1,hs⟩:=vBoxes3 w (Obj.cells #[.int .i64 1,.int .i64 a,.int .i64 b,.int .i64 n] 43) (Obj.cells (regA k) 99) (Obj.cells #[.int .i64 0,.int .i64 0,.int .i64 0,.int .i64 0,.int .i64 0,.int .i64 0,.int .i64 0,.int .i64 0] 99);generalize ((w.alloc (Obj.cells #[.int .i64 1,.int .i64 a,.int .i64 b,.int .i64 n] 43)).alloc (Obj.cells (regA k) 99)).alloc (Obj.cells #[.int .i64 0,.int .i64 0,.int .i64 0,.int .i64 0,.int .i64 0,.int .i64 0,.int .i64 0,.int .i64 0] 99)=W at *
 obtain⟨i0,i1,i2,i3⟩:=cells4 N0;have ra:=reg_at N1 ha;have rb:=reg_at N1 hb;have fz:∀ j,W.frozen? ⟨w.heap.size+1,j,none⟩=false:=fun j=>by simp[World.frozen?,N1]
 go_upto_region 23 with fail
 have M1:=reg_set N1 hk ha 1;rw[<- HRR.out] at M1;have M2:=(Deep.blk_setCell_other W ⟨w.heap.size+1,a,none⟩ (.int .i64 1) (w.heap.size+1+1) (by show w.heap.size+1+1≠w.heap.size+1;omega)).trans N2;have bx:Below w.heap.size w (W.setCell ⟨w.heap.size+1,a,none⟩ (.int .i64 1)):=b1.setCell (by show w.heap.size<=w.heap.size+1;omega) _;clear N0 N1 N2 b1 i0 i1 i2 i3 ra rb fz;generalize W.setCell ⟨w.heap.size+1,a,none⟩ (.int .i64 1)=wx at *
 obtain⟨g0,g1,g2,g3,g4,g5,g6,g7⟩:=regs_at M1;obtain⟨z0,z1,z2,z3,z4,z5,z6,z7⟩:=cells8 M2;have fr:∀ j,wx.frozen? ⟨w.heap.size+1+1,j,none⟩=false:=fun j=>by simp[World.frozen?,M2]
 have P:=putReg_blk M2 r;have bp:=putReg_below bx (A:=w.heap.size+1+1) (by omega) r;clear M1 M2;go_wp2
 change bodyPost _ _ _ _ _ (putReg wx (w.heap.size+1+1) r)
 clear g0 g1 g2 g3 g4 g5 g6 g7 z0 z1 z2 z3 z4 z5 z6 z7 fr;generalize putReg wx (w.heap.size+1+1) r=wy at *;obtain⟨y0,y1,y2,y3,y4,y5,y6,y7⟩:=regs_at P;exact bodyPost_ret (v:=regV r) (by simp[results,Tryz.results98,go_sem,y0,y1,y2,y3,y4,y5,y6,y7]) rfl ⟨rfl,bp⟩
theorem behind2_any (n:Int) (a b:Nat) (k:List Int) (w:World) (hk:k.length=8) (ha:a<8) (hb:b<8) :
  Calls Tryz.prog 98 #[insV 2 a b n,regV k] w fun e w'=>e=.returned (regV (vBehind 2 a b k))/\Below w.heap.size w w':=by
 obtain⟨r,hr⟩:∃ r,r=vBehind 2 a b k:=⟨_,rfl⟩;have HRR:Aside (r=vPut k a 1):=by show r=_;rw[hr];rfl
 rw[<- hr];clear hr;have haz:(a:Int)<8:=by omega
 have hbz:(b:Int)<8:=by omega
 go_enter Tryz.func98,Tryz.ntmps98
 go_upto_region 1 with fail
 obtain⟨N0,N1,N2,b1,hs⟩:=vBoxes3 w (Obj.cells #[.int .i64 2,.int .i64 a,.int .i64 b,.int .i64 n] 43) (Obj.cells (regA k) 99) (Obj.cells #[.int .i64 0,.int .i64 0,.int .i64 0,.int .i64 0,.int .i64 0,.int .i64 0,.int .i64 0,.int .i64 0] 99);generalize ((w.alloc (Obj.cells #[.int .i64 2,.int .i64 a,.int .i64 b,.int .i64 n] 43)).alloc (Obj.cells (regA k) 99)).alloc (Obj.cells #[.int .i64 0,.int .i64 0,.int .i64 0,.int .i64 0,.int .i64 0,.int .i64 0,.int .i64 0,.int .i64 0] 99)=W at *
 obtain⟨i0,i1,i2,i3⟩:=cells4 N0;have ra:=reg_at N1 ha;have rb:=reg_at N1 hb;have fz:∀ j,W.frozen? ⟨w.heap.size+1,j,none⟩=false:=fun j=>by simp[World.frozen?,N1]
 go_upto_region 23 with fail
 have M1:=reg_set N1 hk ha 1;rw[<- HRR.out] at M1;have M2:=(Deep.blk_setCell_other W ⟨w.heap.size+1,a,none⟩ (.int .i64 1) (w.heap.size+1+1) (by show w.heap.size+1+1≠w.heap.size+1;omega)).trans N2;have bx:Below w.heap.size w (W.setCell ⟨w.heap.size+1,a,none⟩ (.int .i64 1)):=b1.setCell (by show w.heap.size<=w.heap.size+1;omega) _;clear N0 N1 N2 b1 i0 i1 i2 i3 ra rb fz;generalize W.setCell ⟨w.heap.size+1,a,none⟩ (.int .i64 1)=wx at *
 obtain⟨g0,g1,g2,g3,g4,g5,g6,g7⟩:=regs_at M1;obtain⟨z0,z1,z2,z3,z4,z5,z6,z7⟩:=cells8 M2;have fr:∀ j,wx.frozen? ⟨w.heap.size+1+1,j,none⟩=false:=fun j=>by simp[World.frozen?,M2]
 have P:=putReg_blk M2 r;have bp:=putReg_below bx (A:=w.heap.size+1+1) (by omega) r;clear M1 M2;go_wp2
 change bodyPost _ _ _ _ _ (putReg wx (w.heap.size+1+1) r)
 clear g0 g1 g2 g3 g4 g5 g6 g7 z0 z1 z2 z3 z4 z5 z6 z7 fr;generalize putReg wx (w.heap.size+1+1) r=wy at *;obtain⟨y0,y1,y2,y3,y4,y5,y6,y7⟩:=regs_at P;exact bodyPost_ret (v:=regV r) (by simp[results,Tryz.results98,go_sem,y0,y1,y2,y3,y4,y5,y6,y7]) rfl ⟨rfl,bp⟩
theorem behind3_any (n:Int) (a b:Nat) (k:List Int) (w:World) (hk:k.length=8) (ha:a<8) (hb:b<8) :
  Calls Tryz.prog 98 #[insV 3 a b n,regV k] w fun e w'=>e=.returned (regV (vBehind 3 a b k))/\Below w.heap.size w w':=by
 obtain⟨r,hr⟩:∃ r,r=vBehind 3 a b k:=⟨_,rfl⟩;have HRR:Aside (r=vPut k a 1):=by show r=_;rw[hr];rfl
 rw[<- hr];clear hr;have haz:(a:Int)<8:=by omega
 have hbz:(b:Int)<8:=by omega
 go_enter Tryz.func98,Tryz.ntmps98
 go_upto_region 1 with fail
 obtain⟨N0,N1,N2,b1,hs⟩:=vBoxes3 w (Obj.cells #[.int .i64 3,.int .i64 a,.int .i64 b,.int .i64 n] 43) (Obj.cells (regA k) 99) (Obj.cells #[.int .i64 0,.int .i64 0,.int .i64 0,.int .i64 0,.int .i64 0,.int .i64 0,.int .i64 0,.int .i64 0] 99);generalize ((w.alloc (Obj.cells #[.int .i64 3,.int .i64 a,.int .i64 b,.int .i64 n] 43)).alloc (Obj.cells (regA k) 99)).alloc (Obj.cells #[.int .i64 0,.int .i64 0,.int .i64 0,.int .i64 0,.int .i64 0,.int .i64 0,.int .i64 0,.int .i64 0] 99)=W at *
 obtain⟨i0,i1,i2,i3⟩:=cells4 N0;have ra:=reg_at N1 ha;have rb:=reg_at N1 hb;have fz:∀ j,W.frozen? ⟨w.heap.size+1,j,none⟩=false:=fun j=>by simp[World.frozen?,N1]
 go_upto_region 23 with fail
 have M1:=reg_set N1 hk ha 1;rw[<- HRR.out] at M1;have M2:=(Deep.blk_setCell_other W ⟨w.heap.size+1,a,none⟩ (.int .i64 1) (w.heap.size+1+1) (by show w.heap.size+1+1≠w.heap.size+1;omega)).trans N2;have bx:Below w.heap.size w (W.setCell ⟨w.heap.size+1,a,none⟩ (.int .i64 1)):=b1.setCell (by show w.heap.size<=w.heap.size+1;omega) _;clear N0 N1 N2 b1 i0 i1 i2 i3 ra rb fz;generalize W.setCell ⟨w.heap.size+1,a,none⟩ (.int .i64 1)=wx at *
 obtain⟨g0,g1,g2,g3,g4,g5,g6,g7⟩:=regs_at M1;obtain⟨z0,z1,z2,z3,z4,z5,z6,z7⟩:=cells8 M2;have fr:∀ j,wx.frozen? ⟨w.heap.size+1+1,j,none⟩=false:=fun j=>by simp[World.frozen?,M2]
 have P:=putReg_blk M2 r;have bp:=putReg_below bx (A:=w.heap.size+1+1) (by omega) r;clear M1 M2;go_wp2
 change bodyPost _ _ _ _ _ (putReg wx (w.heap.size+1+1) r)
 clear g0 g1 g2 g3 g4 g5 g6 g7 z0 z1 z2 z3 z4 z5 z6 z7 fr;generalize putReg wx (w.heap.size+1+1) r=wy at *;obtain⟨y0,y1,y2,y3,y4,y5,y6,y7⟩:=regs_at P;exact bodyPost_ret (v:=regV r) (by simp[results,Tryz.results98,go_sem,y0,y1,y2,y3,y4,y5,y6,y7]) rfl ⟨rfl,bp⟩
theorem behind4_any (n:Int) (a b:Nat) (k:List Int) (w:World) (hk:k.length=8) (ha:a<8) (hb:b<8) :
  Calls Tryz.prog 98 #[insV 4 a b n,regV k] w fun e w'=>e=.returned (regV (vBehind 4 a b k))/\Below w.heap.size w w':=by
 obtain⟨r,hr⟩:∃ r,r=vBehind 4 a b k:=⟨_,rfl⟩;have HRR:Aside (r=vPut k a 1):=by show r=_;rw[hr];rfl
 rw[<- hr];clear hr;have haz:(a:Int)<8:=by omega
 have hbz:(b:Int)<8:=by omega
 go_enter Tryz.func98,Tryz.ntmps98
 go_upto_region 1 with fail
 obtain⟨N0,N1,N2,b1,hs⟩:=vBoxes3 w (Obj.cells #[.int .i64 4,.int .i64 a,.int .i64 b,.int .i64 n] 43) (Obj.cells (regA k) 99) (Obj.cells #[.int .i64 0,.int .i64 0,.int .i64 0,.int .i64 0,.int .i64 0,.int .i64 0,.int .i64 0,.int .i64 0] 99);generalize ((w.alloc (Obj.cells #[.int .i64 4,.int .i64 a,.int .i64 b,.int .i64 n] 43)).alloc (Obj.cells (regA k) 99)).alloc (Obj.cells #[.int .i64 0,.int .i64 0,.int .i64 0,.int .i64 0,.int .i64 0,.int .i64 0,.int .i64 0,.int .i64 0] 99)=W at *
 obtain⟨i0,i1,i2,i3⟩:=cells4 N0;have ra:=reg_at N1 ha;have rb:=reg_at N1 hb;have fz:∀ j,W.frozen? ⟨w.heap.size+1,j,none⟩=false:=fun j=>by simp[World.frozen?,N1]
 go_upto_region 23 with fail
 have M1:=reg_set N1 hk ha 1;rw[<- HRR.out] at M1;have M2:=(Deep.blk_setCell_other W ⟨w.heap.size+1,a,none⟩ (.int .i64 1) (w.heap.size+1+1) (by show w.heap.size+1+1≠w.heap.size+1;omega)).trans N2;have bx:Below w.heap.size w (W.setCell ⟨w.heap.size+1,a,none⟩ (.int .i64 1)):=b1.setCell (by show w.heap.size<=w.heap.size+1;omega) _;clear N0 N1 N2 b1 i0 i1 i2 i3 ra rb fz;generalize W.setCell ⟨w.heap.size+1,a,none⟩ (.int .i64 1)=wx at *
 obtain⟨g0,g1,g2,g3,g4,g5,g6,g7⟩:=regs_at M1;obtain⟨z0,z1,z2,z3,z4,z5,z6,z7⟩:=cells8 M2;have fr:∀ j,wx.frozen? ⟨w.heap.size+1+1,j,none⟩=false:=fun j=>by simp[World.frozen?,M2]
 have P:=putReg_blk M2 r;have bp:=putReg_below bx (A:=w.heap.size+1+1) (by omega) r;clear M1 M2;go_wp2
 change bodyPost _ _ _ _ _ (putReg wx (w.heap.size+1+1) r)
 clear g0 g1 g2 g3 g4 g5 g6 g7 z0 z1 z2 z3 z4 z5 z6 z7 fr;generalize putReg wx (w.heap.size+1+1) r=wy at *;obtain⟨y0,y1,y2,y3,y4,y5,y6,y7⟩:=regs_at P;exact bodyPost_ret (v:=regV r) (by simp[results,Tryz.results98,go_sem,y0,y1,y2,y3,y4,y5,y6,y7]) rfl ⟨rfl,bp⟩
theorem behind8_any (n:Int) (a b:Nat) (k:List Int) (w:World) (hk:k.length=8) (ha:a<8) (hb:b<8) :
  Calls Tryz.prog 98 #[insV 8 a b n,regV k] w fun e w'=>e=.returned (regV (vBehind 8 a b k))/\Below w.heap.size w w':=by
 obtain⟨r,hr⟩:∃ r,r=vBehind 8 a b k:=⟨_,rfl⟩;have HRR:Aside (r=vPut k a 1):=by show r=_;rw[hr];rfl
 rw[<- hr];clear hr;have haz:(a:Int)<8:=by omega
 have hbz:(b:Int)<8:=by omega
 go_enter Tryz.func98,Tryz.ntmps98
 go_upto_region 1 with fail
 obtain⟨N0,N1,N2,b1,hs⟩:=vBoxes3 w (Obj.cells #[.int .i64 8,.int .i64 a,.int .i64 b,.int .i64 n] 43) (Obj.cells (regA k) 99) (Obj.cells #[.int .i64 0,.int .i64 0,.int .i64 0,.int .i64 0,.int .i64 0,.int .i64 0,.int .i64 0,.int .i64 0] 99);generalize ((w.alloc (Obj.cells #[.int .i64 8,.int .i64 a,.int .i64 b,.int .i64 n] 43)).alloc (Obj.cells (regA k) 99)).alloc (Obj.cells #[.int .i64 0,.int .i64 0,.int .i64 0,.int .i64 0,.int .i64 0,.int .i64 0,.int .i64 0,.int .i64 0] 99)=W at *
 obtain⟨i0,i1,i2,i3⟩:=cells4 N0;have ra:=reg_at N1 ha;have rb:=reg_at N1 hb;have fz:∀ j,W.frozen? ⟨w.heap.size+1,j,none⟩=false:=fun j=>by simp[World.frozen?,N1]
 go_upto_region 23 with fail
 have M1:=reg_set N1 hk ha 1;rw[<- HRR.out] at M1;have M2:=(Deep.blk_setCell_other W ⟨w.heap.size+1,a,none⟩ (.int .i64 1) (w.heap.size+1+1) (by show w.heap.size+1+1≠w.heap.size+1;omega)).trans N2;have bx:Below w.heap.size w (W.setCell ⟨w.heap.size+1,a,none⟩ (.int .i64 1)):=b1.setCell (by show w.heap.size<=w.heap.size+1;omega) _;clear N0 N1 N2 b1 i0 i1 i2 i3 ra rb fz;generalize W.setCell ⟨w.heap.size+1,a,none⟩ (.int .i64 1)=wx at *
 obtain⟨g0,g1,g2,g3,g4,g5,g6,g7⟩:=regs_at M1;obtain⟨z0,z1,z2,z3,z4,z5,z6,z7⟩:=cells8 M2;have fr:∀ j,wx.frozen? ⟨w.heap.size+1+1,j,none⟩=false:=fun j=>by simp[World.frozen?,M2]
 have P:=putReg_blk M2 r;have bp:=putReg_below bx (A:=w.heap.size+1+1) (by omega) r;clear M1 M2;go_wp2
 change bodyPost _ _ _ _ _ (putReg wx (w.heap.size+1+1) r)
 clear g0 g1 g2 g3 g4 g5 g6 g7 z0 z1 z2 z3 z4 z5 z6 z7 fr;generalize putReg wx (w.heap.size+1+1) r=wy at *;obtain⟨y0,y1,y2,y3,y4,y5,y6,y7⟩:=regs_at P;exact bodyPost_ret (v:=regV r) (by simp[results,Tryz.results98,go_sem,y0,y1,y2,y3,y4,y5,y6,y7]) rfl ⟨rfl,bp⟩
theorem behind16_any (n:Int) (a b:Nat) (k:List Int) (w:World) (hk:k.length=8) (ha:a<8) (hb:b<8) :
  Calls Tryz.prog 98 #[insV 16 a b n,regV k] w fun e w'=>e=.returned (regV (vBehind 16 a b k))/\Below w.heap.size w w':=by
 obtain⟨r,hr⟩:∃ r,r=vBehind 16 a b k:=⟨_,rfl⟩;have HRR:Aside (r=vPut k a 1):=by show r=_;rw[hr];rfl
 rw[<- hr];clear hr;have haz:(a:Int)<8:=by omega
 have hbz:(b:Int)<8:=by omega
 go_enter Tryz.func98,Tryz.ntmps98
 go_upto_region 1 with fail
 obtain⟨N0,N1,N2,b1,hs⟩:=vBoxes3 w (Obj.cells #[.int .i64 16,.int .i64 a,.int .i64 b,.int .i64 n] 43) (Obj.cells (regA k) 99) (Obj.cells #[.int .i64 0,.int .i64 0,.int .i64 0,.int .i64 0,.int .i64 0,.int .i64 0,.int .i64 0,.int .i64 0] 99);generalize ((w.alloc (Obj.cells #[.int .i64 16,.int .i64 a,.int .i64 b,.int .i64 n] 43)).alloc (Obj.cells (regA k) 99)).alloc (Obj.cells #[.int .i64 0,.int .i64 0,.int .i64 0,.int .i64 0,.int .i64 0,.int .i64 0,.int .i64 0,.int .i64 0] 99)=W at *
 obtain⟨i0,i1,i2,i3⟩:=cells4 N0;have ra:=reg_at N1 ha;have rb:=reg_at N1 hb;have fz:∀ j,W.frozen? ⟨w.heap.size+1,j,none⟩=false:=fun j=>by simp[World.frozen?,N1]
 go_upto_region 23 with fail
 have M1:=reg_set N1 hk ha 1;rw[<- HRR.out] at M1;have M2:=(Deep.blk_setCell_other W ⟨w.heap.size+1,a,none⟩ (.int .i64 1) (w.heap.size+1+1) (by show w.heap.size+1+1≠w.heap.size+1;omega)).trans N2;have bx:Below w.heap.size w (W.setCell ⟨w.heap.size+1,a,none⟩ (.int .i64 1)):=b1.setCell (by show w.heap.size<=w.heap.size+1;omega) _;clear N0 N1 N2 b1 i0 i1 i2 i3 ra rb fz;generalize W.setCell ⟨w.heap.size+1,a,none⟩ (.int .i64 1)=wx at *
 obtain⟨g0,g1,g2,g3,g4,g5,g6,g7⟩:=regs_at M1;obtain⟨z0,z1,z2,z3,z4,z5,z6,z7⟩:=cells8 M2;have fr:∀ j,wx.frozen? ⟨w.heap.size+1+1,j,none⟩=false:=fun j=>by simp[World.frozen?,M2]
 have P:=putReg_blk M2 r;have bp:=putReg_below bx (A:=w.heap.size+1+1) (by omega) r;clear M1 M2;go_wp2
 change bodyPost _ _ _ _ _ (putReg wx (w.heap.size+1+1) r)
 clear g0 g1 g2 g3 g4 g5 g6 g7 z0 z1 z2 z3 z4 z5 z6 z7 fr;generalize putReg wx (w.heap.size+1+1) r=wy at *;obtain⟨y0,y1,y2,y3,y4,y5,y6,y7⟩:=regs_at P;exact bodyPost_ret (v:=regV r) (by simp[results,Tryz.results98,go_sem,y0,y1,y2,y3,y4,y5,y6,y7]) rfl ⟨rfl,bp⟩
theorem behind7_any (n:Int) (a b:Nat) (k:List Int) (w:World) (hk:k.length=8) (ha:a<8) (hb:b<8) :
  Calls Tryz.prog 98 #[insV 7 a b n,regV k] w fun e w'=>e=.returned (regV (vBehind 7 a b k))/\Below w.heap.size w w':=by
 obtain⟨r,hr⟩:∃ r,r=vBehind 7 a b k:=⟨_,rfl⟩;have HRR:Aside (r=vPut k a 3):=by show r=_;rw[hr];rfl
 rw[<- hr];clear hr;have haz:(a:Int)<8:=by omega
 have hbz:(b:Int)<8:=by omega
 go_enter Tryz.func98,Tryz.ntmps98
 go_upto_region 1 with fail
 obtain⟨N0,N1,N2,b1,hs⟩:=vBoxes3 w (Obj.cells #[.int .i64 7,.int .i64 a,.int .i64 b,.int .i64 n] 43) (Obj.cells (regA k) 99) (Obj.cells #[.int .i64 0,.int .i64 0,.int .i64 0,.int .i64 0,.int .i64 0,.int .i64 0,.int .i64 0,.int .i64 0] 99);generalize ((w.alloc (Obj.cells #[.int .i64 7,.int .i64 a,.int .i64 b,.int .i64 n] 43)).alloc (Obj.cells (regA k) 99)).alloc (Obj.cells #[.int .i64 0,.int .i64 0,.int .i64 0,.int .i64 0,.int .i64 0,.int .i64 0,.int .i64 0,.int .i64 0] 99)=W at *
 obtain⟨i0,i1,i2,i3⟩:=cells4 N0;have ra:=reg_at N1 ha;have rb:=reg_at N1 hb;have fz:∀ j,W.frozen? ⟨w.heap.size+1,j,none⟩=false:=fun j=>by simp[World.frozen?,N1]
 go_upto_region 23 with fail
 have M1:=reg_set N1 hk ha 3;rw[<- HRR.out] at M1;have M2:=(Deep.blk_setCell_other W ⟨w.heap.size+1,a,none⟩ (.int .i64 3) (w.heap.size+1+1) (by show w.heap.size+1+1≠w.heap.size+1;omega)).trans N2;have bx:Below w.heap.size w (W.setCell ⟨w.heap.size+1,a,none⟩ (.int .i64 3)):=b1.setCell (by show w.heap.size<=w.heap.size+1;omega) _;clear N0 N1 N2 b1 i0 i1 i2 i3 ra rb fz;generalize W.setCell ⟨w.heap.size+1,a,none⟩ (.int .i64 3)=wx at *
 obtain⟨g0,g1,g2,g3,g4,g5,g6,g7⟩:=regs_at M1;obtain⟨z0,z1,z2,z3,z4,z5,z6,z7⟩:=cells8 M2;have fr:∀ j,wx.frozen? ⟨w.heap.size+1+1,j,none⟩=false:=fun j=>by simp[World.frozen?,M2]
 have P:=putReg_blk M2 r;have bp:=putReg_below bx (A:=w.heap.size+1+1) (by omega) r;clear M1 M2;go_wp2
 change bodyPost _ _ _ _ _ (putReg wx (w.heap.size+1+1) r)
 clear g0 g1 g2 g3 g4 g5 g6 g7 z0 z1 z2 z3 z4 z5 z6 z7 fr;generalize putReg wx (w.heap.size+1+1) r=wy at *;obtain⟨y0,y1,y2,y3,y4,y5,y6,y7⟩:=regs_at P;exact bodyPost_ret (v:=regV r) (by simp[results,Tryz.results98,go_sem,y0,y1,y2,y3,y4,y5,y6,y7]) rfl ⟨rfl,bp⟩
theorem behind13_any (n:Int) (a b:Nat) (k:List Int) (w:World) (hk:k.length=8) (ha:a<8) (hb:b<8) :
  Calls Tryz.prog 98 #[insV 13 a b n,regV k] w fun e w'=>e=.returned (regV (vBehind 13 a b k))/\Below w.heap.size w w':=by
 obtain⟨r,hr⟩:∃ r,r=vBehind 13 a b k:=⟨_,rfl⟩;have HRR:Aside (r=vPut k a 0):=by show r=_;rw[hr];rfl
 rw[<- hr];clear hr;have haz:(a:Int)<8:=by omega
 have hbz:(b:Int)<8:=by omega
 go_enter Tryz.func98,Tryz.ntmps98
 go_upto_region 1 with fail
 obtain⟨N0,N1,N2,b1,hs⟩:=vBoxes3 w (Obj.cells #[.int .i64 13,.int .i64 a,.int .i64 b,.int .i64 n] 43) (Obj.cells (regA k) 99) (Obj.cells #[.int .i64 0,.int .i64 0,.int .i64 0,.int .i64 0,.int .i64 0,.int .i64 0,.int .i64 0,.int .i64 0] 99);generalize ((w.alloc (Obj.cells #[.int .i64 13,.int .i64 a,.int .i64 b,.int .i64 n] 43)).alloc (Obj.cells (regA k) 99)).alloc (Obj.cells #[.int .i64 0,.int .i64 0,.int .i64 0,.int .i64 0,.int .i64 0,.int .i64 0,.int .i64 0,.int .i64 0] 99)=W at *
 obtain⟨i0,i1,i2,i3⟩:=cells4 N0;have ra:=reg_at N1 ha;have rb:=reg_at N1 hb;have fz:∀ j,W.frozen? ⟨w.heap.size+1,j,none⟩=false:=fun j=>by simp[World.frozen?,N1]
 go_upto_region 23 with fail
 have M1:=reg_set N1 hk ha 0;rw[<- HRR.out] at M1;have M2:=(Deep.blk_setCell_other W ⟨w.heap.size+1,a,none⟩ (.int .i64 0) (w.heap.size+1+1) (by show w.heap.size+1+1≠w.heap.size+1;omega)).trans N2;have bx:Below w.heap.size w (W.setCell ⟨w.heap.size+1,a,none⟩ (.int .i64 0)):=b1.setCell (by show w.heap.size<=w.heap.size+1;omega) _;clear N0 N1 N2 b1 i0 i1 i2 i3 ra rb fz;generalize W.setCell ⟨w.heap.size+1,a,none⟩ (.int .i64 0)=wx at *
 obtain⟨g0,g1,g2,g3,g4,g5,g6,g7⟩:=regs_at M1;obtain⟨z0,z1,z2,z3,z4,z5,z6,z7⟩:=cells8 M2;have fr:∀ j,wx.frozen? ⟨w.heap.size+1+1,j,none⟩=false:=fun j=>by simp[World.frozen?,M2]
 have P:=putReg_blk M2 r;have bp:=putReg_below bx (A:=w.heap.size+1+1) (by omega) r;clear M1 M2;go_wp2
 change bodyPost _ _ _ _ _ (putReg wx (w.heap.size+1+1) r)
 clear g0 g1 g2 g3 g4 g5 g6 g7 z0 z1 z2 z3 z4 z5 z6 z7 fr;generalize putReg wx (w.heap.size+1+1) r=wy at *;obtain⟨y0,y1,y2,y3,y4,y5,y6,y7⟩:=regs_at P;exact bodyPost_ret (v:=regV r) (by simp[results,Tryz.results98,go_sem,y0,y1,y2,y3,y4,y5,y6,y7]) rfl ⟨rfl,bp⟩
theorem behind18_any (n:Int) (a b:Nat) (k:List Int) (w:World) (hk:k.length=8) (ha:a<8) (hb:b<8) :
  Calls Tryz.prog 98 #[insV 18 a b n,regV k] w fun e w'=>e=.returned (regV (vBehind 18 a b k))/\Below w.heap.size w w':=by
 obtain⟨r,hr⟩:∃ r,r=vBehind 18 a b k:=⟨_,rfl⟩;have HRR:Aside (r=vPut k a 0):=by show r=_;rw[hr];rfl
 rw[<- hr];clear hr;have haz:(a:Int)<8:=by omega
 have hbz:(b:Int)<8:=by omega
 go_enter Tryz.func98,Tryz.ntmps98
 go_upto_region 1 with fail
 obtain⟨N0,N1,N2,b1,hs⟩:=vBoxes3 w (Obj.cells #[.int .i64 18,.int .i64 a,.int .i64 b,.int .i64 n] 43) (Obj.cells (regA k) 99) (Obj.cells #[.int .i64 0,.int .i64 0,.int .i64 0,.int .i64 0,.int .i64 0,.int .i64 0,.int .i64 0,.int .i64 0] 99);generalize ((w.alloc (Obj.cells #[.int .i64 18,.int .i64 a,.int .i64 b,.int .i64 n] 43)).alloc (Obj.cells (regA k) 99)).alloc (Obj.cells #[.int .i64 0,.int .i64 0,.int .i64 0,.int .i64 0,.int .i64 0,.int .i64 0,.int .i64 0,.int .i64 0] 99)=W at *
 obtain⟨i0,i1,i2,i3⟩:=cells4 N0;have ra:=reg_at N1 ha;have rb:=reg_at N1 hb;have fz:∀ j,W.frozen? ⟨w.heap.size+1,j,none⟩=false:=fun j=>by simp[World.frozen?,N1]
 go_upto_region 23 with fail
 have M1:=reg_set N1 hk ha 0;rw[<- HRR.out] at M1;have M2:=(Deep.blk_setCell_other W ⟨w.heap.size+1,a,none⟩ (.int .i64 0) (w.heap.size+1+1) (by show w.heap.size+1+1≠w.heap.size+1;omega)).trans N2;have bx:Below w.heap.size w (W.setCell ⟨w.heap.size+1,a,none⟩ (.int .i64 0)):=b1.setCell (by show w.heap.size<=w.heap.size+1;omega) _;clear N0 N1 N2 b1 i0 i1 i2 i3 ra rb fz;generalize W.setCell ⟨w.heap.size+1,a,none⟩ (.int .i64 0)=wx at *
 obtain⟨g0,g1,g2,g3,g4,g5,g6,g7⟩:=regs_at M1;obtain⟨z0,z1,z2,z3,z4,z5,z6,z7⟩:=cells8 M2;have fr:∀ j,wx.frozen? ⟨w.heap.size+1+1,j,none⟩=false:=fun j=>by simp[World.frozen?,M2]
 have P:=putReg_blk M2 r;have bp:=putReg_below bx (A:=w.heap.size+1+1) (by omega) r;clear M1 M2;go_wp2
 change bodyPost _ _ _ _ _ (putReg wx (w.heap.size+1+1) r)
 clear g0 g1 g2 g3 g4 g5 g6 g7 z0 z1 z2 z3 z4 z5 z6 z7 fr;generalize putReg wx (w.heap.size+1+1) r=wy at *;obtain⟨y0,y1,y2,y3,y4,y5,y6,y7⟩:=regs_at P;exact bodyPost_ret (v:=regV r) (by simp[results,Tryz.results98,go_sem,y0,y1,y2,y3,y4,y5,y6,y7]) rfl ⟨rfl,bp⟩
theorem behind0_any (n:Int) (a b:Nat) (r:List Int) (w:World) (ha:a<8) (hb:b<8) :
  Calls Tryz.prog 98 #[insV 0 a b n,regV r] w fun e w'=>e=.returned (regV (vBehind 0 a b r))/\Below w.heap.size w w':=by
 have hr:vBehind 0 a b r=r:=rfl;rw[hr];clear hr;have haz:(a:Int)<8:=by omega
 have hbz:(b:Int)<8:=by omega
 go_enter Tryz.func98,Tryz.ntmps98
 go_upto_region 1 with fail
 obtain⟨N0,N1,N2,b1,hs⟩:=vBoxes3 w (Obj.cells #[.int .i64 0,.int .i64 a,.int .i64 b,.int .i64 n] 43) (Obj.cells (regA r) 99) (Obj.cells #[.int .i64 0,.int .i64 0,.int .i64 0,.int .i64 0,.int .i64 0,.int .i64 0,.int .i64 0,.int .i64 0] 99);generalize ((w.alloc (Obj.cells #[.int .i64 0,.int .i64 a,.int .i64 b,.int .i64 n] 43)).alloc (Obj.cells (regA r) 99)).alloc (Obj.cells #[.int .i64 0,.int .i64 0,.int .i64 0,.int .i64 0,.int .i64 0,.int .i64 0,.int .i64 0,.int .i64 0] 99)=W at *
 obtain⟨i0,i1,i2,i3⟩:=cells4 N0;have ra:=reg_at N1 ha;have rb:=reg_at N1 hb;have fz:∀ j,W.frozen? ⟨w.heap.size+1,j,none⟩=false:=fun j=>by simp[World.frozen?,N1]
 go_upto_region 23 with fail
 have M1:=N1;have M2:=N2;have bx:=b1;clear N0 N1 N2 b1 i0 i1 i2 i3 ra rb fz;generalize W=wx at *;obtain⟨g0,g1,g2,g3,g4,g5,g6,g7⟩:=regs_at M1;obtain⟨z0,z1,z2,z3,z4,z5,z6,z7⟩:=cells8 M2;have fr:∀ j,wx.frozen? ⟨w.heap.size+1+1,j,none⟩=false:=fun j=>by simp[World.frozen?,M2]
 have P:=putReg_blk M2 r;have bp:=putReg_below bx (A:=w.heap.size+1+1) (by omega) r;clear M1 M2;go_wp2
 change bodyPost _ _ _ _ _ (putReg wx (w.heap.size+1+1) r)
 clear g0 g1 g2 g3 g4 g5 g6 g7 z0 z1 z2 z3 z4 z5 z6 z7 fr;generalize putReg wx (w.heap.size+1+1) r=wy at *;obtain⟨y0,y1,y2,y3,y4,y5,y6,y7⟩:=regs_at P;exact bodyPost_ret (v:=regV r) (by simp[results,Tryz.results98,go_sem,y0,y1,y2,y3,y4,y5,y6,y7]) rfl ⟨rfl,bp⟩
theorem behind5_any (n:Int) (a b:Nat) (r:List Int) (w:World) (ha:a<8) (hb:b<8) :
  Calls Tryz.prog 98 #[insV 5 a b n,regV r] w fun e w'=>e=.returned (regV (vBehind 5 a b r))/\Below w.heap.size w w':=by
 have hr:vBehind 5 a b r=r:=rfl;rw[hr];clear hr;have haz:(a:Int)<8:=by omega
 have hbz:(b:Int)<8:=by omega
 go_enter Tryz.func98,Tryz.ntmps98
 go_upto_region 1 with fail
 obtain⟨N0,N1,N2,b1,hs⟩:=vBoxes3 w (Obj.cells #[.int .i64 5,.int .i64 a,.int .i64 b,.int .i64 n] 43) (Obj.cells (regA r) 99) (Obj.cells #[.int .i64 0,.int .i64 0,.int .i64 0,.int .i64 0,.int .i64 0,.int .i64 0,.int .i64 0,.int .i64 0] 99);generalize ((w.alloc (Obj.cells #[.int .i64 5,.int .i64 a,.int .i64 b,.int .i64 n] 43)).alloc (Obj.cells (regA r) 99)).alloc (Obj.cells #[.int .i64 0,.int .i64 0,.int .i64 0,.int .i64 0,.int .i64 0,.int .i64 0,.int .i64 0,.int .i64 0] 99)=W at *
 obtain⟨i0,i1,i2,i3⟩:=cells4 N0;have ra:=reg_at N1 ha;have rb:=reg_at N1 hb;have fz:∀ j,W.frozen? ⟨w.heap.size+1,j,none⟩=false:=fun j=>by simp[World.frozen?,N1]
 go_upto_region 23 with fail
 have M1:=N1;have M2:=N2;have bx:=b1;clear N0 N1 N2 b1 i0 i1 i2 i3 ra rb fz;generalize W=wx at *;obtain⟨g0,g1,g2,g3,g4,g5,g6,g7⟩:=regs_at M1;obtain⟨z0,z1,z2,z3,z4,z5,z6,z7⟩:=cells8 M2;have fr:∀ j,wx.frozen? ⟨w.heap.size+1+1,j,none⟩=false:=fun j=>by simp[World.frozen?,M2]
 have P:=putReg_blk M2 r;have bp:=putReg_below bx (A:=w.heap.size+1+1) (by omega) r;clear M1 M2;go_wp2
 change bodyPost _ _ _ _ _ (putReg wx (w.heap.size+1+1) r)
 clear g0 g1 g2 g3 g4 g5 g6 g7 z0 z1 z2 z3 z4 z5 z6 z7 fr;generalize putReg wx (w.heap.size+1+1) r=wy at *;obtain⟨y0,y1,y2,y3,y4,y5,y6,y7⟩:=regs_at P;exact bodyPost_ret (v:=regV r) (by simp[results,Tryz.results98,go_sem,y0,y1,y2,y3,y4,y5,y6,y7]) rfl ⟨rfl,bp⟩
theorem behind6_any (n:Int) (a b:Nat) (r:List Int) (w:World) (ha:a<8) (hb:b<8) :
  Calls Tryz.prog 98 #[insV 6 a b n,regV r] w fun e w'=>e=.returned (regV (vBehind 6 a b r))/\Below w.heap.size w w':=by
 have hr:vBehind 6 a b r=r:=rfl;rw[hr];clear hr;have haz:(a:Int)<8:=by omega
 have hbz:(b:Int)<8:=by omega
 go_enter Tryz.func98,Tryz.ntmps98
 go_upto_region 1 with fail
 obtain⟨N0,N1,N2,b1,hs⟩:=vBoxes3 w (Obj.cells #[.int .i64 6,.int .i64 a,.int .i64 b,.int .i64 n] 43) (Obj.cells (regA r) 99) (Obj.cells #[.int .i64 0,.int .i64 0,.int .i64 0,.int .i64 0,.int .i64 0,.int .i64 0,.int .i64 0,.int .i64 0] 99);generalize ((w.alloc (Obj.cells #[.int .i64 6,.int .i64 a,.int .i64 b,.int .i64 n] 43)).alloc (Obj.cells (regA r) 99)).alloc (Obj.cells #[.int .i64 0,.int .i64 0,.int .i64 0,.int .i64 0,.int .i64 0,.int .i64 0,.int .i64 0,.int .i64 0] 99)=W at *
 obtain⟨i0,i1,i2,i3⟩:=cells4 N0;have ra:=reg_at N1 ha;have rb:=reg_at N1 hb;have fz:∀ j,W.frozen? ⟨w.heap.size+1,j,none⟩=false:=fun j=>by simp[World.frozen?,N1]
 go_upto_region 23 with fail
 have M1:=N1;have M2:=N2;have bx:=b1;clear N0 N1 N2 b1 i0 i1 i2 i3 ra rb fz;generalize W=wx at *;obtain⟨g0,g1,g2,g3,g4,g5,g6,g7⟩:=regs_at M1;obtain⟨z0,z1,z2,z3,z4,z5,z6,z7⟩:=cells8 M2;have fr:∀ j,wx.frozen? ⟨w.heap.size+1+1,j,none⟩=false:=fun j=>by simp[World.frozen?,M2]
 have P:=putReg_blk M2 r;have bp:=putReg_below bx (A:=w.heap.size+1+1) (by omega) r;clear M1 M2;go_wp2
 change bodyPost _ _ _ _ _ (putReg wx (w.heap.size+1+1) r)
 clear g0 g1 g2 g3 g4 g5 g6 g7 z0 z1 z2 z3 z4 z5 z6 z7 fr;generalize putReg wx (w.heap.size+1+1) r=wy at *;obtain⟨y0,y1,y2,y3,y4,y5,y6,y7⟩:=regs_at P;exact bodyPost_ret (v:=regV r) (by simp[results,Tryz.results98,go_sem,y0,y1,y2,y3,y4,y5,y6,y7]) rfl ⟨rfl,bp⟩
theorem behind9_any (n:Int) (a b:Nat) (r:List Int) (w:World) (ha:a<8) (hb:b<8) :
  Calls Tryz.prog 98 #[insV 9 a b n,regV r] w fun e w'=>e=.returned (regV (vBehind 9 a b r))/\Below w.heap.size w w':=by
 have hr:vBehind 9 a b r=r:=rfl;rw[hr];clear hr;have haz:(a:Int)<8:=by omega
 have hbz:(b:Int)<8:=by omega
 go_enter Tryz.func98,Tryz.ntmps98
 go_upto_region 1 with fail
 obtain⟨N0,N1,N2,b1,hs⟩:=vBoxes3 w (Obj.cells #[.int .i64 9,.int .i64 a,.int .i64 b,.int .i64 n] 43) (Obj.cells (regA r) 99) (Obj.cells #[.int .i64 0,.int .i64 0,.int .i64 0,.int .i64 0,.int .i64 0,.int .i64 0,.int .i64 0,.int .i64 0] 99);generalize ((w.alloc (Obj.cells #[.int .i64 9,.int .i64 a,.int .i64 b,.int .i64 n] 43)).alloc (Obj.cells (regA r) 99)).alloc (Obj.cells #[.int .i64 0,.int .i64 0,.int .i64 0,.int .i64 0,.int .i64 0,.int .i64 0,.int .i64 0,.int .i64 0] 99)=W at *
 obtain⟨i0,i1,i2,i3⟩:=cells4 N0;have ra:=reg_at N1 ha;have rb:=reg_at N1 hb;have fz:∀ j,W.frozen? ⟨w.heap.size+1,j,none⟩=false:=fun j=>by simp[World.frozen?,N1]
 go_upto_region 23 with fail
 have M1:=N1;have M2:=N2;have bx:=b1;clear N0 N1 N2 b1 i0 i1 i2 i3 ra rb fz;generalize W=wx at *;obtain⟨g0,g1,g2,g3,g4,g5,g6,g7⟩:=regs_at M1;obtain⟨z0,z1,z2,z3,z4,z5,z6,z7⟩:=cells8 M2;have fr:∀ j,wx.frozen? ⟨w.heap.size+1+1,j,none⟩=false:=fun j=>by simp[World.frozen?,M2]
 have P:=putReg_blk M2 r;have bp:=putReg_below bx (A:=w.heap.size+1+1) (by omega) r;clear M1 M2;go_wp2
 change bodyPost _ _ _ _ _ (putReg wx (w.heap.size+1+1) r)
 clear g0 g1 g2 g3 g4 g5 g6 g7 z0 z1 z2 z3 z4 z5 z6 z7 fr;generalize putReg wx (w.heap.size+1+1) r=wy at *;obtain⟨y0,y1,y2,y3,y4,y5,y6,y7⟩:=regs_at P;exact bodyPost_ret (v:=regV r) (by simp[results,Tryz.results98,go_sem,y0,y1,y2,y3,y4,y5,y6,y7]) rfl ⟨rfl,bp⟩
theorem behind14_any (n:Int) (a b:Nat) (r:List Int) (w:World) (ha:a<8) (hb:b<8) :
  Calls Tryz.prog 98 #[insV 14 a b n,regV r] w fun e w'=>e=.returned (regV (vBehind 14 a b r))/\Below w.heap.size w w':=by
 have hr:vBehind 14 a b r=r:=rfl;rw[hr];clear hr;have haz:(a:Int)<8:=by omega
 have hbz:(b:Int)<8:=by omega
 go_enter Tryz.func98,Tryz.ntmps98
 go_upto_region 1 with fail
 obtain⟨N0,N1,N2,b1,hs⟩:=vBoxes3 w (Obj.cells #[.int .i64 14,.int .i64 a,.int .i64 b,.int .i64 n] 43) (Obj.cells (regA r) 99) (Obj.cells #[.int .i64 0,.int .i64 0,.int .i64 0,.int .i64 0,.int .i64 0,.int .i64 0,.int .i64 0,.int .i64 0] 99);generalize ((w.alloc (Obj.cells #[.int .i64 14,.int .i64 a,.int .i64 b,.int .i64 n] 43)).alloc (Obj.cells (regA r) 99)).alloc (Obj.cells #[.int .i64 0,.int .i64 0,.int .i64 0,.int .i64 0,.int .i64 0,.int .i64 0,.int .i64 0,.int .i64 0] 99)=W at *
 obtain⟨i0,i1,i2,i3⟩:=cells4 N0;have ra:=reg_at N1 ha;have rb:=reg_at N1 hb;have fz:∀ j,W.frozen? ⟨w.heap.size+1,j,none⟩=false:=fun j=>by simp[World.frozen?,N1]
 go_upto_region 23 with fail
 have M1:=N1;have M2:=N2;have bx:=b1;clear N0 N1 N2 b1 i0 i1 i2 i3 ra rb fz;generalize W=wx at *;obtain⟨g0,g1,g2,g3,g4,g5,g6,g7⟩:=regs_at M1;obtain⟨z0,z1,z2,z3,z4,z5,z6,z7⟩:=cells8 M2;have fr:∀ j,wx.frozen? ⟨w.heap.size+1+1,j,none⟩=false:=fun j=>by simp[World.frozen?,M2]
 have P:=putReg_blk M2 r;have bp:=putReg_below bx (A:=w.heap.size+1+1) (by omega) r;clear M1 M2;go_wp2
 change bodyPost _ _ _ _ _ (putReg wx (w.heap.size+1+1) r)
 clear g0 g1 g2 g3 g4 g5 g6 g7 z0 z1 z2 z3 z4 z5 z6 z7 fr;generalize putReg wx (w.heap.size+1+1) r=wy at *;obtain⟨y0,y1,y2,y3,y4,y5,y6,y7⟩:=regs_at P;exact bodyPost_ret (v:=regV r) (by simp[results,Tryz.results98,go_sem,y0,y1,y2,y3,y4,y5,y6,y7]) rfl ⟨rfl,bp⟩
theorem behind15_any (n:Int) (a b:Nat) (r:List Int) (w:World) (ha:a<8) (hb:b<8) :
  Calls Tryz.prog 98 #[insV 15 a b n,regV r] w fun e w'=>e=.returned (regV (vBehind 15 a b r))/\Below w.heap.size w w':=by
 have hr:vBehind 15 a b r=r:=rfl;rw[hr];clear hr;have haz:(a:Int)<8:=by omega
 have hbz:(b:Int)<8:=by omega
 go_enter Tryz.func98,Tryz.ntmps98
 go_upto_region 1 with fail
 obtain⟨N0,N1,N2,b1,hs⟩:=vBoxes3 w (Obj.cells #[.int .i64 15,.int .i64 a,.int .i64 b,.int .i64 n] 43) (Obj.cells (regA r) 99) (Obj.cells #[.int .i64 0,.int .i64 0,.int .i64 0,.int .i64 0,.int .i64 0,.int .i64 0,.int .i64 0,.int .i64 0] 99);generalize ((w.alloc (Obj.cells #[.int .i64 15,.int .i64 a,.int .i64 b,.int .i64 n] 43)).alloc (Obj.cells (regA r) 99)).alloc (Obj.cells #[.int .i64 0,.int .i64 0,.int .i64 0,.int .i64 0,.int .i64 0,.int .i64 0,.int .i64 0,.int .i64 0] 99)=W at *
 obtain⟨i0,i1,i2,i3⟩:=cells4 N0;have ra:=reg_at N1 ha;have rb:=reg_at N1 hb;have fz:∀ j,W.frozen? ⟨w.heap.size+1,j,none⟩=false:=fun j=>by simp[World.frozen?,N1]
 go_upto_region 23 with fail
 have M1:=N1;have M2:=N2;have bx:=b1;clear N0 N1 N2 b1 i0 i1 i2 i3 ra rb fz;generalize W=wx at *;obtain⟨g0,g1,g2,g3,g4,g5,g6,g7⟩:=regs_at M1;obtain⟨z0,z1,z2,z3,z4,z5,z6,z7⟩:=cells8 M2;have fr:∀ j,wx.frozen? ⟨w.heap.size+1+1,j,none⟩=false:=fun j=>by simp[World.frozen?,M2]
 have P:=putReg_blk M2 r;have bp:=putReg_below bx (A:=w.heap.size+1+1) (by omega) r;clear M1 M2;go_wp2
 change bodyPost _ _ _ _ _ (putReg wx (w.heap.size+1+1) r)
 clear g0 g1 g2 g3 g4 g5 g6 g7 z0 z1 z2 z3 z4 z5 z6 z7 fr;generalize putReg wx (w.heap.size+1+1) r=wy at *;obtain⟨y0,y1,y2,y3,y4,y5,y6,y7⟩:=regs_at P;exact bodyPost_ret (v:=regV r) (by simp[results,Tryz.results98,go_sem,y0,y1,y2,y3,y4,y5,y6,y7]) rfl ⟨rfl,bp⟩
theorem behind19_any (n:Int) (a b:Nat) (r:List Int) (w:World) (ha:a<8) (hb:b<8) :
  Calls Tryz.prog 98 #[insV 19 a b n,regV r] w fun e w'=>e=.returned (regV (vBehind 19 a b r))/\Below w.heap.size w w':=by
 have hr:vBehind 19 a b r=r:=rfl;rw[hr];clear hr;have haz:(a:Int)<8:=by omega
 have hbz:(b:Int)<8:=by omega
 go_enter Tryz.func98,Tryz.ntmps98
 go_upto_region 1 with fail
 obtain⟨N0,N1,N2,b1,hs⟩:=vBoxes3 w (Obj.cells #[.int .i64 19,.int .i64 a,.int .i64 b,.int .i64 n] 43) (Obj.cells (regA r) 99) (Obj.cells #[.int .i64 0,.int .i64 0,.int .i64 0,.int .i64 0,.int .i64 0,.int .i64 0,.int .i64 0,.int .i64 0] 99);generalize ((w.alloc (Obj.cells #[.int .i64 19,.int .i64 a,.int .i64 b,.int .i64 n] 43)).alloc (Obj.cells (regA r) 99)).alloc (Obj.cells #[.int .i64 0,.int .i64 0,.int .i64 0,.int .i64 0,.int .i64 0,.int .i64 0,.int .i64 0,.int .i64 0] 99)=W at *
 obtain⟨i0,i1,i2,i3⟩:=cells4 N0;have ra:=reg_at N1 ha;have rb:=reg_at N1 hb;have fz:∀ j,W.frozen? ⟨w.heap.size+1,j,none⟩=false:=fun j=>by simp[World.frozen?,N1]
 go_upto_region 23 with fail
 have M1:=N1;have M2:=N2;have bx:=b1;clear N0 N1 N2 b1 i0 i1 i2 i3 ra rb fz;generalize W=wx at *;obtain⟨g0,g1,g2,g3,g4,g5,g6,g7⟩:=regs_at M1;obtain⟨z0,z1,z2,z3,z4,z5,z6,z7⟩:=cells8 M2;have fr:∀ j,wx.frozen? ⟨w.heap.size+1+1,j,none⟩=false:=fun j=>by simp[World.frozen?,M2]
 have P:=putReg_blk M2 r;have bp:=putReg_below bx (A:=w.heap.size+1+1) (by omega) r;clear M1 M2;go_wp2
 change bodyPost _ _ _ _ _ (putReg wx (w.heap.size+1+1) r)
 clear g0 g1 g2 g3 g4 g5 g6 g7 z0 z1 z2 z3 z4 z5 z6 z7 fr;generalize putReg wx (w.heap.size+1+1) r=wy at *;obtain⟨y0,y1,y2,y3,y4,y5,y6,y7⟩:=regs_at P;exact bodyPost_ret (v:=regV r) (by simp[results,Tryz.results98,go_sem,y0,y1,y2,y3,y4,y5,y6,y7]) rfl ⟨rfl,bp⟩
end Go.Proofs.YtepifccbbmdfcaaGreatDoor
