/- VBehindA. -/
import Derived.Test.YtepifccbbmdfcaaGreatDoorCBVBehind2
namespace Go.Proofs.YtepifccbbmdfcaaGreatDoor
set_option maxRecDepth 100000
set_option maxHeartbeats 8000000
section
open Go.RowKit
theorem behind17_any (n:Int) (a b:Nat) (k:List Int) (w:World) (hk:k.length=8) (ha:a<8) (hb:b<8) :
  Calls Tryz.prog 98 #[insV 17 a b n,regV k] w fun e w'=>e=.returned (regV (vBehind 17 a b k))/\Below w.heap.size w w':=by
 obtain⟨r,hr⟩:∃ r,r=vBehind 17 a b k:=⟨_,rfl⟩;have HRR:Aside (r=vPut (vPut k b 0) a 1):=by show r=_;rw[hr];rfl
 rw[<- hr];clear hr;have haz:(a:Int)<8:=by omega
 have hbz:(b:Int)<8:=by omega
 go_enter Tryz.func98,Tryz.ntmps98
 go_upto_region 1 with fail
 obtain⟨N0,N1,N2,b1,hs⟩:=vBoxes3 w (Obj.cells #[.int .i64 17,.int .i64 a,.int .i64 b,.int .i64 n] 43) (Obj.cells (regA k) 99) (Obj.cells #[.int .i64 0,.int .i64 0,.int .i64 0,.int .i64 0,.int .i64 0,.int .i64 0,.int .i64 0,.int .i64 0] 99);generalize ((w.alloc (Obj.cells #[.int .i64 17,.int .i64 a,.int .i64 b,.int .i64 n] 43)).alloc (Obj.cells (regA k) 99)).alloc (Obj.cells #[.int .i64 0,.int .i64 0,.int .i64 0,.int .i64 0,.int .i64 0,.int .i64 0,.int .i64 0,.int .i64 0] 99)=W at *
 obtain⟨i0,i1,i2,i3⟩:=cells4 N0;have ra:=reg_at N1 ha;have rb:=reg_at N1 hb;have fz:∀ j,W.frozen? ⟨w.heap.size+1,j,none⟩=false:=fun j=>by simp[World.frozen?,N1]
 go_upto_region 22 with fail
 have M1:=reg_set N1 hk hb 0;have M2:=(Deep.blk_setCell_other W ⟨w.heap.size+1,b,none⟩ (.int .i64 0) (w.heap.size+1+1) (by show w.heap.size+1+1≠w.heap.size+1;omega)).trans N2;have M0:=(Deep.blk_setCell_other W ⟨w.heap.size+1,b,none⟩ (.int .i64 0) w.heap.size (by show w.heap.size≠w.heap.size+1;omega)).trans N0;have bx:Below w.heap.size w (W.setCell ⟨w.heap.size+1,b,none⟩ (.int .i64 0)):=b1.setCell (by show w.heap.size<=w.heap.size+1;omega) _
 clear i0 i1 i2 i3 ra rb fz N0 N1 N2 b1;generalize W.setCell ⟨w.heap.size+1,b,none⟩ (.int .i64 0)=wv at *;have i1:=vCell_blk M0 1;simp at i1;have ra:=reg_at M1 ha;have fz:∀ j,wv.frozen? ⟨w.heap.size+1,j,none⟩=false:=fun j=>by simp[World.frozen?,M1]
 have O1:=M1;have O2:=M2;have ob:=bx;clear M1 M2 bx
 go_upto_region 23 with fail
 have M1:=reg_set O1 (vPut_len8 hk b 0) ha 1;rw[<- HRR.out] at M1;have M2:=(Deep.blk_setCell_other wv ⟨w.heap.size+1,a,none⟩ (.int .i64 1) (w.heap.size+1+1) (by show w.heap.size+1+1≠w.heap.size+1;omega)).trans O2;have bx:Below w.heap.size w (wv.setCell ⟨w.heap.size+1,a,none⟩ (.int .i64 1)):=ob.setCell (by show w.heap.size<=w.heap.size+1;omega) _;clear O1 O2 ob M0 i1 ra fz;generalize wv.setCell ⟨w.heap.size+1,a,none⟩ (.int .i64 1)=wx at *
 obtain⟨g0,g1,g2,g3,g4,g5,g6,g7⟩:=regs_at M1;obtain⟨z0,z1,z2,z3,z4,z5,z6,z7⟩:=cells8 M2;have fr:∀ j,wx.frozen? ⟨w.heap.size+1+1,j,none⟩=false:=fun j=>by simp[World.frozen?,M2]
 have P:=putReg_blk M2 r;have bp:=putReg_below bx (A:=w.heap.size+1+1) (by omega) r;clear M1 M2;go_wp2
 change bodyPost _ _ _ _ _ (putReg wx (w.heap.size+1+1) r)
 clear g0 g1 g2 g3 g4 g5 g6 g7 z0 z1 z2 z3 z4 z5 z6 z7 fr;generalize putReg wx (w.heap.size+1+1) r=wy at *;obtain⟨y0,y1,y2,y3,y4,y5,y6,y7⟩:=regs_at P;exact bodyPost_ret (v:=regV r) (by simp[results,Tryz.results98,go_sem,y0,y1,y2,y3,y4,y5,y6,y7]) rfl ⟨rfl,bp⟩
theorem behind11_any (n:Int) (a b:Nat) (k:List Int) (w:World) (hk:k.length=8) (ha:a<8) (hb:b<8) :
  Calls Tryz.prog 98 #[insV 11 a b n,regV k] w fun e w'=>e=.returned (regV (vBehind 11 a b k))/\Below w.heap.size w w':=by
 obtain⟨r,hr⟩:∃ r,r=vBehind 11 a b k:=⟨_,rfl⟩;have HRR:Aside (r=if (a:Int)=b\/vAt k b=2 then vPut k a 2 else vPut k b 0):=by show r=_;rw[hr];rfl
 rw[<- hr];clear hr;have haz:(a:Int)<8:=by omega
 have hbz:(b:Int)<8:=by omega
 go_enter Tryz.func98,Tryz.ntmps98
 go_upto_region 1 with fail
 obtain⟨N0,N1,N2,b1,hs⟩:=vBoxes3 w (Obj.cells #[.int .i64 11,.int .i64 a,.int .i64 b,.int .i64 n] 43) (Obj.cells (regA k) 99) (Obj.cells #[.int .i64 0,.int .i64 0,.int .i64 0,.int .i64 0,.int .i64 0,.int .i64 0,.int .i64 0,.int .i64 0] 99);generalize ((w.alloc (Obj.cells #[.int .i64 11,.int .i64 a,.int .i64 b,.int .i64 n] 43)).alloc (Obj.cells (regA k) 99)).alloc (Obj.cells #[.int .i64 0,.int .i64 0,.int .i64 0,.int .i64 0,.int .i64 0,.int .i64 0,.int .i64 0,.int .i64 0] 99)=W at *
 obtain⟨i0,i1,i2,i3⟩:=cells4 N0;have ra:=reg_at N1 ha;have rb:=reg_at N1 hb;have fz:∀ j,W.frozen? ⟨w.heap.size+1,j,none⟩=false:=fun j=>by simp[World.frozen?,N1]
 obtain⟨g0,g1,g2,g3,g4,g5,g6,g7⟩:=regs_at N1;have hc:=behindPutRef_any 11 n a b k W hk ha hb;rw[<- HRR.out] at hc
 go_wp2_with fail
 refine hc.mono ?_;clear hc;rintro e wx ⟨rfl,hbx⟩;have M2:=(hbx.block (w.heap.size+1+1) (by omega)).trans N2;have bx:=b1.trans (hbx.mono b1.size);clear N0 N1 N2 b1 i0 i1 i2 i3 ra rb fz g0 g1 g2 g3 g4 g5 g6 g7 hbx;obtain⟨z0,z1,z2,z3,z4,z5,z6,z7⟩:=cells8 M2;have fr:∀ j,wx.frozen? ⟨w.heap.size+1+1,j,none⟩=false:=fun j=>by simp[World.frozen?,M2]
 have P:=putReg_blk M2 r;have bp:=putReg_below bx (A:=w.heap.size+1+1) (by omega) r;clear M2;go_wp2
 change bodyPost _ _ _ _ _ (putReg wx (w.heap.size+1+1) r)
 clear z0 z1 z2 z3 z4 z5 z6 z7 fr;generalize putReg wx (w.heap.size+1+1) r=wy at *;obtain⟨y0,y1,y2,y3,y4,y5,y6,y7⟩:=regs_at P;exact bodyPost_ret (v:=regV r) (by simp[results,Tryz.results98,go_sem,y0,y1,y2,y3,y4,y5,y6,y7]) rfl ⟨rfl,bp⟩
theorem behind12_any (n:Int) (a b:Nat) (k:List Int) (w:World) (hk:k.length=8) (ha:a<8) (hb:b<8) :
  Calls Tryz.prog 98 #[insV 12 a b n,regV k] w fun e w'=>e=.returned (regV (vBehind 12 a b k))/\Below w.heap.size w w':=by
 obtain⟨r,hr⟩:∃ r,r=vBehind 12 a b k:=⟨_,rfl⟩;have HRR:Aside (r=vPut (if vAt k b=3 then vPut k b 0 else k) a (vAt k b)):=by show r=_;rw[hr];rfl
 rw[<- hr];clear hr;have haz:(a:Int)<8:=by omega
 have hbz:(b:Int)<8:=by omega
 go_enter Tryz.func98,Tryz.ntmps98
 go_upto_region 1 with fail
 obtain⟨N0,N1,N2,b1,hs⟩:=vBoxes3 w (Obj.cells #[.int .i64 12,.int .i64 a,.int .i64 b,.int .i64 n] 43) (Obj.cells (regA k) 99) (Obj.cells #[.int .i64 0,.int .i64 0,.int .i64 0,.int .i64 0,.int .i64 0,.int .i64 0,.int .i64 0,.int .i64 0] 99);generalize ((w.alloc (Obj.cells #[.int .i64 12,.int .i64 a,.int .i64 b,.int .i64 n] 43)).alloc (Obj.cells (regA k) 99)).alloc (Obj.cells #[.int .i64 0,.int .i64 0,.int .i64 0,.int .i64 0,.int .i64 0,.int .i64 0,.int .i64 0,.int .i64 0] 99)=W at *
 obtain⟨i0,i1,i2,i3⟩:=cells4 N0;have ra:=reg_at N1 ha;have rb:=reg_at N1 hb;have fz:∀ j,W.frozen? ⟨w.heap.size+1,j,none⟩=false:=fun j=>by simp[World.frozen?,N1]
 obtain⟨g0,g1,g2,g3,g4,g5,g6,g7⟩:=regs_at N1;have hc:=behindMove_any 12 n a b k W hk ha hb;rw[<- HRR.out] at hc
 go_wp2_with fail
 refine hc.mono ?_;clear hc;rintro e wx ⟨rfl,hbx⟩;have M2:=(hbx.block (w.heap.size+1+1) (by omega)).trans N2;have bx:=b1.trans (hbx.mono b1.size);clear N0 N1 N2 b1 i0 i1 i2 i3 ra rb fz g0 g1 g2 g3 g4 g5 g6 g7 hbx;obtain⟨z0,z1,z2,z3,z4,z5,z6,z7⟩:=cells8 M2;have fr:∀ j,wx.frozen? ⟨w.heap.size+1+1,j,none⟩=false:=fun j=>by simp[World.frozen?,M2]
 have P:=putReg_blk M2 r;have bp:=putReg_below bx (A:=w.heap.size+1+1) (by omega) r;clear M2;go_wp2
 change bodyPost _ _ _ _ _ (putReg wx (w.heap.size+1+1) r)
 clear z0 z1 z2 z3 z4 z5 z6 z7 fr;generalize putReg wx (w.heap.size+1+1) r=wy at *;obtain⟨y0,y1,y2,y3,y4,y5,y6,y7⟩:=regs_at P;exact bodyPost_ret (v:=regV r) (by simp[results,Tryz.results98,go_sem,y0,y1,y2,y3,y4,y5,y6,y7]) rfl ⟨rfl,bp⟩
theorem behind10_any (n:Int) (a b:Nat) (k:List Int) (w:World) (hk:k.length=8) (ha:a<8) (hb:b<8) :
  Calls Tryz.prog 98 #[insV 10 a b n,regV k] w fun e w'=>e=.returned (regV (vBehind 10 a b k))/\Below w.heap.size w w':=by
 obtain⟨r,hr⟩:∃ r,r=vBehind 10 a b k:=⟨_,rfl⟩;have HRR:Aside (r=vPut (vPut k a 2) b 2):=by show r=_;rw[hr];rfl
 rw[<- hr];clear hr;have haz:(a:Int)<8:=by omega
 have hbz:(b:Int)<8:=by omega
 go_enter Tryz.func98,Tryz.ntmps98
 go_upto_region 1 with fail
 obtain⟨N0,N1,N2,b1,hs⟩:=vBoxes3 w (Obj.cells #[.int .i64 10,.int .i64 a,.int .i64 b,.int .i64 n] 43) (Obj.cells (regA k) 99) (Obj.cells #[.int .i64 0,.int .i64 0,.int .i64 0,.int .i64 0,.int .i64 0,.int .i64 0,.int .i64 0,.int .i64 0] 99);generalize ((w.alloc (Obj.cells #[.int .i64 10,.int .i64 a,.int .i64 b,.int .i64 n] 43)).alloc (Obj.cells (regA k) 99)).alloc (Obj.cells #[.int .i64 0,.int .i64 0,.int .i64 0,.int .i64 0,.int .i64 0,.int .i64 0,.int .i64 0,.int .i64 0] 99)=W at *
 obtain⟨i0,i1,i2,i3⟩:=cells4 N0;have ra:=reg_at N1 ha;have rb:=reg_at N1 hb;have fz:∀ j,W.frozen? ⟨w.heap.size+1,j,none⟩=false:=fun j=>by simp[World.frozen?,N1]
 have q1:=reg_set N1 hk ha 2;have q2:=reg_at q1 hb;have q3:∀ j,(W.setCell ⟨w.heap.size+1,a,none⟩ (.int .i64 2)).frozen? ⟨w.heap.size+1,j,none⟩=false:=fun j=>by simp[World.frozen?,q1]
 have M1:((W.setCell ⟨w.heap.size+1,a,none⟩ (.int .i64 2)).setCell ⟨w.heap.size+1,b,none⟩ (.int .i64 2)).drew.heap[w.heap.size+1]?=_:=reg_set q1 (vPut_len8 hk a 2) hb 2;rw[<- HRR.out] at M1;have M2:((W.setCell ⟨w.heap.size+1,a,none⟩ (.int .i64 2)).setCell ⟨w.heap.size+1,b,none⟩ (.int .i64 2)).drew.heap[w.heap.size+1+1]?=_:=((Deep.blk_setCell_other (W.setCell ⟨w.heap.size+1,a,none⟩ (.int .i64 2)) ⟨w.heap.size+1,b,none⟩ (.int .i64 2) (w.heap.size+1+1) (by show w.heap.size+1+1≠w.heap.size+1;omega)).trans (Deep.blk_setCell_other W ⟨w.heap.size+1,a,none⟩ (.int .i64 2) (w.heap.size+1+1) (by show w.heap.size+1+1≠w.heap.size+1;omega))).trans N2
 have bx:Below w.heap.size w ((W.setCell ⟨w.heap.size+1,a,none⟩ (.int .i64 2)).setCell ⟨w.heap.size+1,b,none⟩ (.int .i64 2)).drew:=((b1.setCell (by show w.heap.size<=w.heap.size+1;omega) _).setCell (by show w.heap.size<=w.heap.size+1;omega) _).drew;have HM:Aside (((W.setCell ⟨w.heap.size+1,a,none⟩ (.int .i64 2)).setCell ⟨w.heap.size+1,b,none⟩ (.int .i64 2)).drew.heap[w.heap.size+1]?=some (.cells (regA r) 99 (0,0))/\((W.setCell ⟨w.heap.size+1,a,none⟩ (.int .i64 2)).setCell ⟨w.heap.size+1,b,none⟩ (.int .i64 2)).drew.heap[w.heap.size+1+1]?=some (.cells #[.int .i64 0,.int .i64 0,.int .i64 0,.int .i64 0,.int .i64 0,.int .i64 0,.int .i64 0,.int .i64 0] 99 (0,0))/\Below w.heap.size w ((W.setCell ⟨w.heap.size+1,a,none⟩ (.int .i64 2)).setCell ⟨w.heap.size+1,b,none⟩ (.int .i64 2)).drew):=⟨M1,M2,bx⟩
 clear M1 M2 bx q1
 go_upto_region 12 with fail
 go_region
 all_goals
  obtain⟨M1,M2,bx⟩:=HM.out;clear HM q2 q3 N0 N1 N2 b1 i0 i1 i2 i3 ra rb fz;generalize ((W.setCell ⟨w.heap.size+1,a,none⟩ (.int .i64 2)).setCell ⟨w.heap.size+1,b,none⟩ (.int .i64 2)).drew=wx at *;obtain⟨g0,g1,g2,g3,g4,g5,g6,g7⟩:=regs_at M1;obtain⟨z0,z1,z2,z3,z4,z5,z6,z7⟩:=cells8 M2;have fr:∀ j,wx.frozen? ⟨w.heap.size+1+1,j,none⟩=false:=fun j=>by simp[World.frozen?,M2]
  have P:=putReg_blk M2 r;have bp:=putReg_below bx (A:=w.heap.size+1+1) (by omega) r;clear M1 M2;go_wp2
  change bodyPost _ _ _ _ _ (putReg wx (w.heap.size+1+1) r)
  clear g0 g1 g2 g3 g4 g5 g6 g7 z0 z1 z2 z3 z4 z5 z6 z7 fr;generalize putReg wx (w.heap.size+1+1) r=wy at *;obtain⟨y0,y1,y2,y3,y4,y5,y6,y7⟩:=regs_at P;exact bodyPost_ret (v:=regV r) (by simp[results,Tryz.results98,go_sem,y0,y1,y2,y3,y4,y5,y6,y7]) rfl ⟨rfl,bp⟩
end
section
open Go.RowKit
theorem behind_any (op n:Int) (a b:Nat) (k:List Int) (w:World) (hop:0<=op/\op<=19) (hk:k.length=8) (ha:a<8) (hb:b<8) :
  Calls Tryz.prog 98 #[insV op a b n,regV k] w fun e w'=>e=.returned (regV (vBehind op a b k))/\Below w.heap.size w w':=by
 have h:op=0\/op=1\/op=2\/op=3\/op=4\/op=5\/op=6\/op=7\/op=8\/op=9\/op=10\/op=11\/op=12\/op=13\/op=14\/op=15\/op=16\/op=17\/op=18\/op=19:=by omega
 rcases h with rfl | rfl | rfl | rfl | rfl | rfl | rfl | rfl | rfl | rfl | rfl | rfl | rfl | rfl | rfl | rfl | rfl | rfl | rfl | rfl
 ·exact behind0_any n a b k w ha hb
 ·exact behind1_any n a b k w hk ha hb
 ·exact behind2_any n a b k w hk ha hb
 ·exact behind3_any n a b k w hk ha hb
 ·exact behind4_any n a b k w hk ha hb
 ·exact behind5_any n a b k w ha hb
 ·exact behind6_any n a b k w ha hb
 ·exact behind7_any n a b k w hk ha hb
 ·exact behind8_any n a b k w hk ha hb
 ·exact behind9_any n a b k w ha hb
 ·exact behind10_any n a b k w hk ha hb
 ·exact behind11_any n a b k w hk ha hb
 ·exact behind12_any n a b k w hk ha hb
 ·exact behind13_any n a b k w hk ha hb
 ·exact behind14_any n a b k w ha hb
 ·exact behind15_any n a b k w ha hb
 ·exact behind16_any n a b k w hk ha hb
 ·exact behind17_any n a b k w hk ha hb
 ·exact behind18_any n a b k w hk ha hb
 ·exact behind19_any n a b k w ha hb
end
end Go.Proofs.YtepifccbbmdfcaaGreatDoor
