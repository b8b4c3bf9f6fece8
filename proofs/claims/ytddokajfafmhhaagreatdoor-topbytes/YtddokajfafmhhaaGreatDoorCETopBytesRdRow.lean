/- RdRow. -/
import Derived.RegionTactic
import Derived.Test.YtddokajfafmhhaaGreatDoorCETopBytesRdNum
namespace Go.Proofs.YtddokajfafmhhaaGreatDoor
set_option maxRecDepth 100000
set_option maxHeartbeats 8000000
section
open Go.RowKit
theorem TabAt.but {R:Nat} {w w':World} (h:TabAt 0 w) (k:But R w w') (hR:R≠0):TabAt 0 w':=fun op ho=>by
 have hb:w'.heap[0]?=w.heap[0]?:=k.block 0 (World.block_lt_of_cell? _ _ (h op ho).1) (fun e=>hR e.symm);have hc:∀ j,w'.cell? ⟨0,j,none⟩=w.cell? ⟨0,j,none⟩:=fun j=>World.cell?_of_block (w:=w) hb
 obtain⟨t0,t1,t2,t3,t4⟩:=h op ho;exact⟨(hc _).trans t0,(hc _).trans t1,(hc _).trans t2,(hc _).trans t3,(hc _).trans t4⟩
theorem RdAt.alloc {w:World} {R:Nat} {ba:Option Addr} {cap:Nat} {bs:List Int} {k:Nat} (h:RdAt w R ba cap bs k) (o:Obj):RdAt (w.alloc o) R ba cap bs k :=
 ⟨block_old h.blk o,h.bytes.keeps (Keeps.alloc w o),h.place⟩
theorem RdAt.ne {w:World} {R:Nat} {ba:Option Addr} {cap:Nat} {bs:List Int} {k:Nat} (h:RdAt w R ba cap bs k):R<w.heap.size:=(Array.getElem?_eq_some_iff.1 h.blk).1
theorem blk_set {w:World} {B j:Nat} {c:Array Value} {t:TypeId} (h:w.heap[B]?=some (.cells c t (0,0))) (v:Value):(w.setCell ⟨B,j,none⟩ v).heap[B]?=some (.cells (c.setIfInBounds j v) t (0,0)):=by
 simp[World.setCell,Array.getElem?_modify,h]
theorem blk_ne {w:World} {B k j:Nat} {x:Obj} (h:w.heap[k]?=some x) (hne:k≠B) (v:Value):(w.setCell ⟨B,j,none⟩ v).heap[k]?=some x :=
 (Below.heap_setCell w ⟨B,j,none⟩ v k hne).trans h
theorem RdAt.set {w:World} {R:Nat} {ba:Option Addr} {cap:Nat} {bs:List Int} {k:Nat} (h:RdAt w R ba cap bs k) {B:Nat} (hB:B≠R) (hb:Apart ba bs B) (j:Nat) (v:Value):RdAt (w.setCell ⟨B,j,none⟩ v) R ba cap bs k :=
 ⟨blk_ne h.blk (Ne.symm hB) v,⟨fun i hi=>by
  obtain⟨b,o,e,hc⟩:=h.bytes.cell i hi;exact⟨b,o,e,(World.cell?_setCell_other _ _ _ _ (fun e'=>hb (by omega) b o e (by have:=congrArg Addr.block e';simp at this;exact this.symm))).trans hc⟩,h.bytes.fits,h.bytes.short⟩,h.place⟩
theorem cfz_blk {w:World} {k:Nat} {c:Array Value} {t':TypeId} (h:w.heap[k]?=some (.cells c t' (0,0))) (j:Nat):w.frozen? ⟨k,j,none⟩=false:=by simp[World.frozen?,h]
theorem But.setNew {R:Nat} {a w:World} (h:But R a w) {B:Nat} (hB:a.heap.size<=B) (j:Nat) (v:Value):But R a (w.setCell ⟨B,j,none⟩ v) :=
 ⟨h.os,h.tape,h.output,by simp[World.setCell];exact h.size,fun k hk hR=>(Below.heap_setCell w ⟨B,j,none⟩ v k (by show k≠B;omega)).trans (h.block k hk hR)⟩
structure cMid (w wx:World) (R:Nat) (ba:Option Addr) (cap:Nat) (bs:List Int) (q B6 B7:Nat) (a b:Int) (k:Nat):Prop where
 but:But R w wx
 res:wx.heap[w.heap.size]?=some (.cells #[.int .i64 0,.int .i64 0,.int .i64 0,.int .i64 0] 76 (0,0))
 ins:wx.heap[B6]?=some (.cells #[.int .i64 q,.int .i64 a,.int .i64 b,.int .i64 0] 76 (0,0))
 opr:wx.heap[B7]?=some (.cells #[.bool (aOf q),.bool (bOf q),.bool (nOf q),.int .i64 (loOf q),.int .i64 (hiOf q)] 130 (0,0))
 g6:w.heap.size<B6
 g7:w.heap.size<B7
 ne:B7≠B6
 rd:RdAt wx R ba cap bs k
theorem own_block {w:World} {R:Nat} {ba:Option Addr} {cap:Nat} {bs:List Int} {k B:Nat} (h:RdAt w R ba cap bs k) (hB:w.heap.size<=B):Apart ba bs B:=fun hn b o e=>by
 obtain⟨b',o',e',hc⟩:=h.bytes.cell 0 hn;rw[e] at e';simp only[Option.some.injEq,Addr.mk.injEq,and_true] at e';have:=World.block_lt_of_cell? _ _ hc;simp at this
 omega
theorem RdAt.drew {w:World} {R:Nat} {ba:Option Addr} {cap:Nat} {bs:List Int} {k:Nat} (h:RdAt w R ba cap bs k):RdAt w.drew R ba cap bs k:=⟨h.blk,h.bytes.keeps (fun _ _ e=>e),h.place⟩
theorem But.drew {R:Nat} {a w:World} (h:But R a w):But R a w.drew:=⟨h.os,h.tape,h.output,h.size,h.block⟩
theorem mid_one {w w1:World} {R:Nat} {ba:Option Addr} {cap:Nat} {bs:List Int} {q k:Nat} (b1:But R w w1) (N0:w1.heap[w.heap.size]?=some (.cells #[.int .i64 0,.int .i64 0,.int .i64 0,.int .i64 0] 76 (0,0))) (h1:RdAt w1 R ba cap bs k) (hs:w.heap.size+1<=w1.heap.size) :
  cMid w ((w1.alloc (.cells #[.int .i64 q,.int .i64 0,.int .i64 0,.int .i64 0] 76)).alloc (.cells #[.bool (aOf q),.bool (bOf q),.bool (nOf q),.int .i64 (loOf q),.int .i64 (hiOf q)] 130)).drew R ba cap bs q w1.heap.size (w1.heap.size+1) 0 0 k:=by
 refine⟨((b1.alloc _).alloc _).drew,block_old (block_old N0 _) _,block_old (block_new w1 _) _,?_,by omega,by omega,by omega,((h1.alloc _).alloc _).drew⟩;have:=block_new (w1.alloc (.cells #[.int .i64 q,.int .i64 0,.int .i64 0,.int .i64 0] 76)) (.cells #[.bool (aOf q),.bool (bOf q),.bool (nOf q),.int .i64 (loOf q),.int .i64 (hiOf q)] 130);rw[World.size_alloc] at this
 exact this
theorem mid_two {w w1:World} {R:Nat} {ba:Option Addr} {cap:Nat} {bs:List Int} {q k:Nat} (b1:But R w w1) (N0:w1.heap[w.heap.size]?=some (.cells #[.int .i64 0,.int .i64 0,.int .i64 0,.int .i64 0] 76 (0,0))) (h1:RdAt w1 R ba cap bs k) (hs:w.heap.size+1<=w1.heap.size) :
  cMid w ((w1.alloc (.cells #[.bool (aOf q),.bool (bOf q),.bool (nOf q),.int .i64 (loOf q),.int .i64 (hiOf q)] 130)).alloc (.cells #[.int .i64 q,.int .i64 0,.int .i64 0,.int .i64 0] 76)).drew R ba cap bs q (w1.heap.size+1) w1.heap.size 0 0 k:=by
 refine⟨((b1.alloc _).alloc _).drew,block_old (block_old N0 _) _,?_,block_old (block_new w1 _) _,by omega,by omega,by omega,((h1.alloc _).alloc _).drew⟩;have:=block_new (w1.alloc (.cells #[.bool (aOf q),.bool (bOf q),.bool (nOf q),.int .i64 (loOf q),.int .i64 (hiOf q)] 130)) (.cells #[.int .i64 q,.int .i64 0,.int .i64 0,.int .i64 0] 76);rw[World.size_alloc] at this
 exact this
theorem rdInstr_any (R:Nat) (ba:Option Addr) (cap:Nat) (bs:List Int) (k:Nat) (w:World) (h:RdAt w R ba cap bs k) (hR:Apart ba bs R) (hT:TabAt 0 w) (hR0:R≠0) :
  Calls Tryz.prog 120 #[.pointer (some ⟨R,0,none⟩)] w fun e w' =>
   e=.returned (.tuple #[.agg #[.int .i64 (rdIns bs k).1.op,.int .i64 (rdIns bs k).1.a,.int .i64 (rdIns bs k).1.b,.int .i64 (rdIns bs k).1.n],.int .i64 (rdIns bs k).2.1])/\RdAt w' R ba cap bs (rdIns bs k).2.2/\But R w w':=by
 obtain⟨n1,n2⟩:=rdNext_bd bs k h.bytes.fits;have hRw:=h.ne;have hw0:Aside (RdAt w R ba cap bs k):=h
 go_enter Tryz.func120,Tryz.ntmps120
 go_wp2_with fail
 refine(cnext_any R ba cap bs k _ (h.alloc _) hR).mono ?_;rintro e w1 ⟨rfl,h1,hb1⟩;have N0:=hb1.blk (block_new w _) (by omega);have b1:But R w w1:=((But.refl _ _).alloc _).trans hb1;have hT1:=hT.but b1 hR0;have hs1:=hb1.size;simp at hs1;have r0:=ccell_blk N0 0;have r1:=ccell_blk N0 1;have r2:=ccell_blk N0 2;have r3:=ccell_blk N0 3;simp at r0 r1 r2 r3;have z0:w1.frozen? ⟨w.heap.size,0,none⟩=false:=by simp[World.frozen?,N0]
 have z1:w1.frozen? ⟨w.heap.size,1,none⟩=false:=by simp[World.frozen?,N0]
 have z2:w1.frozen? ⟨w.heap.size,2,none⟩=false:=by simp[World.frozen?,N0]
 have z3:w1.frozen? ⟨w.heap.size,3,none⟩=false:=by simp[World.frozen?,N0]
 clear hb1 h hT;have HOWN:Aside (∀ B,w.heap.size<=B->Apart ba bs B):=fun B hB=>own_block hw0.out hB
 clear hw0
 by_cases he:(rdNext bs k).2.1=0
 ·rw[he]
  cases ho:okOp (rdNext bs k).1
  ·have HU:Aside (rdIns bs k=(noIns,3,(rdNext bs k).2.2)):=by show rdIns bs k=_;rw[rdIns,if_neg (by simp[he]),if_pos ho]
   clear he
   go_wp2_with (go_at_call 118;refine(isOperator_any _ _).mono ?_;rintro e w' ⟨rfl,hw⟩;rw[hw])
   have M0:=blk_set (j:=3) (blk_set (j:=2) (blk_set (j:=1) (blk_set (j:=0) N0 (.int .i64 0)) (.int .i64 0)) (.int .i64 0)) (.int .i64 0);have m0:=ccell_blk M0 0;have m1:=ccell_blk M0 1;have m2:=ccell_blk M0 2;have m3:=ccell_blk M0 3;simp at m0 m1 m2 m3;refine bodyPost_ret (v:=.tuple #[.agg #[.int .i64 0,.int .i64 0,.int .i64 0,.int .i64 0],.int .i64 3]) (by simp[results,Tryz.results120,go_sem,m0,m1,m2,m3]) rfl ⟨by rw[HU.out];rfl,?_,(((b1.setNew (Nat.le_refl _) _ _).setNew (Nat.le_refl _) _ _).setNew (Nat.le_refl _) _ _).setNew (Nat.le_refl _) _ _⟩
   rw[HU.out];exact(((h1.set (by omega) (HOWN.out _ (Nat.le_refl _)) _ _).set (by omega) (HOWN.out _ (Nat.le_refl _)) _ _).set (by omega) (HOWN.out _ (Nat.le_refl _)) _ _).set (by omega) (HOWN.out _ (Nat.le_refl _)) _ _
  ·have HOK:Aside (okOp (rdNext bs k).1=true):=ho
   have HE:Aside ((rdNext bs k).2.1=0):=he;simp[okOp] at ho;obtain⟨q,hq⟩:=Int.eq_ofNat_of_zero_le ho.1;have hq20:q<20:=by omega
   obtain⟨t0,t1,t2,t3,t4⟩:=hT1 q hq20;have hok:okOp (q:Int)=true:=by simp[okOp];omega
   rw[hq];have hqz:(q:Int)<20:=by omega
   have HQ:Aside ((rdNext bs k).1=(q:Int)):=hq;have w0:0<w1.heap.size:=by omega
   have ca:∀ (j:Nat) (v:Value),w1.cell? ⟨0,j,none⟩=some v->∀ o,(w1.alloc o).cell? ⟨0,j,none⟩=some v:=fun j v hv o=>Keeps.alloc w1 o _ _ hv
   have ca2:∀ (j:Nat) (v:Value),w1.cell? ⟨0,j,none⟩=some v->∀ o o',((w1.alloc o).alloc o').cell? ⟨0,j,none⟩=some v:=fun j v hv o o'=>Keeps.alloc _ o' _ _ (Keeps.alloc w1 o _ _ hv)
   have s0:=ca _ _ t0;have s1:=ca _ _ t1;have s2:=ca _ _ t2;have s3:=ca _ _ t3;have s4:=ca _ _ t4;have y0:=ca2 _ _ t0;have y1:=ca2 _ _ t1;have y2:=ca2 _ _ t2;have y3:=ca2 _ _ t3;have y4:=ca2 _ _ t4;clear he ho hq ca ca2
   go_upto_region 6 with(go_at_call 118;refine(isOperator_any _ _).mono ?_;rintro e w' ⟨rfl,hw⟩;rw[hw];clear hw w')
   go_cut [6,7] (fun s6 s7 wx=>∃ B6 B7:Nat,s6=.pointer (some ⟨B6,0,none⟩)/\s7=.pointer (some ⟨B7,0,none⟩)/\cMid w wx R ba cap bs q B6 B7 0 0 (rdNext bs k).2.2)
   case first =>
    go_region
    all_goals
     go_wp2_with fail
     go_meet
     go_light
     first
      | exact⟨_,_,rfl,rfl,mid_one b1 N0 h1 hs1⟩
      | exact⟨_,_,rfl,rfl,mid_two b1 N0 h1 hs1⟩
   case rest =>
    obtain⟨B6,B7,rfl,rfl,hM⟩:=hcut;clear t0 t1 t2 t3 t4 s0 s1 s2 s3 s4 y0 y1 y2 y3 y4 r0 r1 r2 r3 z0 z1 z2 z3 N0 b1 h1 hT1 hs1;have HX:Aside (rdNext bs k=((q:Int),0,(rdNext bs k).2.2)):=Prod.ext HQ.out (Prod.ext HE.out rfl);have HOKQ:Aside (okOp (q:Int)=true):=hok;clear HQ HE HOK n1 n2 hok;generalize (rdNext bs k).2.2=k1 at *
    go_upto_region 7 with fail
    have o0:=ccell_blk hM.opr 0;simp at o0
    go_upto_if 27 with fail
    go_cut [5] (fun s5 wx=>s5=.int .i64 0/\∃ (a b:Int) (k2:Nat),rdAB bs q k1=(a,b,0,k2)/\cMid w wx R ba cap bs q B6 B7 a b k2)
    case first =>
     cases hA:aOf q
     ·go_wp2_with fail
      go_meet
      go_light
      exact⟨rfl,0,0,k1,by rw[rdAB,if_neg (by simp[hA])],hM⟩
     ·have HA:Aside (rdAB bs q k1=rdRegs bs k1):=by show rdAB bs q k1=_;rw[rdAB,if_pos hA]
      go_wp2_with fail
      refine(registers_any R ba cap bs k1 _ hM.rd hR).mono ?_;rintro e w2 ⟨rfl,h2,hb2⟩;have hg6:=hM.g6;have hg7:=hM.g7;have hne:=hM.ne;have I2:=hb2.blk hM.ins (by omega);have O2:=hb2.blk hM.opr (by omega);have N2:=hb2.blk hM.res (by omega);have b2:=hM.but.trans hb2;generalize rdRegs bs k1=q3 at *;obtain⟨ra,rb,er,k2⟩:=q3;simp only at h2;have h3:=(h2.set (B:=B6) (by omega) (HOWN.out _ (by omega)) 1 (.int .i64 ra)).set (B:=B6) (by omega) (HOWN.out _ (by omega)) 2 (.int .i64 rb)
      have b3:=(b2.setNew (B:=B6) (by omega) 1 (.int .i64 ra)).setNew (B:=B6) (by omega) 2 (.int .i64 rb);have I3:=blk_set (j:=2) (blk_set (j:=1) I2 (.int .i64 ra)) (.int .i64 rb);have O3:=blk_ne (j:=2) (blk_ne (j:=1) O2 hne (.int .i64 ra)) hne (.int .i64 rb);have N3:=blk_ne (B:=B6) (j:=2) (blk_ne (B:=B6) (j:=1) N2 (by omega) (.int .i64 ra)) (by omega) (.int .i64 rb);have i0:=ccell_blk I2 0;have i1:=ccell_blk I2 1
      have i2:=ccell_blk I2 2;have i3:=ccell_blk I2 3;simp at i0 i1 i2 i3;have fi0:=cfz_blk I2 0;have fi1:=cfz_blk I2 1;have fi2:=cfz_blk I2 2;have fi3:=cfz_blk I2 3;have n0:=ccell_blk N3 0;have n1:=ccell_blk N3 1;have n2:=ccell_blk N3 2;have n3:=ccell_blk N3 3;simp at n0 n1 n2 n3;have fn0:=cfz_blk N3 0;have fn1:=cfz_blk N3 1;have fn2:=cfz_blk N3 2;have fn3:=cfz_blk N3 3;clear hM hb2 o0
      by_cases he:er=0
      ·subst he
       go_wp2_with fail
       go_meet
       go_light
       refine⟨rfl,ra,rb,k2,HA.out,b3,N3,?_,O3,hg6,hg7,hne,h3⟩
       simpa using I3
      ·have heb:(er != 0)=true:=by simp[he]
       have HU:Aside (rdIns bs k=(noIns,er,k2)):=rdIns_ab HX.out HOKQ.out HA.out he;clear HA
       go_wp2_with fail
       have M0:=blk_set (j:=3) (blk_set (j:=2) (blk_set (j:=1) (blk_set (j:=0) N3 (.int .i64 0)) (.int .i64 0)) (.int .i64 0)) (.int .i64 0);have m0:=ccell_blk M0 0;have m1:=ccell_blk M0 1;have m2:=ccell_blk M0 2;have m3:=ccell_blk M0 3;simp at m0 m1 m2 m3;refine bodyPost_ret (v:=.tuple #[.agg #[.int .i64 0,.int .i64 0,.int .i64 0,.int .i64 0],.int .i64 er]) (by simp[results,Tryz.results120,go_sem,m0,m1,m2,m3]) rfl ⟨by rw[HU.out];rfl,?_,(((b3.setNew (Nat.le_refl _) _ _).setNew (Nat.le_refl _) _ _).setNew (Nat.le_refl _) _ _).setNew (Nat.le_refl _) _ _⟩
       rw[HU.out];exact(((h3.set (by omega) (HOWN.out _ (Nat.le_refl _)) _ _).set (by omega) (HOWN.out _ (Nat.le_refl _)) _ _).set (by omega) (HOWN.out _ (Nat.le_refl _)) _ _).set (by omega) (HOWN.out _ (Nat.le_refl _)) _ _
    case rest =>
     obtain⟨rfl,a,b,k2,hab,hM2⟩:=hcut;have HAB:Aside (rdAB bs q k1=(a,b,0,k2)):=hab;clear hM hab o0
     go_upto_region 11 with fail
     have o2:=ccell_blk hM2.opr 2;simp at o2
     go_upto_if 41 with fail
     go_cut [5] (fun s5 wx=>s5=.int .i64 0/\∃ (n:Int) (k3:Nat),rdN bs q k2=(n,0,k3)/\But R w wx/\wx.heap[w.heap.size]?=some (.cells #[.int .i64 0,.int .i64 0,.int .i64 0,.int .i64 0] 76 (0,0)) /\
       wx.heap[B6]?=some (.cells #[.int .i64 q,.int .i64 a,.int .i64 b,.int .i64 n] 76 (0,0))/\w.heap.size<B6/\RdAt wx R ba cap bs k3)
     case first =>
      cases hN:nOf q
      ·go_wp2_with fail
       go_meet
       go_light
       exact⟨rfl,0,k2,by rw[rdN,if_neg (by simp[hN])],hM2.but,hM2.res,hM2.ins,hM2.g6,hM2.rd⟩
      ·have HN:Aside (rdN bs q k2=rdNum bs 6 0 0 1 k2):=by show rdN bs q k2=_;rw[rdN,if_pos hN]
       go_wp2_with fail
       refine(number_any R ba cap bs k2 _ hM2.rd hR).mono ?_;rintro e w2 ⟨rfl,h2,hb2⟩;have hg6:=hM2.g6;have I2:=hb2.blk hM2.ins (by omega);have N2:=hb2.blk hM2.res (by omega);have b2:=hM2.but.trans hb2;generalize rdNum bs 6 0 0 1 k2=q3 at *;obtain⟨n,er,k3⟩:=q3;simp only at h2;have h3:=h2.set (B:=B6) (by omega) (HOWN.out _ (by omega)) 3 (.int .i64 n);have b3:=b2.setNew (B:=B6) (by omega) 3 (.int .i64 n)
       have I3:=blk_set (j:=3) I2 (.int .i64 n);have N3:=blk_ne (B:=B6) (j:=3) N2 (by omega) (.int .i64 n);have i0:=ccell_blk I2 0;have i1:=ccell_blk I2 1;have i2:=ccell_blk I2 2;have i3:=ccell_blk I2 3;simp at i0 i1 i2 i3;have fi0:=cfz_blk I2 0;have fi1:=cfz_blk I2 1;have fi2:=cfz_blk I2 2;have fi3:=cfz_blk I2 3;have n0:=ccell_blk N3 0;have n1:=ccell_blk N3 1;have n2:=ccell_blk N3 2;have n3:=ccell_blk N3 3
       simp at n0 n1 n2 n3;have fn0:=cfz_blk N3 0;have fn1:=cfz_blk N3 1;have fn2:=cfz_blk N3 2;have fn3:=cfz_blk N3 3;clear hM2 hb2 o2
       by_cases he:er=0
       ·subst he
        go_wp2_with fail
        go_meet
        go_light
        refine⟨rfl,n,k3,HN.out,b3,N3,?_,hg6,h3⟩
        simpa using I3
       ·have heb:(er != 0)=true:=by simp[he]
        have HU:Aside (rdIns bs k=(noIns,er,k3)):=rdIns_n HX.out HOKQ.out HAB.out HN.out he;clear HN
        go_wp2_with fail
        have M0:=blk_set (j:=3) (blk_set (j:=2) (blk_set (j:=1) (blk_set (j:=0) N3 (.int .i64 0)) (.int .i64 0)) (.int .i64 0)) (.int .i64 0);have m0:=ccell_blk M0 0;have m1:=ccell_blk M0 1;have m2:=ccell_blk M0 2;have m3:=ccell_blk M0 3;simp at m0 m1 m2 m3;refine bodyPost_ret (v:=.tuple #[.agg #[.int .i64 0,.int .i64 0,.int .i64 0,.int .i64 0],.int .i64 er]) (by simp[results,Tryz.results120,go_sem,m0,m1,m2,m3]) rfl ⟨by rw[HU.out];rfl,?_,(((b3.setNew (Nat.le_refl _) _ _).setNew (Nat.le_refl _) _ _).setNew (Nat.le_refl _) _ _).setNew (Nat.le_refl _) _ _⟩
        rw[HU.out];exact(((h3.set (by omega) (HOWN.out _ (Nat.le_refl _)) _ _).set (by omega) (HOWN.out _ (Nat.le_refl _)) _ _).set (by omega) (HOWN.out _ (Nat.le_refl _)) _ _).set (by omega) (HOWN.out _ (Nat.le_refl _)) _ _
     case rest =>
      obtain⟨rfl,n,k3,hn,b3,N3,I3,hg6,h3⟩:=hcut;have HU:Aside (rdIns bs k=(⟨q,a,b,n⟩,0,k3)):=rdIns_ok HX.out HOKQ.out HAB.out hn;have i0:=ccell_blk I3 0;have i1:=ccell_blk I3 1;have i2:=ccell_blk I3 2;have i3:=ccell_blk I3 3;simp at i0 i1 i2 i3;have n0:=ccell_blk N3 0;have n1:=ccell_blk N3 1;have n2:=ccell_blk N3 2;have n3:=ccell_blk N3 3;simp at n0 n1 n2 n3;have fn0:=cfz_blk N3 0;have fn1:=cfz_blk N3 1
      have fn2:=cfz_blk N3 2;have fn3:=cfz_blk N3 3;clear hn hM2 o2
      go_wp2_with fail
      have M0:=blk_set (j:=3) (blk_set (j:=2) (blk_set (j:=1) (blk_set (j:=0) N3 (.int .i64 q)) (.int .i64 a)) (.int .i64 b)) (.int .i64 n);have m0:=ccell_blk M0 0;have m1:=ccell_blk M0 1;have m2:=ccell_blk M0 2;have m3:=ccell_blk M0 3;simp at m0 m1 m2 m3;refine bodyPost_ret (v:=.tuple #[.agg #[.int .i64 q,.int .i64 a,.int .i64 b,.int .i64 n],.int .i64 0]) (by simp[results,Tryz.results120,go_sem,m0,m1,m2,m3]) rfl ⟨by rw[HU.out],?_,(((b3.setNew (Nat.le_refl _) _ _).setNew (Nat.le_refl _) _ _).setNew (Nat.le_refl _) _ _).setNew (Nat.le_refl _) _ _⟩
      rw[HU.out];exact(((h3.set (by omega) (HOWN.out _ (Nat.le_refl _)) _ _).set (by omega) (HOWN.out _ (Nat.le_refl _)) _ _).set (by omega) (HOWN.out _ (Nat.le_refl _)) _ _).set (by omega) (HOWN.out _ (Nat.le_refl _)) _ _
 ·have HU:Aside (rdIns bs k=(noIns,(rdNext bs k).2.1,(rdNext bs k).2.2)):=by show rdIns bs k=_;rw[rdIns,if_pos he]
  have heb:((rdNext bs k).2.1 != 0)=true:=by simp[he]
  go_wp2
  have M0:=blk_set (j:=3) (blk_set (j:=2) (blk_set (j:=1) (blk_set (j:=0) N0 (.int .i64 0)) (.int .i64 0)) (.int .i64 0)) (.int .i64 0);have m0:=ccell_blk M0 0;have m1:=ccell_blk M0 1;have m2:=ccell_blk M0 2;have m3:=ccell_blk M0 3;simp at m0 m1 m2 m3;refine bodyPost_ret (v:=.tuple #[.agg #[.int .i64 0,.int .i64 0,.int .i64 0,.int .i64 0],.int .i64 (rdNext bs k).2.1]) (by simp[results,Tryz.results120,go_sem,m0,m1,m2,m3]) rfl ⟨by rw[HU.out];rfl,?_,(((b1.setNew (Nat.le_refl _) _ _).setNew (Nat.le_refl _) _ _).setNew (Nat.le_refl _) _ _).setNew (Nat.le_refl _) _ _⟩
  rw[HU.out];exact(((h1.set (by omega) (HOWN.out _ (Nat.le_refl _)) _ _).set (by omega) (HOWN.out _ (Nat.le_refl _)) _ _).set (by omega) (HOWN.out _ (Nat.le_refl _)) _ _).set (by omega) (HOWN.out _ (Nat.le_refl _)) _ _
end
section
open Go.RowKit
theorem insCells_snoc (l:List Ins) (x:Ins):insCells (l++[x])=insCells l++[.int .i64 x.op,.int .i64 x.a,.int .i64 x.b,.int .i64 x.n]:=by simp[insCells]
def RowOwn (w:World) (base:Nat) (v:Value) (l:List Ins):Prop:=w.ownsRow base 76 4 v l.length (insCells l)
theorem RowOwn.nil (w:World) (base:Nat):RowOwn w base (.slice none 0 0) []:=World.ownsRow_nil w base _ 4
theorem RowOwn.alloc {w:World} {base:Nat} {v:Value} {l:List Ins} (h:RowOwn w base v l) (o:Obj):RowOwn (w.alloc o) base v l:=World.ownsRow.alloc h o
theorem RowOwn.le {w:World} {base base':Nat} {v:Value} {l:List Ins} (h:RowOwn w base v l) (hb:base'<=base):RowOwn w base' v l :=
 ⟨h.1,h.2.elim Or.inl (fun⟨g,cap,cur,hv,hg,r⟩=>Or.inr ⟨g,cap,cur,hv,Nat.le_trans hb hg,r⟩)⟩
theorem RowOwn.but {w w':World} {R base:Nat} {v:Value} {l:List Ins} (h:RowOwn w base v l) (k:But R w w') (hR:R<base):RowOwn w' base v l :=
 World.ownsRow.kept h (row:=some R) ⟨k.os,k.tape,k.output,k.size,fun i hi hne=>k.block i hi (fun e=>hne (by rw[e]))⟩ (by
  cases hv:v.ownBlock with
  | none=>exact Or.inl rfl
  | some g=>exact Or.inr (fun e=>by
    simp only[Option.some.injEq] at e;have:=(World.ownsRow.lt h g hv).1;omega))
theorem Tryz.infoIns:(Tryz.prog.info? 76).map (fun i=>(i.zero,i.size,i.bytes))=some (some (.agg #[.int .i64 0,.int .i64 0,.int .i64 0,.int .i64 0]),4,32):=by kernel_rfl
theorem cells4_new (w:World) (a b c d:Value) (t:TypeId) (m:Nat) (hm:m=w.heap.size):∀ j u,[a,b,c,d][j]?=some u->(w.alloc (.cells #[a,b,c,d] t)).cell? ((⟨m,0,none⟩:Addr).add j)=some u:=by
 subst hm;intro j u hj;have hb:=block_new w (.cells #[a,b,c,d] t);have hc:=ccell_blk hb j;have e:(⟨w.heap.size,0,none⟩:Addr).add j=⟨w.heap.size,j,none⟩:=by unfold Addr.add;split <;> simp_all
 rw[e,hc]
 simpa using hj
theorem grown_but {R:Nat} {a w w':World} {row:Option Nat} (h:But R a w) (hg:w.grownBy w' row) (hr:∀ k,row=some k->a.heap.size<=k):But R a w' :=
 ⟨hg.os.trans h.os,hg.tape.trans h.tape,hg.output.trans h.output,Nat.le_trans h.size hg.size,fun k hk hR=>(hg.block k (Nat.lt_of_lt_of_le hk h.size) (fun e=>by have:=hr k e.symm;omega)).trans (h.block k hk hR)⟩
theorem RdAt.grown {w w':World} {R:Nat} {ba:Option Addr} {cap:Nat} {bs:List Int} {k:Nat} {row:Option Nat} (h:RdAt w R ba cap bs k) (hg:w.grownBy w' row) (hR:row≠some R) (hb:∀ B,row=some B->Apart ba bs B):RdAt w' R ba cap bs k :=
 ⟨(hg.block R h.ne (Ne.symm hR)).trans h.blk,⟨fun i hi=>by
  obtain⟨b,o,e,hc⟩:=h.bytes.cell i hi;exact⟨b,o,e,hg.cell hc (fun e'=>hb b e'.symm (by omega) b o e rfl)⟩,h.bytes.fits,h.bytes.short⟩,h.place⟩
theorem behavior_any (R:Nat) (ba:Option Addr) (cap:Nat) (bs:List Int) (k:Nat) (w:World) (h:RdAt w R ba cap bs k) (hR:Apart ba bs R) (hT:TabAt 0 w) (hR0:R≠0) :
  Calls Tryz.prog 93 #[.pointer (some ⟨R,0,none⟩)] w fun e w' =>
   ∃ v,e=.returned (.tuple #[v,.int .i64 (rdRow bs k).2.1])/\RowOwn w' w.heap.size v (rdRow bs k).1/\RdAt w' R ba cap bs (rdRow bs k).2.2/\But R w w':=by
 obtain⟨i0,hi,hzz⟩:=Option.map_eq_some_iff.1 Tryz.infoIns;simp only[Prod.mk.injEq] at hzz;obtain⟨hz0,hz1,hz2⟩:=hzz;obtain⟨n1,n2⟩:=rdNext_bd bs k h.bytes.fits;have hRw:=h.ne;have HOWN:Aside (∀ B,w.heap.size<=B->Apart ba bs B):=fun B hB=>own_block h hB
 go_enter Tryz.func93,Tryz.ntmps93
 go_wp2_with fail
 refine(cnext_any R ba cap bs k _ h hR).mono ?_;rintro e w1 ⟨rfl,h1,hb1⟩
 by_cases he:(rdNext bs k).2.1=0
 ·have HR:Aside (rdRow bs k=rdInss bs (rdNext bs k).1.toNat [] (rdNext bs k).2.2):=by show rdRow bs k=_;rw[rdRow,if_neg (by simp[he])]
  rw[he];clear he;generalize (rdNext bs k).2.2=k1 at *;generalize (rdNext bs k).1=c at *;obtain⟨c,rfl⟩:=Int.eq_ofNat_of_zero_le n1;rw[Int.toNat_natCast] at HR
  go_wp2_with fail
  go_loopg [6,18] c (fun g s6 s18 wr=>∃ (i:Nat) (v:Value) (l:List Ins) (j:Nat),i<=c/\g=c-i/\s18=.int .i64 i/\s6=v/\l.length=i/\RowOwn wr w.heap.size v l/\RdAt wr R ba cap bs j/\But R w wr/\Aside (rdRow bs k=rdInss bs (c-i) l j))
  case atStart=>exact⟨0,_,[],k1,Nat.zero_le _,rfl,rfl,rfl,rfl,RowOwn.nil _ _,h1,hb1,HR⟩
  case round =>
   obtain⟨i,v,l,j,hi',rfl,rfl,rfl,hll,hO,hr,hb,hA⟩:=hrel;clear h1 hb1 HR;have HLL:Aside (l.length=i):=hll;have hlb:l.length<=255:=by omega
   clear hll
   by_cases hic:i<c
   ·have hiz:(i:Int)<(c:Int):=by omega
    go_wp2_with fail
    refine(rdInstr_any R ba cap bs j _ hr hR (hT.but hb hR0) hR0).mono ?_;rintro e w2 ⟨rfl,h2,hb2⟩;have hb3:=hb.trans hb2;have hO2:=hO.but hb2 hRw;have hs2:=hb3.size;clear hr hb hb2 hO;have HS:Aside (rdInss bs (c-i) l j=if (rdIns bs j).2.1≠0 then ([],(rdIns bs j).2.1,(rdIns bs j).2.2) else rdInss bs (c-(i+1)) (l++[(rdIns bs j).1]) (rdIns bs j).2.2):=by
     obtain⟨f,hf⟩:∃ f,c-i=f+1:=⟨c-i-1,by omega⟩
     show rdInss bs (c-i) l j=_
     rw[hf,rdInss,show c-(i+1)=f by omega]
    generalize rdIns bs j=q at *;obtain⟨x,er,j'⟩:=q;simp only at h2
    by_cases her:er=0
    ·subst her
     have HN:Aside (rdRow bs k=rdInss bs (c-(i+1)) (l++[x]) j'):=by show rdRow bs k=_;rw[hA.out,HS.out];simp
     clear HS hA
     go_wp2_with (at_builtin;refine wpList_append_own _ rfl (.tmp 28) (.tmp 30) 77 rfl w.heap.size 76 i0 (.agg #[.int .i64 0,.int .i64 0,.int .i64 0,.int .i64 0]) 4 32 Tryz.underlying77 hi hz0 hz1 hz2 rfl (by decide) u6 l.length (insCells l) rfl ((hO2.alloc _).alloc _) ⟨w2.heap.size+1,0,none⟩ 1 1 [.int .i64 x.op,.int .i64 x.a,.int .i64 x.b,.int .i64 x.n] rfl rfl ?p1 ?p2 ?p3 ?p4 ?p5 ?_;(case p1=>exact cells4_new _ _ _ _ _ _ _ (by simp));(case p2=>intro u hu;simp at hu;rcases hu with rfl | rfl | rfl | rfl <;> rfl);(case p3=>unfold maxLen;omega);(case p4=>omega);(case p5=>simp;omega);intro v1 w3 hO3 hg3 _)
     have hrow:∀ g,u6.ownBlock=some g->w.heap.size<=g:=fun g hg=>(World.ownsRow.lt hO2 g hg).1
     have hb4:But R w w3:=grown_but ((hb3.alloc _).alloc _) hg3 hrow;have h4:RdAt w3 R ba cap bs j':=((h2.alloc _).alloc _).grown hg3 (fun e=>by have:=hrow R e;omega) (fun B hB=>HOWN.out B (hrow B hB));clear hO2 hg3 h2 hb3 hrow;go_wp2
     go_roundg (c-(i+1))
     case measure=>go_light;omega
     case rel =>
      go_light
      refine⟨i+1,_,l++[x],j',by omega,rfl,by go_num,rfl,by simp[HLL.out],?_,h4,hb4,HN.out⟩
      unfold RowOwn
      rw[insCells_snoc]
      simpa using hO3
    ·have heb:(er != 0)=true:=by simp[her]
     have HN:Aside (rdRow bs k=([],er,j')):=by show rdRow bs k=_;rw[hA.out,HS.out];simp[her]
     clear HS hA;go_wp2
     go_ret2
     exact⟨_,by rw[HN.out];rfl,by rw[HN.out];exact RowOwn.nil _ _,by rw[HN.out];exact h2.alloc _,hb3.alloc _⟩
   ·have HN:Aside (rdRow bs k=(l,0,j)):=by show rdRow bs k=_;rw[hA.out,show c-i=0 by omega,rdInss]
    go_wp2
    go_ret2
    exact⟨_,by rw[HN.out];rfl,by rw[HN.out];exact hO,by rw[HN.out];exact hr,hb⟩
 ·have HU:Aside (rdRow bs k=([],(rdNext bs k).2.1,(rdNext bs k).2.2)):=by show rdRow bs k=_;rw[rdRow,if_pos he]
  have heb:((rdNext bs k).2.1 != 0)=true:=by simp[he]
  go_wp2
  go_ret2
  exact⟨_,by rw[HU.out];rfl,by rw[HU.out];exact RowOwn.nil _ _,by rw[HU.out];exact h1,hb1⟩
end
end Go.Proofs.YtddokajfafmhhaaGreatDoor
