/- KActs. -/
import Derived.Test.YtepifccbbmdfcaaGreatDoorCETopUniqueKProg3
namespace Go.Proofs.YtepifccbbmdfcaaGreatDoor
set_option maxRecDepth 100000
set_option maxHeartbeats 8000000
open Go.RowKit
def fAx (x:Ax):List Value:=[.int .i64 x.kind,.int .i64 x.who,.int .i64 x.n,.int .i64 x.m]
theorem Tryz.rowAx:RowT Tryz.prog fAx 4 23 27 32:=⟨fun _=>rfl,fun x v hv=>by simp[fAx] at hv;rcases hv with h | h | h | h <;> rw[h] <;> rfl,by decide,Tryz.underlying23,_,(show(Tryz.prog.info? 27).map (fun i=>(i.zero,i.size,i.bytes))=some (some (.agg #[.int .i64 0,.int .i64 0,.int .i64 0,.int .i64 0]),4,32) by kernel_rfl),rfl⟩
theorem seqAx_to {w:World} {ao:Option Addr} {l:List Ax} (h:SeqAt fAx 4 w ao l):AxsAt w ao l:=fun i a hi=>by
 obtain⟨b,o,e,hc⟩:=h i a hi;exact⟨b,o,e,hc 0 _ rfl,hc 1 _ rfl,hc 2 _ rfl,hc 3 _ rfl⟩
theorem seqAx_new (w:World) (x:Ax) (t:TypeId) (B:Nat) (hB:B=w.heap.size):SeqAt fAx 4 (w.alloc (.cells #[.int .i64 x.kind,.int .i64 x.who,.int .i64 x.n,.int .i64 x.m] t)) (some ⟨B,0,none⟩) [x]:=fun i y hy=>by
 match i,hy with
 | 0,hy =>
  simp at hy;subst hy;refine⟨B,0,rfl,fun j u hu=>?_⟩;rw[cellBlk (by rw[hB];exact Deep.blk_alloc_new w _)]
  simpa[fAx] using hu
 | i+1,hy=>simp at hy
def manyOf (b:Int):Int:=if pick b 3=0 then 1 else if pick b 3=1 then 2 else 4
def axOf (r:Rw):Ax :=
 if pick r.k 20=0 then ⟨2,pick r.a (manyOf r.b),0,0⟩ else if pick r.k 20<3 then ⟨3,pick r.a (manyOf r.b),pick r.c 9,pick r.b 5⟩ else ⟨1,pick r.a (manyOf r.b),0,0⟩
def axsOf (r:Rw):List Ax:=if (axOf r).kind=1 then List.replicate (1+(pick r.c 5).toNat) (axOf r) else [axOf r]
def actsS (l:List Rw) (most:Nat):List Ax:=⟨3,0,3,1⟩ :: (l.take most).flatMap axsOf
theorem manyOf_bd (b:Int):1<=manyOf b/\manyOf b<=4:=by
 unfold manyOf
 split
 ·omega
 ·split <;> omega
theorem axOf_ok (r:Rw):axFault (axOf r)=0:=by
 have h1:=pick_bd (n:=r.a) (many:=manyOf r.b) (by have:=manyOf_bd r.b;omega);have h2:=(manyOf_bd r.b).2;have h3:=pick_bd (n:=r.c) (many:=9) (by omega);have h4:=pick_bd (n:=r.b) (many:=5) (by omega)
 unfold axOf
 split
 ·unfold axFault
  rw[if_neg (by simp),if_neg (by simp[isW];omega)]
 ·split
  ·unfold axFault
   rw[if_neg (by simp),if_neg (by simp[isW];omega)]
  ·unfold axFault
   rw[if_neg (by simp),if_neg (by simp[isW];omega)]
theorem axsOf_ok (r:Rw):∀ a∈axsOf r,axFault a=0:=fun a ha=>by
 unfold axsOf at ha
 split at ha
 ·rw[(List.mem_replicate.1 ha).2];exact axOf_ok r
 ·rw[List.mem_singleton.1 ha];exact axOf_ok r
theorem actsS_ok (l:List Rw) (most:Nat):∀ a∈actsS l most,axFault a=0:=fun a ha=>by
 rcases List.mem_cons.1 ha with rfl | ha
 ·decide
 ·obtain⟨r,_,ha⟩:=List.mem_flatMap.1 ha
  exact axsOf_ok r a ha
theorem axsOf_len (r:Rw):(axsOf r).length<=5:=by
 have:=pick_bd (n:=r.c) (many:=5) (by omega)
 unfold axsOf
 split
 ·rw[List.length_replicate];omega
 ·simp
theorem flat_axs_len:∀ l:List Rw,(l.flatMap axsOf).length<=5*l.length
 | []=>by simp
 | r :: l=>by
  have h1:=axsOf_len r;have h2:=flat_axs_len l;rw[List.flatMap_cons,List.length_append,List.length_cons];omega
theorem actsS_len (l:List Rw) (most:Nat):(actsS l most).length<=1+5*most:=by
 have:=flat_axs_len (l.take most);have h2:(l.take most).length<=most:=by rw[List.length_take];omega
 unfold actsS
 rw[List.length_cons];omega
def AxAns (w w':World) (l:List Ax) (e:Ending):Prop:=∃ va vc,e=.returned (.slice va l.length vc)/\Below w.heap.size w w'/\AxsAt w' va l/\l.length<=vc
theorem kacts_any (l:List Rw) (ra:Option Addr) (rc:Nat) (most:Nat) (w:World) (h:RawsAt w ra l) (hm:most<=900) :
  Calls Tryz.prog 39 #[.slice ra l.length rc,.int .i64 most] w fun e w'=>AxAns w w' (actsS l most) e:=by
 have hmx:maxLen=9223372036854775807:=rfl;obtain⟨N0,_,b1,s1⟩:=boxes1 w (.cells #[.int .i64 3,.int .i64 0,.int .i64 3,.int .i64 1] 27);have hO0:SeqOwn fAx 4 27 (w.alloc (.cells #[.int .i64 3,.int .i64 0,.int .i64 3,.int .i64 1] 27)) w.heap.size (.slice (some ⟨w.heap.size,0,none⟩) 1 1) [⟨3,0,3,1⟩]:=ownsRow_lit (n:=1) N0 (Nat.le_refl _) rfl (by omega);have HR:Aside (actsS l most=⟨3,0,3,1⟩ :: (l.take most).flatMap axsOf):=rfl
 have HRL:Aside ((actsS l most).length<=1+5*most):=actsS_len l most;generalize actsS l most=RR at *;generalize hLL:l.length=LL at *;have HLL:Aside (l.length=LL):=hLL;clear hLL
 go_enter Tryz.func39,Tryz.ntmps39
 go_wp2_with fail
 go_loopg [6,5] LL (fun gg s6 s5 wr=>∃ (i:Nat) (out:List Ax) (oa:Option Addr) (oc:Nat),i<=LL/\gg=LL-i/\i<=most/\s6=.int .i64 i/\s5=.slice oa out.length oc/\Aside (SeqOwn fAx 4 27 wr w.heap.size (.slice oa out.length oc) out)/\Aside (Below w.heap.size w wr)/\out.length<=1+5*i/\Aside (out=⟨3,0,3,1⟩ :: (l.take i).flatMap axsOf))
 case atStart=>exact⟨0,[⟨3,0,3,1⟩],_,_,Nat.zero_le _,rfl,Nat.zero_le _,rfl,rfl,hO0,b1,by simp,rfl⟩
 case round =>
  obtain⟨i,out,oa,oc,hi,rfl,him,rfl,rfl,HO,HB,hol,HOUT⟩:=hrel;clear hO0 N0 b1 s1;obtain⟨wO,hwO⟩:∃ wO,wO=wr:=⟨_,rfl⟩;subst hwO
  by_cases hiL:i<LL
  rotate_left
  ·have hge:¬ (i:Int)<(LL:Int):=by omega
   have HRR:Aside (RR=out):=by
    show RR=out
    rw[HR.out,HOUT.out,List.take_of_length_le (by rw[HLL.out];omega),List.take_of_length_le (by rw[HLL.out];omega)]
   go_wp2
   go_ret
   exact⟨oa,oc,by rw[HRR.out];rfl,HB.out,by rw[HRR.out];exact⟨seqAx_to (HO.out.at Tryz.rowAx.len),ownsRow_cap HO.out⟩⟩
  have hiz:(i:Int)<(LL:Int):=by omega
  by_cases himo:i<most
  rotate_left
  ·have hge:¬ (i:Int)<(most:Int):=by omega
   have HRR:Aside (RR=out):=by
    show RR=out
    have e:i=most:=by omega
    rw[HR.out,HOUT.out,e]
   go_wp2
   go_ret
   exact⟨oa,oc,by rw[HRR.out];rfl,HB.out,by rw[HRR.out];exact⟨seqAx_to (HO.out.at Tryz.rowAx.len),ownsRow_cap HO.out⟩⟩
  have himz:(i:Int)<(most:Int):=by omega
  obtain⟨r,hr⟩:=at_some (l:=l) (i:=i) (by rw[HLL.out];exact hiL);obtain⟨RB,RO,rfl,_,i0,i1,i2,i3,f0,f1,f2,f3⟩:=(h.keeps (Keeps.below HB.out)) i r hr;obtain⟨rk,rA,rB,rC⟩:=r;simp only at i0 i1 i2 i3 f0 f1 f2 f3;obtain⟨NR,_,cr,sr⟩:=boxes1 wO (.cells #[.int .i64 rk,.int .i64 rA,.int .i64 rB,.int .i64 rC] 94)
  go_upto_region 6 with fail
  generalize wO.alloc (.cells #[.int .i64 rk,.int .i64 rA,.int .i64 rB,.int .i64 rC] 94)=W at *;have d0:W.cell? ⟨wO.heap.size,0,none⟩=some (.int .i64 rk):=cell_blk NR 0;have d1:W.cell? ⟨wO.heap.size,1,none⟩=some (.int .i64 rA):=cell_blk NR 1;have d2:W.cell? ⟨wO.heap.size,2,none⟩=some (.int .i64 rB):=cell_blk NR 2;have d3:W.cell? ⟨wO.heap.size,3,none⟩=some (.int .i64 rC):=cell_blk NR 3;have hp3b:=pick_bd (n:=rB) (many:=3) (by omega)
  obtain⟨p3,hp3⟩:=Int.eq_ofNat_of_zero_le hp3b.1;have hp3z:(p3:Int)<3:=by omega
  have hMB:=manyOf_bd rB;have HM:∀ (wx:World) (I:Nat),wx.heap[I]?=some (.cells #[.int .i64 1,.int .i64 2,.int .i64 4] 3 (0,0))->wx.cell? ⟨I,p3,none⟩=some (.int .i64 (manyOf rB)):=fun wx I hI=>by
   have h3:p3=0\/p3=1\/p3=2:=by omega
   unfold manyOf
   rw[hp3]
   rcases h3 with rfl | rfl | rfl
   ·have:=cell_blk hI 0;simpa using this
   ·have:=cell_blk hI 1;simpa using this
   ·have:=cell_blk hI 2;simpa using this
  have HAX:Aside (axOf ⟨rk,rA,rB,rC⟩=if pick rk 20=0 then ⟨2,pick rA (manyOf rB),0,0⟩ else if pick rk 20<3 then ⟨3,pick rA (manyOf rB),pick rC 9,pick rB 5⟩ else ⟨1,pick rA (manyOf rB),0,0⟩):=rfl;generalize manyOf rB=MB at *;have hSof:∀ w',Below W.heap.size W w'->(w'.cell? ⟨wO.heap.size,1,none⟩=some (.int .i64 rA)/\w'.cell? ⟨wO.heap.size,2,none⟩=some (.int .i64 rB)):=fun w' hb'=>⟨Keeps.below hb' _ _ d1,Keeps.below hb' _ _ d2⟩
  go_cut [8] (fun s8 wc=>∃ Q:Nat,s8=.pointer (some ⟨Q,0,none⟩)/\Below W.heap.size W wc/\W.heap.size<=Q/\wc.heap[Q]?=some (.cells #[.int .i64 1,.int .i64 (pick rA MB),.int .i64 0,.int .i64 0] 27 (0,0)))
  case first =>
   have hB:Below W.heap.size W W.drew:=(Below.refl _ _).drew;refine wp_region_need (fun j=>j != 11) (fun w'=>w'.cell? ⟨wO.heap.size,1,none⟩=some (.int .i64 rA)/\w'.cell? ⟨wO.heap.size,2,none⟩=some (.int .i64 rB)) (by kernel_rfl) (hSof _ hB) (fun hS=>?_);generalize W.drew=wc0 at hS hB ⊢;refine tkN 0 hS ?_;refine tkN 1 hS ?_;refine tkN 3 hS ?_;refine tkN 4 hS ?_;refine thN 2 5 10 (fun K hK=>?_) (fun K hK=>?_) (fun K hK=>?_)
   ·go_simp
    have hbn:=below_box wc0 (Obj.cells #[.int .i64 1,.int .i64 2,.int .i64 4] 3);have mI:=Deep.blk_alloc_new wc0 (Obj.cells #[.int .i64 1,.int .i64 2,.int .i64 4] 3);generalize wc0.alloc (Obj.cells #[.int .i64 1,.int .i64 2,.int .i64 4] 3)=wc1 at hbn mI ⊢;obtain⟨I,hI⟩:∃ I,I=wc0.heap.size:=⟨_,rfl⟩;rw[<- hI] at mI ⊢;clear hI;have hBn:Below W.heap.size W wc1:=hB.trans (hbn.mono hB.size);refine otN hK (hSof _ hBn) ?_
    replace hS:=hSof _ hBn;clear hK;replace hB:=hBn;clear hBn hbn;refine twN 5 10 (fun K hK=>?_) (fun K hK=>?_)
    ·go_simp
     refine(picked_any rB 3 _ f2.1 f2.2 (by omega) (by omega)).mono ?_;rintro e w' ⟨rfl,rfl⟩;rw[hp3];refine otN hK hS ?_;clear hK;refine tkN 6 hS ?_;refine twN 7 10 (fun K hK=>?_) (fun K hK=>?_)
     ·have cI:=HM wc1 I mI
      go_simp;refine otN hK hS ?_;clear hK;refine twN 8 10 (fun K hK=>?_) (fun K hK=>?_)
      ·go_simp
       refine(picked_any rA MB _ f1.1 f1.2 (by omega) (by omega)).mono ?_;rintro e w' ⟨rfl,rfl⟩;refine otN hK hS ?_;clear hK;refine tkN 9 hS ?_;refine stN 10 (fun K hK=>?_);go_simp;have hbn:=below_box wc1 (Obj.cells #[.int .i64 0,.int .i64 0,.int .i64 0,.int .i64 0] 27);have mQ:=Deep.blk_alloc_new wc1 (Obj.cells #[.int .i64 0,.int .i64 0,.int .i64 0,.int .i64 0] 27);have xQ:W.heap.size<=wc1.heap.size:=hB.size
       generalize wc1.alloc (Obj.cells #[.int .i64 0,.int .i64 0,.int .i64 0,.int .i64 0] 27)=wc2 at hbn mQ ⊢;obtain⟨Q,hQ⟩:∃ Q,Q=wc1.heap.size:=⟨_,rfl⟩;rw[<- hQ] at mQ xQ ⊢;clear hQ;have hBn:Below W.heap.size W wc2:=hB.trans (hbn.mono hB.size);refine otN hK (hSof _ hBn) ?_;replace hS:=hSof _ hBn;clear hK;replace mI:=(hbn.block _ (Array.getElem?_eq_some_iff.1 mI).1).trans mI;replace hB:=hBn;clear hBn hbn
       obtain⟨c0,c1,c2,c3⟩:=cells4 mQ;have cf:∀ j,wc2.frozen? ⟨Q,j,none⟩=false:=fun j=>by simp[World.frozen?,mQ]
       refine stN 11 (fun K hK=>?_);go_simp;refine laN hK ?_;clear hK;clear cf c0 c1 c2 c3
       go_wp2_with fail
       go_meet
       case rel=>exact⟨Q,rfl,putAt_below xQ [.int .i64 1,.int .i64 (pick rA MB),.int .i64 0,.int .i64 0] 0 hB,xQ,putAt_whole mQ [.int .i64 1,.int .i64 (pick rA MB),.int .i64 0,.int .i64 0] rfl⟩
      ·go_simp
       have hbn:=below_box wc1 (Obj.cells #[.int .i64 0,.int .i64 0,.int .i64 0,.int .i64 0] 27);have mQ:=Deep.blk_alloc_new wc1 (Obj.cells #[.int .i64 0,.int .i64 0,.int .i64 0,.int .i64 0] 27);have xQ:W.heap.size<=wc1.heap.size:=hB.size;generalize wc1.alloc (Obj.cells #[.int .i64 0,.int .i64 0,.int .i64 0,.int .i64 0] 27)=wc2 at hbn mQ ⊢;obtain⟨Q,hQ⟩:∃ Q,Q=wc1.heap.size:=⟨_,rfl⟩;rw[<- hQ] at mQ xQ ⊢
       clear hQ;have hBn:Below W.heap.size W wc2:=hB.trans (hbn.mono hB.size);refine otN hK (hSof _ hBn) ?_;replace hS:=hSof _ hBn;clear hK;replace mI:=(hbn.block _ (Array.getElem?_eq_some_iff.1 mI).1).trans mI;replace hB:=hBn;clear hBn hbn;refine stN 8 (fun K hK=>?_);go_simp;refine(picked_any rA MB _ f1.1 f1.2 (by omega) (by omega)).mono ?_;rintro e w' ⟨rfl,rfl⟩;refine otN hK hS ?_;clear hK;refine tkN 9 hS ?_
       obtain⟨c0,c1,c2,c3⟩:=cells4 mQ;have cf:∀ j,wc2.frozen? ⟨Q,j,none⟩=false:=fun j=>by simp[World.frozen?,mQ]
       refine stN 11 (fun K hK=>?_);go_simp;refine laN hK ?_;clear hK;clear cf c0 c1 c2 c3
       go_wp2_with fail
       go_meet
       case rel=>exact⟨Q,rfl,putAt_below xQ [.int .i64 1,.int .i64 (pick rA MB),.int .i64 0,.int .i64 0] 0 hB,xQ,putAt_whole mQ [.int .i64 1,.int .i64 (pick rA MB),.int .i64 0,.int .i64 0] rfl⟩
     ·go_simp
      have hbn:=below_box wc1 (Obj.cells #[.int .i64 0,.int .i64 0,.int .i64 0,.int .i64 0] 27);have mQ:=Deep.blk_alloc_new wc1 (Obj.cells #[.int .i64 0,.int .i64 0,.int .i64 0,.int .i64 0] 27);have xQ:W.heap.size<=wc1.heap.size:=hB.size;generalize wc1.alloc (Obj.cells #[.int .i64 0,.int .i64 0,.int .i64 0,.int .i64 0] 27)=wc2 at hbn mQ ⊢;obtain⟨Q,hQ⟩:∃ Q,Q=wc1.heap.size:=⟨_,rfl⟩;rw[<- hQ] at mQ xQ ⊢
      clear hQ;have hBn:Below W.heap.size W wc2:=hB.trans (hbn.mono hB.size);refine otN hK (hSof _ hBn) ?_;replace hS:=hSof _ hBn;clear hK;replace mI:=(hbn.block _ (Array.getElem?_eq_some_iff.1 mI).1).trans mI;replace hB:=hBn;clear hBn hbn;refine stN 7 (fun K hK=>?_);have cI:=HM wc2 I mI;go_simp;refine otN hK hS ?_;clear hK;refine stN 8 (fun K hK=>?_);go_simp;refine(picked_any rA MB _ f1.1 f1.2 (by omega) (by omega)).mono ?_
      rintro e w' ⟨rfl,rfl⟩;refine otN hK hS ?_;clear hK;refine tkN 9 hS ?_;obtain⟨c0,c1,c2,c3⟩:=cells4 mQ;have cf:∀ j,wc2.frozen? ⟨Q,j,none⟩=false:=fun j=>by simp[World.frozen?,mQ]
      refine stN 11 (fun K hK=>?_);go_simp;refine laN hK ?_;clear hK;clear cf c0 c1 c2 c3
      go_wp2_with fail
      go_meet
      case rel=>exact⟨Q,rfl,putAt_below xQ [.int .i64 1,.int .i64 (pick rA MB),.int .i64 0,.int .i64 0] 0 hB,xQ,putAt_whole mQ [.int .i64 1,.int .i64 (pick rA MB),.int .i64 0,.int .i64 0] rfl⟩
    ·go_simp
     have hbn:=below_box wc1 (Obj.cells #[.int .i64 0,.int .i64 0,.int .i64 0,.int .i64 0] 27);have mQ:=Deep.blk_alloc_new wc1 (Obj.cells #[.int .i64 0,.int .i64 0,.int .i64 0,.int .i64 0] 27);have xQ:W.heap.size<=wc1.heap.size:=hB.size;generalize wc1.alloc (Obj.cells #[.int .i64 0,.int .i64 0,.int .i64 0,.int .i64 0] 27)=wc2 at hbn mQ ⊢;obtain⟨Q,hQ⟩:∃ Q,Q=wc1.heap.size:=⟨_,rfl⟩;rw[<- hQ] at mQ xQ ⊢
     clear hQ;have hBn:Below W.heap.size W wc2:=hB.trans (hbn.mono hB.size);refine otN hK (hSof _ hBn) ?_;replace hS:=hSof _ hBn;clear hK;replace mI:=(hbn.block _ (Array.getElem?_eq_some_iff.1 mI).1).trans mI;replace hB:=hBn;clear hBn hbn;refine stN 5 (fun K hK=>?_);go_simp;refine(picked_any rB 3 _ f2.1 f2.2 (by omega) (by omega)).mono ?_;rintro e w' ⟨rfl,rfl⟩;rw[hp3];refine otN hK hS ?_;clear hK;refine tkN 6 hS ?_
     refine stN 7 (fun K hK=>?_);have cI:=HM wc2 I mI;go_simp;refine otN hK hS ?_;clear hK;refine stN 8 (fun K hK=>?_);go_simp;refine(picked_any rA MB _ f1.1 f1.2 (by omega) (by omega)).mono ?_;rintro e w' ⟨rfl,rfl⟩;refine otN hK hS ?_;clear hK;refine tkN 9 hS ?_;obtain⟨c0,c1,c2,c3⟩:=cells4 mQ;have cf:∀ j,wc2.frozen? ⟨Q,j,none⟩=false:=fun j=>by simp[World.frozen?,mQ]
     refine stN 11 (fun K hK=>?_);go_simp;refine laN hK ?_;clear hK;clear cf c0 c1 c2 c3
     go_wp2_with fail
     go_meet
     case rel=>exact⟨Q,rfl,putAt_below xQ [.int .i64 1,.int .i64 (pick rA MB),.int .i64 0,.int .i64 0] 0 hB,xQ,putAt_whole mQ [.int .i64 1,.int .i64 (pick rA MB),.int .i64 0,.int .i64 0] rfl⟩
   ·go_simp
    refine(picked_any rB 3 _ f2.1 f2.2 (by omega) (by omega)).mono ?_;rintro e w' ⟨rfl,rfl⟩;rw[hp3];refine otN hK hS ?_;clear hK;refine twN 2 10 (fun K hK=>?_) (fun K hK=>?_)
    ·go_simp
     have hbn:=below_box wc0 (Obj.cells #[.int .i64 1,.int .i64 2,.int .i64 4] 3);have mI:=Deep.blk_alloc_new wc0 (Obj.cells #[.int .i64 1,.int .i64 2,.int .i64 4] 3);generalize wc0.alloc (Obj.cells #[.int .i64 1,.int .i64 2,.int .i64 4] 3)=wc1 at hbn mI ⊢;obtain⟨I,hI⟩:∃ I,I=wc0.heap.size:=⟨_,rfl⟩;rw[<- hI] at mI ⊢;clear hI;have hBn:Below W.heap.size W wc1:=hB.trans (hbn.mono hB.size);refine otN hK (hSof _ hBn) ?_
     replace hS:=hSof _ hBn;clear hK;replace hB:=hBn;clear hBn hbn;refine tkN 6 hS ?_;refine twN 7 10 (fun K hK=>?_) (fun K hK=>?_)
     ·have cI:=HM wc1 I mI
      go_simp;refine otN hK hS ?_;clear hK;refine twN 8 10 (fun K hK=>?_) (fun K hK=>?_)
      ·go_simp
       refine(picked_any rA MB _ f1.1 f1.2 (by omega) (by omega)).mono ?_;rintro e w' ⟨rfl,rfl⟩;refine otN hK hS ?_;clear hK;refine tkN 9 hS ?_;refine stN 10 (fun K hK=>?_);go_simp;have hbn:=below_box wc1 (Obj.cells #[.int .i64 0,.int .i64 0,.int .i64 0,.int .i64 0] 27);have mQ:=Deep.blk_alloc_new wc1 (Obj.cells #[.int .i64 0,.int .i64 0,.int .i64 0,.int .i64 0] 27);have xQ:W.heap.size<=wc1.heap.size:=hB.size
       generalize wc1.alloc (Obj.cells #[.int .i64 0,.int .i64 0,.int .i64 0,.int .i64 0] 27)=wc2 at hbn mQ ⊢;obtain⟨Q,hQ⟩:∃ Q,Q=wc1.heap.size:=⟨_,rfl⟩;rw[<- hQ] at mQ xQ ⊢;clear hQ;have hBn:Below W.heap.size W wc2:=hB.trans (hbn.mono hB.size);refine otN hK (hSof _ hBn) ?_;replace hS:=hSof _ hBn;clear hK;replace mI:=(hbn.block _ (Array.getElem?_eq_some_iff.1 mI).1).trans mI;replace hB:=hBn;clear hBn hbn
       obtain⟨c0,c1,c2,c3⟩:=cells4 mQ;have cf:∀ j,wc2.frozen? ⟨Q,j,none⟩=false:=fun j=>by simp[World.frozen?,mQ]
       refine stN 11 (fun K hK=>?_);go_simp;refine laN hK ?_;clear hK;clear cf c0 c1 c2 c3
       go_wp2_with fail
       go_meet
       case rel=>exact⟨Q,rfl,putAt_below xQ [.int .i64 1,.int .i64 (pick rA MB),.int .i64 0,.int .i64 0] 0 hB,xQ,putAt_whole mQ [.int .i64 1,.int .i64 (pick rA MB),.int .i64 0,.int .i64 0] rfl⟩
      ·go_simp
       have hbn:=below_box wc1 (Obj.cells #[.int .i64 0,.int .i64 0,.int .i64 0,.int .i64 0] 27);have mQ:=Deep.blk_alloc_new wc1 (Obj.cells #[.int .i64 0,.int .i64 0,.int .i64 0,.int .i64 0] 27);have xQ:W.heap.size<=wc1.heap.size:=hB.size;generalize wc1.alloc (Obj.cells #[.int .i64 0,.int .i64 0,.int .i64 0,.int .i64 0] 27)=wc2 at hbn mQ ⊢;obtain⟨Q,hQ⟩:∃ Q,Q=wc1.heap.size:=⟨_,rfl⟩;rw[<- hQ] at mQ xQ ⊢
       clear hQ;have hBn:Below W.heap.size W wc2:=hB.trans (hbn.mono hB.size);refine otN hK (hSof _ hBn) ?_;replace hS:=hSof _ hBn;clear hK;replace mI:=(hbn.block _ (Array.getElem?_eq_some_iff.1 mI).1).trans mI;replace hB:=hBn;clear hBn hbn;refine stN 8 (fun K hK=>?_);go_simp;refine(picked_any rA MB _ f1.1 f1.2 (by omega) (by omega)).mono ?_;rintro e w' ⟨rfl,rfl⟩;refine otN hK hS ?_;clear hK;refine tkN 9 hS ?_
       obtain⟨c0,c1,c2,c3⟩:=cells4 mQ;have cf:∀ j,wc2.frozen? ⟨Q,j,none⟩=false:=fun j=>by simp[World.frozen?,mQ]
       refine stN 11 (fun K hK=>?_);go_simp;refine laN hK ?_;clear hK;clear cf c0 c1 c2 c3
       go_wp2_with fail
       go_meet
       case rel=>exact⟨Q,rfl,putAt_below xQ [.int .i64 1,.int .i64 (pick rA MB),.int .i64 0,.int .i64 0] 0 hB,xQ,putAt_whole mQ [.int .i64 1,.int .i64 (pick rA MB),.int .i64 0,.int .i64 0] rfl⟩
     ·go_simp
      have hbn:=below_box wc1 (Obj.cells #[.int .i64 0,.int .i64 0,.int .i64 0,.int .i64 0] 27);have mQ:=Deep.blk_alloc_new wc1 (Obj.cells #[.int .i64 0,.int .i64 0,.int .i64 0,.int .i64 0] 27);have xQ:W.heap.size<=wc1.heap.size:=hB.size;generalize wc1.alloc (Obj.cells #[.int .i64 0,.int .i64 0,.int .i64 0,.int .i64 0] 27)=wc2 at hbn mQ ⊢;obtain⟨Q,hQ⟩:∃ Q,Q=wc1.heap.size:=⟨_,rfl⟩;rw[<- hQ] at mQ xQ ⊢
      clear hQ;have hBn:Below W.heap.size W wc2:=hB.trans (hbn.mono hB.size);refine otN hK (hSof _ hBn) ?_;replace hS:=hSof _ hBn;clear hK;replace mI:=(hbn.block _ (Array.getElem?_eq_some_iff.1 mI).1).trans mI;replace hB:=hBn;clear hBn hbn;refine stN 7 (fun K hK=>?_);have cI:=HM wc2 I mI;go_simp;refine otN hK hS ?_;clear hK;refine stN 8 (fun K hK=>?_);go_simp;refine(picked_any rA MB _ f1.1 f1.2 (by omega) (by omega)).mono ?_
      rintro e w' ⟨rfl,rfl⟩;refine otN hK hS ?_;clear hK;refine tkN 9 hS ?_;obtain⟨c0,c1,c2,c3⟩:=cells4 mQ;have cf:∀ j,wc2.frozen? ⟨Q,j,none⟩=false:=fun j=>by simp[World.frozen?,mQ]
      refine stN 11 (fun K hK=>?_);go_simp;refine laN hK ?_;clear hK;clear cf c0 c1 c2 c3
      go_wp2_with fail
      go_meet
      case rel=>exact⟨Q,rfl,putAt_below xQ [.int .i64 1,.int .i64 (pick rA MB),.int .i64 0,.int .i64 0] 0 hB,xQ,putAt_whole mQ [.int .i64 1,.int .i64 (pick rA MB),.int .i64 0,.int .i64 0] rfl⟩
    ·go_simp
     have hbn:=below_box wc0 (Obj.cells #[.int .i64 0,.int .i64 0,.int .i64 0,.int .i64 0] 27);have mQ:=Deep.blk_alloc_new wc0 (Obj.cells #[.int .i64 0,.int .i64 0,.int .i64 0,.int .i64 0] 27);have xQ:W.heap.size<=wc0.heap.size:=hB.size;generalize wc0.alloc (Obj.cells #[.int .i64 0,.int .i64 0,.int .i64 0,.int .i64 0] 27)=wc1 at hbn mQ ⊢;obtain⟨Q,hQ⟩:∃ Q,Q=wc0.heap.size:=⟨_,rfl⟩;rw[<- hQ] at mQ xQ ⊢
     clear hQ;have hBn:Below W.heap.size W wc1:=hB.trans (hbn.mono hB.size);refine otN hK (hSof _ hBn) ?_;replace hS:=hSof _ hBn;clear hK;replace hB:=hBn;clear hBn hbn;refine stN 2 (fun K hK=>?_);go_simp;have hbn:=below_box wc1 (Obj.cells #[.int .i64 1,.int .i64 2,.int .i64 4] 3);have mI:=Deep.blk_alloc_new wc1 (Obj.cells #[.int .i64 1,.int .i64 2,.int .i64 4] 3);generalize wc1.alloc (Obj.cells #[.int .i64 1,.int .i64 2,.int .i64 4] 3)=wc2 at hbn mI ⊢
     obtain⟨I,hI⟩:∃ I,I=wc1.heap.size:=⟨_,rfl⟩;rw[<- hI] at mI ⊢;clear hI;have hBn:Below W.heap.size W wc2:=hB.trans (hbn.mono hB.size);refine otN hK (hSof _ hBn) ?_;replace hS:=hSof _ hBn;clear hK;replace mQ:=(hbn.block _ (Array.getElem?_eq_some_iff.1 mQ).1).trans mQ;replace hB:=hBn;clear hBn hbn;refine tkN 6 hS ?_;refine stN 7 (fun K hK=>?_);have cI:=HM wc2 I mI;go_simp;refine otN hK hS ?_;clear hK
     refine stN 8 (fun K hK=>?_);go_simp;refine(picked_any rA MB _ f1.1 f1.2 (by omega) (by omega)).mono ?_;rintro e w' ⟨rfl,rfl⟩;refine otN hK hS ?_;clear hK;refine tkN 9 hS ?_;obtain⟨c0,c1,c2,c3⟩:=cells4 mQ;have cf:∀ j,wc2.frozen? ⟨Q,j,none⟩=false:=fun j=>by simp[World.frozen?,mQ]
     refine stN 11 (fun K hK=>?_);go_simp;refine laN hK ?_;clear hK;clear cf c0 c1 c2 c3
     go_wp2_with fail
     go_meet
     case rel=>exact⟨Q,rfl,putAt_below xQ [.int .i64 1,.int .i64 (pick rA MB),.int .i64 0,.int .i64 0] 0 hB,xQ,putAt_whole mQ [.int .i64 1,.int .i64 (pick rA MB),.int .i64 0,.int .i64 0] rfl⟩
   ·go_simp
    have hbn:=below_box wc0 (Obj.cells #[.int .i64 0,.int .i64 0,.int .i64 0,.int .i64 0] 27);have mQ:=Deep.blk_alloc_new wc0 (Obj.cells #[.int .i64 0,.int .i64 0,.int .i64 0,.int .i64 0] 27);have xQ:W.heap.size<=wc0.heap.size:=hB.size;generalize wc0.alloc (Obj.cells #[.int .i64 0,.int .i64 0,.int .i64 0,.int .i64 0] 27)=wc1 at hbn mQ ⊢;obtain⟨Q,hQ⟩:∃ Q,Q=wc0.heap.size:=⟨_,rfl⟩;rw[<- hQ] at mQ xQ ⊢
    clear hQ;have hBn:Below W.heap.size W wc1:=hB.trans (hbn.mono hB.size);refine otN hK (hSof _ hBn) ?_;replace hS:=hSof _ hBn;clear hK;replace hB:=hBn;clear hBn hbn;refine twN 2 5 (fun K hK=>?_) (fun K hK=>?_)
    ·go_simp
     have hbn:=below_box wc1 (Obj.cells #[.int .i64 1,.int .i64 2,.int .i64 4] 3);have mI:=Deep.blk_alloc_new wc1 (Obj.cells #[.int .i64 1,.int .i64 2,.int .i64 4] 3);generalize wc1.alloc (Obj.cells #[.int .i64 1,.int .i64 2,.int .i64 4] 3)=wc2 at hbn mI ⊢;obtain⟨I,hI⟩:∃ I,I=wc1.heap.size:=⟨_,rfl⟩;rw[<- hI] at mI ⊢;clear hI;have hBn:Below W.heap.size W wc2:=hB.trans (hbn.mono hB.size);refine otN hK (hSof _ hBn) ?_
     replace hS:=hSof _ hBn;clear hK;replace mQ:=(hbn.block _ (Array.getElem?_eq_some_iff.1 mQ).1).trans mQ;replace hB:=hBn;clear hBn hbn;refine stN 5 (fun K hK=>?_);go_simp;refine(picked_any rB 3 _ f2.1 f2.2 (by omega) (by omega)).mono ?_;rintro e w' ⟨rfl,rfl⟩;rw[hp3];refine otN hK hS ?_;clear hK;refine tkN 6 hS ?_;refine stN 7 (fun K hK=>?_);have cI:=HM wc2 I mI;go_simp;refine otN hK hS ?_;clear hK
     refine stN 8 (fun K hK=>?_);go_simp;refine(picked_any rA MB _ f1.1 f1.2 (by omega) (by omega)).mono ?_;rintro e w' ⟨rfl,rfl⟩;refine otN hK hS ?_;clear hK;refine tkN 9 hS ?_;obtain⟨c0,c1,c2,c3⟩:=cells4 mQ;have cf:∀ j,wc2.frozen? ⟨Q,j,none⟩=false:=fun j=>by simp[World.frozen?,mQ]
     refine stN 11 (fun K hK=>?_);go_simp;refine laN hK ?_;clear hK;clear cf c0 c1 c2 c3
     go_wp2_with fail
     go_meet
     case rel=>exact⟨Q,rfl,putAt_below xQ [.int .i64 1,.int .i64 (pick rA MB),.int .i64 0,.int .i64 0] 0 hB,xQ,putAt_whole mQ [.int .i64 1,.int .i64 (pick rA MB),.int .i64 0,.int .i64 0] rfl⟩
    ·go_simp
     refine(picked_any rB 3 _ f2.1 f2.2 (by omega) (by omega)).mono ?_;rintro e w' ⟨rfl,rfl⟩;rw[hp3];refine otN hK hS ?_;clear hK;refine stN 2 (fun K hK=>?_);go_simp;have hbn:=below_box wc1 (Obj.cells #[.int .i64 1,.int .i64 2,.int .i64 4] 3);have mI:=Deep.blk_alloc_new wc1 (Obj.cells #[.int .i64 1,.int .i64 2,.int .i64 4] 3);generalize wc1.alloc (Obj.cells #[.int .i64 1,.int .i64 2,.int .i64 4] 3)=wc2 at hbn mI ⊢
     obtain⟨I,hI⟩:∃ I,I=wc1.heap.size:=⟨_,rfl⟩;rw[<- hI] at mI ⊢;clear hI;have hBn:Below W.heap.size W wc2:=hB.trans (hbn.mono hB.size);refine otN hK (hSof _ hBn) ?_;replace hS:=hSof _ hBn;clear hK;replace mQ:=(hbn.block _ (Array.getElem?_eq_some_iff.1 mQ).1).trans mQ;replace hB:=hBn;clear hBn hbn;refine tkN 6 hS ?_;refine stN 7 (fun K hK=>?_);have cI:=HM wc2 I mI;go_simp;refine otN hK hS ?_;clear hK
     refine stN 8 (fun K hK=>?_);go_simp;refine(picked_any rA MB _ f1.1 f1.2 (by omega) (by omega)).mono ?_;rintro e w' ⟨rfl,rfl⟩;refine otN hK hS ?_;clear hK;refine tkN 9 hS ?_;obtain⟨c0,c1,c2,c3⟩:=cells4 mQ;have cf:∀ j,wc2.frozen? ⟨Q,j,none⟩=false:=fun j=>by simp[World.frozen?,mQ]
     refine stN 11 (fun K hK=>?_);go_simp;refine laN hK ?_;clear hK;clear cf c0 c1 c2 c3
     go_wp2_with fail
     go_meet
     case rel=>exact⟨Q,rfl,putAt_below xQ [.int .i64 1,.int .i64 (pick rA MB),.int .i64 0,.int .i64 0] 0 hB,xQ,putAt_whole mQ [.int .i64 1,.int .i64 (pick rA MB),.int .i64 0,.int .i64 0] rfl⟩
  case rest =>
   obtain⟨Q,rfl,hBc,xQ,mQ⟩:=hcut;replace d0:=Keeps.below hBc _ _ d0;replace d2:=Keeps.below hBc _ _ d2;replace d3:=Keeps.below hBc _ _ d3;have hBcr:Below wO.heap.size wO wc:=cr.trans (hBc.mono cr.size);have hpk:=pick_bd (n:=rk) (many:=20) (by omega);have hp5:=pick_bd (n:=rC) (many:=5) (by omega);obtain⟨c5,hc5⟩:=Int.eq_ofNat_of_zero_le hp5.1;have hc5b:c5<5:=by omega
   go_wp2_with fail
   refine(picked_any rk 20 _ f0.1 f0.2 (by omega) (by omega)).mono ?_;rintro e w' ⟨rfl,rfl⟩;generalize pick rA MB=WH at *;generalize hPK:pick rk 20=PK at *
   by_cases hk0:PK=0
   ·have HAX2:Aside (axsOf ⟨rk,rA,rB,rC⟩=[⟨2,WH,0,0⟩]):=by
     show axsOf _=_
     unfold axsOf
     rw[HAX.out,if_pos hk0,if_neg (by simp)]
    subst hk0;have q0:wc.cell? ⟨Q,0,none⟩=some (.int .i64 1):=cell_blk mQ 0;have qf:∀ i,wc.frozen? ⟨Q,i,none⟩=false:=fun i=>fz_blk mQ i
    have mQ9:(wc.setCell ⟨Q,0,none⟩ (.int .i64 2)).heap[Q]?=some (.cells #[.int .i64 2,.int .i64 WH,.int .i64 0,.int .i64 0] 27 (0,0)):=setCell_blk mQ 0 (.int .i64 2);have hB9:Below wO.heap.size wO (wc.setCell ⟨Q,0,none⟩ (.int .i64 2)):=hBcr.setCell (show wO.heap.size<=Q by omega) _;have d9:=(World.cell?_of_block (a:=⟨wO.heap.size,3,none⟩) (Deep.blk_setCell_other wc ⟨Q,0,none⟩ (.int .i64 2) wO.heap.size (show wO.heap.size≠Q by omega))).trans d3
    go_upto_region 12 with fail
    clear q0 qf d3;generalize wc.setCell ⟨Q,0,none⟩ (.int .i64 2)=W9 at *;have hO9:=HO.out.below hB9;have hQo:Q∉vB (.slice oa out.length oc):=fun hb=>by have:=(World.ownsRow.lt HO.out Q (mem_vB.1 hb)).2;omega
    have hB9w:Below w.heap.size w W9:=HB.out.trans (hB9.mono HB.out.size);have hws:=HB.out.size
    go_wp2_with fail
    refine(picked_any rC 5 _ f3.1 f3.2 (by omega) (by omega)).mono ?_;rintro e w' ⟨rfl,rfl⟩;rw[hc5]
    go_wp2_with fail
    go_loopg [60,5] (1+c5) (fun gg s60 s5 wi=>∃ (oa2:Option Addr) (oc2:Nat),gg=1+c5/\s60=.int .i64 0/\s5=.slice oa2 out.length oc2/\Aside (SeqOwn fAx 4 27 wi w.heap.size (.slice oa2 out.length oc2) out)/\Aside (Below w.heap.size w wi)/\Aside (wi.heap[Q]?=some (.cells #[.int .i64 2,.int .i64 WH,.int .i64 0,.int .i64 0] 27 (0,0)))/\Aside (Q∉vB (.slice oa2 out.length oc2)))
    case atStart=>exact⟨oa,oc,rfl,rfl,rfl,hO9,hB9w,mQ9,hQo⟩
    case round =>
     obtain⟨oa2,oc2,rfl,rfl,rfl,HO2,HB2,HQ2,HQn⟩:=hrel;have hjz:(0:Int)<1+(c5:Int):=by omega
     have g0:wr.cell? ⟨Q,0,none⟩=some (.int .i64 2):=cell_blk HQ2.out 0;have g1:wr.cell? ⟨Q,1,none⟩=some (.int .i64 WH):=cell_blk HQ2.out 1;have g2:wr.cell? ⟨Q,2,none⟩=some (.int .i64 0):=cell_blk HQ2.out 2;have g3:wr.cell? ⟨Q,3,none⟩=some (.int .i64 0):=cell_blk HQ2.out 3;have bx:=below_box wr (.cells #[.int .i64 2,.int .i64 WH,.int .i64 0,.int .i64 0] 27);have hsn:=seqAx_new wr (⟨2,WH,0,0⟩:Ax) 27 wr.heap.size rfl
     have hO3:=HO2.out.below bx;have hQi:=(bx.block Q (Array.getElem?_eq_some_iff.1 HQ2.out).1).trans HQ2.out;have sx:(wr.alloc (.cells #[.int .i64 2,.int .i64 WH,.int .i64 0,.int .i64 0] 27)).heap.size=wr.heap.size+1:=by simp
     have hQl:=(Array.getElem?_eq_some_iff.1 HQ2.out).1;have hsz:=HB2.out.size
     go_upto_region 15 with(first | (at_builtin;refine wpList_seq Tryz.rowAx rfl _ _ (by rfl) (v:=.slice oa2 out.length oc2) (by simp[Act.eval]) hO3 (by omega) [(⟨2,WH,0,0⟩:Ax)] (some ⟨wr.heap.size,0,none⟩) 1 (by simp[Act.eval]) hsn (by simp) (by simp;omega) (by simp;omega) ?_;rintro g cap w3 hO4 hg4 hb4 hB4) | fail)
     have hQ3:=(hg4.block Q (by omega) (fun e=>HQn.out (mem_vB.2 e.symm))).trans hQi;have hbw3:Below w.heap.size w w3:=(HB2.out.trans (bx.mono HB2.out.size)).trans hb4;have HO5:Aside (SeqOwn fAx 4 27 w3 w.heap.size (.slice (some ⟨g,0,none⟩) (out.length+1) cap) (out++[(⟨2,WH,0,0⟩:Ax)])):=hO4;have HB5:Aside (Below w.heap.size w w3):=hbw3;have q0:w3.cell? ⟨Q,0,none⟩=some (.int .i64 2):=cell_blk hQ3 0
     have HOUT2:Aside (out++[(⟨2,WH,0,0⟩:Ax)]=⟨3,0,3,1⟩ :: (l.take (i+1)).flatMap axsOf):=by
      show _=_
      rw[List.take_add_one,hr,List.flatMap_append];simp only[Option.toList_some,List.flatMap_cons,List.flatMap_nil,List.append_nil];rw[HAX2.out,<- List.cons_append,<- HOUT.out]
     clear hO4 hO3 hsn hg4 hb4 hB4 hQi hQ3 hbw3 bx sx g0 g1 g2 g3;go_wp2
     go_roundg (LL-(i+1))
     case measure=>go_light;omega
     case rel=>go_light;exact⟨i+1,out++[(⟨2,WH,0,0⟩:Ax)],some ⟨g,0,none⟩,cap,by omega,rfl,by omega,by go_num,by simp,by show SeqOwn _ _ _ _ _ _ _;simpa using HO5.out,HB5,by simp;omega,HOUT2⟩
   by_cases hk3:PK<3
   ·have hk0b:(PK == 0)=false:=by simp[hk0]
    have HAX2:Aside (axsOf ⟨rk,rA,rB,rC⟩=[⟨3,WH,pick rC 9,pick rB 5⟩]):=by
     show axsOf _=_
     unfold axsOf
     rw[HAX.out,if_neg hk0,if_pos hk3,if_neg (by simp)]
    have hpc9:=fun w=>picked_any rC 9 w f3.1 f3.2 (by omega) (by omega)
    have hpb5:=fun w=>picked_any rB 5 w f2.1 f2.2 (by omega) (by omega)
    generalize pick rC 9=P9 at *;generalize pick rB 5=P5 at *
    go_upto_region 11 with fail
    have hwQ:wO.heap.size≠Q:=by omega
    have hS2:∀ w':World,w'.heap[wO.heap.size]?=wc.heap[wO.heap.size]?->(w'.cell? ⟨wO.heap.size,2,none⟩=some (.int .i64 rB)/\w'.cell? ⟨wO.heap.size,3,none⟩=some (.int .i64 rC)):=fun w' hk=>⟨(World.cell?_of_block (a:=⟨wO.heap.size,2,none⟩) hk).trans d2,(World.cell?_of_block (a:=⟨wO.heap.size,3,none⟩) hk).trans d3⟩
    have hBd:Below wc.heap.size wc wc.drew:=(Below.refl _ _).drew;have hwl:wO.heap.size<wc.heap.size:=by have:=hBc.size;omega
    refine wp_region_need (fun _=>true) (fun w'=>w'.cell? ⟨wO.heap.size,2,none⟩=some (.int .i64 rB)/\w'.cell? ⟨wO.heap.size,3,none⟩=some (.int .i64 rC)) (by kernel_rfl) (hS2 _ (hBd.block _ hwl)) (fun hS=>?_);have mQd:=(hBd.block Q (Array.getElem?_eq_some_iff.1 mQ).1).trans mQ;have hBdr:Below wO.heap.size wO wc.drew:=hBcr.trans (hBd.mono hBcr.size);have hRd:=hBd.block wO.heap.size hwl;generalize wc.drew=wc0 at hS mQd hBdr hRd ⊢
    refine tkN 0 hS ?_;refine tkN 1 hS ?_;refine tkN 3 hS ?_;refine tkN 4 hS ?_;refine tkN 6 hS ?_;refine stN 2 (fun K hK=>?_);go_simp;refine(hpc9 _).mono ?_;rintro e w' ⟨rfl,rfl⟩;refine otN hK hS ?_;clear hK;refine stN 5 (fun K hK=>?_);go_simp;refine(hpb5 _).mono ?_;rintro e w' ⟨rfl,rfl⟩;refine otN hK hS ?_;clear hK;have z0:wc0.cell? ⟨Q,0,none⟩=some (.int .i64 1):=cell_blk mQd 0;have zf:∀ i,wc0.frozen? ⟨Q,i,none⟩=false:=fun i=>fz_blk mQd i
    refine stN 7 (fun K hK=>?_);go_simp;have m1:(wc0.setCell ⟨Q,0,none⟩ (.int .i64 3)).heap[Q]?=some (.cells #[.int .i64 3,.int .i64 WH,.int .i64 0,.int .i64 0] 27 (0,0)):=setCell_blk mQd 0 (.int .i64 3);have b1:Below wO.heap.size wO (wc0.setCell ⟨Q,0,none⟩ (.int .i64 3)):=hBdr.setCell (show wO.heap.size<=Q by omega) _;have r1:=(Deep.blk_setCell_other wc0 ⟨Q,0,none⟩ (.int .i64 3) wO.heap.size hwQ).trans hRd
    refine otN hK (hS2 _ r1) ?_;clear hK;replace hS:=hS2 _ r1;clear z0 zf;generalize wc0.setCell ⟨Q,0,none⟩ (.int .i64 3)=v1 at *;refine tkN 8 hS ?_;have z0:v1.cell? ⟨Q,2,none⟩=some (.int .i64 0):=cell_blk m1 2;have zf:∀ i,v1.frozen? ⟨Q,i,none⟩=false:=fun i=>fz_blk m1 i
    refine stN 9 (fun K hK=>?_);go_simp;have m2:(v1.setCell ⟨Q,2,none⟩ (.int .i64 P9)).heap[Q]?=some (.cells #[.int .i64 3,.int .i64 WH,.int .i64 P9,.int .i64 0] 27 (0,0)):=setCell_blk m1 2 (.int .i64 P9);have b2:Below wO.heap.size wO (v1.setCell ⟨Q,2,none⟩ (.int .i64 P9)):=b1.setCell (show wO.heap.size<=Q by omega) _;have r2:=(Deep.blk_setCell_other v1 ⟨Q,2,none⟩ (.int .i64 P9) wO.heap.size hwQ).trans r1
    refine otN hK (hS2 _ r2) ?_;clear hK;replace hS:=hS2 _ r2;clear z0 zf;generalize v1.setCell ⟨Q,2,none⟩ (.int .i64 P9)=v2 at *;refine tkN 10 hS ?_;have z0:v2.cell? ⟨Q,3,none⟩=some (.int .i64 0):=cell_blk m2 3;have zf:∀ i,v2.frozen? ⟨Q,i,none⟩=false:=fun i=>fz_blk m2 i
    refine stN 11 (fun K hK=>?_);go_simp;have m3:(v2.setCell ⟨Q,3,none⟩ (.int .i64 P5)).heap[Q]?=some (.cells #[.int .i64 3,.int .i64 WH,.int .i64 P9,.int .i64 P5] 27 (0,0)):=setCell_blk m2 3 (.int .i64 P5);have b3:Below wO.heap.size wO (v2.setCell ⟨Q,3,none⟩ (.int .i64 P5)):=b2.setCell (show wO.heap.size<=Q by omega) _;have r3:=(Deep.blk_setCell_other v2 ⟨Q,3,none⟩ (.int .i64 P5) wO.heap.size hwQ).trans r2
    refine otN hK (hS2 _ r3) ?_;clear hK;replace hS:=hS2 _ r3;refine dnN ?_;have hB9:=b3;have mQ9:=m3;have d9:=(hS2 _ r3).2;clear d0 d2 d3 hBc hS2 hBd mQ hBcr hS b1 b2 b3 m1 m2 m3 r1 r2 r3 mQd hBdr hRd z0 zf;generalize v2.setCell ⟨Q,3,none⟩ (.int .i64 P5)=W9 at *;have hO9:=HO.out.below hB9;have hQo:Q∉vB (.slice oa out.length oc):=fun hb=>by have:=(World.ownsRow.lt HO.out Q (mem_vB.1 hb)).2;omega
    have hB9w:Below w.heap.size w W9:=HB.out.trans (hB9.mono HB.out.size);have hws:=HB.out.size
    go_wp2_with fail
    refine(picked_any rC 5 _ f3.1 f3.2 (by omega) (by omega)).mono ?_;rintro e w' ⟨rfl,rfl⟩;rw[hc5]
    go_wp2_with fail
    go_loopg [60,5] (1+c5) (fun gg s60 s5 wi=>∃ (oa2:Option Addr) (oc2:Nat),gg=1+c5/\s60=.int .i64 0/\s5=.slice oa2 out.length oc2/\Aside (SeqOwn fAx 4 27 wi w.heap.size (.slice oa2 out.length oc2) out)/\Aside (Below w.heap.size w wi)/\Aside (wi.heap[Q]?=some (.cells #[.int .i64 3,.int .i64 WH,.int .i64 P9,.int .i64 P5] 27 (0,0)))/\Aside (Q∉vB (.slice oa2 out.length oc2)))
    case atStart=>exact⟨oa,oc,rfl,rfl,rfl,hO9,hB9w,mQ9,hQo⟩
    case round =>
     obtain⟨oa2,oc2,rfl,rfl,rfl,HO2,HB2,HQ2,HQn⟩:=hrel;have hjz:(0:Int)<1+(c5:Int):=by omega
     have g0:wr.cell? ⟨Q,0,none⟩=some (.int .i64 3):=cell_blk HQ2.out 0;have g1:wr.cell? ⟨Q,1,none⟩=some (.int .i64 WH):=cell_blk HQ2.out 1;have g2:wr.cell? ⟨Q,2,none⟩=some (.int .i64 P9):=cell_blk HQ2.out 2;have g3:wr.cell? ⟨Q,3,none⟩=some (.int .i64 P5):=cell_blk HQ2.out 3;have bx:=below_box wr (.cells #[.int .i64 3,.int .i64 WH,.int .i64 P9,.int .i64 P5] 27);have hsn:=seqAx_new wr (⟨3,WH,P9,P5⟩:Ax) 27 wr.heap.size rfl
     have hO3:=HO2.out.below bx;have hQi:=(bx.block Q (Array.getElem?_eq_some_iff.1 HQ2.out).1).trans HQ2.out;have sx:(wr.alloc (.cells #[.int .i64 3,.int .i64 WH,.int .i64 P9,.int .i64 P5] 27)).heap.size=wr.heap.size+1:=by simp
     have hQl:=(Array.getElem?_eq_some_iff.1 HQ2.out).1;have hsz:=HB2.out.size
     go_upto_region 15 with(first | (at_builtin;refine wpList_seq Tryz.rowAx rfl _ _ (by rfl) (v:=.slice oa2 out.length oc2) (by simp[Act.eval]) hO3 (by omega) [(⟨3,WH,P9,P5⟩:Ax)] (some ⟨wr.heap.size,0,none⟩) 1 (by simp[Act.eval]) hsn (by simp) (by simp;omega) (by simp;omega) ?_;rintro g cap w3 hO4 hg4 hb4 hB4) | fail)
     have hQ3:=(hg4.block Q (by omega) (fun e=>HQn.out (mem_vB.2 e.symm))).trans hQi;have hbw3:Below w.heap.size w w3:=(HB2.out.trans (bx.mono HB2.out.size)).trans hb4;have HO5:Aside (SeqOwn fAx 4 27 w3 w.heap.size (.slice (some ⟨g,0,none⟩) (out.length+1) cap) (out++[(⟨3,WH,P9,P5⟩:Ax)])):=hO4;have HB5:Aside (Below w.heap.size w w3):=hbw3;have q0:w3.cell? ⟨Q,0,none⟩=some (.int .i64 3):=cell_blk hQ3 0
     have HOUT2:Aside (out++[(⟨3,WH,P9,P5⟩:Ax)]=⟨3,0,3,1⟩ :: (l.take (i+1)).flatMap axsOf):=by
      show _=_
      rw[List.take_add_one,hr,List.flatMap_append];simp only[Option.toList_some,List.flatMap_cons,List.flatMap_nil,List.append_nil];rw[HAX2.out,<- List.cons_append,<- HOUT.out]
     clear hO4 hO3 hsn hg4 hb4 hB4 hQi hQ3 hbw3 bx sx g0 g1 g2 g3;go_wp2
     go_roundg (LL-(i+1))
     case measure=>go_light;omega
     case rel=>go_light;exact⟨i+1,out++[(⟨3,WH,P9,P5⟩:Ax)],some ⟨g,0,none⟩,cap,by omega,rfl,by omega,by go_num,by simp,by show SeqOwn _ _ _ _ _ _ _;simpa using HO5.out,HB5,by simp;omega,HOUT2⟩
   have hk0b:(PK == 0)=false:=by simp[hk0]
   have HAX2:Aside (axsOf ⟨rk,rA,rB,rC⟩=List.replicate (1+c5) ⟨1,WH,0,0⟩):=by
    show axsOf _=_
    unfold axsOf
    rw[HAX.out,if_neg hk0,if_neg hk3,if_pos rfl,hc5]
    rfl
   have hO9:=HO.out.below hBcr;have hQo:Q∉vB (.slice oa out.length oc):=fun hb=>by have:=(World.ownsRow.lt HO.out Q (mem_vB.1 hb)).2;omega
   have hB9w:Below w.heap.size w wc:=HB.out.trans (hBcr.mono HB.out.size);have hws:=HB.out.size
   go_wp2_with fail
   refine(picked_any rC 5 _ f3.1 f3.2 (by omega) (by omega)).mono ?_;rintro e w' ⟨rfl,rfl⟩;rw[hc5]
   go_wp2_with fail
   go_loopg [60,5] (1+c5) (fun gg s60 s5 wr=>∃ (j:Nat) (oa2:Option Addr) (oc2:Nat),j<=1+c5/\gg=1+c5-j/\s60=.int .i64 j/\s5=.slice oa2 (out.length+j) oc2/\Aside (SeqOwn fAx 4 27 wr w.heap.size (.slice oa2 (out.length+j) oc2) (out++List.replicate j ⟨1,WH,0,0⟩))/\Aside (Below w.heap.size w wr)/\Aside (wr.heap[Q]?=some (.cells #[.int .i64 1,.int .i64 WH,.int .i64 0,.int .i64 0] 27 (0,0)))/\Aside (Q∉vB (.slice oa2 (out.length+j) oc2)))
   case atStart=>exact⟨0,oa,oc,Nat.zero_le _,rfl,rfl,rfl,by show SeqOwn _ _ _ _ _ _ _;simpa using hO9,hB9w,mQ,hQo⟩
   case round =>
    obtain⟨j,oa2,oc2,hj,rfl,rfl,rfl,HO2,HB2,HQ2,HQn⟩:=hrel
    by_cases hjc:j<1+c5
    ·have hjz:((j:Nat):Int)<1+(c5:Int):=by omega
     have g0:wr.cell? ⟨Q,0,none⟩=some (.int .i64 1):=cell_blk HQ2.out 0;have g1:wr.cell? ⟨Q,1,none⟩=some (.int .i64 WH):=cell_blk HQ2.out 1;have g2:wr.cell? ⟨Q,2,none⟩=some (.int .i64 0):=cell_blk HQ2.out 2;have g3:wr.cell? ⟨Q,3,none⟩=some (.int .i64 0):=cell_blk HQ2.out 3;have bx:=below_box wr (.cells #[.int .i64 1,.int .i64 WH,.int .i64 0,.int .i64 0] 27);have hsn:=seqAx_new wr ⟨1,WH,0,0⟩ 27 wr.heap.size rfl
     have hO3:=HO2.out.below bx;have hQi:=(bx.block Q (Array.getElem?_eq_some_iff.1 HQ2.out).1).trans HQ2.out;have sx:(wr.alloc (.cells #[.int .i64 1,.int .i64 WH,.int .i64 0,.int .i64 0] 27)).heap.size=wr.heap.size+1:=by simp
     have hQl:=(Array.getElem?_eq_some_iff.1 HQ2.out).1;have hsz:=HB2.out.size
     go_upto_region 15 with(first | (at_builtin;refine wpList_seq Tryz.rowAx rfl _ _ (by rfl) (v:=.slice oa2 (out.length+j) oc2) (by simp[Act.eval]) hO3 (by omega) [⟨1,WH,0,0⟩] (some ⟨wr.heap.size,0,none⟩) 1 (by simp[Act.eval]) hsn (by simp) (by simp;omega) (by simp;omega) ?_;rintro g cap w3 hO4 hg4 hb4 hB4) | fail)
     have eL:(out++List.replicate j (⟨1,WH,0,0⟩:Ax))++[⟨1,WH,0,0⟩]=out++List.replicate (j+1) ⟨1,WH,0,0⟩:=by rw[List.append_assoc,<- List.replicate_succ']
     rw[eL] at hO4;have hQ3:=(hg4.block Q (by omega) (fun e=>HQn.out (mem_vB.2 e.symm))).trans hQi;have hQn3:Q∉vB (.slice (some ⟨g,0,none⟩) (out.length+(j+1)) cap):=fun hb=>by
      have e:g=Q:=by simpa[mem_vB,Value.ownBlock] using hb
      rcases hB4 with q | q
      ·exact HQn.out (mem_vB.2 (by rw[q,e]))
      ·omega
     have hbw3:Below w.heap.size w w3:=(HB2.out.trans (bx.mono HB2.out.size)).trans hb4;have hO5:SeqOwn fAx 4 27 w3 w.heap.size (.slice (some ⟨g,0,none⟩) (out.length+(j+1)) cap) (out++List.replicate (j+1) ⟨1,WH,0,0⟩):=by
      have e2:(out++List.replicate j (⟨1,WH,0,0⟩:Ax)).length+[(⟨1,WH,0,0⟩:Ax)].length=out.length+(j+1):=by simp;omega
      rw[e2] at hO4;exact hO4
     have HO5:Aside (SeqOwn fAx 4 27 w3 w.heap.size (.slice (some ⟨g,0,none⟩) (out.length+(j+1)) cap) (out++List.replicate (j+1) ⟨1,WH,0,0⟩)):=hO5;have HB5:Aside (Below w.heap.size w w3):=hbw3;have HQ5:Aside (w3.heap[Q]?=some (.cells #[.int .i64 1,.int .i64 WH,.int .i64 0,.int .i64 0] 27 (0,0))):=hQ3;have HN5:Aside (Q∉vB (.slice (some ⟨g,0,none⟩) (out.length+(j+1)) cap)):=hQn3;have q0:w3.cell? ⟨Q,0,none⟩=some (.int .i64 1):=cell_blk hQ3 0
     clear hO4 hO5 hO3 hsn hg4 hb4 hB4 hQi eL hQn3 hQ3 hbw3 bx sx g0 g1 g2 g3;go_wp2
     go_roundg (1+c5-(j+1))
     case measure=>go_light;omega
     case rel=>go_light;exact⟨j+1,some ⟨g,0,none⟩,cap,by omega,rfl,by go_num,by rw[Nat.add_assoc],HO5,HB5,HQ5,HN5⟩
    ·have hjz:¬ (j:Int)<1+(c5:Int):=by omega
     have ej:j=1+c5:=by omega
     subst ej;have HOUT2:Aside (out++List.replicate (1+c5) ⟨1,WH,0,0⟩=⟨3,0,3,1⟩ :: (l.take (i+1)).flatMap axsOf):=by
      show _=_
      rw[List.take_add_one,hr,List.flatMap_append];simp only[Option.toList_some,List.flatMap_cons,List.flatMap_nil,List.append_nil];rw[HAX2.out,<- List.cons_append,<- HOUT.out]
     go_wp2
     go_roundg (LL-(i+1))
     case measure=>go_light;omega
     case rel=>go_light;exact⟨i+1,out++List.replicate (1+c5) ⟨1,WH,0,0⟩,oa2,oc2,by omega,rfl,by omega,by go_num,by simp,by show SeqOwn _ _ _ _ _ _ _;simpa using HO2.out,HB2,by simp;omega,HOUT2⟩
end Go.Proofs.YtepifccbbmdfcaaGreatDoor
