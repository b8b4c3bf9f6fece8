/- VRound. -/
import Derived.Test.YtepifccbbmdfcaaGreatDoorCBVGoes
namespace Go.Proofs.YtepifccbbmdfcaaGreatDoor
set_option maxRecDepth 100000
set_option maxHeartbeats 8000000
open Go.RowKit
def PtsOwn (w:World) (base g cap L:Nat) (st:List Pt):Prop:=w.ownsRow base 101 9 (.slice (some ⟨g,0,none⟩) L cap) L (st.flatMap ptC)
theorem PtsOwn.cell {w:World} {base g cap L:Nat} {st:List Pt} (h:PtsOwn w base g cap L st) {j:Nat} {p:Pt} (hp:st[j]?=some p) {i:Nat} (hi:i<9):w.cell? ⟨g,j*9+i,none⟩=(ptC p)[i]?:=by
 have e:=flat_get (f:=ptC) (s:=9) ptC_len st j i hp hi;have hl:i<(ptC p).length:=by rw[ptC_len];exact hi
 rw[List.getElem?_eq_getElem hl] at e ⊢;exact ownsRow_at h rfl e
theorem PtsOwn.lt {w:World} {base g cap L:Nat} {st:List Pt} (h:PtsOwn w base g cap L st):base<=g/\g<w.heap.size:=World.ownsRow.lt h g rfl
theorem ptC_eq (p:Pt):ptC p=(ptA p.isSome (p.getD [])).toList:=by cases p <;> rfl
theorem ptOf_eq (p:Pt):ptOf p=ptV p.isSome (p.getD []):=by cases p <;> rfl
theorem PtsOwn.cells {w:World} {base g cap L:Nat} {st:List Pt} (h:PtsOwn w base g cap L st) {j:Nat} {p:Pt} (hp:st[j]?=some p) :
  w.cell? ⟨g,j*9,none⟩=some (.bool p.isSome)/\w.cell? ⟨g,j*9+1,none⟩=some (.int .i64 (vAt (p.getD []) 0))/\w.cell? ⟨g,j*9+2,none⟩=some (.int .i64 (vAt (p.getD []) 1))/\w.cell? ⟨g,j*9+3,none⟩=some (.int .i64 (vAt (p.getD []) 2))/\w.cell? ⟨g,j*9+4,none⟩=some (.int .i64 (vAt (p.getD []) 3)) /\
  w.cell? ⟨g,j*9+5,none⟩=some (.int .i64 (vAt (p.getD []) 4))/\w.cell? ⟨g,j*9+6,none⟩=some (.int .i64 (vAt (p.getD []) 5))/\w.cell? ⟨g,j*9+7,none⟩=some (.int .i64 (vAt (p.getD []) 6))/\w.cell? ⟨g,j*9+8,none⟩=some (.int .i64 (vAt (p.getD []) 7)):=by
 have c:=fun i hi=>(h.cell hp (i:=i) hi).trans (by rw[ptC_eq])
 exact⟨c 0 (by omega),c 1 (by omega),c 2 (by omega),c 3 (by omega),c 4 (by omega),c 5 (by omega),c 6 (by omega),c 7 (by omega),c 8 (by omega)⟩
theorem PtsOwn.put {w:World} {base g cap L:Nat} {st:List Pt} (h:PtsOwn w base g cap L st) (hl:st.length=L) {j:Nat} (hj:j<L) (p:Pt):PtsOwn (putAt w g (j*9) (ptC p)) base g cap L (st.set j p):=by
 have e:=flat_set (f:=ptC) (s:=9) ptC_len st j p (by omega)
 unfold PtsOwn
 rw[<- e];refine ownsRow_putAt h rfl _ _ ?_;rw[flat_length ptC_len,ptC_len,hl];omega
theorem PtsOwn.below {w w':World} {base g cap L:Nat} {st:List Pt} (h:PtsOwn w base g cap L st) (hb:Below w.heap.size w w'):PtsOwn w' base g cap L st :=
 World.ownsRow.kept h (row:=none) ⟨hb.os,hb.tape,hb.output,hb.size,fun j hj _=>hb.block j hj⟩ (Or.inr (by simp[Value.ownBlock]))
theorem round_any (w0 w:World) (ao:Option Addr) (L rc:Nat) (x:Nat->Nat->Int) (g cap:Nat) (st:List Pt) (hb0:Below w0.heap.size w0 w) (hrow:RowAt w0 ao L x) (hx:RowOk L x) (hP:PtsOwn w w0.heap.size g cap L st) (hg:VGood L st) :
  Calls Tryz.prog 67 #[.slice ao L rc,.slice (some ⟨g,0,none⟩) L cap] w fun e w'=>e=.returned (.bool (decide (vRound x L st≠st)))/\PtsOwn w' w0.heap.size g cap L (vRound x L st)/\Below w0.heap.size w0 w':=by
 have hL:=hx.len
 go_enter Tryz.func67,Tryz.ntmps67
 go_wp2
 go_loopg [5,14] L (fun g' s5 s14 wr=>∃ (i:Nat) (ch:Bool),i<=L/\g'=L-i/\s14=.int .i64 i/\s5=.bool ch/\Aside (ch=decide (vTurns x st i≠st))/\PtsOwn wr w0.heap.size g cap L (vTurns x st i)/\Below w0.heap.size w0 wr)
 case atStart=>exact⟨0,false,Nat.zero_le _,rfl,rfl,rfl,by show false=decide (vTurns x st 0≠st);simp[vTurns],hP,hb0⟩
 case round =>
  clear hP hb0;obtain⟨i,ch,hi,rfl,rfl,rfl,HCH,hP,hb⟩:=hrel
  by_cases hiL:i<L
  ·have hiz:(i:Int)<(L:Int):=by omega
   have hi0:(0:Int)<=(i:Int):=Int.natCast_nonneg _;obtain⟨b,o,rfl,hc⟩:=(hrow.keeps (Keeps.below hb)) i hiL;have a0:wr.cell? ⟨b,o+i*4,none⟩=some (.int .i64 (x i 0)):=hc 0 (by omega);have a1:=hc 1 (by omega);have a2:=hc 2 (by omega);have a3:=hc 3 (by omega);have ha01:=hx.a i hiL;have hb01:=hx.b i hiL;have hbo:=hx.op i hiL;have hn60:=hx.n i hiL;have hgo:=hx.goes i hiL;generalize e0:x i 0=op at a0 hbo hn60 hgo
   generalize e1:x i 1=av at a1 ha01;generalize e2:x i 2=bv at a2 hb01;generalize e3:x i 3=n at a3 hn60 hgo;obtain⟨ra,rfl⟩:=Int.eq_ofNat_of_zero_le ha01.1;obtain⟨rb,rfl⟩:=Int.eq_ofNat_of_zero_le hb01.1;have E0:Aside (x i 0=op/\x i 1=(ra:Int)/\x i 2=(rb:Int)/\x i 3=n):=⟨e0,e1,e2,e3⟩;clear e0 e1 e2 e3;have hra8:ra<8:=by omega
   have hrb8:rb<8:=by omega
   clear ha01 hb01;have hgi:=hg.turns x i;obtain⟨cur,hcur⟩:∃ cur,cur=vTurns x st i:=⟨_,rfl⟩;have HCUR:Aside (cur=vTurns x st i):=hcur;rw[<- hcur] at hP hgi HCH;clear hcur hc;obtain⟨p,hp⟩:∃ p,cur[i]?=some p:=⟨cur[i]'(by rw[hgi.1];exact hiL),List.getElem?_eq_getElem _⟩;obtain⟨p0,p1,p2,p3,p4,p5,p6,p7,p8⟩:=hP.cells hp;obtain⟨hg1,hg2⟩:=hP.lt
   cases p with
   | none =>
    have hnx:Aside (vTurns x st (i+1)=cur):=by
     show vTurns x st (i+1)=cur
     rw[vTurns_succ,<- HCUR.out]
     unfold vTurn vPt
     rw[hp];rfl
    have hbx:Below wr.heap.size wr (wr.alloc (Obj.cells #[.int .i64 op,.int .i64 (ra:Int),.int .i64 (rb:Int),.int .i64 n] 43)):=below_box _ _;have HPX:Aside (PtsOwn (wr.alloc (Obj.cells #[.int .i64 op,.int .i64 (ra:Int),.int .i64 (rb:Int),.int .i64 n] 43)) w0.heap.size g cap L cur/\Below w0.heap.size w0 (wr.alloc (Obj.cells #[.int .i64 op,.int .i64 (ra:Int),.int .i64 (rb:Int),.int .i64 n] 43))):=⟨hP.below hbx,hb.trans (hbx.mono hb.size)⟩
    clear hbx;go_wp2
    go_roundg (L-(i+1))
    case measure=>go_light;omega
    case rel =>
     go_light
     refine⟨i+1,ch,by omega,rfl,by go_num,rfl,?_,?_,HPX.out.2⟩
     ·show ch=_
      rw[hnx.out];exact HCH.out
     ·rw[hnx.out];exact HPX.out.1
   | some k =>
    go_upto_region 6 with fail
    obtain⟨I1,k1,b1,s1⟩:=boxes1 wr (Obj.cells #[.int .i64 op,.int .i64 (ra:Int),.int .i64 (rb:Int),.int .i64 n] 43);replace hP:=hP.below b1;replace hb:=hb.trans (b1.mono hb.size);have hblt:=World.block_lt_of_cell? _ _ a0;obtain⟨RB,hRB⟩:∃ RB,RB=wr.heap.size:=⟨_,rfl⟩;have hgR:g<RB:=by rw[hRB];exact hg2
    rw[<- hRB] at I1 s1 ⊢;clear hRB b1 k1 a0 a1 a2 a3 p0 p1 p2 p3 p4 p5 p6 p7 p8 hg2 hblt;generalize wr.alloc (Obj.cells #[.int .i64 op,.int .i64 (ra:Int),.int .i64 (rb:Int),.int .i64 n] 43)=W at *;obtain⟨q0,q1,q2,q3,q4,q5,q6,q7,q8⟩:=hP.cells hp;simp only[Option.getD_some] at q1 q2 q3 q4 q5 q6 q7 q8;obtain⟨i0,i1,i2,i3⟩:=cells4 I1;have hk8:k.length=8:=hgi.2 k (List.mem_of_getElem? hp);obtain⟨on,hon⟩:∃ on,on=vBehind op ra rb k:=⟨_,rfl⟩
    have ho8:on.length=8:=by rw[hon,vBehind_length];exact hk8
    have HON:Aside (on=vBehind op ra rb k):=hon;clear hon;have hSof:∀ w',Below W.heap.size W w'->(w'.cell? ⟨RB,0,none⟩=some (.int .i64 op)/\w'.cell? ⟨RB,1,none⟩=some (.int .i64 (ra:Int))/\w'.cell? ⟨RB,2,none⟩=some (.int .i64 (rb:Int))/\w'.cell? ⟨RB,3,none⟩=some (.int .i64 n)/\w'.cell? ⟨g,i*9+1,none⟩=some (.int .i64 (vAt k 0))/\w'.cell? ⟨g,i*9+2,none⟩=some (.int .i64 (vAt k 1))/\w'.cell? ⟨g,i*9+3,none⟩=some (.int .i64 (vAt k 2))/\w'.cell? ⟨g,i*9+4,none⟩=some (.int .i64 (vAt k 3))/\w'.cell? ⟨g,i*9+5,none⟩=some (.int .i64 (vAt k 4))/\w'.cell? ⟨g,i*9+6,none⟩=some (.int .i64 (vAt k 5))/\w'.cell? ⟨g,i*9+7,none⟩=some (.int .i64 (vAt k 6))/\w'.cell? ⟨g,i*9+8,none⟩=some (.int .i64 (vAt k 7))):=fun w' hb'=>by
     have kk:=Keeps.below hb';exact⟨kk _ _ i0,kk _ _ i1,kk _ _ i2,kk _ _ i3,kk _ _ q1,kk _ _ q2,kk _ _ q3,kk _ _ q4,kk _ _ q5,kk _ _ q6,kk _ _ q7,kk _ _ q8⟩
    go_cut [8] (fun s8 wc=>∃ G,s8=.pointer (some ⟨G,0,none⟩)/\Below W.heap.size W wc/\W.heap.size<=G/\wc.heap[G]?=some (.cells (regA on) 99 (0,0)))
    case first =>
     have hB:Below W.heap.size W W.drew:=(Below.refl _ _).drew;refine wp_region_need (fun j=>j != 8) (fun w'=>w'.cell? ⟨RB,0,none⟩=some (.int .i64 op)/\w'.cell? ⟨RB,1,none⟩=some (.int .i64 (ra:Int))/\w'.cell? ⟨RB,2,none⟩=some (.int .i64 (rb:Int))/\w'.cell? ⟨RB,3,none⟩=some (.int .i64 n)/\w'.cell? ⟨g,i*9+1,none⟩=some (.int .i64 (vAt k 0))/\w'.cell? ⟨g,i*9+2,none⟩=some (.int .i64 (vAt k 1))/\w'.cell? ⟨g,i*9+3,none⟩=some (.int .i64 (vAt k 2))/\w'.cell? ⟨g,i*9+4,none⟩=some (.int .i64 (vAt k 3))/\w'.cell? ⟨g,i*9+5,none⟩=some (.int .i64 (vAt k 4))/\w'.cell? ⟨g,i*9+6,none⟩=some (.int .i64 (vAt k 5))/\w'.cell? ⟨g,i*9+7,none⟩=some (.int .i64 (vAt k 6))/\w'.cell? ⟨g,i*9+8,none⟩=some (.int .i64 (vAt k 7))) (by kernel_rfl) (hSof _ hB) (fun hS=>?_)
     generalize W.drew=wc0 at hS hB ⊢;refine tkN 0 hS ?_;refine tkN 1 hS ?_;refine tkN 2 hS ?_;refine tkN 3 hS ?_;refine tkN 4 hS ?_;refine tkN 5 hS ?_;refine twN 6 7 (fun K hK=>?_) (fun K hK=>?_)
     ·go_simp
      have hbe:=behind_any op n ra rb k wc0 hbo hk8 hra8 hrb8;rw[<- HON.out] at hbe;refine hbe.mono ?_;clear hbe;rintro e wc1 ⟨rfl,hbn⟩;have hBn:Below W.heap.size W wc1:=hB.trans (hbn.mono hB.size);refine otN hK (hSof _ hBn) ?_;replace hS:=hSof _ hBn;clear hK;replace hB:=hBn;clear hBn hbn;refine stN 7 (fun K hK=>?_);go_simp;have hbn:=below_box wc1 (Obj.cells #[.int .i64 0,.int .i64 0,.int .i64 0,.int .i64 0,.int .i64 0,.int .i64 0,.int .i64 0,.int .i64 0] 99)
      have mG:=Deep.blk_alloc_new wc1 (Obj.cells #[.int .i64 0,.int .i64 0,.int .i64 0,.int .i64 0,.int .i64 0,.int .i64 0,.int .i64 0,.int .i64 0] 99);have xG:W.heap.size<=wc1.heap.size:=hB.size;generalize wc1.alloc (Obj.cells #[.int .i64 0,.int .i64 0,.int .i64 0,.int .i64 0,.int .i64 0,.int .i64 0,.int .i64 0,.int .i64 0] 99)=wc2 at hbn mG ⊢;obtain⟨G,hG⟩:∃ G,G=wc1.heap.size:=⟨_,rfl⟩;rw[<- hG] at mG xG ⊢
      clear hG;have hBn:Below W.heap.size W wc2:=hB.trans (hbn.mono hB.size);refine otN hK (hSof _ hBn) ?_;replace hS:=hSof _ hBn;clear hK;replace hB:=hBn;clear hBn hbn;have c0:=cellBlk mG 0;have c1:=cellBlk mG 1;have c2:=cellBlk mG 2;have c3:=cellBlk mG 3;have c4:=cellBlk mG 4;have c5:=cellBlk mG 5;have c6:=cellBlk mG 6;have c7:=cellBlk mG 7;have cf:∀ j,wc2.frozen? ⟨G,j,none⟩=false:=fun j=>by simp[World.frozen?,mG]
      simp at c0 c1 c2 c3 c4 c5 c6 c7;refine stN 8 (fun K hK=>?_);go_simp;refine laN hK ?_;clear hK;clear cf c0 c1 c2 c3 c4 c5 c6 c7
      go_wp2_with fail
      go_meet
      case rel=>exact⟨G,rfl,putAt_below xG ((regA on)).toList 0 hB,xG,putAt_whole mG ((regA on)).toList rfl⟩
     ·go_simp
      have hbn:=below_box wc0 (Obj.cells #[.int .i64 0,.int .i64 0,.int .i64 0,.int .i64 0,.int .i64 0,.int .i64 0,.int .i64 0,.int .i64 0] 99);have mG:=Deep.blk_alloc_new wc0 (Obj.cells #[.int .i64 0,.int .i64 0,.int .i64 0,.int .i64 0,.int .i64 0,.int .i64 0,.int .i64 0,.int .i64 0] 99);have xG:W.heap.size<=wc0.heap.size:=hB.size;generalize wc0.alloc (Obj.cells #[.int .i64 0,.int .i64 0,.int .i64 0,.int .i64 0,.int .i64 0,.int .i64 0,.int .i64 0,.int .i64 0] 99)=wc1 at hbn mG ⊢
      obtain⟨G,hG⟩:∃ G,G=wc0.heap.size:=⟨_,rfl⟩;rw[<- hG] at mG xG ⊢;clear hG;have hBn:Below W.heap.size W wc1:=hB.trans (hbn.mono hB.size);refine otN hK (hSof _ hBn) ?_;replace hS:=hSof _ hBn;clear hK;replace hB:=hBn;clear hBn hbn;refine stN 6 (fun K hK=>?_);go_simp;have hbe:=behind_any op n ra rb k wc1 hbo hk8 hra8 hrb8;rw[<- HON.out] at hbe;refine hbe.mono ?_;clear hbe;rintro e wc2 ⟨rfl,hbn⟩;have hBn:Below W.heap.size W wc2:=hB.trans (hbn.mono hB.size)
      refine otN hK (hSof _ hBn) ?_;replace hS:=hSof _ hBn;clear hK;replace mG:=(hbn.block _ (Array.getElem?_eq_some_iff.1 mG).1).trans mG;replace hB:=hBn;clear hBn hbn;have c0:=cellBlk mG 0;have c1:=cellBlk mG 1;have c2:=cellBlk mG 2;have c3:=cellBlk mG 3;have c4:=cellBlk mG 4;have c5:=cellBlk mG 5;have c6:=cellBlk mG 6;have c7:=cellBlk mG 7;have cf:∀ j,wc2.frozen? ⟨G,j,none⟩=false:=fun j=>by simp[World.frozen?,mG]
      simp at c0 c1 c2 c3 c4 c5 c6 c7;refine stN 8 (fun K hK=>?_);go_simp;refine laN hK ?_;clear hK;clear cf c0 c1 c2 c3 c4 c5 c6 c7
      go_wp2_with fail
      go_meet
      case rel=>exact⟨G,rfl,putAt_below xG ((regA on)).toList 0 hB,xG,putAt_whole mG ((regA on)).toList rfl⟩
    case rest =>
     obtain⟨G,rfl,hbW,hGW,hG⟩:=hcut;have hP2:=hP.below hbW;have I2:=(hbW.block _ (by omega:RB<W.heap.size)).trans I1;have hb2:=hb.trans (hbW.mono hb.size);have hsW:=hbW.size;have hgW:g<W.heap.size:=by omega
     obtain⟨j0,j1,j2,j3⟩:=cells4 I2;clear hP I1 hb q0 q1 q2 q3 q4 q5 q6 q7 q8 i0 i1 i2 i3 hSof hbW
     go_wp2_with fail
     refine(vGoesOn_any op ra rb n i _ (by omega) (fun h=>by have:=hn60 h;omega)).mono ?_;rintro e w3 ⟨ga,gc,rfl,hV,hb3,hfr⟩;obtain⟨tos,htos⟩:∃ tos,tos=vGoes op n i:=⟨_,rfl⟩;rw[<- htos] at hV hgo ⊢;have HT:Aside (tos=vGoes op n i):=htos;clear htos;have hP3:=hP2.below hb3;have hG3:=(hb3.block _ (Array.getElem?_eq_some_iff.1 hG).1).trans hG;have hb4:=hb2.trans (hb3.mono hb2.size);have hs3:=hb3.size;have hfr2:∀ b o,ga=some ⟨b,o,none⟩->g<b:=fun b o e=>by have:=hfr b o e;omega
     have hT2:tos.length<=2:=by
      rw[HT.out]
      unfold vGoes
      repeat' split
      all_goals simp
     obtain⟨T,hT⟩:∃ T,T=tos.length:=⟨_,rfl⟩;have HTL:Aside (T=tos.length):=hT;rw[<- hT] at hT2 ⊢;clear hT hP2 I2 hb2 hb3 hG j0 j1 j2 j3 hfr
     go_wp2_with fail
     go_loopg [5,36] T (fun g' s5 s36 wi=>∃ (j:Nat) (cj:Bool),j<=T/\g'=T-j/\s36=.int .i64 j/\s5=.bool cj/\Aside (cj=decide ((tos.take j).foldl (vTo on) cur≠st))/\PtsOwn wi w0.heap.size g cap L ((tos.take j).foldl (vTo on) cur)/\Below w0.heap.size w0 wi/\wi.heap[G]?=some (.cells (regA on) 99 (0,0))/\VInts wi ga tos)
     case atStart=>exact⟨0,ch,Nat.zero_le _,rfl,rfl,rfl,HCH,hP3,hb4,hG3,hV⟩
     case round =>
      clear hP3 hb4 hG3 hV hs3;obtain⟨j,cj,hj,rfl,rfl,rfl,HCJ,hP,hb,hG,hV⟩:=hrel
      by_cases hjT:j<T
      ·have hjz:(j:Int)<(T:Int):=by omega
       have hj0:(0:Int)<=(j:Int):=Int.natCast_nonneg _;obtain⟨z,hz⟩:∃ z,tos[j]?=some z:=⟨tos[j]'(by rw[<- HTL.out];exact hjT),List.getElem?_eq_getElem _⟩;obtain⟨zb,zo,rfl,hzc⟩:=hV j z hz;have hz01:=hgo z (List.mem_of_getElem? hz);have hgz:=hfr2 zb zo rfl;obtain⟨t,rfl⟩:=Int.eq_ofNat_of_zero_le hz01.1;have htL:t<L:=by omega
       have htz:(t:Int)<(L:Int):=hz01.2;have ht0:(0:Int)<=(t:Int):=Int.natCast_nonneg _;have HTK:Aside (tos.take (j+1)=tos.take j++[(t:Int)]):=by show tos.take (j+1)=_;rw[List.take_add_one,hz];rfl
       clear hz;obtain⟨cu,hcu⟩:∃ cu,cu=(tos.take j).foldl (vTo on) cur:=⟨_,rfl⟩;have HCU:Aside (cu=(tos.take j).foldl (vTo on) cur):=hcu;have hgc:VGood L cu:=by rw[hcu];exact VGood.tos ho8 _ hgi
       rw[<- hcu] at hP HCJ;clear hcu;obtain⟨p,hp⟩:∃ p,cu[t]?=some p:=⟨cu[t]'(by rw[hgc.1];exact htL),List.getElem?_eq_getElem _⟩;have hp8:∀ k,p=some k->k.length=8:=fun k hk=>hgc.2 k (by rw[<- hk];exact List.mem_of_getElem? hp)
       obtain⟨p0,p1,p2,p3,p4,p5,p6,p7,p8⟩:=hP.cells hp;obtain⟨y0,y1,y2,y3,y4,y5,y6,y7⟩:=cells8 hG
       go_upto_region 10 with fail
       have hSof:∀ w',Below wr.heap.size wr w'->(w'.cell? ⟨g,t*9,none⟩=some (.bool p.isSome)/\w'.cell? ⟨g,t*9+1,none⟩=some (.int .i64 (vAt (p.getD []) 0))/\w'.cell? ⟨g,t*9+2,none⟩=some (.int .i64 (vAt (p.getD []) 1))/\w'.cell? ⟨g,t*9+3,none⟩=some (.int .i64 (vAt (p.getD []) 2))/\w'.cell? ⟨g,t*9+4,none⟩=some (.int .i64 (vAt (p.getD []) 3))/\w'.cell? ⟨g,t*9+5,none⟩=some (.int .i64 (vAt (p.getD []) 4))/\w'.cell? ⟨g,t*9+6,none⟩=some (.int .i64 (vAt (p.getD []) 5))/\w'.cell? ⟨g,t*9+7,none⟩=some (.int .i64 (vAt (p.getD []) 6))/\w'.cell? ⟨g,t*9+8,none⟩=some (.int .i64 (vAt (p.getD []) 7))/\w'.cell? ⟨G,0,none⟩=some (.int .i64 (vAt on 0))/\w'.cell? ⟨G,1,none⟩=some (.int .i64 (vAt on 1))/\w'.cell? ⟨G,2,none⟩=some (.int .i64 (vAt on 2))/\w'.cell? ⟨G,3,none⟩=some (.int .i64 (vAt on 3))/\w'.cell? ⟨G,4,none⟩=some (.int .i64 (vAt on 4))/\w'.cell? ⟨G,5,none⟩=some (.int .i64 (vAt on 5))/\w'.cell? ⟨G,6,none⟩=some (.int .i64 (vAt on 6))/\w'.cell? ⟨G,7,none⟩=some (.int .i64 (vAt on 7))):=fun w' hb'=>by
        have kk:=Keeps.below hb';exact⟨kk _ _ p0,kk _ _ p1,kk _ _ p2,kk _ _ p3,kk _ _ p4,kk _ _ p5,kk _ _ p6,kk _ _ p7,kk _ _ p8,kk _ _ y0,kk _ _ y1,kk _ _ y2,kk _ _ y3,kk _ _ y4,kk _ _ y5,kk _ _ y6,kk _ _ y7⟩
       obtain⟨q,hq⟩:∃ q,q=vCome p on:=⟨_,rfl⟩;have HQ:Aside (q=vCome p on):=hq;have hco:Aside (∀ wy,Calls Tryz.prog 100 #[ptV p.isSome (p.getD []),regV on] wy fun e w'=>e=.returned (ptV q.isSome (q.getD []))/\Below wy.heap.size wy w'):=fun wy=>by
        have:=comeTo_any p on wy hp8 ho8;rw[<- hq,ptOf_eq,ptOf_eq] at this
        exact this
       clear hq;generalize hpb:p.isSome=pb at p0 hSof hco;generalize hpk:p.getD []=pk at p1 p2 p3 p4 p5 p6 p7 p8 hSof hco;generalize hqb:q.isSome=qb at hco;generalize hqk:q.getD []=qk at hco;have HPQ:Aside (p.isSome=pb/\p.getD []=pk/\q.isSome=qb/\q.getD []=qk):=⟨hpb,hpk,hqb,hqk⟩;clear hpb hpk hqb hqk
       go_cut [11] (fun s11 wc=>∃ G,s11=.pointer (some ⟨G,0,none⟩)/\Below wr.heap.size wr wc/\wr.heap.size<=G/\wc.heap[G]?=some (.cells (ptA qb qk) 101 (0,0)))
       case first =>
        have hB:Below wr.heap.size wr wr.drew:=(Below.refl _ _).drew;refine wp_region_need (fun j=>j != 7) (fun w'=>w'.cell? ⟨g,t*9,none⟩=some (.bool pb)/\w'.cell? ⟨g,t*9+1,none⟩=some (.int .i64 (vAt pk 0))/\w'.cell? ⟨g,t*9+2,none⟩=some (.int .i64 (vAt pk 1))/\w'.cell? ⟨g,t*9+3,none⟩=some (.int .i64 (vAt pk 2))/\w'.cell? ⟨g,t*9+4,none⟩=some (.int .i64 (vAt pk 3))/\w'.cell? ⟨g,t*9+5,none⟩=some (.int .i64 (vAt pk 4))/\w'.cell? ⟨g,t*9+6,none⟩=some (.int .i64 (vAt pk 5))/\w'.cell? ⟨g,t*9+7,none⟩=some (.int .i64 (vAt pk 6))/\w'.cell? ⟨g,t*9+8,none⟩=some (.int .i64 (vAt pk 7))/\w'.cell? ⟨G,0,none⟩=some (.int .i64 (vAt on 0))/\w'.cell? ⟨G,1,none⟩=some (.int .i64 (vAt on 1))/\w'.cell? ⟨G,2,none⟩=some (.int .i64 (vAt on 2))/\w'.cell? ⟨G,3,none⟩=some (.int .i64 (vAt on 3))/\w'.cell? ⟨G,4,none⟩=some (.int .i64 (vAt on 4))/\w'.cell? ⟨G,5,none⟩=some (.int .i64 (vAt on 5))/\w'.cell? ⟨G,6,none⟩=some (.int .i64 (vAt on 6))/\w'.cell? ⟨G,7,none⟩=some (.int .i64 (vAt on 7))) (by kernel_rfl) (hSof _ hB) (fun hS=>?_)
        generalize wr.drew=wc0 at hS hB ⊢;refine tkN 0 hS ?_;refine tkN 1 hS ?_;refine tkN 2 hS ?_;refine tkN 3 hS ?_;refine tkN 4 hS ?_;refine twN 5 6 (fun K hK=>?_) (fun K hK=>?_)
        ·go_simp
         refine(hco.out wc0).mono ?_;rintro e wc1 ⟨rfl,hbn⟩;have hBn:Below wr.heap.size wr wc1:=hB.trans (hbn.mono hB.size);refine otN hK (hSof _ hBn) ?_;replace hS:=hSof _ hBn;clear hK;replace hB:=hBn;clear hBn hbn;refine stN 6 (fun K hK=>?_);go_simp;have hbn:=below_box wc1 (Obj.cells #[.bool false,.int .i64 0,.int .i64 0,.int .i64 0,.int .i64 0,.int .i64 0,.int .i64 0,.int .i64 0,.int .i64 0] 101)
         have mG:=Deep.blk_alloc_new wc1 (Obj.cells #[.bool false,.int .i64 0,.int .i64 0,.int .i64 0,.int .i64 0,.int .i64 0,.int .i64 0,.int .i64 0,.int .i64 0] 101);have xG:wr.heap.size<=wc1.heap.size:=hB.size;generalize wc1.alloc (Obj.cells #[.bool false,.int .i64 0,.int .i64 0,.int .i64 0,.int .i64 0,.int .i64 0,.int .i64 0,.int .i64 0,.int .i64 0] 101)=wc2 at hbn mG ⊢;obtain⟨G,hG⟩:∃ G,G=wc1.heap.size:=⟨_,rfl⟩
         rw[<- hG] at mG xG ⊢;clear hG;have hBn:Below wr.heap.size wr wc2:=hB.trans (hbn.mono hB.size);refine otN hK (hSof _ hBn) ?_;replace hS:=hSof _ hBn;clear hK;replace hB:=hBn;clear hBn hbn;have c0:=cellBlk mG 0;have c1:=cellBlk mG 1;have c2:=cellBlk mG 2;have c3:=cellBlk mG 3;have c4:=cellBlk mG 4;have c5:=cellBlk mG 5;have c6:=cellBlk mG 6;have c7:=cellBlk mG 7;have c8:=cellBlk mG 8;have cf:∀ j,wc2.frozen? ⟨G,j,none⟩=false:=fun j=>by simp[World.frozen?,mG]
         simp at c0 c1 c2 c3 c4 c5 c6 c7 c8;refine stN 7 (fun K hK=>?_);go_simp;refine laN hK ?_;clear hK;clear cf c0 c1 c2 c3 c4 c5 c6 c7 c8
         go_wp2_with fail
         go_meet
         case rel=>exact⟨G,rfl,putAt_below xG ((ptA qb qk)).toList 0 hB,xG,putAt_whole mG ((ptA qb qk)).toList rfl⟩
        ·go_simp
         have hbn:=below_box wc0 (Obj.cells #[.bool false,.int .i64 0,.int .i64 0,.int .i64 0,.int .i64 0,.int .i64 0,.int .i64 0,.int .i64 0,.int .i64 0] 101);have mG:=Deep.blk_alloc_new wc0 (Obj.cells #[.bool false,.int .i64 0,.int .i64 0,.int .i64 0,.int .i64 0,.int .i64 0,.int .i64 0,.int .i64 0,.int .i64 0] 101);have xG:wr.heap.size<=wc0.heap.size:=hB.size;generalize wc0.alloc (Obj.cells #[.bool false,.int .i64 0,.int .i64 0,.int .i64 0,.int .i64 0,.int .i64 0,.int .i64 0,.int .i64 0,.int .i64 0] 101)=wc1 at hbn mG ⊢
         obtain⟨G,hG⟩:∃ G,G=wc0.heap.size:=⟨_,rfl⟩;rw[<- hG] at mG xG ⊢;clear hG;have hBn:Below wr.heap.size wr wc1:=hB.trans (hbn.mono hB.size);refine otN hK (hSof _ hBn) ?_;replace hS:=hSof _ hBn;clear hK;replace hB:=hBn;clear hBn hbn;refine stN 5 (fun K hK=>?_);go_simp;refine(hco.out wc1).mono ?_;rintro e wc2 ⟨rfl,hbn⟩;have hBn:Below wr.heap.size wr wc2:=hB.trans (hbn.mono hB.size);refine otN hK (hSof _ hBn) ?_
         replace hS:=hSof _ hBn;clear hK;replace mG:=(hbn.block _ (Array.getElem?_eq_some_iff.1 mG).1).trans mG;replace hB:=hBn;clear hBn hbn;have c0:=cellBlk mG 0;have c1:=cellBlk mG 1;have c2:=cellBlk mG 2;have c3:=cellBlk mG 3;have c4:=cellBlk mG 4;have c5:=cellBlk mG 5;have c6:=cellBlk mG 6;have c7:=cellBlk mG 7;have c8:=cellBlk mG 8;have cf:∀ j,wc2.frozen? ⟨G,j,none⟩=false:=fun j=>by simp[World.frozen?,mG]
         simp at c0 c1 c2 c3 c4 c5 c6 c7 c8;refine stN 7 (fun K hK=>?_);go_simp;refine laN hK ?_;clear hK;clear cf c0 c1 c2 c3 c4 c5 c6 c7 c8
         go_wp2_with fail
         go_meet
         case rel=>exact⟨G,rfl,putAt_below xG ((ptA qb qk)).toList 0 hB,xG,putAt_whole mG ((ptA qb qk)).toList rfl⟩
       case rest =>
        obtain⟨B,rfl,hbW,hBW,hBn⟩:=hcut;have hsz:=hP.lt;have hkW:=Keeps.below hbW;have z0:=hkW _ _ p0;have z1:=hkW _ _ p1;have z2:=hkW _ _ p2;have z3:=hkW _ _ p3;have z4:=hkW _ _ p4;have z5:=hkW _ _ p5;have z6:=hkW _ _ p6;have z7:=hkW _ _ p7;have z8:=hkW _ _ p8;have x0:=vCell_blk hBn 0;have x1:=vCell_blk hBn 1;have x2:=vCell_blk hBn 2;have x3:=vCell_blk hBn 3;have x4:=vCell_blk hBn 4;have x5:=vCell_blk hBn 5
        have x6:=vCell_blk hBn 6;have x7:=vCell_blk hBn 7;have x8:=vCell_blk hBn 8;simp at x0 x1 x2 x3 x4 x5 x6 x7 x8;have hfz:∀ j,wc.frozen? ⟨g,j,none⟩=false:=fun j=>ownsRow_frozenAt (hP.below hbW) rfl j
        clear p0 p1 p2 p3 p4 p5 p6 p7 p8 y0 y1 y2 y3 y4 y5 y6 y7 hSof hco;have hq8:∀ k,q=some k->k.length=8:=by rw[HQ.out];exact vCome_length hp8 ho8
        have HCP:Aside (vTo on cu t=cu.set t q):=by
         show vTo on cu t=cu.set t q
         unfold vTo vPt
         rw[Int.toNat_natCast,hp,HQ.out];rfl
        have HSM:Aside ((decide (qb=pb) && sameRegs qk pk)=decide (q=p)):=by
         have:=pt_same hp8 hq8;rw[HPQ.out.1,HPQ.out.2.1,HPQ.out.2.2.1,HPQ.out.2.2.2] at this
         exact this
        have MU:Aside (vMu cu<=vMu st/\(cu≠st->vMu cu<vMu st)):=by
         have m1:=vTurns_mu hg x i;have m2:=vTos_mu ho8 (tos.take j) hgi;rw[<- HCUR.out] at m1;rw[<- HCU.out] at m2;refine⟨Nat.le_trans m2.1 m1.1,fun hne=>?_⟩
         by_cases ec:cu=cur
         ·rw[ec] at hne ⊢;exact m1.2 hne
         ·exact Nat.lt_of_lt_of_le (m2.2 ec) m1.1
        obtain⟨nf,hnf⟩:∃ nf,nf=decide (vTo on cu t≠st):=⟨_,rfl⟩;have HNF:Aside (nf=decide (vTo on cu t≠st)):=hnf;clear hnf
        go_upto_region 11 with fail
        go_cut [5] (fun s5 wq=>(∃ n,wq=wc.drewN n)/\s5=.bool nf)
        case first =>
         cases cj with
         | true =>
          have hnt:nf=true:=by
           rw[HNF.out];have hc:cu≠st:=by have:=HCJ.out;simpa using this.symm
           have m1:=MU.out.2 hc;have m2:=(vTo_mu hgc ho8 (t:Int)).1;simp only[decide_eq_true_eq];intro e;rw[e] at m2;omega
          clear HNF;subst hnt
          go_quiet (fail)
          go_wp2_with fail
          go_meet
          case rel=>exact⟨⟨_,rfl⟩,rfl⟩
         | false =>
          have hnt:nf=!(decide (qb=pb) && sameRegs qk pk):=by
           rw[HSM.out,HNF.out,HCP.out];have hc:cu=st:=by have:=HCJ.out;simpa using this.symm
           rw[<- hc];have hset:cu.set t q=cu↔q=p:=by
            obtain⟨h1,h2⟩:=List.getElem?_eq_some_iff.1 hp
            constructor
            ·intro e
             have:=congrArg (fun l=>l[t]?) e;simp[h1] at this
             rw[this,h2]
            ·intro e
             rw[e,<- h2];simp
           cases hd:decide (q=p) with
           | true =>
            have e:=of_decide_eq_true hd;exact decide_eq_false (fun h=>h (hset.2 e))
           | false =>
            have e:=of_decide_eq_false hd;exact decide_eq_true (fun h=>e (hset.1 h))
          refine wp_region_need (fun j=>true) (fun w'=>w'.cell? ⟨g,t*9,none⟩=some (.bool pb)/\w'.cell? ⟨g,t*9+1,none⟩=some (.int .i64 (vAt pk 0))/\w'.cell? ⟨g,t*9+2,none⟩=some (.int .i64 (vAt pk 1))/\w'.cell? ⟨g,t*9+3,none⟩=some (.int .i64 (vAt pk 2))/\w'.cell? ⟨g,t*9+4,none⟩=some (.int .i64 (vAt pk 3))/\w'.cell? ⟨g,t*9+5,none⟩=some (.int .i64 (vAt pk 4))/\w'.cell? ⟨g,t*9+6,none⟩=some (.int .i64 (vAt pk 5))/\w'.cell? ⟨g,t*9+7,none⟩=some (.int .i64 (vAt pk 6))/\w'.cell? ⟨g,t*9+8,none⟩=some (.int .i64 (vAt pk 7))/\w'.cell? ⟨B,0,none⟩=some (.bool qb)/\w'.cell? ⟨B,1,none⟩=some (.int .i64 (vAt qk 0))/\w'.cell? ⟨B,2,none⟩=some (.int .i64 (vAt qk 1))/\w'.cell? ⟨B,3,none⟩=some (.int .i64 (vAt qk 2))/\w'.cell? ⟨B,4,none⟩=some (.int .i64 (vAt qk 3))/\w'.cell? ⟨B,5,none⟩=some (.int .i64 (vAt qk 4))/\w'.cell? ⟨B,6,none⟩=some (.int .i64 (vAt qk 5))/\w'.cell? ⟨B,7,none⟩=some (.int .i64 (vAt qk 6))/\w'.cell? ⟨B,8,none⟩=some (.int .i64 (vAt qk 7))) (by kernel_rfl) ⟨z0,z1,z2,z3,z4,z5,z6,z7,z8,x0,x1,x2,x3,x4,x5,x6,x7,x8⟩ (fun hS=>?_)
          refine tkN 0 hS ?_;refine tkN 1 hS ?_;refine tkN 2 hS ?_;refine tkN 3 hS ?_;refine tkN 4 hS ?_;refine tkN 5 hS ?_;refine tkN 6 hS ?_;refine stN 7 (fun K hK=>?_);go_simp;have heq:=eqRegs9 wc.drew qk pk;have hgo2:(if qb=pb then
   (((Sem.run Tryz.prog
          (Op.equalIn 9999 99 (regV qk) (regV pk))
          wc.drew).andThen
        fun a w'=>if a=false then Result.ok false w' else Result.ok true w').andThen
      fun b w'=>Result.ok (Value.bool !b) w').andThen
    fun a w'=>Result.ok (Next.value a) w'
  else Result.ok (Next.value (Value.bool true)) wc.drew)=Result.ok (Next.value (Value.bool nf)) wc.drew:=by
           rw[heq,hnt]
           by_cases hqp:qb=pb
           ·rw[if_pos hqp]
            cases sameRegs qk pk <;> simp[hqp]
           ·rw[if_neg hqp]
            simp[hqp]
          rw[hgo2];go_simp;refine otN hK (hS) ?_;clear hK;replace hS:=hS;refine tkN 8 hS ?_;refine tkN 9 hS ?_;refine dnN ?_
          go_wp2_with fail
          go_meet
          case rel=>exact⟨⟨1,rfl⟩,by rw[hnt];simp⟩
        case rest =>
         obtain⟨⟨nd,rfl⟩,rfl⟩:=hcut;have hPd:PtsOwn (wc.drewN nd) w0.heap.size g cap L cu:=(hP.below hbW).below (below_drewN (Below.refl _ _) nd);have hgr:g<(wc.drewN nd).heap.size:=hPd.lt.2;have hbd:Below w0.heap.size w0 (wc.drewN nd):=below_drewN (hb.trans (hbW.mono hb.size)) nd;have hGd:(wc.drewN nd).heap[G]?=some (.cells (regA on) 99 (0,0)):=(hbW.block _ (Array.getElem?_eq_some_iff.1 hG).1).trans hG
         have hVd:VInts (wc.drewN nd) (some ⟨zb,zo,none⟩) tos:=hV.other (fun b' o' e hlt=>hbW.block _ hlt);have kd:=Keeps.drewN wc nd;replace z0:=kd _ _ z0;replace z1:=kd _ _ z1;replace z2:=kd _ _ z2;replace z3:=kd _ _ z3;replace z4:=kd _ _ z4;replace z5:=kd _ _ z5;replace z6:=kd _ _ z6;replace z7:=kd _ _ z7;replace z8:=kd _ _ z8;replace x0:=kd _ _ x0;replace x1:=kd _ _ x1;replace x2:=kd _ _ x2;replace x3:=kd _ _ x3
         replace x4:=kd _ _ x4;replace x5:=kd _ _ x5;replace x6:=kd _ _ x6;replace x7:=kd _ _ x7;replace x8:=kd _ _ x8;replace hfz:∀ j,(wc.drewN nd).frozen? ⟨g,j,none⟩=false:=hfz;clear hbW hkW hP hb hG hV hBn kd;generalize wc.drewN nd=wd at *;have hput:=hPd.put hgc.1 htL q;rw[ptC_eq,HPQ.out.2.2.1,HPQ.out.2.2.2] at hput;rw[<- HCP.out] at hput;have HPUT:Aside (PtsOwn (putAt wd g (t*9) (ptA qb qk).toList) w0.heap.size g cap L (vTo on cu t)):=hput
         have hput2:Aside (Below w0.heap.size w0 (putAt wd g (t*9) (ptA qb qk).toList)/\(putAt wd g (t*9) (ptA qb qk).toList).heap[G]?=some (.cells (regA on) 99 (0,0))/\VInts (putAt wd g (t*9) (ptA qb qk).toList) (some ⟨zb,zo,none⟩) tos) :=
          ⟨putAt_below hPd.lt.1 _ _ hbd,(putAt_other (by omega) _ _).trans hGd,hVd.other (fun b' o' e _=>putAt_other (by simp at e;omega) _ _)⟩
         have HE:Aside ((tos.take (j+1)).foldl (vTo on) cur=vTo on cu t):=by
          show(tos.take (j+1)).foldl (vTo on) cur=vTo on cu t
          rw[HTK.out,List.foldl_append,<- HCU.out];rfl
         clear hput hPd hbd hGd hVd HSM MU;go_wp2
         go_roundg (T-(j+1))
         case measure=>go_light;omega
         case rel =>
          go_light
          refine⟨j+1,nf,by omega,rfl,by go_num,rfl,?_,?_,hput2.out.1,hput2.out.2.1,hput2.out.2.2⟩
          ·show nf=_
           rw[HE.out];exact HNF.out
          ·rw[HE.out];exact HPUT.out
      ·have hTT:Aside (tos.take j=tos):=by
        show tos.take j=tos
        rw[List.take_of_length_le (by rw[<- HTL.out];omega)]
       have hnx:Aside (vTurns x st (i+1)=(tos.take j).foldl (vTo on) cur):=by
        show vTurns x st (i+1)=_
        rw[vTurns_succ,<- HCUR.out,hTT.out]
        unfold vTurn vPt
        rw[hp];simp only[Option.getD_some];rw[E0.out.1,E0.out.2.1,E0.out.2.2.1,E0.out.2.2.2,<- HON.out,<- HT.out]
       go_wp2
       go_roundg (L-(i+1))
       case measure=>go_light;omega
       case rel =>
        go_light
        refine⟨i+1,cj,by omega,rfl,by go_num,rfl,?_,?_,hb⟩
        ·show cj=_
         rw[hnx.out];exact HCJ.out
        ·rw[hnx.out];exact hP
  ·obtain rfl:i=L:=by omega
   go_wp2
   go_ret
   exact⟨ret_bool HCH.out,hP,hb⟩
end Go.Proofs.YtepifccbbmdfcaaGreatDoor
