/- WOwnNew. -/
import Derived.Test.YtepifccbbmdfcaaGreatDoorCBAPerf3
import Derived.Test.YtepifccbbmdfcaaGreatDoorCBATake
namespace Go.Proofs.YtepifccbbmdfcaaGreatDoor
set_option maxRecDepth 100000
set_option maxHeartbeats 8000000
section
open Go.RowKit
theorem acsMay_at {G:Nat} {L:Nat->Nat}:∀ {l:List Ac} {n j:Nat} {x:Ac},acsMay G L l n=true->l[j]?=some x->acMay G L x (n+j)=true
 | [],_,_,_,_,hx=>by simp at hx
 | a :: l,n,0,x,h,hx=>by
  simp only[acsMay,Bool.and_eq_true] at h;simp only[List.getElem?_cons_zero,Option.some.injEq] at hx;subst hx;exact h.1
 | a :: l,n,j+1,x,h,hx=>by
  simp only[acsMay,Bool.and_eq_true] at h;rw[List.getElem?_cons_succ] at hx;have:=acsMay_at h.2 hx
  rwa [show n+1+j=n+(j+1) by omega] at this
structure WFit (G:Nat) (L:Nat->Nat) (V:Wd):Prop where
 acts:V.acts.length<=8
 prints:V.prints.length<=500
 at_:∀ (j:Nat) x,V.acts[j]?=some x->(0<=x.kind/\x.kind<(G:Int))/\(-1<=x.pc/\x.pc<(L x.kind.toNat:Int))/\(x.regs.length=8/\x.box.length<=6)/\hMay x.M x.obs x.roots=true
theorem wfit_of {G:Nat} {L:Nat->Nat} {V:Wd} (h:wdMay G L V=true):WFit G L V:=by
 simp only[wdMay,Bool.and_eq_true,decide_eq_true_eq] at h;refine⟨h.1.1.2,h.1.2,fun j x hx=>?_⟩;have:=acsMay_at h.2.2 hx;simp only[acMay,Bool.and_eq_true,decide_eq_true_eq] at this
 exact⟨this.1.1.1.1.1.1,this.1.1.1.1.2,this.1.1.2,this.2.1⟩
theorem WFit.shp {G:Nat} {L:Nat->Nat} {V:Wd} (h:WFit G L V):Shp V:=fun j x hx=>(h.at_ j x hx).2.2.1
theorem InsOk.word {G many place:Int} {i:Ins} (h:InsOk G many place i):-1099511627776<=i.n/\i.n<=1099511627776:=by
 have:=h.n
 unfold loOf hiOf at this
 split at this <;> (repeat' split at this) <;> omega
theorem step_any (ao:Option Addr) (G cap:Nat) (A:Nat->Option Addr) (L C:Nat->Nat) (X:Nat->Nat->Nat->Int) (who:Nat) (w:World) {base Bw:Nat} {V:Wd} {av pv:Value} {fl:List Fa} {rs:List (List (Value × Ob))} (h:WdOwn w base Bw V av pv fl rs) (hP:ProgAt w ao G A L C X) (hf:WFit G L V) (hins:∀ k i,k<G->i<L k->InsOk G (L k) i (insAt X k i)) (hL:∀ k,k<G->L k<=1000000) :
  Calls Tryz.prog 49 #[.agg #[.slice ao G cap],.pointer (some ⟨Bw,0,none⟩),.int .i64 who] w fun e w'=>e=.returned (.tuple #[])/\∃ av' pv' fl' rs',WdOwn w' base Bw (stepS X V who) av' pv' fl' rs'/\Moved w w' (wdFoot Bw av pv fl rs) (wdFoot Bw av' pv' fl' rs'):=by
 obtain⟨N0,_,b1,s1⟩:=boxes1 w (.cells #[.slice ao G cap] 38);have h1:=h.below b1;have hlv:=lives_any who _ h1;have HW:Aside (WdOwn w base Bw V av pv fl rs):=h;have HS:Aside (stepS X V who=if livesS V who=false then V else if (V.at who).pc=-1 then V.put who (takeS (V.at who)) else doneS (V.put who { (V.at who) with pc:=nextS (V.at who) (insAt X (V.at who).kind (V.at who).pc) }) who (insAt X (V.at who).kind (V.at who).pc)):=rfl
 have HLV:Aside (livesS V who=true->who<V.acts.length):=fun h0=>by
  simp only[livesS,Bool.and_eq_true,decide_eq_true_eq] at h0;omega
 generalize stepS X V who=RS at *;generalize livesS V who=LV at *
 cases LV with
 | false =>
  have hRS:RS=V:=by rw[HS.out,if_pos rfl]
  subst hRS;clear h h1
  go_enter Tryz.func49,Tryz.ntmps49
  go_wp2_with fail
  refine hlv.mono ?_;rintro e w' ⟨rfl,hw'⟩;replace hw':=hw'.symm;subst hw';go_wp2
  exact bodyPost_ret (v:=.tuple #[]) (by simp[results,Tryz.results49,go_sem]) rfl ⟨rfl,_,_,_,_,HW.out.below b1,Moved.of_below b1⟩
 | true =>
  have hwl:=HLV.out rfl;obtain⟨x,hx⟩:=at_some hwl;have hwz:(who:Int)<(V.acts.length:Int):=by omega
  obtain⟨hk,hpc,⟨h8,h6⟩,hm⟩:=hf.at_ who x hx;obtain⟨fa,r,g,c,hfa,hr,hA,hav⟩:=h1.at hx;have HAV:Aside (av=.slice (some ⟨g,0,none⟩) V.acts.length c):=hav;have c0:=h1.bw.1;rw[hav] at c0;obtain⟨_,_,_,_,_,k0,_,_,_,_,k5,_,_⟩:=h1.cellsAt hav hx;have HS2:Aside (RS=if x.pc=-1 then { V with acts:=V.acts.set who (takeS x) } else doneS { V with acts:=V.acts.set who { x with pc:=nextS x (insAt X x.kind x.pc) } } who (insAt X x.kind x.pc)):=by
   show RS=_
   rw[HS.out,if_neg (by simp),at_of hx]
   rfl
  clear HS HLV;have HF:Aside (WFit G L V):=hf;have HSH:Aside (Shp V):=hf.shp;generalize hVL:V.acts.length=VL at *;clear hVL
  by_cases hpw:x.pc=-1
  ·have hRS:RS={ V with acts:=V.acts.set who (takeS x) }:=by rw[HS2.out,if_pos hpw]
   subst hRS;have htm:=takeMessage_any _ h1 hx HAV.out h8;rw[hpw] at k5;clear h h1 hA hfa hr hav
   go_enter Tryz.func49,Tryz.ntmps49
   go_upto_region 1 with fail
   generalize w.alloc (.cells #[.slice ao G cap] 38)=W at *
   go_wp2_with fail
   refine hlv.mono ?_;rintro e w' ⟨rfl,hw'⟩;replace hw':=hw'.symm;subst hw'
   go_wp2_with fail
   refine htm.mono ?_;rintro e w2 ⟨rfl,fl2,rs2,hW2,hM2⟩;go_wp2
   exact bodyPost_ret (v:=.tuple #[]) (by simp[results,Tryz.results49,go_sem]) rfl ⟨rfl,_,_,_,_,hW2,(Moved.of_below b1).trans hM2⟩
  ·obtain⟨kk,hkk⟩:=Int.eq_ofNat_of_zero_le hk.1
   obtain⟨jj,hjj⟩:=Int.eq_ofNat_of_zero_le (show 0<=x.pc by omega);have hkG:kk<G:=by omega
   have hjL:jj<L kk:=by
    have:=hpc.2;rw[hkk,hjj,Int.toNat_natCast] at this
    omega
   have hi:=hins kk jj hkG hjL;have hL1:=hL kk hkG;have e4:insAt X x.kind x.pc=⟨X kk jj 0,X kk jj 1,X kk jj 2,X kk jj 3⟩:=by rw[hkk,hjj];rfl
   have e4':insAt X kk jj=⟨X kk jj 0,X kk jj 1,X kk jj 2,X kk jj 3⟩:=rfl;rw[e4'] at hi;obtain⟨ob,oo,hao,hcell⟩:=hP.outer kk hkG;obtain⟨rb,ro,hrA,hrow⟩:=hP.rows kk hkG jj hjL;have y0:=Keeps.below b1 _ _ (hrow 0 (by omega));have y1:=Keeps.below b1 _ _ (hrow 1 (by omega));have y2:=Keeps.below b1 _ _ (hrow 2 (by omega));have y3:=Keeps.below b1 _ _ (hrow 3 (by omega));replace hcell:=Keeps.below b1 _ _ hcell
   simp only[Nat.add_zero] at y0;have HR:Aside (RS=doneS { V with acts:=V.acts.set who { x with pc:=nextS x ⟨X kk jj 0,X kk jj 1,X kk jj 2,X kk jj 3⟩ } } who ⟨X kk jj 0,X kk jj 1,X kk jj 2,X kk jj 3⟩):=by
    show RS=_
    rw[HS2.out,if_neg hpw,e4]
   clear HS2 e4 e4' hrow hP;generalize X kk jj 0=i0 at *;generalize X kk jj 1=i1 at *;generalize X kk jj 2=i2 at *;generalize X kk jj 3=i3 at *;rw[hrA] at hcell;subst hao;generalize C kk=CK at *;generalize hLK:L kk=LK at *;rw[hkk] at k0;rw[hjj] at k5;have hkz:(kk:Int)<(G:Int):=by omega
   have hjz:(jj:Int)<(LK:Int):=by omega
   have hpcb:-1<=x.pc/\x.pc<1000000:=by omega
   have hpwb:((jj:Int) == -1)=false:=by simp
   have hgl:g<w.heap.size:=(World.ownsRow.lt h.acts g (by rw[HAV.out];rfl)).2;clear h h1 hA hfa hr hav hpc hk hLK hins hL hpw hjj hkk hf
   go_enter Tryz.func49,Tryz.ntmps49
   go_upto_region 1 with fail
   generalize w.alloc (.cells #[.slice (some ⟨ob,oo,none⟩) G cap] 38)=W at *;have p0:W.cell? ⟨w.heap.size,0,none⟩=some (.slice (some ⟨ob,oo,none⟩) G cap):=cell_blk N0 0
   go_wp2_with fail
   refine hlv.mono ?_;rintro e w' ⟨rfl,hw'⟩;replace hw':=hw'.symm;subst hw';clear hlv
   go_upto_region 5 with fail
   have hSof:∀ w',Below W.heap.size W w'->(w'.cell? ⟨w.heap.size,0,none⟩=some (.slice (some ⟨ob,oo,none⟩) G cap)/\w'.cell? ⟨g,who*8,none⟩=some (.int .i64 kk)/\w'.cell? ⟨g,who*8+5,none⟩=some (.int .i64 jj)/\w'.cell? ⟨ob,oo+kk,none⟩=some (.slice (some ⟨rb,ro,none⟩) LK CK)/\w'.cell? ⟨rb,ro+jj*4,none⟩=some (.int .i64 i0)/\w'.cell? ⟨rb,ro+jj*4+1,none⟩=some (.int .i64 i1)/\w'.cell? ⟨rb,ro+jj*4+2,none⟩=some (.int .i64 i2)/\w'.cell? ⟨rb,ro+jj*4+3,none⟩=some (.int .i64 i3)):=fun w' hb'=>⟨Keeps.below hb' _ _ p0,Keeps.below hb' _ _ k0,Keeps.below hb' _ _ k5,Keeps.below hb' _ _ hcell,Keeps.below hb' _ _ y0,Keeps.below hb' _ _ y1,Keeps.below hb' _ _ y2,Keeps.below hb' _ _ y3⟩
   have hB:Below W.heap.size W W.drew:=(Below.refl _ _).drew;refine wp_region_need (fun j=>j != 15) (fun w'=>w'.cell? ⟨w.heap.size,0,none⟩=some (.slice (some ⟨ob,oo,none⟩) G cap)/\w'.cell? ⟨g,who*8,none⟩=some (.int .i64 kk)/\w'.cell? ⟨g,who*8+5,none⟩=some (.int .i64 jj)/\w'.cell? ⟨ob,oo+kk,none⟩=some (.slice (some ⟨rb,ro,none⟩) LK CK)/\w'.cell? ⟨rb,ro+jj*4,none⟩=some (.int .i64 i0)/\w'.cell? ⟨rb,ro+jj*4+1,none⟩=some (.int .i64 i1)/\w'.cell? ⟨rb,ro+jj*4+2,none⟩=some (.int .i64 i2)/\w'.cell? ⟨rb,ro+jj*4+3,none⟩=some (.int .i64 i3)) (by kernel_rfl) (hSof _ hB) (fun hS=>?_)
   generalize W.drew=wn at hS hB ⊢;refine tkN 0 hS ?_;refine tkN 1 hS ?_;refine tkN 2 hS ?_;refine tkN 3 hS ?_;refine tkN 4 hS ?_;refine tkN 5 hS ?_;refine tkN 6 hS ?_;refine tkN 7 hS ?_;refine tkN 8 hS ?_;refine tkN 9 hS ?_;refine tkN 10 hS ?_;refine tkN 11 hS ?_;refine tkN 12 hS ?_;refine tkN 13 hS ?_;refine stN 14 (fun K hK=>?_);go_simp;have hBa:Below W.heap.size W (wn.alloc (.cells #[.int .i64 0,.int .i64 0,.int .i64 0,.int .i64 0] 43)):=hB.alloc hB.size _
   have mQ:=Deep.blk_alloc_new wn (.cells #[.int .i64 0,.int .i64 0,.int .i64 0,.int .i64 0] 43);have xQ:W.heap.size<=wn.heap.size:=hB.size;refine otN hK (hSof _ hBa) ?_;clear hK;replace hS:=hSof _ hBa;generalize wn.alloc (.cells #[.int .i64 0,.int .i64 0,.int .i64 0,.int .i64 0] 43)=wa at *;generalize wn.heap.size=Q at *;have z0:=cell_blk mQ 0;have z1:=cell_blk mQ 1;have z2:=cell_blk mQ 2;have z3:=cell_blk mQ 3
   have zf:∀ i,wa.frozen? ⟨Q,i,none⟩=false:=fun i=>fz_blk mQ i
   simp at z0 z1 z2 z3;refine stN 15 (fun K hK=>?_);go_simp;refine laN hK ?_;clear hK;have hB5:Below W.heap.size W ((((wa.setCell ⟨Q,0,none⟩ (.int .i64 i0)).setCell ⟨Q,1,none⟩ (.int .i64 i1)).setCell ⟨Q,2,none⟩ (.int .i64 i2)).setCell ⟨Q,3,none⟩ (.int .i64 i3)):=putAt_below xQ [.int .i64 i0,.int .i64 i1,.int .i64 i2,.int .i64 i3] 0 hBa;have m5:((((wa.setCell ⟨Q,0,none⟩ (.int .i64 i0)).setCell ⟨Q,1,none⟩ (.int .i64 i1)).setCell ⟨Q,2,none⟩ (.int .i64 i2)).setCell ⟨Q,3,none⟩ (.int .i64 i3)).heap[Q]?=some (.cells #[.int .i64 i0,.int .i64 i1,.int .i64 i2,.int .i64 i3] 43 (0,0)):=putAt_whole mQ [.int .i64 i0,.int .i64 i1,.int .i64 i2,.int .i64 i3] rfl
   clear z0 z1 z2 z3 zf mQ hS hSof hBa;generalize (((wa.setCell ⟨Q,0,none⟩ (.int .i64 i0)).setCell ⟨Q,1,none⟩ (.int .i64 i1)).setCell ⟨Q,2,none⟩ (.int .i64 i2)).setCell ⟨Q,3,none⟩ (.int .i64 i3)=W5 at *;have hBw5:=b1.trans (hB5.mono b1.size);have hW5:=HW.out.below hBw5;have hnx:=next_any i0 i1 i2 i3 W5 hW5 hx HAV.out h8 hi.a hpcb hi.word;have a0:W5.cell? ⟨Q,0,none⟩=some (.int .i64 i0):=cell_blk m5 0
   have a1:W5.cell? ⟨Q,1,none⟩=some (.int .i64 i1):=cell_blk m5 1;have a2:W5.cell? ⟨Q,2,none⟩=some (.int .i64 i2):=cell_blk m5 2;have a3:W5.cell? ⟨Q,3,none⟩=some (.int .i64 i3):=cell_blk m5 3;clear p0 k0 k5 hcell y0 y1 y2 y3 c0;generalize nextS x ⟨i0,i1,i2,i3⟩=NX at *
   go_wp2_with fail
   refine hnx.mono ?_;rintro e W6 ⟨rfl,hb6⟩;clear hnx;have hBw6:=hBw5.trans (hb6.mono hBw5.size);have hW6:=HW.out.below hBw6;have m6:=(hb6.block Q (Array.getElem?_eq_some_iff.1 m5).1).trans m5;obtain⟨_,_,_,_,_,_,_,_,_,_,k5,_,_⟩:=hW6.cellsAt HAV.out hx;have kf:=hW6.fz HAV.out;obtain⟨fl7,rs7,hW7,hM7⟩:=hW6.setPc hx HAV.out NX;have hM7w:=(Moved.of_below (F:=wdFoot Bw av pv fl rs) hBw6).trans hM7;have hQg:Q≠g:=by have:=b1.size;omega
   have m7:=(Deep.blk_setCell_other W6 ⟨g,who*8+5,none⟩ (.int .i64 NX) Q hQg).trans m6
   go_upto_region 7 with fail
   clear a0 a1 a2 a3 k5 kf hW6 hM7 hW5;generalize W6.setCell ⟨g,who*8+5,none⟩ (.int .i64 NX)=W7 at *;have a0:W7.cell? ⟨Q,0,none⟩=some (.int .i64 i0):=cell_blk m7 0;have a1:W7.cell? ⟨Q,1,none⟩=some (.int .i64 i1):=cell_blk m7 1;have a2:W7.cell? ⟨Q,2,none⟩=some (.int .i64 i2):=cell_blk m7 2;have a3:W7.cell? ⟨Q,3,none⟩=some (.int .i64 i3):=cell_blk m7 3;have hS7:Shp { V with acts:=V.acts.set who { x with pc:=NX } }:=HSH.out.set h8 h6
   have hx7:=set_at hx { x with pc:=NX };have hpf:=perform_any who i0 i1 i2 i3 W7 hW7 hx7 ⟨hS7,hi.a,hi.b,hm,HF.out.prints,by simpa using HF.out.acts⟩ hi.op;have HPS:Aside (Shp (performS { V with acts:=V.acts.set who { x with pc:=NX } } who ⟨i0,i1,i2,i3⟩).1/\∃ z,(performS { V with acts:=V.acts.set who { x with pc:=NX } } who ⟨i0,i1,i2,i3⟩).1.acts[who]?=some z):=by
    have:=hS7.perform (who:=who) (i:=⟨i0,i1,i2,i3⟩);refine⟨this.1,at_some ?_⟩;have h1:=(List.getElem?_eq_some_iff.1 hx7).1;have h2:=this.2;simp only at h2;omega
   have HR2:Aside (RS=if (performS { V with acts:=V.acts.set who { x with pc:=NX } } who ⟨i0,i1,i2,i3⟩).2≠0 then endS (performS { V with acts:=V.acts.set who { x with pc:=NX } } who ⟨i0,i1,i2,i3⟩).1 who (performS { V with acts:=V.acts.set who { x with pc:=NX } } who ⟨i0,i1,i2,i3⟩).2 else (performS { V with acts:=V.acts.set who { x with pc:=NX } } who ⟨i0,i1,i2,i3⟩).1):=HR.out;clear HR;generalize performS { V with acts:=V.acts.set who { x with pc:=NX } } who ⟨i0,i1,i2,i3⟩=PR at *
   obtain⟨VP,way⟩:=PR;simp only at hpf HPS HR2
   go_wp2_with fail
   refine hpf.mono ?_;rintro e W8 ⟨rfl,av8,pv8,fl8,rs8,hW8,hM8⟩;clear hpf;have hM8w:=hM7w.trans hM8
   by_cases hway:way=0
   ·have hRS:RS=VP:=by rw[HR2.out,if_neg (by simp[hway])]
    subst hRS;have wb:(way != 0)=false:=by simp[hway]
    go_wp2
    go_end0
    exact⟨rfl,_,_,_,_,hW8,hM8w⟩
   ·have wb:(way != 0)=true:=by simp[hway]
    have hRS:RS=endS VP who way:=by rw[HR2.out,if_pos hway]
    subst hRS;obtain⟨z,hz⟩:=HPS.out.2
    go_wp2_with fail
    refine(aend_any who way W8 hW8 HPS.out.1 hz).mono ?_;rintro e W9 ⟨rfl,fl9,rs9,hW9,hM9⟩;go_wp2
    go_end0
    exact⟨rfl,_,_,_,_,hW9,hM8w.trans hM9⟩
end
section
open Go.RowKit
theorem act_any (ao:Option Addr) (G cap:Nat) (A:Nat->Option Addr) (L C:Nat->Nat) (X:Nat->Nat->Nat->Int) (kind who n m:Int) (w:World) {base Bw:Nat} {V:Wd} {av pv:Value} {fl:List Fa} {rs:List (List (Value × Ob))} (h:WdOwn w base Bw V av pv fl rs) (hP:ProgAt w ao G A L C X) (hf:WFit G L V) (hins:∀ k i,k<G->i<L k->InsOk G (L k) i (insAt X k i)) (hL:∀ k,k<G->L k<=1000000) (hax:axFault ⟨kind,who,n,m⟩=0) :
  Calls Tryz.prog 28 #[.agg #[.slice ao G cap],.pointer (some ⟨Bw,0,none⟩),.agg #[.int .i64 kind,.int .i64 who,.int .i64 n,.int .i64 m]] w fun e w'=>e=.returned (.tuple #[])/\∃ av' pv' fl' rs',WdOwn w' base Bw (actS X V ⟨kind,who,n,m⟩) av' pv' fl' rs'/\Moved w w' (wdFoot Bw av pv fl rs) (wdFoot Bw av' pv' fl' rs'):=by
 obtain⟨N0,N1,_,b1,s1⟩:=boxes2 w (.cells #[.slice ao G cap] 38) (.cells #[.int .i64 kind,.int .i64 who,.int .i64 n,.int .i64 m] 27);have hk:kind=1\/kind=2\/kind=3:=by
  unfold axFault at hax
  by_cases hk:kind≠1/\kind≠2/\kind≠3
  ·rw[if_pos hk] at hax;omega
  ·omega
 have hw0:0<=who:=by
  unfold axFault at hax
  split at hax
  ·omega
  ·by_cases hw:who<0\/8<=who\/isW n=false\/isW m=false
   ·rw[if_pos hw] at hax;omega
   ·simp only[not_or] at hw;omega
 obtain⟨j,rfl⟩:=Int.eq_ofNat_of_zero_le hw0;have h1:=h.below b1;have hP1:=hP.keeps (Keeps.below b1);have HW:Aside (WdOwn w base Bw V av pv fl rs):=h;have HA:Aside (actS X V ⟨kind,j,n,m⟩=if (V.acts.length:Int)<=(j:Int) then V else if kind=1 then stepS X V j else if kind=2 then V.put j (clearS (V.at j)) else tellS V j n m):=rfl;generalize actS X V ⟨kind,j,n,m⟩=RA at *;obtain⟨avp,avc,hav0⟩:=h.acts.form
 rw[h.flen] at hav0;have c0:=h1.bw.1;rw[hav0] at c0
 by_cases hj:V.acts.length<=j
 ·have hjz:(V.acts.length:Int)<=(j:Int):=by omega
  have hRA:RA=V:=by rw[HA.out,if_pos hjz]
  subst hRA;clear h h1 hP hP1;generalize RA.acts.length=VL at *
  go_enter Tryz.func28,Tryz.ntmps28
  go_upto_region 1 with fail
  generalize (w.alloc (.cells #[.slice ao G cap] 38)).alloc (.cells #[.int .i64 kind,.int .i64 j,.int .i64 n,.int .i64 m] 27)=W at *;have d1:W.cell? ⟨w.heap.size+1,1,none⟩=some (.int .i64 j):=cell_blk N1 1
  go_quiet (fail)
  have bq:Below W.heap.size W (W.drewN nq):=below_drewN (Below.refl _ _) nq;have hBw:=b1.trans (bq.mono b1.size);go_wp2
  exact bodyPost_ret (v:=.tuple #[]) (by simp[results,Tryz.results28,go_sem]) rfl ⟨rfl,_,_,_,_,HW.out.below hBw,Moved.of_below hBw⟩
 have hjz:¬ (V.acts.length:Int)<=(j:Int):=by omega
 obtain⟨x,hx⟩:=at_some (l:=V.acts) (i:=j) (by omega);obtain⟨_,_,⟨h8,h6⟩,hm⟩:=hf.at_ j x hx;obtain⟨fa,r,g,c,hfa,hr,hA,hav⟩:=h1.at hx;have HAV:Aside (av=.slice (some ⟨g,0,none⟩) V.acts.length c):=hav;replace c0:=h1.bw.1;rw[hav] at c0;have hst:=fun w' (hb:Below _ _ w')=>step_any ao G cap A L C X j w' (h1.below hb) (hP1.keeps (Keeps.below hb)) hf hins hL
 have hcl:=fun w' (hb:Below _ _ w')=>clearUp_any w' (h1.below hb) hx HAV.out h8 h6
 have htl:=fun w' (hb:Below _ _ w')=>tell_any j n m w' (h1.below hb) hf.shp
 have hRA:Aside (RA=if kind=1 then stepS X V j else if kind=2 then { V with acts:=V.acts.set j (clearS x) } else tellS V j n m):=by
  show RA=_
  rw[HA.out,if_neg hjz,at_of hx]
  rfl
 have hjl:(j:Int)<(V.acts.length:Int):=by omega
 clear h h1 hP hP1 hav0 hA hfa hr hav HA;generalize stepS X V j=RS1 at *;generalize tellS V j n m=RS3 at *;generalize V.acts.length=VL at *
 go_enter Tryz.func28,Tryz.ntmps28
 go_upto_region 1 with fail
 generalize (w.alloc (.cells #[.slice ao G cap] 38)).alloc (.cells #[.int .i64 kind,.int .i64 j,.int .i64 n,.int .i64 m] 27)=W at *;have d0:W.cell? ⟨w.heap.size+1,0,none⟩=some (.int .i64 kind):=cell_blk N1 0;have d1:W.cell? ⟨w.heap.size+1,1,none⟩=some (.int .i64 j):=cell_blk N1 1;have d2:W.cell? ⟨w.heap.size+1,2,none⟩=some (.int .i64 n):=cell_blk N1 2;have d3:W.cell? ⟨w.heap.size+1,3,none⟩=some (.int .i64 m):=cell_blk N1 3
 have p0:W.cell? ⟨w.heap.size,0,none⟩=some (.slice ao G cap):=cell_blk N0 0
 go_quiet (fail)
 have bq:Below W.heap.size W (W.drewN nq):=below_drewN (Below.refl _ _) nq;have hMq:Moved w (W.drewN nq) (wdFoot Bw av pv fl rs) (wdFoot Bw av pv fl rs):=Moved.of_below (b1.trans (bq.mono b1.size));replace d0:=Keeps.below bq _ _ d0;replace d1:=Keeps.below bq _ _ d1;replace d2:=Keeps.below bq _ _ d2;replace d3:=Keeps.below bq _ _ d3;replace p0:=Keeps.below bq _ _ p0;replace c0:=Keeps.below bq _ _ c0
 generalize W.drewN nq=W2 at *
 rcases hk with rfl | rfl | rfl
 ·have e:RA=RS1:=by rw[hRA.out,if_pos rfl]
  subst e
  go_wp2_with fail
  refine(hst W2 bq).mono ?_;rintro e w3 ⟨rfl,av3,pv3,fl3,rs3,hW3,hM3⟩;go_wp2
  go_end0
  exact⟨rfl,_,_,_,_,hW3,hMq.trans hM3⟩
 ·have e:RA={ V with acts:=V.acts.set j (clearS x) }:=by rw[hRA.out,if_neg (by decide),if_pos rfl]
  subst e
  go_upto_region 6 with fail
  have hB:Below W2.heap.size W2 W2.drew:=(Below.refl _ _).drew;refine wp_region_need (fun k=>k != 7) (fun w'=>w'.cell? ⟨w.heap.size+1,1,none⟩=some (.int .i64 j)/\w'.cell? ⟨Bw,0,none⟩=some (.slice (some ⟨g,0,none⟩) VL c)) (by kernel_rfl) ⟨Keeps.below hB _ _ d1,Keeps.below hB _ _ c0⟩ (fun hS=>?_);generalize W2.drew=wn at hS hB ⊢;refine tkN 0 hS ?_;refine tkN 1 hS ?_;refine tkN 2 hS ?_;refine tkN 3 hS ?_
  refine tkN 4 hS ?_;refine tkN 5 hS ?_;refine tkN 6 hS ?_;refine stN 7 (fun K hK=>?_);go_simp;refine(hcl wn (bq.trans (hB.mono bq.size))).mono ?_;rintro e w3 ⟨rfl,fl3,rs3,hW3,hM3⟩;refine laN hK ?_;clear hK;go_wp2
  go_end0
  exact⟨rfl,_,_,_,_,hW3,(hMq.trans (Moved.of_below hB)).trans hM3⟩
 ·have e:RA=RS3:=by rw[hRA.out,if_neg (by decide),if_neg (by decide)]
  subst e
  go_wp2_with fail
  refine(htl W2 bq).mono ?_;rintro e w3 ⟨rfl,fl3,rs3,hW3,hM3⟩;go_wp2
  go_end0
  exact⟨rfl,_,_,_,_,hW3,hMq.trans hM3⟩
end
section
open Go.RowKit
theorem checkAct_any (a:Ax) (w:World):Calls Tryz.prog 27 #[.agg #[.int .i64 a.kind,.int .i64 a.who,.int .i64 a.n,.int .i64 a.m]] w fun e w'=>e=.returned (.int .i64 (axFault a))/\Below w.heap.size w w':=by
 obtain⟨k,o,n,m⟩:=a;have HB:Aside (Below w.heap.size w (w.alloc (.cells #[.int .i64 k,.int .i64 o,.int .i64 n,.int .i64 m] 27))):=below_box _ _;obtain⟨RES,hRES⟩:∃ RES,RES=axFault ⟨k,o,n,m⟩:=⟨_,rfl⟩;have HR:Aside (RES=axFault ⟨k,o,n,m⟩):=hRES;rw[<- hRES];clear hRES;simp only
 by_cases h1:k=1\/k=2\/k=3
 rotate_left
 ·simp only[not_or] at h1
  have HF:Aside (RES=3):=by show RES=3;rw[HR.out];simp[axFault,h1]
  obtain⟨h1,h2,h3⟩:=h1;have q1:(k != 1)=true:=by simp[h1]
  have q2:(k != 2)=true:=by simp[h2]
  have q3:(k != 3)=true:=by simp[h3]
  clear HR
  go_enter Tryz.func27,Tryz.ntmps27
  go_wp2
  go_ret
  exact⟨ret_num HF.out.symm,HB.out⟩
 have hk:RES=if o<0\/8<=o\/isW n=false\/isW m=false then 2 else 0:=by
  rw[HR.out]
  unfold axFault
  rw[if_neg (by simp only;omega)]
 have HK:Aside (RES=if o<0\/8<=o\/isW n=false\/isW m=false then 2 else 0):=hk;clear hk HR
 by_cases h2:o<0
 ·have HF:Aside (RES=2):=by show RES=2;rw[HK.out,if_pos (.inl h2)]
  clear HK
  rcases h1 with rfl | rfl | rfl <;>
  ·go_enter Tryz.func27,Tryz.ntmps27
   go_wp2
   go_ret
   exact⟨ret_num HF.out.symm,HB.out⟩
 by_cases h3:8<=o
 ·have HF:Aside (RES=2):=by show RES=2;rw[HK.out,if_pos (.inr (.inl h3))]
  clear HK
  rcases h1 with rfl | rfl | rfl <;>
  ·go_enter Tryz.func27,Tryz.ntmps27
   go_wp2
   go_ret
   exact⟨ret_num HF.out.symm,HB.out⟩
 cases h4:isW n with
 | false =>
  have HF:Aside (RES=2):=by show RES=2;rw[HK.out,if_pos (.inr (.inr (.inl h4)))]
  clear HK
  rcases h1 with rfl | rfl | rfl <;>
  ·go_enter Tryz.func27,Tryz.ntmps27
   go_wp2_with (go_at_call 48;refine(isWord_any _ _).mono ?_;rw[h4];rintro e w' ⟨rfl,rfl⟩)
   go_ret
   exact⟨ret_num HF.out.symm,HB.out⟩
 | true =>
  cases h5:isW m with
  | false =>
   have HF:Aside (RES=2):=by show RES=2;rw[HK.out,if_pos (.inr (.inr (.inr h5)))]
   clear HK
   rcases h1 with rfl | rfl | rfl <;>
   ·go_enter Tryz.func27,Tryz.ntmps27
    go_wp2_with (go_at_call 48;refine(isWord_any _ _).mono ?_;(first | rw[h4] | rw[h5]);rintro e w' ⟨rfl,rfl⟩)
    go_ret
    exact⟨ret_num HF.out.symm,HB.out⟩
  | true =>
   have HF:Aside (RES=0):=by show RES=0;rw[HK.out,if_neg];simp[h4,h5];omega
   clear HK
   rcases h1 with rfl | rfl | rfl <;>
   ·go_enter Tryz.func27,Tryz.ntmps27
    go_wp2_with (go_at_call 48;refine(isWord_any _ _).mono ?_;(first | rw[h4] | rw[h5]);rintro e w' ⟨rfl,rfl⟩)
    go_ret
    exact⟨ret_num HF.out.symm,HB.out⟩
end
section
open Go.RowKit
def newFa (most:Int) (o g rc:Nat):Fa:=⟨0,-1,most,some ⟨o,0,none⟩,1,1,some ⟨g,0,none⟩,8,rc,-1,none,0,0,0⟩
def newRs (f:Nat):List (Value × Ob):=[(.slice (some ⟨f,0,none⟩) 2 2,⟨[numV 0,numV 0],false⟩)]
theorem ownsRow_lit {W:World} {base a n:Nat} {t:TypeId} {c:Array Value} {s:Nat} (h:W.heap[a]?=some (.cells c t (0,0))) (hb:base<=a) (hs:c.size=n*s) (hn:n<=maxLen):W.ownsRow base t s (.slice (some ⟨a,0,none⟩) n n) n c.toList :=
 ⟨by rw[Array.length_toList,hs],.inr ⟨a,n,c,rfl,hb,h,Nat.le_refl _,hn,hs,List.take_of_length_le (by rw[Array.length_toList,hs];exact Nat.le_refl _)⟩⟩
theorem newAc_own {W:World} {base f o g:Nat} {most:Int} (F:W.heap[f]?=some (.cells #[.int .i64 1,.int .i64 0,.int .i64 1,.int .i64 0] 66)) (O:W.heap[o]?=some (.cells #[.slice (some ⟨f,0,none⟩) 2 2,.bool false] 92))
  (R:W.heap[g]?=some (.cells #[.int .i64 2,.int .i64 0,.int .i64 0,.int .i64 0,.int .i64 0,.int .i64 0,.int .i64 0,.int .i64 0,.int .i64 0,.int .i64 0,.int .i64 0,.int .i64 0,.int .i64 0,.int .i64 0,.int .i64 0,.int .i64 0] 66)) (hf:base<=f) (ho:base<=o) (hg:base<=g):AcOwn W base (newFa most o g 8) (newRs f) (beginS 0 (-1) most [⟨[numV 0,numV 0],false⟩] ⟨2,0⟩):=by
 have hmx:maxLen=9223372036854775807:=rfl;refine⟨rfl,rfl,rfl,rfl,rfl,rfl,rfl,rfl,rfl,⟨?_,fun i p hp=>?_,fun i k p q hp hq hik=>?_,by simp[newRs]⟩,?_,World.ownsRow_nil _ _ _ _⟩
 ·exact ownsRow_lit (n:=1) O ho rfl (by omega)
 ·have hp0:i=0/\p=(.slice (some ⟨f,0,none⟩) 2 2,⟨[numV 0,numV 0],false⟩):=by
   obtain⟨h1,h2⟩:=List.getElem?_eq_some_iff.1 hp;simp[newRs] at h1 h2;exact⟨h1,h2.symm⟩
  obtain⟨rfl,rfl⟩:=hp0;exact⟨ownsRow_lit (n:=2) F hf rfl (by omega),by simp⟩
 ·have h1:=(List.getElem?_eq_some_iff.1 hp).1
  have h2:=(List.getElem?_eq_some_iff.1 hq).1;simp[newRs] at h1 h2;omega
 ·exact ownsRow_lit (n:=8) R hg rfl (by omega)
theorem wdown_new {W:World} {base Bw a f o g:Nat} {most:Int} (hB:W.heap[Bw]?=some (.cells #[.slice (some ⟨a,0,none⟩) 1 1,.slice none 0 0] 32))
  (T:W.heap[a]?=some (.cells #[.int .i64 0,.int .i64 (-1),.int .i64 most,.slice (some ⟨o,0,none⟩) 1 1,.slice (some ⟨g,0,none⟩) 8 8,.int .i64 (-1),.slice none 0 0,.int .i64 0] 50))
  (F:W.heap[f]?=some (.cells #[.int .i64 1,.int .i64 0,.int .i64 1,.int .i64 0] 66)) (O:W.heap[o]?=some (.cells #[.slice (some ⟨f,0,none⟩) 2 2,.bool false] 92))
  (R:W.heap[g]?=some (.cells #[.int .i64 2,.int .i64 0,.int .i64 0,.int .i64 0,.int .i64 0,.int .i64 0,.int .i64 0,.int .i64 0,.int .i64 0,.int .i64 0,.int .i64 0,.int .i64 0,.int .i64 0,.int .i64 0,.int .i64 0,.int .i64 0] 66)) (ha:base<=a) (hf:base<=f) (ho:base<=o) (hg:base<=g) (hnd:[Bw,a,o,f,g].Nodup) :
  WdOwn W base Bw (newW most) (.slice (some ⟨a,0,none⟩) 1 1) (.slice none 0 0) [newFa most o g 8] [newRs f]:=by
 have hmx:maxLen=9223372036854775807:=rfl;have hfoot:acFoot (newFa most o g 8) (newRs f)=[o,f,g]:=rfl;simp only[List.nodup_cons,List.mem_cons,List.not_mem_nil,or_false,not_or,not_false_eq_true,List.nodup_nil,and_true] at hnd;obtain⟨⟨n1,n2,n3,n4⟩,⟨n5,n6,n7⟩,⟨n8,n9⟩,n10⟩:=hnd;have get:∀ {i:Nat} {x:Fa} {t:List (Value × Ob)},[newFa most o g 8][i]?=some x->[newRs f][i]?=some t->i=0/\x=newFa most o g 8/\t=newRs f:=fun {i x t} h1 h2=>by
  obtain⟨h3,h4⟩:=List.getElem?_eq_some_iff.1 h1;obtain⟨h5,h6⟩:=List.getElem?_eq_some_iff.1 h2;simp at h3 h4 h6;exact⟨h3,h4.symm,h6.symm⟩
 refine⟨hB,ownsRow_lit (n:=1) T ha rfl (by omega),World.ownsRow_nil _ _ _ _,rfl,rfl,fun i x t y h1 h2 h3=>?_,?_,fun i x t h1 h2=>?_,fun i i' x t x' t' hii h1 h2 h3 h4=>?_⟩
 ·obtain⟨rfl,rfl,rfl⟩:=get h1 h2
  have:y=beginS 0 (-1) most [⟨[numV 0,numV 0],false⟩] ⟨2,0⟩:=by simp[newW] at h3;exact h3.symm
  subst this
  exact newAc_own F O R hf ho hg
 ·show [Bw,a].Nodup
  simp[n1]
 ·obtain⟨rfl,rfl,rfl⟩:=get h1 h2
  rw[hfoot];refine⟨by simp[n8,n9,n10],fun b hb hb'=>?_⟩;have hb2:b=Bw\/b=a:=by simpa[vB,Value.ownBlock] using hb'
  simp only[List.mem_cons,List.not_mem_nil,or_false] at hb
  rcases hb2 with rfl | rfl
  ·rcases hb with h | h | h
   ·exact n2 h
   ·exact n3 h
   ·exact n4 h
  ·rcases hb with h | h | h
   ·exact n5 h
   ·exact n6 h
   ·exact n7 h
 ·obtain⟨rfl,_,_⟩:=get h1 h2
  obtain⟨rfl,_,_⟩:=get h3 h4;exact absurd rfl hii
end
end Go.Proofs.YtepifccbbmdfcaaGreatDoor
