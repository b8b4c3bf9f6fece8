/- TSolo. -/
import Derived.Test.YtddokajfafmhhaaGreatDoorCBASound3
import Derived.Test.YtddokajfafmhhaaGreatDoorCETopAloneWCopy
namespace Go.Proofs.YtddokajfafmhhaaGreatDoor
set_option maxRecDepth 100000
set_option maxHeartbeats 8000000
section
open Go.RowKit
structure WdRows (w:World) (base:Nat) (V:Wd) (av pv:Value) (fl:List Fa) (rs:List (List (Value × Ob))):Prop where
 acts:SeqOwn fAc 8 42 w base av fl
 prints:SeqOwn fTl 2 71 w base pv V.prints
 flen:fl.length=V.acts.length
 rlen:rs.length=V.acts.length
 each:∀ (j:Nat) fa r x,fl[j]?=some fa->rs[j]?=some r->V.acts[j]?=some x->AcOwn w base fa r x
 apart0:(vB av++vB pv).Nodup
 apart1:∀ (j:Nat) fa r,fl[j]?=some fa->rs[j]?=some r->(acFoot fa r).Nodup/\∀ b∈acFoot fa r,b∉vB av++vB pv
 apart2:∀ (i j:Nat) fa r fb s,i≠j->fl[i]?=some fa->rs[i]?=some r->fl[j]?=some fb->rs[j]?=some s->∀ b∈acFoot fa r,b∉acFoot fb s
theorem AcOwn.base {w:World} {base base':Nat} {fa:Fa} {rows:List (Value × Ob)} {x:Ac} (h:AcOwn w base fa rows x) (hb:base'<=base):AcOwn w base' fa rows x :=
 { h with heap:=h.heap.base hb,regs:=ownsRow_base h.regs hb,box:=ownsRow_base h.box hb }
theorem AcOwn.ge {w:World} {base:Nat} {fa:Fa} {rows:List (Value × Ob)} {x:Ac} (h:AcOwn w base fa rows x):∀ b∈acFoot fa rows,base<=b/\b<w.heap.size:=fun b hb=>by
 simp only[acFoot,List.mem_append] at hb
 rcases hb with hb | (hb | hb)
 ·exact h.heap.blk_le b (List.mem_append.2 hb)
 ·exact World.ownsRow.lt h.regs b (mem_vB.1 hb)
 ·exact World.ownsRow.lt h.box b (mem_vB.1 hb)
theorem WdRows.own {w:World} {base base' Bw:Nat} {V:Wd} {av pv:Value} {fl:List Fa} {rs:List (List (Value × Ob))} (h:WdRows w base V av pv fl rs) (hB:w.heap[Bw]?=some (.cells #[av,pv] 29 (0,0))) (hlt:Bw<base) (hb:base'<=base):WdOwn w base' Bw V av pv fl rs where
 box:=hB
 acts:=ownsRow_base h.acts hb
 prints:=ownsRow_base h.prints hb
 flen:=h.flen
 rlen:=h.rlen
 each j fa r x h1 h2 h3:=(h.each j fa r x h1 h2 h3).base hb
 apart0:=List.nodup_cons.2 ⟨fun hm=>by
  rcases List.mem_append.1 hm with hm | hm
  ·have:=(World.ownsRow.lt h.acts Bw (mem_vB.1 hm)).1;omega
  ·have:=(World.ownsRow.lt h.prints Bw (mem_vB.1 hm)).1;omega,h.apart0⟩
 apart1 j fa r h1 h2:=⟨(h.apart1 j fa r h1 h2).1,fun b hb' hm=>by
  rcases List.mem_cons.1 hm with rfl | hm
  ·obtain⟨x,hx⟩:=at_some (l:=V.acts) (i:=j) (by rw[<- h.flen];exact(List.getElem?_eq_some_iff.1 h1).1)
   have:=((h.each j fa r x h1 h2 hx).ge _ hb').1;omega
  ·exact(h.apart1 j fa r h1 h2).2 b hb' hm⟩
 apart2:=h.apart2
def OwnedR (w:World) (B:Nat) (fa:Fa) (r:List (Value × Ob)) (x:Ac):Prop:=AcOwn w B fa r x/\(acFoot fa r).Nodup
theorem OwnedR.agree {w w':World} {B:Nat} {fa:Fa} {r:List (Value × Ob)} {x:Ac} (h:OwnedR w B fa r x) (ha:Agree B w w'):OwnedR w' B fa r x :=
 ⟨{ h.1 with heap:=h.1.heap.agree ha,regs:=ownsRow_agree h.1.regs ha,box:=ownsRow_agree h.1.box ha },h.2⟩
theorem foot_nodup {hv rv bv:Value} {rows:List (Value × Ob)} {m n:Nat} (hn:(vB hv++rowsB rows).Nodup) (h1:∀ b∈vB hv++rowsB rows,b<m) (h2:∀ b∈vB rv,m<=b/\b<n) (h3:∀ b∈vB bv,n<=b) (hmn:m<=n):((vB hv++rowsB rows)++(vB rv++vB bv)).Nodup:=by
 have one:∀ u:Value,(vB u).Nodup:=fun u=>by unfold vB;split <;> simp
 refine List.nodup_append.2 ⟨hn,List.nodup_append.2 ⟨one _,one _,fun a ha b hb e=>?_⟩,fun a ha b hb e=>?_⟩
 ·subst e
  have:=h2 a ha;have:=h3 a hb;omega
 ·subst e
  have:=h1 a ha
  rcases List.mem_append.1 hb with hb | hb
  ·have:=h2 a hb;omega
  ·have:=h3 a hb;omega
def CpMidR (W:World) (acts:List Ac) (fl:List Fa) (g B L:Nat) (i:Nat) (wr:World):Prop :=
 ∃ (fl':List Fa) (rs:List (List (Value × Ob))),fl'.length=L/\SeqOwn fAc 8 42 wr W.heap.size (.slice (some ⟨g,0,none⟩) L L) fl'/\rs.length=i/\(∀ (j:Nat) fa r x,fl'[j]?=some fa->rs[j]?=some r->acts[j]?=some x->OwnedR wr B fa r x) /\
  (∀ (k j:Nat) fa r fb s,k≠j->fl'[k]?=some fa->rs[k]?=some r->fl'[j]?=some fb->rs[j]?=some s->∀ b∈acFoot fa r,b∉acFoot fb s)/\(∀ j,i<=j->fl'[j]?=fl[j]?)/\Below W.heap.size W wr/\B<=wr.heap.size
theorem wcopy_own (aa pa:Option Addr) (ac pc:Nat) (V:Wd) (w:World) (ha:ActsAt w aa V.acts) (hp:ToldAt w pa V.prints) :
  Calls Tryz.prog 14 #[.agg #[.slice aa V.acts.length ac,.slice pa V.prints.length pc]] w fun e w'=>∃ ga gp fl rs,e=.returned (.agg #[.slice (some ⟨ga,0,none⟩) V.acts.length V.acts.length,.slice (some ⟨gp,0,none⟩) V.prints.length V.prints.length])/\Below w.heap.size w w'/\WdRows w' w.heap.size V (.slice (some ⟨ga,0,none⟩) V.acts.length V.acts.length) (.slice (some ⟨gp,0,none⟩) V.prints.length V.prints.length) fl rs:=by
 obtain⟨B0,B1,k1,b1,s1⟩:=boxes2 w (.cells #[.slice aa V.acts.length ac,.slice pa V.prints.length pc] 29) (.cells #[.slice none 0 0,.slice none 0 0] 29);obtain⟨fl,hfl,hS,hPt⟩:=acts_rows ha;have hm:=ha.many;have hm2:=hp.many;obtain⟨L,hL⟩:∃ L,L=V.acts.length:=⟨_,rfl⟩;obtain⟨K,hK⟩:∃ K,K=V.prints.length:=⟨_,rfl⟩;have HL:Aside (L=V.acts.length/\K=V.prints.length/\fl.length=L):=⟨hL,hK,hfl.trans hL.symm⟩;rw[<- hL] at hm B0 B1 k1 b1 s1 ⊢
 rw[<- hK] at hm2 B0 B1 k1 b1 s1 ⊢;clear hL hK hfl
 go_enter Tryz.func14,Tryz.ntmps14
 go_wp2_with fail
 generalize (w.alloc (.cells #[.slice aa L ac,.slice pa K pc] 29)).alloc (.cells #[.slice none 0 0,.slice none 0 0] 29)=W at *;have hcp:=copiedActs_any fl aa ac W (hS.keeps k1) (by rw[HL.out.2.2];exact hm);rw[HL.out.2.2] at hcp;refine hcp.mono ?_;rintro e w1 ⟨g,rfl,hg,hO,hb1⟩;have hPW:∀ (j:Nat) fa x,fl[j]?=some fa->V.acts[j]?=some x->Points W fa x:=fun j fa x h1 h2=>(hPt j fa x h1 h2).keeps k1
 have HMid:Aside (CpMidR W V.acts fl g w1.heap.size L 0 w1):=⟨fl,[],HL.out.2.2,hO,rfl,fun j fa r x _ hj=>by simp at hj,fun k j fa r fb s _ _ hj=>by simp at hj,fun j _=>rfl,hb1,Nat.le_refl _⟩;have hgl:g<w1.heap.size:=(hO.lt).2;have HPW:Aside (∀ (j:Nat) fa x,fl[j]?=some fa->V.acts[j]?=some x->Points W fa x):=hPW;clear hO hb1 hPt hS hcp hPW ha;generalize w1.heap.size=B at *
 go_wp2_with fail
 go_loopg [11] L (fun gg s11 wr=>∃ i:Nat,i<=L/\gg=L-i/\s11=.int .i64 i/\CpMidR W V.acts fl g B L i wr)
 case atStart=>exact⟨0,Nat.zero_le _,rfl,rfl,HMid.out⟩
 case round =>
  obtain⟨i,hi,rfl,rfl,hmid⟩:=hrel;clear HMid;obtain⟨fl',rs,hlen,hO,hrl0,hown,hap,hrest,hbr,hB⟩:=hmid;have HX:Aside (fl'.length=L/\(∀ (j:Nat) fa r x,fl'[j]?=some fa->rs[j]?=some r->V.acts[j]?=some x->OwnedR wr B fa r x)/\(∀ j,i<=j->fl'[j]?=fl[j]?)):=⟨hlen,hown,hrest⟩;have HA:Aside (rs.length=i/\∀ (k j:Nat) fa r fb s,k≠j->fl'[k]?=some fa->rs[k]?=some r->fl'[j]?=some fb->rs[j]?=some s->∀ b∈acFoot fa r,b∉acFoot fb s):=⟨hrl0,hap⟩
  clear hlen hown hrest hrl0 hap
  by_cases hiL:i<L
  ·have hiz:(i:Int)<(L:Int):=by omega
   obtain⟨fa,hfa⟩:=at_some (l:=fl') (i:=i) (by rw[HX.out.1];exact hiL);obtain⟨x,hx⟩:=at_some (l:=V.acts) (i:=i) (by rw[<- HL.out.1];exact hiL);have hPx:=HPW.out i fa x (by rw[<- HX.out.2.2 i (Nat.le_refl _)];exact hfa) hx;obtain⟨kind,par,M,oa,on,oc,ra,rn,rc,pc',ba,bn,bc,fin⟩:=fa;obtain⟨kind',par',M',obs,regs,pc2,box,fin'⟩:=x;obtain⟨⟨h1,h2,h3,h4,h5,h6,h7,h8,hrl,hbl⟩,vo,vr,vb⟩:=hPx;simp only at h1 h2 h3 h4 h5 h6 h7 h8 hrl hbl vo vr vb
   subst h1 h2 h3 h4 h5 h6 h7 h8;have HF:Aside (fl'[i]?=some ⟨kind,par,M,oa,obs.length,oc,ra,regs.length,rc,pc',ba,box.length,bc,fin⟩/\V.acts[i]?=some ⟨kind,par,M,obs,regs,pc',box,fin⟩):=⟨hfa,hx⟩;clear hfa hx;obtain⟨b',o',e',hc⟩:=SeqOwn.at (f:=fAc) (s:=8) (fun _=>rfl) hO i _ HF.out.1;simp only[Option.some.injEq,Addr.mk.injEq,and_true] at e';obtain⟨rfl,rfl⟩:=e';have i0:=hc 0 _ rfl;have i1:=hc 1 _ rfl
   have i2:=hc 2 _ rfl;have i3:=hc 3 _ rfl;have i4:=hc 4 _ rfl;have i5:=hc 5 _ rfl;have i6:=hc 6 _ rfl;have i7:=hc 7 _ rfl;simp only[Nat.zero_add,Nat.add_zero] at i0 i1 i2 i3 i4 i5 i6 i7;clear hc;obtain⟨E0,kx,bx,sx⟩:=boxes1 wr (.cells #[.int .i64 kind,.int .i64 par,.int .i64 M,.slice oa obs.length oc,.slice ra regs.length rc,.int .i64 pc',.slice ba box.length bc,.int .i64 fin] 42)
   go_upto_region 5 with fail
   clear i0 i1 i2 i3 i4 i5 i6 i7;generalize wr.alloc (.cells #[.int .i64 kind,.int .i64 par,.int .i64 M,.slice oa obs.length oc,.slice ra regs.length rc,.int .i64 pc',.slice ba box.length bc,.int .i64 fin] 42)=Wx at *;have hOx:=hO.below bx;have agx:Agree B wr Wx:=Agree.below bx;have bWx:=hbr.trans (bx.mono hbr.size);have e2:=cell_blk E0 2;have e3:=cell_blk E0 3;simp at e2 e3
   go_wp2_with fail
   refine(clone_any M oa oc obs Wx (vo.keeps (Keeps.below bWx))).mono ?_;rintro e w2 ⟨g2,rows,rfl,hrows,hH,hb2⟩;have hO2:=hOx.below hb2;have ag2:=agx.trans (Agree.below hb2);have bW2:=bWx.trans (hb2.mono bWx.size);have E2:=(hb2.block _ (by omega)).trans E0;have hH2:=hH.le (base':=B) (by omega);have HLOW:Aside ((∀ b∈vB (.slice (some ⟨g2,0,none⟩) obs.length obs.length)++rowsB rows,wr.heap.size<=b/\b<w2.heap.size)/\(vB (.slice (some ⟨g2,0,none⟩) obs.length obs.length)++rowsB rows).Nodup):=⟨fun b hb=>by have:=hH.blk_le b hb;omega,hH.nodup⟩
   have hs2:wr.heap.size<w2.heap.size:=by have:=hb2.size;omega
   have HSW:Aside (wr.heap.size<=w2.heap.size):=Nat.le_of_lt hs2;obtain⟨b',o',e',hc⟩:=SeqOwn.at (f:=fAc) (s:=8) (fun _=>rfl) hO2 i _ HF.out.1;simp only[Option.some.injEq,Addr.mk.injEq,and_true] at e';obtain⟨rfl,rfl⟩:=e';have j2:=hc 2 _ rfl;have j3:=hc 3 _ rfl;simp only[Nat.zero_add] at j2 j3;have z2:=ownsRow_frozen hO2 rfl (i*8+2);have z3:=ownsRow_frozen hO2 rfl (i*8+3);clear hc hOx agx bWx E0 hH hb2 e2 e3 kx bx sx
   go_upto_region 6 with fail
   have hO3:=SeqOwn.set1 (f:=fAc) (s:=8) (fun _=>rfl) (SeqOwn.set1 (f:=fAc) (s:=8) (fun _=>rfl) hO2 (k:=2) (u:=.int .i64 M) (y:=⟨kind,par,M,oa,obs.length,oc,ra,regs.length,rc,pc',ba,box.length,bc,fin⟩) HF.out.1 (by omega) rfl) (i:=i) (k:=3) (u:=(.slice (some ⟨g2,0,none⟩) obs.length obs.length)) (x:=⟨kind,par,M,oa,obs.length,oc,ra,regs.length,rc,pc',ba,box.length,bc,fin⟩) (y:=⟨kind,par,M,some ⟨g2,0,none⟩,obs.length,obs.length,ra,regs.length,rc,pc',ba,box.length,bc,fin⟩) (by rw[List.getElem?_set,if_pos rfl,if_pos (by rw[HX.out.1];exact hiL)]) (by omega) rfl
   rw[List.set_set] at hO3;have ag3:=ag2.trans ((Agree.set w2 hgl (i*8+2) (.int .i64 M)).trans (Agree.set _ hgl (i*8+3) (.slice (some ⟨g2,0,none⟩) obs.length obs.length)));have hH3:=hH2.agree ((Agree.set w2 hgl (i*8+2) (.int .i64 M)).trans (Agree.set _ hgl (i*8+3) (.slice (some ⟨g2,0,none⟩) obs.length obs.length)));have bW3:=two_below bW2 hg (i*8+2) (i*8+3) (.int .i64 M) (.slice (some ⟨g2,0,none⟩) obs.length obs.length)
   have E3:=(two_other (i*8+2) (i*8+3) (.int .i64 M) (.slice (some ⟨g2,0,none⟩) obs.length obs.length) (show wr.heap.size≠g by omega)).trans E2;have s3:=two_size w2 g (i*8+2) (i*8+3) (.int .i64 M) (.slice (some ⟨g2,0,none⟩) obs.length obs.length);have hs3:wr.heap.size<((w2.setCell ⟨g,i*8+2,none⟩ (.int .i64 M)).setCell ⟨g,i*8+3,none⟩ (.slice (some ⟨g2,0,none⟩) obs.length obs.length)).heap.size:=by rw[s3];exact hs2
   have HS3:Aside (w2.heap.size<=((w2.setCell ⟨g,i*8+2,none⟩ (.int .i64 M)).setCell ⟨g,i*8+3,none⟩ (.slice (some ⟨g2,0,none⟩) obs.length obs.length)).heap.size):=by show _<=_;rw[s3];exact Nat.le_refl _
   clear s3 j2 j3 z2 z3 hO2 ag2 hH2 bW2 E2 hs2;generalize (w2.setCell ⟨g,i*8+2,none⟩ (.int .i64 M)).setCell ⟨g,i*8+3,none⟩ (.slice (some ⟨g2,0,none⟩) obs.length obs.length)=W3 at *;have e4:=cell_blk E3 4;simp at e4
   go_wp2_with fail
   refine(copiedVals_any regs ra rc W3 (seqVl_of (vr.keeps (Keeps.below bW3))) hrl).mono ?_;rintro e w4 ⟨gr,rfl,hgr,hR,hb4⟩;have q1:=hO3.below hb4;have HR4:Aside (∀ b∈vB (.slice (some ⟨gr,0,none⟩) regs.length regs.length),W3.heap.size<=b/\b<w4.heap.size):=fun b hb=>World.ownsRow.lt hR b (mem_vB.1 hb)
   have r1:SeqOwn fVl 2 86 w4 B (.slice (some ⟨gr,0,none⟩) regs.length regs.length) regs:=ownsRow_le hR (by have:=ag3.1;omega);have bA1:=bW3.trans (hb4.mono bW3.size);have aA1:Agree B W3 w4:=Agree.below hb4;have EA1:=(hb4.block _ hs3).trans E3;have sA1:wr.heap.size<w4.heap.size:=Nat.lt_of_lt_of_le hs3 hb4.size;obtain⟨b',o',e',hc⟩:=SeqOwn.at (f:=fAc) (s:=8) (fun _=>rfl) q1 i ⟨kind,par,M,some ⟨g2,0,none⟩,obs.length,obs.length,ra,regs.length,rc,pc',ba,box.length,bc,fin⟩ (by rw[List.getElem?_set,if_pos rfl,if_pos (by rw[HX.out.1];exact hiL)])
   simp only[Option.some.injEq,Addr.mk.injEq,and_true] at e';obtain⟨rfl,rfl⟩:=e';have jA:=hc 4 _ rfl;simp only[Nat.zero_add] at jA;have zA:=ownsRow_frozen q1 rfl (i*8+4);clear hc hR bW3 E3 hs3 hO3 e4
   go_upto_region 7 with fail
   have hO5:=SeqOwn.set1 (f:=fAc) (s:=8) (fun _=>rfl) q1 (i:=i) (k:=4) (u:=(.slice (some ⟨gr,0,none⟩) regs.length regs.length)) (x:=⟨kind,par,M,some ⟨g2,0,none⟩,obs.length,obs.length,ra,regs.length,rc,pc',ba,box.length,bc,fin⟩) (y:=⟨kind,par,M,some ⟨g2,0,none⟩,obs.length,obs.length,some ⟨gr,0,none⟩,regs.length,regs.length,pc',ba,box.length,bc,fin⟩) (by rw[List.getElem?_set,if_pos rfl,if_pos (by rw[HX.out.1];exact hiL)]) (by omega) rfl
   rw[List.set_set] at hO5;have aB1:=aA1.trans (Agree.set w4 hgl (i*8+4) (.slice (some ⟨gr,0,none⟩) regs.length regs.length));have ag5:=ag3.trans aB1;have bW5:Below W.heap.size W (w4.setCell ⟨g,i*8+4,none⟩ (.slice (some ⟨gr,0,none⟩) regs.length regs.length)):=bA1.setCell hg _;have E5:=(Deep.blk_setCell_other w4 ⟨g,i*8+4,none⟩ (.slice (some ⟨gr,0,none⟩) regs.length regs.length) _ (show wr.heap.size≠g by omega)).trans EA1
   have hR5:=ownsRow_agree r1 (Agree.set w4 hgl (i*8+4) (.slice (some ⟨gr,0,none⟩) regs.length regs.length));have hH5:=hH3.agree aB1;have hs5:wr.heap.size<(w4.setCell ⟨g,i*8+4,none⟩ (.slice (some ⟨gr,0,none⟩) regs.length regs.length)).heap.size:=by rw[show(w4.setCell ⟨g,i*8+4,none⟩ (.slice (some ⟨gr,0,none⟩) regs.length regs.length)).heap.size=w4.heap.size by simp[World.setCell]];exact sA1
   have HS5:Aside (w4.heap.size<=(w4.setCell ⟨g,i*8+4,none⟩ (.slice (some ⟨gr,0,none⟩) regs.length regs.length)).heap.size/\W3.heap.size<=w4.heap.size):=⟨by simp[World.setCell],hb4.size⟩;clear q1 r1 bA1 aA1 EA1 sA1 jA zA aB1 ag3;generalize w4.setCell ⟨g,i*8+4,none⟩ (.slice (some ⟨gr,0,none⟩) regs.length regs.length)=W5 at *;have e6:=cell_blk E5 6;simp at e6
   go_wp2_with fail
   refine(copiedVals_any box ba bc W5 (seqVl_of (vb.keeps (Keeps.below bW5))) hbl).mono ?_;rintro e w6 ⟨gb,rfl,hgb,hX,hb6⟩;have q2:=hO5.below hb6;have HR6:Aside (∀ b∈vB (.slice (some ⟨gb,0,none⟩) box.length box.length),W5.heap.size<=b/\b<w6.heap.size):=fun b hb=>World.ownsRow.lt hX b (mem_vB.1 hb)
   have r2:SeqOwn fVl 2 86 w6 B (.slice (some ⟨gb,0,none⟩) box.length box.length) box:=ownsRow_le hX (by have:=ag5.1;omega);have bA2:=bW5.trans (hb6.mono bW5.size);have aA2:Agree B W5 w6:=Agree.below hb6;have EA2:=(hb6.block _ hs5).trans E5;have sA2:wr.heap.size<w6.heap.size:=Nat.lt_of_lt_of_le hs5 hb6.size;obtain⟨b',o',e',hc⟩:=SeqOwn.at (f:=fAc) (s:=8) (fun _=>rfl) q2 i ⟨kind,par,M,some ⟨g2,0,none⟩,obs.length,obs.length,some ⟨gr,0,none⟩,regs.length,regs.length,pc',ba,box.length,bc,fin⟩ (by rw[List.getElem?_set,if_pos rfl,if_pos (by rw[HX.out.1];exact hiL)])
   simp only[Option.some.injEq,Addr.mk.injEq,and_true] at e';obtain⟨rfl,rfl⟩:=e';have jA:=hc 6 _ rfl;simp only[Nat.zero_add] at jA;have zA:=ownsRow_frozen q2 rfl (i*8+6);clear hc hX bW5 E5 hs5 hO5 e6
   go_upto_region 8 with fail
   have hO7:=SeqOwn.set1 (f:=fAc) (s:=8) (fun _=>rfl) q2 (i:=i) (k:=6) (u:=(.slice (some ⟨gb,0,none⟩) box.length box.length)) (x:=⟨kind,par,M,some ⟨g2,0,none⟩,obs.length,obs.length,some ⟨gr,0,none⟩,regs.length,regs.length,pc',ba,box.length,bc,fin⟩) (y:=⟨kind,par,M,some ⟨g2,0,none⟩,obs.length,obs.length,some ⟨gr,0,none⟩,regs.length,regs.length,pc',some ⟨gb,0,none⟩,box.length,box.length,fin⟩) (by rw[List.getElem?_set,if_pos rfl,if_pos (by rw[HX.out.1];exact hiL)]) (by omega) rfl
   rw[List.set_set] at hO7;have aB2:=aA2.trans (Agree.set w6 hgl (i*8+6) (.slice (some ⟨gb,0,none⟩) box.length box.length));have ag7:=ag5.trans aB2;have bW7:Below W.heap.size W (w6.setCell ⟨g,i*8+6,none⟩ (.slice (some ⟨gb,0,none⟩) box.length box.length)):=bA2.setCell hg _;have E7:=(Deep.blk_setCell_other w6 ⟨g,i*8+6,none⟩ (.slice (some ⟨gb,0,none⟩) box.length box.length) _ (show wr.heap.size≠g by omega)).trans EA2
   have hX7:=ownsRow_agree r2 (Agree.set w6 hgl (i*8+6) (.slice (some ⟨gb,0,none⟩) box.length box.length));have hH7:=hH5.agree aB2;have hR7:=ownsRow_agree hR5 aB2;have hs7:wr.heap.size<(w6.setCell ⟨g,i*8+6,none⟩ (.slice (some ⟨gb,0,none⟩) box.length box.length)).heap.size:=by rw[show(w6.setCell ⟨g,i*8+6,none⟩ (.slice (some ⟨gb,0,none⟩) box.length box.length)).heap.size=w6.heap.size by simp[World.setCell]];exact sA2
   clear q2 r2 bA2 aA2 EA2 sA2 jA zA aB2 ag5;generalize w6.setCell ⟨g,i*8+6,none⟩ (.slice (some ⟨gb,0,none⟩) box.length box.length)=W7 at *;have HMid:Aside (CpMidR W V.acts fl g B L (i+1) W7):=by
    have s35:W3.heap.size<=w4.heap.size:=HS5.out.2;have s45:w4.heap.size<=W5.heap.size:=HS5.out.1;have s23:w2.heap.size<=W3.heap.size:=HS3.out;have hge:wr.heap.size<=w2.heap.size:=HSW.out;have hfoot:∀ b∈acFoot ⟨kind,par,M,some ⟨g2,0,none⟩,obs.length,obs.length,some ⟨gr,0,none⟩,regs.length,regs.length,pc',some ⟨gb,0,none⟩,box.length,box.length,fin⟩ rows,wr.heap.size<=b:=fun b hb=>by
     rcases List.mem_append.1 hb with hb | hb
     ·exact(HLOW.out.1 b hb).1
     ·rcases List.mem_append.1 hb with hb | hb
      ·have:=HR4.out b hb;omega
      ·have:=HR6.out b hb;omega
    have hget:∀ {j:Nat} {fa:Fa} {r:List (Value × Ob)},(fl'.set i ⟨kind,par,M,some ⟨g2,0,none⟩,obs.length,obs.length,some ⟨gr,0,none⟩,regs.length,regs.length,pc',some ⟨gb,0,none⟩,box.length,box.length,fin⟩)[j]?=some fa->(rs++[rows])[j]?=some r->(j=i/\fa=⟨kind,par,M,some ⟨g2,0,none⟩,obs.length,obs.length,some ⟨gr,0,none⟩,regs.length,regs.length,pc',some ⟨gb,0,none⟩,box.length,box.length,fin⟩/\r=rows)\/(j<i/\fl'[j]?=some fa/\rs[j]?=some r):=fun {j fa r} h1 h2=>by
     by_cases hji:j=i
     ·subst hji
      rw[List.getElem?_set,if_pos rfl,if_pos (by rw[HX.out.1];exact hiL)] at h1;rw[List.getElem?_append_right (by rw[HA.out.1];exact Nat.le_refl _),HA.out.1,Nat.sub_self] at h2;simp only[Option.some.injEq,List.getElem?_cons_zero] at h1 h2;exact .inl ⟨rfl,h1.symm,h2.symm⟩
     ·have hjl:j<(rs++[rows]).length:=(List.getElem?_eq_some_iff.1 h2).1
      rw[List.length_append,HA.out.1] at hjl;simp only[List.length_cons,List.length_nil] at hjl;rw[List.getElem?_set,if_neg (fun h=>hji h.symm)] at h1;rw[List.getElem?_append_left (by rw[HA.out.1];omega)] at h2;exact .inr ⟨by omega,h1,h2⟩
    have hold:∀ {j:Nat} {fa:Fa} {r:List (Value × Ob)},j<i->fl'[j]?=some fa->rs[j]?=some r->∀ b∈acFoot fa r,b<wr.heap.size:=fun {j fa r} hj h1 h2 b hb=>by
     obtain⟨x,hx⟩:=at_some (l:=V.acts) (i:=j) (by have:=HL.out.1;omega);exact((HX.out.2.1 j fa r x h1 h2 hx).1.ge b hb).2
    refine⟨_,rs++[rows],?_,hO7,?_,fun j fa r x hfa hr hx=>?_,fun k j fa r fb s hkj h1 h2 h3 h4 b hb hb'=>?_,fun j hj=>?_,bW7,by have:=ag7.1;omega⟩
    ·rw[List.length_set];exact HX.out.1
    ·rw[List.length_append,HA.out.1];rfl
    ·rcases hget hfa hr with⟨rfl,rfl,rfl⟩ | ⟨hj,h1,h2⟩
     ·rw[HF.out.2] at hx
      simp only[Option.some.injEq] at hx;subst hx;exact⟨⟨rfl,rfl,rfl,rfl,rfl,rfl,rfl,rfl,hrows,hH7,hR7,hX7⟩,foot_nodup (m:=w2.heap.size) (n:=w4.heap.size) HLOW.out.2 (fun b hb=>(HLOW.out.1 b hb).2) (fun b hb=>by have:=HR4.out b hb;omega) (fun b hb=>by have:=HR6.out b hb;omega) (by omega)⟩
     ·exact(HX.out.2.1 j fa r x h1 h2 hx).agree ag7
    ·rcases hget h1 h2 with⟨rfl,rfl,rfl⟩ | ⟨hk,k1,k2⟩ <;> rcases hget h3 h4 with⟨rfl,rfl,rfl⟩ | ⟨hj,j1,j2⟩
     ·exact hkj rfl
     ·have:=hfoot b hb;have:=hold hj j1 j2 b hb';omega
     ·have:=hfoot b hb';have:=hold hk k1 k2 b hb;omega
     ·exact HA.out.2 k j fa r fb s hkj k1 k2 j1 j2 b hb hb'
    ·rw[List.getElem?_set,if_neg (by omega)]
     exact HX.out.2.2 j (by omega)
   clear hO7 hH7 hR7 hX7 ag7 bW7 E7 hs7 hO vo vr vb hrows
   go_wp2_with fail
   go_roundg (L-(i+1))
   case measure=>go_light;omega
   case rel=>go_light;exact⟨i+1,by omega,rfl,by go_num,HMid.out⟩
  ·obtain rfl:i=L:=by omega
   have c1:=Keeps.below hbr _ (.slice pa K pc) (cell_blk B0 1);have hpr:=(hp.keeps k1).keeps (Keeps.below hbr);have hW1:w.heap.size+1<W.heap.size:=by omega
   have N1:=(hbr.block _ hW1).trans B1;have hsr:=hbr.size;clear B0 B1 hp k1 s1
   go_wp2_with fail
   have hcp:=copiedTold_any V.prints pa pc wr (seqTl_of hpr) (by rw[<- HL.out.2.1];exact hm2);rw[<- HL.out.2.1] at hcp;refine hcp.mono ?_;rintro e w6 ⟨gp,rfl,hgp,hTl,hb6⟩;have N6:=(hb6.block _ (by omega)).trans N1;have e0:=cell_blk N6 0;have e1:=cell_blk N6 1;have g0:=fz_blk N6 0;have g1:=fz_blk N6 1;simp at e0 e1;have bF:=put2_below (b1.trans ((hbr.trans (hb6.mono hbr.size)).mono b1.size)) (Nat.le_succ _) (A:=w.heap.size+1) (.slice (some ⟨g,0,none⟩) i i) (.slice (some ⟨gp,0,none⟩) K K)
   have ag:∀ Q,w.heap.size+1<Q->Agree Q w6 (put2 w6 (w.heap.size+1) (.slice (some ⟨g,0,none⟩) i i) (.slice (some ⟨gp,0,none⟩) K K)):=fun Q hQ=>(Agree.set w6 hQ 0 (.slice (some ⟨g,0,none⟩) i i)).trans (Agree.set _ hQ 1 (.slice (some ⟨gp,0,none⟩) K K))
   have hO6:=ownsRow_agree hO ((Agree.below hb6).trans (ag _ hW1));have hT6:=ownsRow_agree hTl (ag _ (by omega));have M:=put2_blk N6 (.slice (some ⟨g,0,none⟩) i i) (.slice (some ⟨gp,0,none⟩) K K);have hgp6:∀ b∈vB (.slice (some ⟨gp,0,none⟩) K K),wr.heap.size<=b:=fun b hb=>(World.ownsRow.lt hTl b (mem_vB.1 hb)).1
   have hg6:∀ b∈vB (.slice (some ⟨g,0,none⟩) i i),b<B:=fun b hb=>by rw[mem_vB] at hb;simp only[Value.ownBlock,Option.some.injEq] at hb;omega
   have hW1s:W.heap.size<=wr.heap.size:=hbr.size;have hown:∀ (j:Nat) fa r x,fl'[j]?=some fa->rs[j]?=some r->V.acts[j]?=some x->OwnedR (put2 w6 (w.heap.size+1) (.slice (some ⟨g,0,none⟩) i i) (.slice (some ⟨gp,0,none⟩) K K)) B fa r x:=fun j fa r x hfa hr hx =>
    (HX.out.2.1 j fa r x hfa hr hx).agree ((Agree.below hb6).trans (ag B (by omega)))
   have HFin:Aside (WdRows (put2 w6 (w.heap.size+1) (.slice (some ⟨g,0,none⟩) i i) (.slice (some ⟨gp,0,none⟩) K K)) w.heap.size V (.slice (some ⟨g,0,none⟩) i i) (.slice (some ⟨gp,0,none⟩) K K) fl' rs):=by
    have hbase:w.heap.size<=W.heap.size:=by omega
    have one:∀ u:Value,(vB u).Nodup:=fun u=>by unfold vB;split <;> simp
    refine⟨ownsRow_base hO6 hbase,ownsRow_base hT6 (by omega),HX.out.1.trans HL.out.1,HA.out.1.trans HL.out.1,fun j fa r x h1 h2 h3=>(hown j fa r x h1 h2 h3).1.base (by omega),List.nodup_append.2 ⟨one _,one _,fun a ha' b hb e=>?_⟩,fun j fa r h1 h2=>?_,HA.out.2⟩
    ·subst e
     have:=hg6 a ha';have:=hgp6 a hb;omega
    ·obtain⟨x,hx⟩:=at_some (l:=V.acts) (i:=j) (by have:=HL.out.1;have:=(List.getElem?_eq_some_iff.1 h2).1;have:=HA.out.1;omega)
     refine⟨(hown j fa r x h1 h2 hx).2,fun b hb hm=>?_⟩;have hq:=(HX.out.2.1 j fa r x h1 h2 hx).1.ge b hb
     rcases List.mem_append.1 hm with hm | hm
     ·have:=hg6 b hm;omega
     ·have:=hgp6 b hm;omega
   clear hO6 hT6 hown ag hO hTl hpr hcp N1 N6 c1 hb6 hbr
   go_wp2_with fail
   change bodyPost _ _ _ _ _ (put2 w6 (w.heap.size+1) (.slice (some ⟨g,0,none⟩) i i) (.slice (some ⟨gp,0,none⟩) K K))
   generalize put2 w6 (w.heap.size+1) (.slice (some ⟨g,0,none⟩) i i) (.slice (some ⟨gp,0,none⟩) K K)=WF at *;have m0:=cell_blk M 0;have m1:=cell_blk M 1;simp at m0 m1;exact bodyPost_ret (v:=.agg #[.slice (some ⟨g,0,none⟩) i i,.slice (some ⟨gp,0,none⟩) K K]) (by simp[results,Tryz.results14,go_sem,m0,m1]) rfl ⟨g,gp,fl',rs,rfl,bF,HFin.out⟩
end
section
theorem tell_prints (w:Wd) (tq n m:Int):(tellS w tq n m).prints=w.prints:=by
 unfold tellS
 split <;> rfl
theorem tell_acts (w:Wd) (tq n m:Int):(tellS w tq n m).acts.length=w.acts.length:=by
 unfold tellS
 split
 ·exact put_len _ _ _
 ·rfl
theorem end_prints (w:Wd) (who:Nat) (way:Int):(endS w who way).prints=w.prints:=(tell_prints _ _ _ _).trans rfl
theorem end_acts (w:Wd) (who:Nat) (way:Int):(endS w who way).acts.length=w.acts.length:=(tell_acts _ _ _ _).trans (put_len _ _ _)
theorem arrive_rest (w:Wd) (who:Nat) (tq:Int) (t:TrR):(arriveS w who tq t).prints=w.prints/\(arriveS w who tq t).acts.length=w.acts.length:=by
 unfold arriveS
 split
 ·exact⟨rfl,rfl⟩
 ·exact⟨rfl,by rw[put_len,put_len]⟩
theorem gone_rest (w:Wd) (who:Nat) (i:Ins):(goneS w who i).prints=w.prints/\(goneS w who i).acts.length=w.acts.length:=by
 unfold goneS
 split
 ·exact⟨rfl,rfl⟩
 split
 ·exact⟨rfl,put_len _ _ _⟩
 ·unfold deliverS
  split
  ·have:=arrive_rest (w.put ((w.at who).reg i.b).n (clearS (w.at ((w.at who).reg i.b).n))) who ((w.at who).reg i.b).n (trW (w.put ((w.at who).reg i.b).n (clearS (w.at ((w.at who).reg i.b).n))) who i.a ((w.at who).reg i.b).n (decide (i.op=13)))
   exact⟨this.1,this.2.trans (put_len _ _ _)⟩
  ·exact arrive_rest _ _ _ _
theorem perform_rest (w:Wd) (who:Nat) (i:Ins):(w.prints <+: (performS w who i).1.prints/\(performS w who i).1.prints.length<=w.prints.length+1)/\w.acts.length<=(performS w who i).1.acts.length/\(performS w who i).1.acts.length<=w.acts.length+1:=by
 unfold performS
 split
 ·unfold sendS
  split
  ·exact⟨⟨List.prefix_refl _,Nat.le_succ _⟩,Nat.le_refl _,Nat.le_succ _⟩
  have hg:=gone_rest w who i
  split
  ·refine⟨by show w.prints <+: (goneS w who i).prints/\(goneS w who i).prints.length<=_;rw[hg.1];exact⟨List.prefix_refl _,Nat.le_succ _⟩,?_,?_⟩ <;> (show _<=_;rw[put_len,hg.2];omega)
  ·exact⟨by rw[hg.1];exact⟨List.prefix_refl _,Nat.le_succ _⟩,by rw[hg.2];exact Nat.le_refl _,by rw[hg.2];omega⟩
 split
 ·unfold reportS
  split
  ·exact⟨⟨List.prefix_refl _,Nat.le_succ _⟩,Nat.le_refl _,Nat.le_succ _⟩
  split
  ·exact⟨⟨List.prefix_append _ _,by simp⟩,Nat.le_refl _,Nat.le_succ _⟩
  ·exact⟨⟨List.prefix_refl _,Nat.le_succ _⟩,Nat.le_refl _,Nat.le_succ _⟩
 split
 ·unfold spawnS
  split
  ·exact⟨⟨List.prefix_refl _,Nat.le_succ _⟩,Nat.le_refl _,Nat.le_succ _⟩
  split
  ·exact⟨⟨List.prefix_refl _,Nat.le_succ _⟩,Nat.le_refl _,Nat.le_succ _⟩
  split
  ·exact⟨⟨List.prefix_refl _,Nat.le_succ _⟩,Nat.le_refl _,Nat.le_succ _⟩
  ·refine⟨⟨List.prefix_refl _,Nat.le_succ _⟩,?_,?_⟩ <;> (show _<=_;rw[List.length_append,put_len];simp)
 ·exact⟨⟨List.prefix_refl _,Nat.le_succ _⟩,by rw[put_len];exact Nat.le_refl _,by rw[put_len];omega⟩
theorem act_rest (X:Nat->Nat->Nat->Int) (w:Wd) (a:Ax):(w.prints <+: (actS X w a).prints/\(actS X w a).prints.length<=w.prints.length+1)/\w.acts.length<=(actS X w a).acts.length/\(actS X w a).acts.length<=w.acts.length+1:=by
 unfold actS
 split
 ·exact⟨⟨List.prefix_refl _,Nat.le_succ _⟩,Nat.le_refl _,Nat.le_succ _⟩
 split
 ·unfold stepS
  split
  ·exact⟨⟨List.prefix_refl _,Nat.le_succ _⟩,Nat.le_refl _,Nat.le_succ _⟩
  split
  ·exact⟨⟨List.prefix_refl _,Nat.le_succ _⟩,by rw[put_len];exact Nat.le_refl _,by rw[put_len];omega⟩
  ·have hp:=perform_rest (w.put a.who.toNat { (w.at a.who.toNat) with pc:=nextS (w.at a.who.toNat) (insAt X (w.at a.who.toNat).kind (w.at a.who.toNat).pc) }) a.who.toNat (insAt X (w.at a.who.toNat).kind (w.at a.who.toNat).pc)
   rw[put_len] at hp
   unfold doneS
   split
   ·rw[end_prints,end_acts];exact hp
   ·exact hp
 split
 ·exact⟨⟨List.prefix_refl _,Nat.le_succ _⟩,by rw[put_len];exact Nat.le_refl _,by rw[put_len];omega⟩
 ·rw[tell_prints,tell_acts];exact⟨⟨List.prefix_refl _,Nat.le_succ _⟩,Nat.le_refl _,Nat.le_succ _⟩
def soloS (X:Nat->Nat->Nat->Int) (n:Nat) (a:Ac):Ac × Int :=
 if a.fin≠0 then (a,0) else if a.pc=-1 then (takeS a,0)
 else aloneS { a with pc:=nextS a (insAt X a.kind a.pc) } n (insAt X a.kind a.pc)
def soloOk (X:Nat->Nat->Nat->Int) (n:Nat) (a:Ac):Prop:=a.fin≠0\/a.pc=-1 \/
 (((insAt X a.kind a.pc).op≠13/\(insAt X a.kind a.pc).op≠14/\(insAt X a.kind a.pc).op≠15/\(insAt X a.kind a.pc).op≠17)/\(soloS X n a).2=0)
theorem put_at_self {w:Wd} {n:Nat} (hn:n<w.acts.length):w.put (n:Int) (w.at (n:Int))=w:=by
 have h:w.acts[n]?=some (w.at (n:Int)):=by
  unfold Wd.at
  rw[Int.toNat_natCast,List.getElem?_eq_getElem hn]
  rfl
 unfold Wd.put
 rw[Int.toNat_natCast];obtain⟨h1,h2⟩:=List.getElem?_eq_some_iff.1 h;rw[<- h2,List.set_getElem_self]
theorem put_put (w:Wd) (n:Int) (a b:Ac):(w.put n a).put n b=w.put n b:=by simp[Wd.put]
theorem step_solo {X:Nat->Nat->Nat->Int} {w:Wd} {n:Nat} (hn:n<w.acts.length) (h:soloOk X n (w.at n)):stepS X w n=w.put n (soloS X n (w.at n)).1:=by
 by_cases hf:(w.at n).fin=0
 ·have hl:livesS w n=true:=lives_iff.2 ⟨⟨by omega,by omega⟩,hf⟩
  unfold stepS
  rw[hl,if_neg (by simp)]
  by_cases hp:(w.at n).pc=-1
  ·have e:soloS X n (w.at n)=(takeS (w.at n),0):=by unfold soloS;rw[if_neg (by simp[hf]),if_pos hp]
   rw[e,if_pos hp]
  ·have e:soloS X n (w.at n)=aloneS { (w.at n) with pc:=nextS (w.at n) (insAt X (w.at n).kind (w.at n).pc) } n (insAt X (w.at n).kind (w.at n).pc):=by unfold soloS;rw[if_neg (by simp[hf]),if_neg hp]
   unfold soloOk at h
   rw[if_neg hp];rw[e] at h ⊢
   rcases h with h | h | ⟨⟨o1,o2,o3,o4⟩,h2⟩
   ·exact absurd hf h
   ·exact absurd h hp
   ·have hP:performS (w.put n { (w.at n) with pc:=nextS (w.at n) (insAt X (w.at n).kind (w.at n).pc) }) n (insAt X (w.at n).kind (w.at n).pc)=(w.put n (aloneS { (w.at n) with pc:=nextS (w.at n) (insAt X (w.at n).kind (w.at n).pc) } n (insAt X (w.at n).kind (w.at n).pc)).1,(aloneS { (w.at n) with pc:=nextS (w.at n) (insAt X (w.at n).kind (w.at n).pc) } n (insAt X (w.at n).kind (w.at n).pc)).2):=by
     unfold performS
     rw[if_neg (by omega),if_neg o3,if_neg o4,at_put hn,if_pos rfl,put_put]
    unfold doneS
    rw[hP,if_neg (by simp[h2])]
 ·have hl:livesS w n=false:=by
   cases e:livesS w n with
   | false=>rfl
   | true=>exact absurd (lives_iff.1 e).2 hf
  unfold stepS soloS
  rw[hl,if_pos rfl,if_pos hf,put_at_self hn]
theorem give_fin (a:Ac) (n:Int):(giveS a n).1.fin=a.fin:=by
 have hc:∀ b:Ac,(clearS b).fin=b.fin:=fun b=>by unfold clearS;split <;> rfl
 unfold giveS
 split
 ·rfl
 split
 ·split
  ·exact hc a
  ·exact hc a
 ·rfl
theorem told_fin (a:Ac) (n m:Int):(toldS a n m).fin=a.fin:=by
 have h:=give_fin a 2
 unfold toldS
 generalize giveS a 2=g at h ⊢;obtain⟨b,o⟩:=g
 cases o <;> exact h
theorem end_fin {w:Wd} {who:Nat} (h:who<w.acts.length) (way:Int):((endS w who way).at who).fin=way:=by
 unfold endS tellS
 split
 ·rename_i ht
  obtain⟨⟨h1,_⟩,_⟩:=takes_iff.1 ht;rw[put_len] at h1;obtain⟨tq,e⟩:∃ tq:Nat,(w.at who).par=tq:=⟨(w.at who).par.toNat,by omega⟩;rw[e] at h1 ht ⊢;rw[at_put (by rw[put_len];omega)]
  split
  ·rename_i e1
   subst e1;rw[told_fin,at_put h,if_pos rfl]
   rfl
  ·rw[at_put h,if_pos rfl]
   rfl
 ·rw[at_put h,if_pos rfl]
  rfl
theorem solo_of {X:Nat->Nat->Nat->Int} {w:Wd} {n:Nat} (hn:n<w.acts.length)
  (hop:0<=(w.at n).pc->(insAt X (w.at n).kind (w.at n).pc).op≠13/\(insAt X (w.at n).kind (w.at n).pc).op≠14/\(insAt X (w.at n).kind (w.at n).pc).op≠15/\(insAt X (w.at n).kind (w.at n).pc).op≠17)
  (hpc:-1<=(w.at n).pc) (hend:((stepS X w n).at n).fin=0):soloOk X n (w.at n):=by
 by_cases hf:(w.at n).fin=0
 ·by_cases hp:(w.at n).pc=-1
  ·exact .inr (.inl hp)
  ·refine .inr (.inr ⟨hop (by omega),?_⟩)
   obtain⟨o1,o2,o3,o4⟩:=hop (by omega);have hl:livesS w n=true:=lives_iff.2 ⟨⟨by omega,by omega⟩,hf⟩
   unfold stepS at hend
   rw[hl,if_neg (by simp),if_neg hp] at hend;have hP:performS (w.put n { (w.at n) with pc:=nextS (w.at n) (insAt X (w.at n).kind (w.at n).pc) }) n (insAt X (w.at n).kind (w.at n).pc)=(w.put n (aloneS { (w.at n) with pc:=nextS (w.at n) (insAt X (w.at n).kind (w.at n).pc) } n (insAt X (w.at n).kind (w.at n).pc)).1,(aloneS { (w.at n) with pc:=nextS (w.at n) (insAt X (w.at n).kind (w.at n).pc) } n (insAt X (w.at n).kind (w.at n).pc)).2):=by
    unfold performS
    rw[if_neg (by omega),if_neg o3,if_neg o4,at_put hn,if_pos rfl,put_put]
   unfold soloS
   rw[if_neg (by simp[hf]),if_neg hp]
   unfold doneS at hend
   rw[hP] at hend;generalize aloneS { (w.at n) with pc:=nextS (w.at n) (insAt X (w.at n).kind (w.at n).pc) } n (insAt X (w.at n).kind (w.at n).pc)=R at hend ⊢
   by_cases hr:R.2=0
   ·exact hr
   ·simp only[ne_eq,hr,not_false_eq_true,if_true] at hend
    rw[end_fin (by rw[put_len];exact hn)] at hend;exact hend
 ·exact .inl hf
end
end Go.Proofs.YtddokajfafmhhaaGreatDoor
