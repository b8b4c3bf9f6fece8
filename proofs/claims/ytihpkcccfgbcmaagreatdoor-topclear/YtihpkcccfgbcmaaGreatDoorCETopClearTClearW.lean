/- TClearW. -/
import Derived.Test.YtihpkcccfgbcmaaGreatDoorCETopClearTClearP
namespace Go.Proofs.YtihpkcccfgbcmaaGreatDoor
set_option maxRecDepth 100000
set_option maxHeartbeats 8000000
open Go.RowKit
def ApartV (a b:Value):Prop:=∀ g,a.ownBlock=some g->b.ownBlock≠some g
theorem ApartV.symm {a b:Value} (h:ApartV a b):ApartV b a:=fun g hb ha=>h g ha hb
theorem ApartV.or {a b:Value} (h:ApartV a b):a.ownBlock=none\/a.ownBlock≠b.ownBlock:=by
 cases e:a.ownBlock with
 | none=>exact .inl rfl
 | some g=>exact .inr fun k=>h g e k.symm
theorem ApartV.grow {v u:Value} {g n c N:Nat} (h:ApartV v u) (hu:∀ b,u.ownBlock=some b->b<N) (hg:v.ownBlock=some g\/g=N):ApartV (.slice (some ⟨g,0,none⟩) n c) u:=fun j hj hk=>by
 have e:g=j:=by simpa[Value.ownBlock] using hj
 subst e
 rcases hg with hg | hg
 ·exact h g hg hk
 ·have:=hu g hk;omega
theorem pieces_one (k:Int) (i:Nat) (a:Ax):pieceS k i a=if (i:Int) % k=0 then [a,⟨2,(i:Int) % 3,0,0⟩] else [a]:=by
 unfold pieceS
 split <;> rfl
theorem topClear_any (l m:List Rw) (la ma:Option Addr) (lc mc:Nat) (most pn:Int) (w:World) (hT:TabAt 0 w) (h:RawsAt w la l) (hm:RawsAt w ma m) (hll:32*l.length<=140737488355328) (hmo:fit64 most) (hpn:fit64 pn) :
  Calls Tryz.prog 9 #[.slice la l.length lc,.slice ma m.length mc,.int .i64 most,.int .i64 pn] w fun e w'=>e=.returned (.bool true)/\Below w.heap.size w w':=by
 have hpl:=fun w' (hb:Below w.heap.size w w')=>played_any l m la ma lc mc most w' (hT.keeps (Keeps.below hb)) (h.keeps (Keeps.below hb)) (hm.keeps (Keeps.below hb)) hll hmo
 have hp4:=pick_bd (n:=pn) (many:=4) (by omega);obtain⟨BB,MM,hRB,hRM,hAB,hAM⟩:=clear_ok l m most (1+pick pn 4);have hAL:=actsS_len m 60;have hml:=more_len (1+pick pn 4) (actsS m 60) 0;have hbl:(bareS (actsS m 60)).length<=(actsS m 60).length:=List.length_filter_le _ _;have hmx:maxLen=9223372036854775807:=rfl
 go_enter Tryz.func9,Tryz.ntmps9
 go_wp2_with fail
 refine(worldTells_any w hT).mono ?_;rintro e w1 ⟨rfl,hb1⟩
 go_wp2_with fail
 refine(hpl w1 hb1).mono ?_;rintro e w2 ⟨ao,cap,xa,xc,aa,ac,pa,pc,rfl,hb2,hK,⟨hX,hXc⟩,hVA,hVP⟩;clear hpl;obtain⟨A,C,hPA,_,_⟩:=program_prog (by omega) hK;have hB2:=hb1.trans (hb2.mono hb1.size);obtain⟨NP,NW,_,cb,cs⟩:=boxes2 w2 (.cells #[.slice ao 3 cap] 24) (.cells #[.slice aa (playS l m most).acts.length ac,.slice pa (playS l m most).prints.length pc] 28);have hB3:=hB2.trans (cb.mono hB2.size);replace hX:=hX.keeps (Keeps.below cb)
 replace hPA:=hPA.keeps (Keeps.below cb);replace hVA:=hVA.keeps (Keeps.below cb);replace hVP:=hVP.keeps (Keeps.below cb);replace hT:=hT.keeps (Keeps.below hB3);generalize playS l m most=V at *;generalize hAX:actsS m 60=AX at *;clear hAX hK;generalize hNX:AX.length=NX at *;have HNX:Aside (AX.length=NX):=hNX;clear hNX
 go_upto_region 4 with fail
 generalize (w2.alloc (.cells #[.slice ao 3 cap] 24)).alloc (.cells #[.slice aa V.acts.length ac,.slice pa V.prints.length pc] 28)=w3 at *;have p0:w3.cell? ⟨w2.heap.size,0,none⟩=some (.slice ao 3 cap):=cell_blk NP 0;have q0:w3.cell? ⟨w2.heap.size+1,0,none⟩=some (.slice aa V.acts.length ac):=cell_blk NW 0;have q1:w3.cell? ⟨w2.heap.size+1,1,none⟩=some (.slice pa V.prints.length pc):=cell_blk NW 1;clear cs NP NW cb hb1 hb2 hB2
 generalize w2.heap.size=P at *;obtain⟨kk,hkk⟩:=Int.eq_ofNat_of_zero_le hp4.1;have hkk4:kk<4:=by omega
 have hO1:SeqOwn fAx 4 30 w3 w3.heap.size (.slice none 0 0) []:=seqOwn_nil _ _
 go_wp2_with fail
 go_loopg [34,13,14] NX (fun gg s34 s13 s14 wr=>∃ (i:Nat) (b m:List Ax) (oa ob:Option Addr) (oc od:Nat),i<=NX/\gg=NX-i/\s34=.int .i64 i/\s13=.slice oa b.length oc/\s14=.slice ob m.length od/\Aside (SeqOwn fAx 4 30 wr w3.heap.size (.slice oa b.length oc) b)/\Aside (SeqOwn fAx 4 30 wr w3.heap.size (.slice ob m.length od) m)/\Aside (ApartV (.slice oa b.length oc) (.slice ob m.length od))/\Aside (Below w3.heap.size w3 wr)/\b.length<=i/\m.length<=2*i/\Aside (b=bareS (AX.take i))/\Aside (m=moreS (1+pick pn 4) 0 (AX.take i)))
 case atStart=>exact⟨0,[],[],none,none,0,0,Nat.zero_le _,rfl,rfl,rfl,rfl,hO1,hO1,fun g hg=>by simp[Value.ownBlock] at hg,Below.refl _ _,Nat.le_refl _,Nat.le_refl _,rfl,rfl⟩
 case round =>
  obtain⟨i,b,mm,oa,ob,oc,od,hi,rfl,rfl,rfl,rfl,HO,HQ,HAP,HB,hbi,hmi,HBE,HME⟩:=hrel;obtain⟨wO,hwO⟩:∃ wO,wO=wr:=⟨_,rfl⟩;subst hwO
  by_cases hiL:i<NX
  rotate_left
  ·have hge:¬ (i:Int)<(NX:Int):=by omega
   have HBE2:b=bareS AX:=by rw[HBE.out,List.take_of_length_le (by rw[HNX.out];omega)]
   have HME2:mm=moreS (1+pick pn 4) 0 AX:=by rw[HME.out,List.take_of_length_le (by rw[HNX.out];omega)]
   rw[<- HBE2] at hRB;rw[<- HME2] at hRM;have hA1:AxsAt wO oa b:=seqAx_to (HO.out.at Tryz.rowAx.len);have hA2:AxsAt wO ob mm:=seqAx_to (HQ.out.at Tryz.rowAx.len);replace hT:=hT.keeps (Keeps.below HB.out);replace hPA:=hPA.keeps (Keeps.below HB.out);replace hVA:=hVA.keeps (Keeps.below HB.out);replace hVP:=hVP.keeps (Keeps.below HB.out);replace p0:=Keeps.below HB.out _ _ p0;replace q0:=Keeps.below HB.out _ _ q0
   replace q1:=Keeps.below HB.out _ _ q1;replace hB3:=hB3.trans (HB.out.mono hB3.size);have hr1:=fun w' (hb:Below wO.heap.size wO w')=>run_any ao 3 cap A (pL l) C (pX l) (2+pick most 40) oa oc b w' (hT.keeps (Keeps.below hb)) (hPA.keeps (Keeps.below hb)) (hA1.keeps (Keeps.below hb)) (by omega)
   have hr2:=fun w' (hb:Below wO.heap.size wO w')=>run_any ao 3 cap A (pL l) C (pX l) (2+pick most 40) ob od mm w' (hT.keeps (Keeps.below hb)) (hPA.keeps (Keeps.below hb)) (hA2.keeps (Keeps.below hb)) (by omega)
   simp only[hRB] at hr1;simp only[hRM] at hr2;have hp40:=pick_bd (n:=most) (many:=40) (by omega);have hw40:IntKind.i64.wrap (2+pick most 40)=2+pick most 40:=by rw[IntKind.wrap_i64];omega
   have bl1:Aside (BB.acts.length=V.acts.length):=hAB.len;have bp1:Aside (BB.prints=V.prints):=hAB.prints;have bl2:Aside (MM.acts.length=V.acts.length):=hAM.len;have bp2:Aside (MM.prints=V.prints):=hAM.prints;have HF1:Aside (∀ (i:Nat) x y,V.acts[i]?=some x->BB.acts[i]?=some y->FormOk x/\FormOk y/\formL y=formL x):=hAB.forms;have HF2:Aside (∀ (i:Nat) x y,V.acts[i]?=some x->MM.acts[i]?=some y->FormOk x/\FormOk y/\formL y=formL x):=hAM.forms
   clear hA1 hA2 HO HQ HB hO1 HAP HBE HME HBE2 HME2 hRB hRM hAB hAM hX hT
   go_upto_region 14 with fail
   have hSof:∀ w',Below wO.heap.size wO w'->(w'.cell? ⟨P,0,none⟩=some (.slice ao 3 cap)):=fun w' hb'=>Keeps.below hb' _ _ p0
   go_cut [17,18] (fun s17 s18 wc=>∃ G ba bc ka kc,s17=.pointer (some ⟨G,0,none⟩)/\s18=.int .i64 0/\Below wO.heap.size wO wc/\wO.heap.size<=G/\wc.heap[G]?=some (.cells #[.slice ba BB.acts.length bc,.slice ka BB.prints.length kc] 28 (0,0))/\ActsAt wc ba BB.acts/\ToldAt wc ka BB.prints)
   case first =>
    have hB:Below wO.heap.size wO wO.drew:=(Below.refl _ _).drew;refine wp_region_need (fun _=>true) (fun w'=>w'.cell? ⟨P,0,none⟩=some (.slice ao 3 cap)) (by kernel_rfl) (hSof _ hB) (fun hS=>?_);generalize wO.drew=wc0 at hS hB  ⊢;refine tkN 0 hS ?_;refine tkN 1 hS ?_;refine tkN 4 hS ?_;refine twN 2 9 (fun K hK=>?_) (fun K hK=>?_)
    ·go_simp
     refine(kPicked_any most 40 wc0 hmo (by omega) (by omega)).mono ?_;rintro e wc1 ⟨rfl,hbn⟩;have hBn:Below wO.heap.size wO wc1:=hB.trans (hbn.mono hB.size);refine otN hK (hSof _ hBn) ?_;replace hS:=hSof _ hBn;clear hK;replace hB:=hBn;clear hBn hbn;refine tkN 3 hS ?_;refine twN 5 9 (fun K hK=>?_) (fun K hK=>?_)
     ·go_simp
      refine(hr1 wc1 hB).mono ?_;rintro e wc2 ⟨ba,bc,ka,kc,rfl,hbn,hWA,hWP,_⟩
      dsimp only at hWA hWP ⊢
      have hBn:Below wO.heap.size wO wc2:=hB.trans (hbn.mono hB.size);refine otN hK (hSof _ hBn) ?_;replace hS:=hSof _ hBn;clear hK;replace hB:=hBn;clear hBn hbn;refine tkN 6 hS ?_;refine tkN 7 hS ?_;refine tkN 8 hS ?_;refine stN 9 (fun K hK=>?_);go_simp;have hbn:=below_box wc2 (Obj.cells #[.slice none 0 0,.slice none 0 0] 28);have mG:=Deep.blk_alloc_new wc2 (Obj.cells #[.slice none 0 0,.slice none 0 0] 28)
      have xG:wO.heap.size<=wc2.heap.size:=hB.size
      try have daG:TT<=wc2.heap.size:=sT
      generalize wc2.alloc (Obj.cells #[.slice none 0 0,.slice none 0 0] 28)=wc3 at hbn mG ⊢;obtain⟨G,hG⟩:∃ G,G=wc2.heap.size:=⟨_,rfl⟩;rw[<- hG] at mG xG ⊢
      try rw[<- hG] at daG
      clear hG;have hBn:Below wO.heap.size wO wc3:=hB.trans (hbn.mono hB.size);refine otN hK (hSof _ hBn) ?_;replace hS:=hSof _ hBn;clear hK;replace hWA:=hWA.keeps (Keeps.below hbn);replace hWP:=hWP.keeps (Keeps.below hbn);replace hB:=hBn;clear hBn hbn;refine stN 10 (fun K hK=>?_);have c0:=cellBlk mG 0;have c1:=cellBlk mG 1;have cf:∀ j,wc3.frozen? ⟨G,j,none⟩=false:=fun j=>by simp[World.frozen?,mG]
      simp at c0 c1;go_simp;have hBn:=two_below hB xG 0 1 (.slice ba BB.acts.length bc) (.slice ka BB.prints.length kc);replace hWA:=hWA.off (nilB2 mG) (fun b hb=>two_other 0 1 (.slice ba BB.acts.length bc) (.slice ka BB.prints.length kc) hb);replace hWP:=hWP.off (nilB2 mG) (fun b hb=>two_other 0 1 (.slice ba BB.acts.length bc) (.slice ka BB.prints.length kc) hb);replace mG:=two_blk mG 0 1 (.slice ba BB.acts.length bc) (.slice ka BB.prints.length kc)
      clear c0 c1 cf;generalize (wc3.setCell ⟨G,0,none⟩ (.slice ba BB.acts.length bc)).setCell ⟨G,1,none⟩ (.slice ka BB.prints.length kc)=wc4 at *;refine otN hK (hSof _ hBn) ?_;replace hS:=hSof _ hBn;clear hK;replace hB:=hBn;clear hBn;refine tkN 11 hS ?_;refine dnN ?_
      go_wp2_with fail
      go_meet
      case rel=>exact⟨G,ba,bc,ka,kc,rfl,rfl,hB,xG,mG,hWA,hWP⟩
     ·go_simp
      have hbn:=below_box wc1 (Obj.cells #[.slice none 0 0,.slice none 0 0] 28);have mG:=Deep.blk_alloc_new wc1 (Obj.cells #[.slice none 0 0,.slice none 0 0] 28);have xG:wO.heap.size<=wc1.heap.size:=hB.size
      try have daG:TT<=wc1.heap.size:=sT
      generalize wc1.alloc (Obj.cells #[.slice none 0 0,.slice none 0 0] 28)=wc2 at hbn mG ⊢;obtain⟨G,hG⟩:∃ G,G=wc1.heap.size:=⟨_,rfl⟩;rw[<- hG] at mG xG ⊢
      try rw[<- hG] at daG
      clear hG;have hBn:Below wO.heap.size wO wc2:=hB.trans (hbn.mono hB.size);refine otN hK (hSof _ hBn) ?_;replace hS:=hSof _ hBn;clear hK;replace hB:=hBn;clear hBn hbn;refine stN 5 (fun K hK=>?_);go_simp;refine(hr1 wc2 hB).mono ?_;rintro e wc3 ⟨ba,bc,ka,kc,rfl,hbn,hWA,hWP,_⟩
      dsimp only at hWA hWP ⊢
      have hBn:Below wO.heap.size wO wc3:=hB.trans (hbn.mono hB.size);refine otN hK (hSof _ hBn) ?_;replace hS:=hSof _ hBn;clear hK;replace mG:=(hbn.block _ (Array.getElem?_eq_some_iff.1 mG).1).trans mG;replace hB:=hBn;clear hBn hbn;refine tkN 6 hS ?_;refine tkN 7 hS ?_;refine tkN 8 hS ?_;refine stN 10 (fun K hK=>?_);have c0:=cellBlk mG 0;have c1:=cellBlk mG 1;have cf:∀ j,wc3.frozen? ⟨G,j,none⟩=false:=fun j=>by simp[World.frozen?,mG]
      simp at c0 c1;go_simp;have hBn:=two_below hB xG 0 1 (.slice ba BB.acts.length bc) (.slice ka BB.prints.length kc);replace hWA:=hWA.off (nilB2 mG) (fun b hb=>two_other 0 1 (.slice ba BB.acts.length bc) (.slice ka BB.prints.length kc) hb);replace hWP:=hWP.off (nilB2 mG) (fun b hb=>two_other 0 1 (.slice ba BB.acts.length bc) (.slice ka BB.prints.length kc) hb);replace mG:=two_blk mG 0 1 (.slice ba BB.acts.length bc) (.slice ka BB.prints.length kc)
      clear c0 c1 cf;generalize (wc3.setCell ⟨G,0,none⟩ (.slice ba BB.acts.length bc)).setCell ⟨G,1,none⟩ (.slice ka BB.prints.length kc)=wc4 at *;refine otN hK (hSof _ hBn) ?_;replace hS:=hSof _ hBn;clear hK;replace hB:=hBn;clear hBn;refine tkN 11 hS ?_;refine dnN ?_
      go_wp2_with fail
      go_meet
      case rel=>exact⟨G,ba,bc,ka,kc,rfl,rfl,hB,xG,mG,hWA,hWP⟩
    ·go_simp
     have hbn:=below_box wc0 (Obj.cells #[.slice none 0 0,.slice none 0 0] 28);have mG:=Deep.blk_alloc_new wc0 (Obj.cells #[.slice none 0 0,.slice none 0 0] 28);have xG:wO.heap.size<=wc0.heap.size:=hB.size
     try have daG:TT<=wc0.heap.size:=sT
     generalize wc0.alloc (Obj.cells #[.slice none 0 0,.slice none 0 0] 28)=wc1 at hbn mG ⊢;obtain⟨G,hG⟩:∃ G,G=wc0.heap.size:=⟨_,rfl⟩;rw[<- hG] at mG xG ⊢
     try rw[<- hG] at daG
     clear hG;have hBn:Below wO.heap.size wO wc1:=hB.trans (hbn.mono hB.size);refine otN hK (hSof _ hBn) ?_;replace hS:=hSof _ hBn;clear hK;replace hB:=hBn;clear hBn hbn;refine stN 2 (fun K hK=>?_);go_simp;refine(kPicked_any most 40 wc1 hmo (by omega) (by omega)).mono ?_;rintro e wc2 ⟨rfl,hbn⟩;have hBn:Below wO.heap.size wO wc2:=hB.trans (hbn.mono hB.size);refine otN hK (hSof _ hBn) ?_;replace hS:=hSof _ hBn
     clear hK;replace mG:=(hbn.block _ (Array.getElem?_eq_some_iff.1 mG).1).trans mG;replace hB:=hBn;clear hBn hbn;refine tkN 3 hS ?_;refine stN 5 (fun K hK=>?_);go_simp;refine(hr1 wc2 hB).mono ?_;rintro e wc3 ⟨ba,bc,ka,kc,rfl,hbn,hWA,hWP,_⟩
     dsimp only at hWA hWP ⊢
     have hBn:Below wO.heap.size wO wc3:=hB.trans (hbn.mono hB.size);refine otN hK (hSof _ hBn) ?_;replace hS:=hSof _ hBn;clear hK;replace mG:=(hbn.block _ (Array.getElem?_eq_some_iff.1 mG).1).trans mG;replace hB:=hBn;clear hBn hbn;refine tkN 6 hS ?_;refine tkN 7 hS ?_;refine tkN 8 hS ?_;refine stN 10 (fun K hK=>?_);have c0:=cellBlk mG 0;have c1:=cellBlk mG 1;have cf:∀ j,wc3.frozen? ⟨G,j,none⟩=false:=fun j=>by simp[World.frozen?,mG]
     simp at c0 c1;go_simp;have hBn:=two_below hB xG 0 1 (.slice ba BB.acts.length bc) (.slice ka BB.prints.length kc);replace hWA:=hWA.off (nilB2 mG) (fun b hb=>two_other 0 1 (.slice ba BB.acts.length bc) (.slice ka BB.prints.length kc) hb);replace hWP:=hWP.off (nilB2 mG) (fun b hb=>two_other 0 1 (.slice ba BB.acts.length bc) (.slice ka BB.prints.length kc) hb);replace mG:=two_blk mG 0 1 (.slice ba BB.acts.length bc) (.slice ka BB.prints.length kc)
     clear c0 c1 cf;generalize (wc3.setCell ⟨G,0,none⟩ (.slice ba BB.acts.length bc)).setCell ⟨G,1,none⟩ (.slice ka BB.prints.length kc)=wc4 at *;refine otN hK (hSof _ hBn) ?_;replace hS:=hSof _ hBn;clear hK;replace hB:=hBn;clear hBn;refine tkN 11 hS ?_;refine dnN ?_
     go_wp2_with fail
     go_meet
     case rel=>exact⟨G,ba,bc,ka,kc,rfl,rfl,hB,xG,mG,hWA,hWP⟩
   case rest =>
    obtain⟨G1,ba,bc,ka,kc,rfl,rfl,hBc,xG1,mG1,hWA,hWP⟩:=hcut;clear hr1 hSof;obtain⟨wf,hwf⟩:∃ wf,wf=wc:=⟨_,rfl⟩;subst hwf;replace hVA:=hVA.keeps (Keeps.below hBc);replace hVP:=hVP.keeps (Keeps.below hBc);replace p0:=Keeps.below hBc _ _ p0;replace q0:=Keeps.below hBc _ _ q0;replace q1:=Keeps.below hBc _ _ q1;have hr3:=fun w' (hb:Below wf.heap.size wf w')=>hr2 w' (hBc.trans (hb.mono hBc.size))
    replace hB3:=hB3.trans (hBc.mono hB3.size);clear hr2
    go_upto_region 15 with fail
    have hSof:∀ w',Below wf.heap.size wf w'->(w'.cell? ⟨P,0,none⟩=some (.slice ao 3 cap)):=fun w' hb'=>Keeps.below hb' _ _ p0
    go_cut [19,20] (fun s19 s20 wc=>∃ G da dc ja jc,s19=.pointer (some ⟨G,0,none⟩)/\s20=.int .i64 0/\Below wf.heap.size wf wc/\wf.heap.size<=G/\wc.heap[G]?=some (.cells #[.slice da MM.acts.length dc,.slice ja MM.prints.length jc] 28 (0,0))/\ActsAt wc da MM.acts/\ToldAt wc ja MM.prints)
    case first =>
     have hB:Below wf.heap.size wf wf.drew:=(Below.refl _ _).drew;refine wp_region_need (fun _=>true) (fun w'=>w'.cell? ⟨P,0,none⟩=some (.slice ao 3 cap)) (by kernel_rfl) (hSof _ hB) (fun hS=>?_);generalize wf.drew=wc0 at hS hB  ⊢;refine tkN 0 hS ?_;refine tkN 1 hS ?_;refine tkN 4 hS ?_;refine twN 2 9 (fun K hK=>?_) (fun K hK=>?_)
     ·go_simp
      refine(kPicked_any most 40 wc0 hmo (by omega) (by omega)).mono ?_;rintro e wc1 ⟨rfl,hbn⟩;have hBn:Below wf.heap.size wf wc1:=hB.trans (hbn.mono hB.size);refine otN hK (hSof _ hBn) ?_;replace hS:=hSof _ hBn;clear hK;replace hB:=hBn;clear hBn hbn;refine tkN 3 hS ?_;refine twN 5 9 (fun K hK=>?_) (fun K hK=>?_)
      ·go_simp
       refine(hr3 wc1 hB).mono ?_;rintro e wc2 ⟨da,dc,ja,jc,rfl,hbn,hMA,hMP,_⟩
       dsimp only at hMA hMP ⊢
       have hBn:Below wf.heap.size wf wc2:=hB.trans (hbn.mono hB.size);refine otN hK (hSof _ hBn) ?_;replace hS:=hSof _ hBn;clear hK;replace hB:=hBn;clear hBn hbn;refine tkN 6 hS ?_;refine tkN 7 hS ?_;refine tkN 8 hS ?_;refine stN 9 (fun K hK=>?_);go_simp;have hbn:=below_box wc2 (Obj.cells #[.slice none 0 0,.slice none 0 0] 28);have mG:=Deep.blk_alloc_new wc2 (Obj.cells #[.slice none 0 0,.slice none 0 0] 28)
       have xG:wf.heap.size<=wc2.heap.size:=hB.size
       try have daG:TT<=wc2.heap.size:=sT
       generalize wc2.alloc (Obj.cells #[.slice none 0 0,.slice none 0 0] 28)=wc3 at hbn mG ⊢;obtain⟨G,hG⟩:∃ G,G=wc2.heap.size:=⟨_,rfl⟩;rw[<- hG] at mG xG ⊢
       try rw[<- hG] at daG
       clear hG;have hBn:Below wf.heap.size wf wc3:=hB.trans (hbn.mono hB.size);refine otN hK (hSof _ hBn) ?_;replace hS:=hSof _ hBn;clear hK;replace hMA:=hMA.keeps (Keeps.below hbn);replace hMP:=hMP.keeps (Keeps.below hbn);replace hB:=hBn;clear hBn hbn;refine stN 10 (fun K hK=>?_);have c0:=cellBlk mG 0;have c1:=cellBlk mG 1;have cf:∀ j,wc3.frozen? ⟨G,j,none⟩=false:=fun j=>by simp[World.frozen?,mG]
       simp at c0 c1;go_simp;have hBn:=two_below hB xG 0 1 (.slice da MM.acts.length dc) (.slice ja MM.prints.length jc);replace hMA:=hMA.off (nilB2 mG) (fun b hb=>two_other 0 1 (.slice da MM.acts.length dc) (.slice ja MM.prints.length jc) hb);replace hMP:=hMP.off (nilB2 mG) (fun b hb=>two_other 0 1 (.slice da MM.acts.length dc) (.slice ja MM.prints.length jc) hb);replace mG:=two_blk mG 0 1 (.slice da MM.acts.length dc) (.slice ja MM.prints.length jc)
       clear c0 c1 cf;generalize (wc3.setCell ⟨G,0,none⟩ (.slice da MM.acts.length dc)).setCell ⟨G,1,none⟩ (.slice ja MM.prints.length jc)=wc4 at *;refine otN hK (hSof _ hBn) ?_;replace hS:=hSof _ hBn;clear hK;replace hB:=hBn;clear hBn;refine tkN 11 hS ?_;refine dnN ?_
       go_wp2_with fail
       go_meet
       case rel=>exact⟨G,da,dc,ja,jc,rfl,rfl,hB,xG,mG,hMA,hMP⟩
      ·go_simp
       have hbn:=below_box wc1 (Obj.cells #[.slice none 0 0,.slice none 0 0] 28);have mG:=Deep.blk_alloc_new wc1 (Obj.cells #[.slice none 0 0,.slice none 0 0] 28);have xG:wf.heap.size<=wc1.heap.size:=hB.size
       try have daG:TT<=wc1.heap.size:=sT
       generalize wc1.alloc (Obj.cells #[.slice none 0 0,.slice none 0 0] 28)=wc2 at hbn mG ⊢;obtain⟨G,hG⟩:∃ G,G=wc1.heap.size:=⟨_,rfl⟩;rw[<- hG] at mG xG ⊢
       try rw[<- hG] at daG
       clear hG;have hBn:Below wf.heap.size wf wc2:=hB.trans (hbn.mono hB.size);refine otN hK (hSof _ hBn) ?_;replace hS:=hSof _ hBn;clear hK;replace hB:=hBn;clear hBn hbn;refine stN 5 (fun K hK=>?_);go_simp;refine(hr3 wc2 hB).mono ?_;rintro e wc3 ⟨da,dc,ja,jc,rfl,hbn,hMA,hMP,_⟩
       dsimp only at hMA hMP ⊢
       have hBn:Below wf.heap.size wf wc3:=hB.trans (hbn.mono hB.size);refine otN hK (hSof _ hBn) ?_;replace hS:=hSof _ hBn;clear hK;replace mG:=(hbn.block _ (Array.getElem?_eq_some_iff.1 mG).1).trans mG;replace hB:=hBn;clear hBn hbn;refine tkN 6 hS ?_;refine tkN 7 hS ?_;refine tkN 8 hS ?_;refine stN 10 (fun K hK=>?_);have c0:=cellBlk mG 0;have c1:=cellBlk mG 1;have cf:∀ j,wc3.frozen? ⟨G,j,none⟩=false:=fun j=>by simp[World.frozen?,mG]
       simp at c0 c1;go_simp;have hBn:=two_below hB xG 0 1 (.slice da MM.acts.length dc) (.slice ja MM.prints.length jc);replace hMA:=hMA.off (nilB2 mG) (fun b hb=>two_other 0 1 (.slice da MM.acts.length dc) (.slice ja MM.prints.length jc) hb);replace hMP:=hMP.off (nilB2 mG) (fun b hb=>two_other 0 1 (.slice da MM.acts.length dc) (.slice ja MM.prints.length jc) hb);replace mG:=two_blk mG 0 1 (.slice da MM.acts.length dc) (.slice ja MM.prints.length jc)
       clear c0 c1 cf;generalize (wc3.setCell ⟨G,0,none⟩ (.slice da MM.acts.length dc)).setCell ⟨G,1,none⟩ (.slice ja MM.prints.length jc)=wc4 at *;refine otN hK (hSof _ hBn) ?_;replace hS:=hSof _ hBn;clear hK;replace hB:=hBn;clear hBn;refine tkN 11 hS ?_;refine dnN ?_
       go_wp2_with fail
       go_meet
       case rel=>exact⟨G,da,dc,ja,jc,rfl,rfl,hB,xG,mG,hMA,hMP⟩
     ·go_simp
      have hbn:=below_box wc0 (Obj.cells #[.slice none 0 0,.slice none 0 0] 28);have mG:=Deep.blk_alloc_new wc0 (Obj.cells #[.slice none 0 0,.slice none 0 0] 28);have xG:wf.heap.size<=wc0.heap.size:=hB.size
      try have daG:TT<=wc0.heap.size:=sT
      generalize wc0.alloc (Obj.cells #[.slice none 0 0,.slice none 0 0] 28)=wc1 at hbn mG ⊢;obtain⟨G,hG⟩:∃ G,G=wc0.heap.size:=⟨_,rfl⟩;rw[<- hG] at mG xG ⊢
      try rw[<- hG] at daG
      clear hG;have hBn:Below wf.heap.size wf wc1:=hB.trans (hbn.mono hB.size);refine otN hK (hSof _ hBn) ?_;replace hS:=hSof _ hBn;clear hK;replace hB:=hBn;clear hBn hbn;refine stN 2 (fun K hK=>?_);go_simp;refine(kPicked_any most 40 wc1 hmo (by omega) (by omega)).mono ?_;rintro e wc2 ⟨rfl,hbn⟩;have hBn:Below wf.heap.size wf wc2:=hB.trans (hbn.mono hB.size);refine otN hK (hSof _ hBn) ?_;replace hS:=hSof _ hBn
      clear hK;replace mG:=(hbn.block _ (Array.getElem?_eq_some_iff.1 mG).1).trans mG;replace hB:=hBn;clear hBn hbn;refine tkN 3 hS ?_;refine stN 5 (fun K hK=>?_);go_simp;refine(hr3 wc2 hB).mono ?_;rintro e wc3 ⟨da,dc,ja,jc,rfl,hbn,hMA,hMP,_⟩
      dsimp only at hMA hMP ⊢
      have hBn:Below wf.heap.size wf wc3:=hB.trans (hbn.mono hB.size);refine otN hK (hSof _ hBn) ?_;replace hS:=hSof _ hBn;clear hK;replace mG:=(hbn.block _ (Array.getElem?_eq_some_iff.1 mG).1).trans mG;replace hB:=hBn;clear hBn hbn;refine tkN 6 hS ?_;refine tkN 7 hS ?_;refine tkN 8 hS ?_;refine stN 10 (fun K hK=>?_);have c0:=cellBlk mG 0;have c1:=cellBlk mG 1;have cf:∀ j,wc3.frozen? ⟨G,j,none⟩=false:=fun j=>by simp[World.frozen?,mG]
      simp at c0 c1;go_simp;have hBn:=two_below hB xG 0 1 (.slice da MM.acts.length dc) (.slice ja MM.prints.length jc);replace hMA:=hMA.off (nilB2 mG) (fun b hb=>two_other 0 1 (.slice da MM.acts.length dc) (.slice ja MM.prints.length jc) hb);replace hMP:=hMP.off (nilB2 mG) (fun b hb=>two_other 0 1 (.slice da MM.acts.length dc) (.slice ja MM.prints.length jc) hb);replace mG:=two_blk mG 0 1 (.slice da MM.acts.length dc) (.slice ja MM.prints.length jc)
      clear c0 c1 cf;generalize (wc3.setCell ⟨G,0,none⟩ (.slice da MM.acts.length dc)).setCell ⟨G,1,none⟩ (.slice ja MM.prints.length jc)=wc4 at *;refine otN hK (hSof _ hBn) ?_;replace hS:=hSof _ hBn;clear hK;replace hB:=hBn;clear hBn;refine tkN 11 hS ?_;refine dnN ?_
      go_wp2_with fail
      go_meet
      case rel=>exact⟨G,da,dc,ja,jc,rfl,rfl,hB,xG,mG,hMA,hMP⟩
    case rest =>
     obtain⟨G2,da,dc,ja,jc,rfl,rfl,hBd,xG2,mG2,hMA,hMP⟩:=hcut;clear hr3 hSof;obtain⟨wg,hwg⟩:∃ wg,wg=wc:=⟨_,rfl⟩;subst hwg;replace hVA:=hVA.keeps (Keeps.below hBd);replace hVP:=hVP.keeps (Keeps.below hBd);replace hWA:=hWA.keeps (Keeps.below hBd);replace hWP:=hWP.keeps (Keeps.below hBd);replace q0:=Keeps.below hBd _ _ q0;replace q1:=Keeps.below hBd _ _ q1;have g0:wg.cell? ⟨G1,0,none⟩=some (.slice ba V.acts.length bc):=Keeps.below hBd _ _ (by rw[<- bl1.out];exact cell_blk mG1 0)
     have g1:wg.cell? ⟨G1,1,none⟩=some (.slice ka V.prints.length kc):=Keeps.below hBd _ _ (by rw[<- bp1.out];exact cell_blk mG1 1);have k0:wg.cell? ⟨G2,0,none⟩=some (.slice da V.acts.length dc):=by rw[<- bl2.out];exact cell_blk mG2 0
     have k1:wg.cell? ⟨G2,1,none⟩=some (.slice ja V.prints.length jc):=by rw[<- bp2.out];exact cell_blk mG2 1
     rw[bp1.out] at hWP;rw[bp2.out] at hMP;have hB4:=hB3.trans (hBd.mono hB3.size);have ha1:=alike_any aa ba pa ka ac bc pc kc V BB wg hVA hWA hVP hWP bl1.out HF1.out;have ha2:=fun w' (hk:Keeps wg w')=>alike_any aa da pa ja ac dc pc jc V MM w' (hVA.keeps hk) (hMA.keeps hk) (hVP.keeps hk) (hMP.keeps hk) bl2.out HF2.out
     generalize V.acts.length=LA at *;generalize V.prints.length=LP at *;clear hVA hVP hWA hWP hMA hMP mG1 mG2 xG1 xG2 hBc hBd hB3 HF1 HF2
     go_wp2_with fail
     refine ha1.mono ?_;rintro e w8 ⟨rfl,hc8⟩;replace q0:=Keeps.below hc8 _ _ q0;replace q1:=Keeps.below hc8 _ _ q1;replace k0:=Keeps.below hc8 _ _ k0;replace k1:=Keeps.below hc8 _ _ k1;have hB5:=hB4.trans (hc8.mono hB4.size)
     go_wp2_with fail
     refine(ha2 w8 (Keeps.below hc8)).mono ?_;rintro e w9 ⟨rfl,hc9⟩;have hB6:=hB5.trans (hc9.mono hB5.size);go_wp2
     go_ret
     exact⟨rfl,hB6⟩
  have hiz:(i:Int)<(NX:Int):=by omega
  obtain⟨a,ha⟩:=at_some (l:=AX) (i:=i) (by rw[HNX.out];exact hiL);have HBN:Aside (bareS (AX.take (i+1))=bareS (AX.take i)++(if a.kind=2 then [] else [a])):=bare_next AX ha;have HMN:Aside (moreS (1+pick pn 4) 0 (AX.take (i+1))=moreS (1+pick pn 4) 0 (AX.take i)++pieceS (1+pick pn 4) i a):=more_next _ AX ha;obtain⟨RB,RO,rfl,i0,i1,i2,i3⟩:=(hX.keeps (Keeps.below HB.out)) i a ha;obtain⟨ak,aw,an,am⟩:=a;simp only at i0 i1 i2 i3
  obtain⟨NR,_,cr,sr⟩:=boxes1 wO (.cells #[.int .i64 ak,.int .i64 aw,.int .i64 an,.int .i64 am] 30)
  go_upto_region 8 with fail
  generalize wO.alloc (.cells #[.int .i64 ak,.int .i64 aw,.int .i64 an,.int .i64 am] 30)=W at *;have hWw:w3.heap.size<=wO.heap.size:=HB.out.size;have HO1:Aside (SeqOwn fAx 4 30 W w3.heap.size (.slice oa b.length oc) b):=HO.out.below cr;have HQ1:Aside (SeqOwn fAx 4 30 W w3.heap.size (.slice ob mm.length od) mm):=HQ.out.below cr;have HB1:Aside (Below w3.heap.size w3 W):=HB.out.trans (cr.mono hWw);have HX1:Aside (wO.heap.size∉vB (.slice oa b.length oc)):=fun hb=>by have:=(World.ownsRow.lt HO.out _ (mem_vB.1 hb)).2;omega
  have HX2:Aside (wO.heap.size∉vB (.slice ob mm.length od)):=fun hb=>by have:=(World.ownsRow.lt HQ.out _ (mem_vB.1 hb)).2;omega
  have HNR:Aside (W.heap[wO.heap.size]?=some (.cells #[.int .i64 ak,.int .i64 aw,.int .i64 an,.int .i64 am] 30 (0,0))):=NR;clear HO HQ HB i0 i1 i2 i3 cr NR;generalize wO.heap.size=Q at *;have d0:W.cell? ⟨Q,0,none⟩=some (.int .i64 ak):=cell_blk HNR.out 0
  go_upto_if 41 with fail
  go_cut [13] (fun s13 wc=>∃ (b2:List Ax) (oa2:Option Addr) (oc2:Nat),s13=.slice oa2 b2.length oc2/\Aside (SeqOwn fAx 4 30 wc w3.heap.size (.slice oa2 b2.length oc2) b2)/\Aside (SeqOwn fAx 4 30 wc w3.heap.size (.slice ob mm.length od) mm)/\Aside (ApartV (.slice oa2 b2.length oc2) (.slice ob mm.length od))/\Aside (Below w3.heap.size w3 wc)/\b2.length<=i+1/\Aside (b2=bareS (AX.take (i+1)))/\Aside (wc.heap[Q]?=some (.cells #[.int .i64 ak,.int .i64 aw,.int .i64 an,.int .i64 am] 30 (0,0))))
  case first =>
   by_cases hk2:ak=2
   ·have HBX:Aside (b=bareS (AX.take (i+1))):=by show _=_;rw[HBN.out,if_pos hk2,List.append_nil,<- HBE.out]
    subst hk2
    go_wp2_with fail
    go_meet
    case rel=>exact⟨b,oa,oc,rfl,HO1,HQ1,HAP,HB1,by omega,HBX,HNR⟩
   have HBX:Aside (b++[(⟨ak,aw,an,am⟩:Ax)]=bareS (AX.take (i+1))):=by show _=_;rw[HBN.out,if_neg hk2,<- HBE.out]
   have d1:W.cell? ⟨Q,1,none⟩=some (.int .i64 aw):=cell_blk HNR.out 1;have d2:W.cell? ⟨Q,2,none⟩=some (.int .i64 an):=cell_blk HNR.out 2;have d3:W.cell? ⟨Q,3,none⟩=some (.int .i64 am):=cell_blk HNR.out 3;have hne:(ak != 2)=true:=by simp[hk2]
   have bx:=below_box W (.cells #[.int .i64 ak,.int .i64 aw,.int .i64 an,.int .i64 am] 30);have hsn:=seqAx_new W (⟨ak,aw,an,am⟩:Ax) 30 W.heap.size rfl;have hO3:=HO1.out.below bx;have HQ3:=HQ1.out.below bx;have hNi:=(bx.block Q (Array.getElem?_eq_some_iff.1 HNR.out).1).trans HNR.out;have hQl:=(Array.getElem?_eq_some_iff.1 HNR.out).1;have sx:(W.alloc (.cells #[.int .i64 ak,.int .i64 aw,.int .i64 an,.int .i64 am] 30)).heap.size=W.heap.size+1:=by simp
   have hsz:=HB1.out.size;have hB3:=HB1.out.trans (bx.mono hsz)
   go_wp2_with (first | (at_builtin;refine wpList_seq Tryz.rowAx rfl _ _ (by rfl) (v:=.slice oa b.length oc) (by simp[Act.eval]) hO3 (by omega) [(⟨ak,aw,an,am⟩:Ax)] (some ⟨W.heap.size,0,none⟩) 1 (by simp[Act.eval]) hsn (by simp) (by simp;omega) (by simp;omega) ?_;rintro g cap w5 hO4 hg4 hb4 hB4) | fail)
   have hQ5:=(hg4.block Q (by omega) (fun e=>HX1.out (mem_vB.2 e.symm))).trans hNi;have hM5:=HQ3.grown hg4 HAP.symm.or;have hA5:ApartV (.slice (some ⟨g,0,none⟩) (b++[(⟨ak,aw,an,am⟩:Ax)]).length cap) (.slice ob mm.length od):=ApartV.grow HAP (fun j hj=>(World.ownsRow.lt HQ3 _ hj).2) hB4;have hO5:SeqOwn fAx 4 30 w5 w3.heap.size (.slice (some ⟨g,0,none⟩) (b++[(⟨ak,aw,an,am⟩:Ax)]).length cap) (b++[(⟨ak,aw,an,am⟩:Ax)]):=by simpa using hO4
   have hbw5:=hB3.trans hb4
   go_meet
   case rel=>exact⟨b++[(⟨ak,aw,an,am⟩:Ax)],some ⟨g,0,none⟩,cap,by simp,hO5,hM5,hA5,hbw5,by simp;omega,HBX,hQ5⟩
  case rest =>
   obtain⟨b2,oa2,oc2,rfl,HO2,HQ2,HAP2,HB2,hbi2,HBE2,HNR2⟩:=hcut;clear HO1 HQ1 HB1 HNR HBN HX1 HAP d0;have hHX2:Q∉vB (.slice ob mm.length od):=HX2.out;have d0:wc.cell? ⟨Q,0,none⟩=some (.int .i64 ak):=cell_blk HNR2.out 0;have d1:wc.cell? ⟨Q,1,none⟩=some (.int .i64 aw):=cell_blk HNR2.out 1;have d2:wc.cell? ⟨Q,2,none⟩=some (.int .i64 an):=cell_blk HNR2.out 2;have d3:wc.cell? ⟨Q,3,none⟩=some (.int .i64 am):=cell_blk HNR2.out 3
   have bx:=below_box wc (.cells #[.int .i64 ak,.int .i64 aw,.int .i64 an,.int .i64 am] 30);have hsn:=seqAx_new wc (⟨ak,aw,an,am⟩:Ax) 30 wc.heap.size rfl;have hQ3:=HQ2.out.below bx;have HO3:=HO2.out.below bx;have sx:(wc.alloc (.cells #[.int .i64 ak,.int .i64 aw,.int .i64 an,.int .i64 am] 30)).heap.size=wc.heap.size+1:=by simp
   have hsz:=HB2.out.size;have hB3:=HB2.out.trans (bx.mono hsz)
   go_upto_region 11 with(first | (at_builtin;refine wpList_seq Tryz.rowAx rfl _ _ (by rfl) (v:=.slice ob mm.length od) (by simp[Act.eval]) hQ3 (by omega) [(⟨ak,aw,an,am⟩:Ax)] (some ⟨wc.heap.size,0,none⟩) 1 (by simp[Act.eval]) hsn (by simp) (by simp;omega) (by simp;omega) ?_;rintro g cap w5 hO4 hg4 hb4 hB4) | fail)
   have hM5:=HO3.grown hg4 HAP2.or;have hA5:ApartV (.slice (some ⟨g,0,none⟩) (mm++[(⟨ak,aw,an,am⟩:Ax)]).length cap) (.slice oa2 b2.length oc2):=ApartV.grow HAP2.symm (fun j hj=>(World.ownsRow.lt HO3 _ hj).2) hB4;have hO5:SeqOwn fAx 4 30 w5 w3.heap.size (.slice (some ⟨g,0,none⟩) (mm++[(⟨ak,aw,an,am⟩:Ax)]).length cap) (mm++[(⟨ak,aw,an,am⟩:Ax)]):=by simpa using hO4
   have hbw5:=hB3.trans hb4;have HO6:Aside (SeqOwn fAx 4 30 w5 w3.heap.size (.slice oa2 b2.length oc2) b2):=hM5;have HM6:Aside (SeqOwn fAx 4 30 w5 w3.heap.size (.slice (some ⟨g,0,none⟩) (mm++[(⟨ak,aw,an,am⟩:Ax)]).length cap) (mm++[(⟨ak,aw,an,am⟩:Ax)])):=hO5;have HA6:Aside (ApartV (.slice (some ⟨g,0,none⟩) (mm++[(⟨ak,aw,an,am⟩:Ax)]).length cap) (.slice oa2 b2.length oc2)):=hA5;have HB6:Aside (Below w3.heap.size w3 w5):=hbw5
   clear d0 d1 d2 d3 bx hsn hQ3 HO3 hB3 hM5 hA5 hO5 hbw5 hg4 hb4 hB4 hO4 HQ2 HNR2 HAP2 HB2 sx hHX2;generalize hml2:mm++[(⟨ak,aw,an,am⟩:Ax)]=mm2 at *;have hmm2:mm2.length=mm.length+1:=by rw[<- hml2];simp
   rw[<- hmm2]
   go_wp2_with fail
   refine(kPicked_any pn 4 w5 hpn (by omega) (by omega)).mono ?_;rintro e w6 ⟨rfl,hc6⟩;rw[hkk] at HME HMN ⊢;have hsz6:=hc6.size;have hM7:=HM6.out.below hc6;have hO7:Aside (SeqOwn fAx 4 30 w6 w3.heap.size (.slice oa2 b2.length oc2) b2):=HO6.out.below hc6;have hW5:=HB6.out.size;have HB7:Aside (Below w3.heap.size w3 w6):=HB6.out.trans (hc6.mono hW5);clear HO6 HM6 HB6
   by_cases hd:(i:Int) % (1+(kk:Int))=0
   ·have HMX:Aside (mm2++[(⟨2,(i:Int) % 3,0,0⟩:Ax)]=moreS (1+(kk:Int)) 0 (AX.take (i+1))):=by
     show _=_
     rw[HMN.out,pieces_one,if_pos hd,<- HME.out,<- hml2,List.append_assoc]
     rfl
    have bx:=below_box w6 (.cells #[.int .i64 2,.int .i64 ((i:Int) % 3),.int .i64 0,.int .i64 0] 30);have hsn:=seqAx_new w6 (⟨2,(i:Int) % 3,0,0⟩:Ax) 30 w6.heap.size rfl;have hM8:=hM7.below bx;have HO8:=hO7.out.below bx;have sx:(w6.alloc (.cells #[.int .i64 2,.int .i64 ((i:Int) % 3),.int .i64 0,.int .i64 0] 30)).heap.size=w6.heap.size+1:=by simp
    have hsz:=HB7.out.size;have hB8:=HB7.out.trans (bx.mono hsz)
    go_upto_region 13 with(first | (at_builtin;refine wpList_seq Tryz.rowAx rfl _ _ (by rfl) (v:=.slice (some ⟨g,0,none⟩) mm2.length cap) (by simp[Act.eval,hmm2]) hM8 (by omega) [(⟨2,(i:Int) % 3,0,0⟩:Ax)] (some ⟨w6.heap.size,0,none⟩) 1 (by simp[Act.eval]) hsn (by simp) (by simp;omega) (by simp;omega) ?_;rintro g2 cap2 w7 hO4 hg4 hb4 hB4) | fail)
    have hM9:Aside (SeqOwn fAx 4 30 w7 w3.heap.size (.slice oa2 b2.length oc2) b2):=HO8.grown hg4 HA6.out.symm.or;have hA9:Aside (ApartV (.slice oa2 b2.length oc2) (.slice (some ⟨g2,0,none⟩) (mm2++[(⟨2,(i:Int) % 3,0,0⟩:Ax)]).length cap2)):=(ApartV.grow HA6.out (fun j hj=>(World.ownsRow.lt HO8 _ hj).2) hB4).symm;have hO9:Aside (SeqOwn fAx 4 30 w7 w3.heap.size (.slice (some ⟨g2,0,none⟩) (mm2++[(⟨2,(i:Int) % 3,0,0⟩:Ax)]).length cap2) (mm2++[(⟨2,(i:Int) % 3,0,0⟩:Ax)])):=by
     show SeqOwn _ _ _ _ _ _ _
     simpa using hO4
    have hbw9:Aside (Below w3.heap.size w3 w7):=hB8.trans hb4;clear hO4 hg4 hb4 hB4 hM8 HO8 hB8 bx hsn hM7 hO7 HB7;go_wp2
    go_roundg (NX-(i+1))
    case measure=>go_light;omega
    case rel=>go_light;exact⟨i+1,b2,mm2++[(⟨2,(i:Int) % 3,0,0⟩:Ax)],oa2,some ⟨g2,0,none⟩,oc2,cap2,by omega,rfl,by go_num,rfl,by simp[hmm2],hM9,hO9,hA9,hbw9,hbi2,by simp;omega,HBE2,by rw[hkk];exact HMX⟩
   ·have HMX:Aside (mm2=moreS (1+(kk:Int)) 0 (AX.take (i+1))):=by
     show _=_
     rw[HMN.out,pieces_one,if_neg hd,<- HME.out,<- hml2]
    have hM9:Aside (SeqOwn fAx 4 30 w6 w3.heap.size (.slice (some ⟨g,0,none⟩) mm2.length cap) mm2):=hM7;go_wp2
    go_roundg (NX-(i+1))
    case measure=>go_light;omega
    case rel=>go_light;exact⟨i+1,b2,mm2,oa2,some ⟨g,0,none⟩,oc2,cap,by omega,rfl,by go_num,rfl,by rw[hmm2],hO7,hM9,HA6.out.symm,HB7,hbi2,by omega,HBE2,by rw[hkk];exact HMX⟩
theorem topClear_walk (a0:Option Addr) (c0:Nat) (l0:List Rw) (a1:Option Addr) (c1:Nat) (l1:List Rw) (n2 n3:Int) (w:World) (hT:TabAt 0 w) (h0:RawsAt w a0 l0) (hb0:32*l0.length<=140737488351232) (h1:RawsAt w a1 l1) (_:32*l1.length<=140737488351232) (h2:-9223372036854775808<=n2/\n2<=9223372036854775807) (h3:-9223372036854775808<=n3/\n3<=9223372036854775807) :
  Calls Tryz.prog 9 #[.slice a0 l0.length c0,.slice a1 l1.length c1,.int .i64 n2,.int .i64 n3] w fun e w'=>e=.returned (.bool true)/\Below w.heap.size w w' :=
 topClear_any l0 l1 a0 a1 c0 c1 n2 n3 w hT h0 h1 (by omega) h2 h3
end Go.Proofs.YtihpkcccfgbcmaaGreatDoor
