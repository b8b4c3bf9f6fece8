/- JTopBytes. -/
import Derived.Test.YtddokajfafmhhaaGreatDoorCETopBytesKTells
namespace Go.Proofs.YtddokajfafmhhaaGreatDoor
set_option maxRecDepth 100000
set_option maxHeartbeats 8000000
section
open Go.RowKit
theorem topBytes_any (l m:List Rw) (la ma:Option Addr) (lc mc:Nat) (most:Int) (w:World) (hT:TabAt 0 w) (h:RawsAt w la l) (hm:RawsAt w ma m) (hll:32*l.length<=140737488355328) (hmo:fit64 most) :
  Calls Tryz.prog 7 #[.slice la l.length lc,.slice ma m.length mc,.int .i64 most] w fun e w'=>e=.returned (.bool true)/\Below w.heap.size w w':=by
 have hpl:=fun w' (hb:Below w.heap.size w w')=>played_any l m la ma lc mc most w' (hT.keeps (Keeps.below hb)) (h.keeps (Keeps.below hb)) (hm.keeps (Keeps.below hb)) hll hmo
 have HPL:Aside (runWS 3 (pL l) (pX l) (2+pick most 40) (actsS m 60)=(playS l m most,0)):=(play_ok l m most).2
 go_enter Tryz.func7,Tryz.ntmps7
 go_wp2_with fail
 refine(worldTells_any w hT).mono ?_;rintro e w1 ⟨rfl,hb1⟩
 go_wp2_with fail
 refine(hpl w1 hb1).mono ?_;rintro e w2 ⟨ao,cap,xa,xc,aa,ac,pa,pc,rfl,hb2,hK,⟨hX,hxc⟩,hVA,hVP⟩;clear hpl;obtain⟨A,C,hPA,_,hpf⟩:=program_prog (by omega) hK;have hB2:=hb1.trans (hb2.mono hb1.size);have hAL:=actsS_len m 60;obtain⟨F1,F2,F3,F4,F5,F6,F7,F8⟩:=prog_facts (rows:=programS l 14) rfl hpf;have hr3:(programS l 14).length=3:=rfl;have HPL2:Aside (runWS 3 (lenOf (programS l 14)) (xOf (programS l 14)) (2+pick most 40) (actsS m 60)=(playS l m most,0)):=HPL.out
 have HV:Aside (∀ w',Keeps w2 w'->TabAt 0 w'/\AxsAt w' xa (actsS m 60)/\ActsAt w' aa (playS l m most).acts/\ToldAt w' pa (playS l m most).prints):=fun w' q=>⟨(hT.keeps (Keeps.below hB2)).keeps q,hX.keeps q,hVA.keeps q,hVP.keeps q⟩
 clear hX hVA hVP hT h hm hK HPL;generalize playS l m most=V at *;generalize actsS m 60=AX at *;generalize programS l 14=R at *;obtain⟨KN,hKN⟩:∃ KN,KN=AX.length:=⟨_,rfl⟩;have HKN:Aside (KN=AX.length):=hKN;rw[<- hKN] at hAL hxc ⊢;clear hKN;obtain⟨NP,NW,_,cb,cs⟩:=boxes2 w2 (.cells #[.slice ao 3 cap] 25) (.cells #[.slice aa V.acts.length ac,.slice pa V.prints.length pc] 29);have hT2:=(HV.out _ (Keeps.below cb)).1
 have hP2:=hPA.keeps (Keeps.below cb);have hB3:=hB2.trans (cb.mono hB2.size);have hK3:=Keeps.below cb;clear hPA
 go_wp2_with fail
 generalize (w2.alloc (.cells #[.slice ao 3 cap] 25)).alloc (.cells #[.slice aa V.acts.length ac,.slice pa V.prints.length pc] 29)=W at *;refine(encode_any ao 3 cap A _ C _ W hT2 hP2).mono ?_;rintro e w4 ⟨v1,rfl,hB,hb4⟩;rw[hpf];rw[F1] at hB;generalize hbs:progB R=bs at *;obtain⟨g,c1,rfl,_⟩:∃ g cap,v1=.slice (some ⟨g,0,none⟩) bs.length cap/\W.heap.size<=g:=by
  rcases hB.form with⟨_,h0⟩ | hh
  ·subst h0;simp at F4
  ·exact hh
 have hWs:w2.heap.size+1<W.heap.size:=by omega
 have hB4:=hB3.trans (hb4.mono hB3.size);have hK4:=hK3.trans (Keeps.below hb4);have NW4:=(hb4.block _ hWs).trans NW;have hBA:=buf_bytes hB F2 (by omega);clear NP NW cb hb4 hb1 hb2 hP2 hT2 hB
 go_wp2_with fail
 refine(decode_any _ c1 bs w4 hBA (HV.out w4 hK4).1).mono ?_;rintro e w5 ⟨ao2,c2,rows,A2,C2,rfl,hb5,_,hok⟩;obtain⟨hrows,hPq,hfq,hby⟩:=hok F6;rw[F6];rw[F5] at hrows;subst hrows;rw[hr3] at hPq ⊢;clear hby hok hfq;obtain⟨NQ,k5,b5,s5⟩:=boxes1 w5 (Obj.cells #[.slice ao2 3 c2] 25);have hs4:w2.heap.size+1<w4.heap.size:=(Array.getElem?_eq_some_iff.1 NW4).1;have hs5:=hb5.size;have NW5:=(b5.block _ (by omega)).trans ((hb5.block _ hs4).trans NW4)
 have hK5:=(hK4.trans (Keeps.below hb5)).trans k5;have hB5:=(hB4.trans (hb5.mono hB4.size)).trans (b5.mono (Nat.le_trans hB4.size hb5.size));have hPq5:=hPq.keeps k5;clear hPq hBA NW4 hb5 k5 F1 F2 F3 F4 F5 F6 F7 F8 hbs hr3 hpf
 go_upto_region 6 with fail
 generalize w5.alloc (Obj.cells #[.slice ao2 3 c2] 25)=w6 at *;have p6:w6.cell? ⟨w5.heap.size,0,none⟩=some (.slice ao2 3 c2):=cell_blk NQ 0;generalize w5.heap.size=Q at *;have HW6:Aside (w6.cell? ⟨w2.heap.size,1,none⟩=w6.cell? ⟨w2.heap.size,1,none⟩):=rfl;have HW7:Aside (w6.heap[w2.heap.size+1]?=some (.cells #[.slice aa V.acts.length ac,.slice pa V.prints.length pc] 29 (0,0))):=NW5;have hs6:w2.heap.size+1<w6.heap.size:=(Array.getElem?_eq_some_iff.1 NW5).1
 clear NW5 HW6 b5 NQ s5;have hp40:=pick_bd (n:=most) (many:=40) (by omega);have hw40:IntKind.i64.wrap (2+pick most 40)=2+pick most 40:=by rw[IntKind.wrap_i64];omega
 have hrun:∀ w',Below w6.heap.size w6 w'->Calls Tryz.prog 29 #[.agg #[.slice ao2 3 c2],.int .i64 (2+pick most 40),.slice xa KN xc] w' fun e w''=>WAns w' w'' (V,0) e:=fun w' hb=>by
  have hv:=HV.out w' (hK5.trans (Keeps.below hb));have:=run_any ao2 3 c2 A2 _ C2 _ (2+pick most 40) xa xc AX w' hv.1 (hPq5.keeps (Keeps.below hb)) hv.2.1 (by have:=HKN.out;omega);rw[HPL2.out,<- HKN.out] at this
  exact this
 have hSof:∀ w',Below w6.heap.size w6 w'->(w'.cell? ⟨Q,0,none⟩=some (.slice ao2 3 c2)):=fun w' hb'=>Keeps.below hb' _ _ p6
 go_cut [15,16] (fun s15 s16 wc=>∃ G ya yc yb yd,s15=.pointer (some ⟨G,0,none⟩)/\s16=.int .i64 0/\Below w6.heap.size w6 wc/\w6.heap.size<=G/\wc.heap[G]?=some (.cells #[.slice ya V.acts.length yc,.slice yb V.prints.length yd] 29 (0,0))/\ActsAt wc ya V.acts/\ToldAt wc yb V.prints)
 case first =>
  have hB:Below w6.heap.size w6 w6.drew:=(Below.refl _ _).drew;refine wp_region_need (fun _=>true) (fun w'=>w'.cell? ⟨Q,0,none⟩=some (.slice ao2 3 c2)) (by kernel_rfl) (hSof _ hB) (fun hS=>?_);generalize w6.drew=wc0 at hS hB  ⊢;refine tkN 0 hS ?_;refine tkN 1 hS ?_;refine tkN 4 hS ?_;refine twN 2 9 (fun K hK=>?_) (fun K hK=>?_)
  ·go_simp
   refine(kPicked_any most 40 wc0 hmo (by omega) (by omega)).mono ?_;rintro e wc1 ⟨rfl,hbn⟩;have hBn:Below w6.heap.size w6 wc1:=hB.trans (hbn.mono hB.size);refine otN hK (hSof _ hBn) ?_;replace hS:=hSof _ hBn;clear hK;replace hB:=hBn;clear hBn hbn;refine tkN 3 hS ?_;refine twN 5 9 (fun K hK=>?_) (fun K hK=>?_)
   ·go_simp
    refine(hrun wc1 hB).mono ?_;rintro e wc2 ⟨ya,yc,yb,yd,rfl,hbn,hYA,hYP,_⟩
    dsimp only at hYA hYP ⊢
    have hBn:Below w6.heap.size w6 wc2:=hB.trans (hbn.mono hB.size);refine otN hK (hSof _ hBn) ?_;replace hS:=hSof _ hBn;clear hK;replace hB:=hBn;clear hBn hbn;refine tkN 6 hS ?_;refine tkN 7 hS ?_;refine tkN 8 hS ?_;refine stN 9 (fun K hK=>?_);go_simp;have hbn:=below_box wc2 (Obj.cells #[.slice none 0 0,.slice none 0 0] 29);have mG:=Deep.blk_alloc_new wc2 (Obj.cells #[.slice none 0 0,.slice none 0 0] 29)
    have xG:w6.heap.size<=wc2.heap.size:=hB.size
    try have daG:TT<=wc2.heap.size:=sT
    generalize wc2.alloc (Obj.cells #[.slice none 0 0,.slice none 0 0] 29)=wc3 at hbn mG ⊢;obtain⟨G,hG⟩:∃ G,G=wc2.heap.size:=⟨_,rfl⟩;rw[<- hG] at mG xG ⊢
    try rw[<- hG] at daG
    clear hG;have hBn:Below w6.heap.size w6 wc3:=hB.trans (hbn.mono hB.size);refine otN hK (hSof _ hBn) ?_;replace hS:=hSof _ hBn;clear hK;replace hYA:=hYA.keeps (Keeps.below hbn);replace hYP:=hYP.keeps (Keeps.below hbn);replace hB:=hBn;clear hBn hbn;refine stN 10 (fun K hK=>?_);have c0:=cellBlk mG 0;have c1:=cellBlk mG 1;have cf:∀ j,wc3.frozen? ⟨G,j,none⟩=false:=fun j=>by simp[World.frozen?,mG]
    simp at c0 c1;go_simp;have hBn:=two_below hB xG 0 1 (.slice ya V.acts.length yc) (.slice yb V.prints.length yd);replace hYA:=hYA.off (nilB2 mG) (fun b hb=>two_other 0 1 (.slice ya V.acts.length yc) (.slice yb V.prints.length yd) hb);replace hYP:=hYP.off (nilB2 mG) (fun b hb=>two_other 0 1 (.slice ya V.acts.length yc) (.slice yb V.prints.length yd) hb);replace mG:=two_blk mG 0 1 (.slice ya V.acts.length yc) (.slice yb V.prints.length yd)
    clear c0 c1 cf;generalize (wc3.setCell ⟨G,0,none⟩ (.slice ya V.acts.length yc)).setCell ⟨G,1,none⟩ (.slice yb V.prints.length yd)=wc4 at *;refine otN hK (hSof _ hBn) ?_;replace hS:=hSof _ hBn;clear hK;replace hB:=hBn;clear hBn;refine tkN 11 hS ?_;refine dnN ?_
    go_wp2_with fail
    go_meet
    case rel=>exact⟨G,ya,yc,yb,yd,rfl,rfl,hB,xG,mG,hYA,hYP⟩
   ·go_simp
    have hbn:=below_box wc1 (Obj.cells #[.slice none 0 0,.slice none 0 0] 29);have mG:=Deep.blk_alloc_new wc1 (Obj.cells #[.slice none 0 0,.slice none 0 0] 29);have xG:w6.heap.size<=wc1.heap.size:=hB.size
    try have daG:TT<=wc1.heap.size:=sT
    generalize wc1.alloc (Obj.cells #[.slice none 0 0,.slice none 0 0] 29)=wc2 at hbn mG ⊢;obtain⟨G,hG⟩:∃ G,G=wc1.heap.size:=⟨_,rfl⟩;rw[<- hG] at mG xG ⊢
    try rw[<- hG] at daG
    clear hG;have hBn:Below w6.heap.size w6 wc2:=hB.trans (hbn.mono hB.size);refine otN hK (hSof _ hBn) ?_;replace hS:=hSof _ hBn;clear hK;replace hB:=hBn;clear hBn hbn;refine stN 5 (fun K hK=>?_);go_simp;refine(hrun wc2 hB).mono ?_;rintro e wc3 ⟨ya,yc,yb,yd,rfl,hbn,hYA,hYP,_⟩
    dsimp only at hYA hYP ⊢
    have hBn:Below w6.heap.size w6 wc3:=hB.trans (hbn.mono hB.size);refine otN hK (hSof _ hBn) ?_;replace hS:=hSof _ hBn;clear hK;replace mG:=(hbn.block _ (Array.getElem?_eq_some_iff.1 mG).1).trans mG;replace hB:=hBn;clear hBn hbn;refine tkN 6 hS ?_;refine tkN 7 hS ?_;refine tkN 8 hS ?_;refine stN 10 (fun K hK=>?_);have c0:=cellBlk mG 0;have c1:=cellBlk mG 1;have cf:∀ j,wc3.frozen? ⟨G,j,none⟩=false:=fun j=>by simp[World.frozen?,mG]
    simp at c0 c1;go_simp;have hBn:=two_below hB xG 0 1 (.slice ya V.acts.length yc) (.slice yb V.prints.length yd);replace hYA:=hYA.off (nilB2 mG) (fun b hb=>two_other 0 1 (.slice ya V.acts.length yc) (.slice yb V.prints.length yd) hb);replace hYP:=hYP.off (nilB2 mG) (fun b hb=>two_other 0 1 (.slice ya V.acts.length yc) (.slice yb V.prints.length yd) hb);replace mG:=two_blk mG 0 1 (.slice ya V.acts.length yc) (.slice yb V.prints.length yd)
    clear c0 c1 cf;generalize (wc3.setCell ⟨G,0,none⟩ (.slice ya V.acts.length yc)).setCell ⟨G,1,none⟩ (.slice yb V.prints.length yd)=wc4 at *;refine otN hK (hSof _ hBn) ?_;replace hS:=hSof _ hBn;clear hK;replace hB:=hBn;clear hBn;refine tkN 11 hS ?_;refine dnN ?_
    go_wp2_with fail
    go_meet
    case rel=>exact⟨G,ya,yc,yb,yd,rfl,rfl,hB,xG,mG,hYA,hYP⟩
  ·go_simp
   have hbn:=below_box wc0 (Obj.cells #[.slice none 0 0,.slice none 0 0] 29);have mG:=Deep.blk_alloc_new wc0 (Obj.cells #[.slice none 0 0,.slice none 0 0] 29);have xG:w6.heap.size<=wc0.heap.size:=hB.size
   try have daG:TT<=wc0.heap.size:=sT
   generalize wc0.alloc (Obj.cells #[.slice none 0 0,.slice none 0 0] 29)=wc1 at hbn mG ⊢;obtain⟨G,hG⟩:∃ G,G=wc0.heap.size:=⟨_,rfl⟩;rw[<- hG] at mG xG ⊢
   try rw[<- hG] at daG
   clear hG;have hBn:Below w6.heap.size w6 wc1:=hB.trans (hbn.mono hB.size);refine otN hK (hSof _ hBn) ?_;replace hS:=hSof _ hBn;clear hK;replace hB:=hBn;clear hBn hbn;refine stN 2 (fun K hK=>?_);go_simp;refine(kPicked_any most 40 wc1 hmo (by omega) (by omega)).mono ?_;rintro e wc2 ⟨rfl,hbn⟩;have hBn:Below w6.heap.size w6 wc2:=hB.trans (hbn.mono hB.size);refine otN hK (hSof _ hBn) ?_;replace hS:=hSof _ hBn
   clear hK;replace mG:=(hbn.block _ (Array.getElem?_eq_some_iff.1 mG).1).trans mG;replace hB:=hBn;clear hBn hbn;refine tkN 3 hS ?_;refine stN 5 (fun K hK=>?_);go_simp;refine(hrun wc2 hB).mono ?_;rintro e wc3 ⟨ya,yc,yb,yd,rfl,hbn,hYA,hYP,_⟩
   dsimp only at hYA hYP ⊢
   have hBn:Below w6.heap.size w6 wc3:=hB.trans (hbn.mono hB.size);refine otN hK (hSof _ hBn) ?_;replace hS:=hSof _ hBn;clear hK;replace mG:=(hbn.block _ (Array.getElem?_eq_some_iff.1 mG).1).trans mG;replace hB:=hBn;clear hBn hbn;refine tkN 6 hS ?_;refine tkN 7 hS ?_;refine tkN 8 hS ?_;refine stN 10 (fun K hK=>?_);have c0:=cellBlk mG 0;have c1:=cellBlk mG 1;have cf:∀ j,wc3.frozen? ⟨G,j,none⟩=false:=fun j=>by simp[World.frozen?,mG]
   simp at c0 c1;go_simp;have hBn:=two_below hB xG 0 1 (.slice ya V.acts.length yc) (.slice yb V.prints.length yd);replace hYA:=hYA.off (nilB2 mG) (fun b hb=>two_other 0 1 (.slice ya V.acts.length yc) (.slice yb V.prints.length yd) hb);replace hYP:=hYP.off (nilB2 mG) (fun b hb=>two_other 0 1 (.slice ya V.acts.length yc) (.slice yb V.prints.length yd) hb);replace mG:=two_blk mG 0 1 (.slice ya V.acts.length yc) (.slice yb V.prints.length yd)
   clear c0 c1 cf;generalize (wc3.setCell ⟨G,0,none⟩ (.slice ya V.acts.length yc)).setCell ⟨G,1,none⟩ (.slice yb V.prints.length yd)=wc4 at *;refine otN hK (hSof _ hBn) ?_;replace hS:=hSof _ hBn;clear hK;replace hB:=hBn;clear hBn;refine tkN 11 hS ?_;refine dnN ?_
   go_wp2_with fail
   go_meet
   case rel=>exact⟨G,ya,yc,yb,yd,rfl,rfl,hB,xG,mG,hYA,hYP⟩
 case rest =>
  obtain⟨G1,ya,yc,yb,yd,rfl,rfl,hBc,xG1,mG1,hYA,hYP⟩:=hcut;clear hrun hSof;have hv:=HV.out wc (hK5.trans (Keeps.below hBc));have NWc:=(hBc.block _ hs6).trans HW7.out;have g0:wc.cell? ⟨G1,0,none⟩=some (.slice ya V.acts.length yc):=cell_blk mG1 0;have g1:wc.cell? ⟨G1,1,none⟩=some (.slice yb V.prints.length yd):=cell_blk mG1 1;have q0:wc.cell? ⟨w2.heap.size+1,0,none⟩=some (.slice aa V.acts.length ac):=cell_blk NWc 0
  have q1:wc.cell? ⟨w2.heap.size+1,1,none⟩=some (.slice pa V.prints.length pc):=cell_blk NWc 1;have hB6:=hB5.trans (hBc.mono hB5.size)
  go_wp2_with fail
  refine(same_any aa ya pa yb ac yc pc yd V wc hv.2.2.1 hYA hv.2.2.2 hYP).mono ?_;rintro e w7 ⟨rfl,hb7⟩;have hB7:=hB6.trans (hb7.mono hB6.size);go_wp2
  go_ret
  exact⟨rfl,hB7⟩
theorem topBytes_walk (a0:Option Addr) (c0:Nat) (l0:List Rw) (a1:Option Addr) (c1:Nat) (l1:List Rw) (n2:Int) (w:World) (hT:TabAt 0 w) (h0:RawsAt w a0 l0) (hb0:32*l0.length<=140737488351232) (h1:RawsAt w a1 l1) (_:32*l1.length<=140737488351232) (hi:-9223372036854775808<=n2/\n2<=9223372036854775807) :
  Calls Tryz.prog 7 #[.slice a0 l0.length c0,.slice a1 l1.length c1,.int .i64 n2] w fun e w'=>e=.returned (.bool true)/\Below w.heap.size w w' :=
 topBytes_any l0 l1 a0 a1 c0 c1 n2 w hT h0 h1 (by omega) hi
end
section
open Go.ChangeShapes Go.WideShapes Go.ChangeAt Go.RowKit
theorem and_up {a b:Bool} (ha:a=true) (hb:b=true):(a && b)=true:=by rw[ha,hb];rfl
theorem topBytes_facts:joinedFacts Tryz.prog 7 Tryz.f7 Rows.topBytesSpec Rows.topBytesRow=true:=by
 unfold joinedFacts
 refine and_up ?_ (by as_aux_lemma=>kernel_rfl);refine and_up ?_ (by as_aux_lemma=>kernel_rfl);refine and_up ?_ (by as_aux_lemma=>kernel_rfl);refine and_up ?_ (by as_aux_lemma=>kernel_rfl);refine and_up ?_ (by as_aux_lemma=>kernel_rfl);refine and_up ?_ (by as_aux_lemma=>kernel_rfl);refine and_up ?_ (by as_aux_lemma=>kernel_rfl);refine and_up ?_ (by as_aux_lemma=>kernel_rfl);refine and_up ?_ (by as_aux_lemma=>kernel_rfl)
 refine and_up ?_ (by as_aux_lemma=>kernel_rfl);refine and_up ?_ (by as_aux_lemma=>kernel_rfl);refine and_up ?_ (by as_aux_lemma=>kernel_rfl);refine and_up ?_ (by as_aux_lemma=>kernel_rfl);refine and_up ?_ (by as_aux_lemma=>kernel_rfl);refine and_up ?_ (by as_aux_lemma=>kernel_rfl);refine and_up ?_ (by as_aux_lemma=>kernel_rfl);refine and_up ?_ (by as_aux_lemma=>kernel_rfl);refine and_up ?_ (by as_aux_lemma=>kernel_rfl)
 refine and_up ?_ (by as_aux_lemma=>kernel_rfl);refine and_up ?_ (by as_aux_lemma=>kernel_rfl);refine and_up ?_ (by as_aux_lemma=>kernel_rfl);refine and_up ?_ (by as_aux_lemma=>kernel_rfl);refine and_up ?_ (by as_aux_lemma=>kernel_rfl);refine and_up ?_ (by as_aux_lemma=>kernel_rfl);refine and_up ?_ (by as_aux_lemma=>kernel_rfl);refine and_up ?_ (by as_aux_lemma=>kernel_rfl);refine and_up ?_ (by as_aux_lemma=>kernel_rfl)
 refine and_up ?_ (by as_aux_lemma=>kernel_rfl);refine and_up ?_ (by as_aux_lemma=>kernel_rfl);refine and_up ?_ (by as_aux_lemma=>kernel_rfl);refine and_up ?_ (by as_aux_lemma=>kernel_rfl)
 as_aux_lemma=>kernel_rfl
end
end Go.Proofs.YtddokajfafmhhaaGreatDoor
