/- TGoodA TGoodW JWorldsGood. -/
import Derived.Test.YtddokajfafmhhaaGreatDoorCBFacts
import Derived.Test.YtddokajfafmhhaaGreatDoorCBWIsWorld
import Derived.Test.YtddokajfafmhhaaGreatDoorCEWorldsGoodWCopy
namespace Go.Proofs.YtddokajfafmhhaaGreatDoor
set_option maxRecDepth 100000
set_option maxHeartbeats 8000000
section
open Go.RowKit
theorem gbroken_any (kind par M pc fin:Int) (oa ra ba:Option Addr) (O oc R rc B bc:Nat) (w:World) (hf:fin≠8):Calls Tryz.prog 16 #[.agg #[.int .i64 kind,.int .i64 par,.int .i64 M,.slice oa O oc,.slice ra R rc,.int .i64 pc,.slice ba B bc,.int .i64 fin]] w fun e w'=>e=.returned (.bool false)∧Below w.heap.size w w':=by
 have hfb:(fin == 8)=false:=by simp [hf]
 go_enter Tryz.func16,Tryz.ntmps16
 go_wp2
 go_ret
 exact ⟨ret_bool (by simp),below_box _ _⟩
theorem gindexBroken_any (ao:Option Addr) (cap:Nat) (l:List Ac) (w:World) (h:ActsAt w ao l) (hf:∀ x∈l,x.fin≠8) :
  Calls Tryz.prog 41 #[.slice ao l.length cap,.func (.func 16) #[] #[]] w fun e w'=>e=.returned (.int .i64 (-1))∧Below w.heap.size w w':=by
 obtain ⟨L,hL⟩:∃ L,L=l.length:=⟨_,rfl⟩
 have HL:Aside (L=l.length):=hL
 have hm:=h.many
 rw [← hL] at hm ⊢
 clear hL
 go_enter Tryz.func41,Tryz.ntmps41
 go_wp2
 go_loopg [8] L (fun g s8 wr=>∃ i:Nat,i≤L∧g=L - i∧s8=.int .i64 i∧Below w.heap.size w wr)
 case atStart=>exact ⟨0,Nat.zero_le _,rfl,rfl,Below.refl _ _⟩
 case round =>
  obtain ⟨i,hi,rfl,rfl,hbr⟩:=hrel
  by_cases hiL:i < L
  ·have hiz:(i:Int) < (L:Int):=by omega
   obtain ⟨x,hx⟩:=at_some (l:=l) (i:=i) (by rw [← HL.out];exact hiL)
   have hfx:=hf x (List.mem_of_getElem? hx)
   obtain ⟨b,o,oa,oc,ra,rc,ba,bc,rfl,h1⟩:=(h.keeps (Keeps.below hbr)).cell i x hx
   obtain ⟨c0,c1,c2,c3,c4,c5,c6,c7,_,_,_,_,_⟩:=h1
   go_wp2_with fail
   refine (gbroken_any _ _ _ _ _ _ _ _ _ _ _ _ _ _ _ hfx).mono ?_
   rintro e w' ⟨rfl,hb'⟩
   have hb2:=hbr.trans (hb'.mono hbr.size)
   go_wp2_with fail
   go_roundg (L - (i+1))
   case measure=>go_light;omega
   case rel=>go_light;exact ⟨i+1,by omega,rfl,by go_num,hb2⟩
  ·have hiz:¬ (i:Int) < (L:Int):=by omega
   go_wp2
   go_ret
   exact ⟨rfl,hbr⟩
theorem gcontainsBroken_any (ao:Option Addr) (cap:Nat) (l:List Ac) (w:World) (h:ActsAt w ao l) (hf:∀ x∈l,x.fin≠8) :
  Calls Tryz.prog 15 #[.slice ao l.length cap,.func (.func 16) #[] #[]] w fun e w'=>e=.returned (.bool false)∧Below w.heap.size w w':=by
 have hI:=gindexBroken_any ao cap l w h hf
 generalize l.length=L at *
 have HI:Aside (Calls Tryz.prog 41 #[.slice ao L cap,.func (.func 16) #[] #[]] w _):=hI
 clear hI
 go_enter Tryz.func15,Tryz.ntmps15
 go_wp2_with fail
 refine Calls.mono HI.out ?_
 rintro e w' ⟨rfl,hb⟩
 go_wp2
 go_ret
 exact ⟨rfl,hb⟩
def goodS (l m:List Rw) (most:Int):Wd:=(runS (xOf (programS l 12)) (newW (2+pick most 40)) (actsS m 50)).1
theorem good_ok (l m:List Rw) (most:Int):WOk 3 (lenOf (programS l 12)) (fun r=>flowS (xOf (programS l 12) r) (lenOf (programS l 12) r)) (goodS l m most)∧runWS 3 (lenOf (programS l 12)) (xOf (programS l 12)) (2+pick most 40) (actsS m 50)=(goodS l m most,0):=by
 have hc:ckS 3 (lenOf (programS l 12)) (xOf (programS l 12))=(0,0,0):=program_ok l 12
 obtain ⟨hpf,hver⟩:=ver_of (by rw [hc])
 have hp:=pick_bd (n:=most) (many:=40) (by omega)
 have hr:=WOk.run hver (actsS m 50) (wok_new hver (by omega) (M:=2+pick most 40) (by omega)) (actsS_ok m 50)
 have hE:wnewE 3 (lenOf (programS l 12)) (xOf (programS l 12)) (2+pick most 40)=0:=by
  unfold wnewE
  rw [hc,if_neg (by simp),if_neg (by omega)]
 refine ⟨hr.2,?_⟩
 have hl:=actsS_len m 50
 unfold runWS goodS
 rw [hE,if_neg (by simp),if_neg (by omega)]
 exact Prod.ext rfl hr.1
def GoodAns (w w':World) (l m:List Rw) (most:Int) (e:Ending):Prop:=∃ ao cap aa ac pa pc,
 e=.returned (.tuple #[.agg #[.slice ao 3 cap],.agg #[.slice aa (goodS l m most).acts.length ac,.slice pa (goodS l m most).prints.length pc],.bool true])∧Below w.heap.size w w'∧KindsAt w' ao (programS l 12)∧ActsAt w' aa (goodS l m most).acts∧ToldAt w' pa (goodS l m most).prints
theorem world_any (l m:List Rw) (la ma:Option Addr) (lc mc:Nat) (most:Int) (w:World) (hT:TabAt 0 w) (h:RawsAt w la l) (hm:RawsAt w ma m) (hll:32*l.length≤140737488355328) :
  Calls Tryz.prog 11 #[.slice la l.length lc,.slice ma m.length mc,.int .i64 (2+pick most 40)] w fun e w'=>GoodAns w w' l m most e:=by
 obtain ⟨N0,N1,k1,b1,s1⟩:=boxes2 w (.cells #[.slice none 0 0] 25) (.cells #[.slice none 0 0,.slice none 0 0] 29)
 go_enter Tryz.func11,Tryz.ntmps11
 go_upto_region 1 with fail
 generalize (w.alloc (.cells #[.slice none 0 0] 25)).alloc (.cells #[.slice none 0 0,.slice none 0 0] 29)=W at *
 go_wp2_with fail
 refine (kprogram_any l la lc 12 W (h.keeps k1) hll (by omega) (hT.keeps k1)).mono ?_
 rintro e w1 ⟨ao,cap,rfl,hb1,hK⟩
 obtain ⟨NP,_,cp,sp⟩:=boxes1 w1 (.cells #[.slice ao 3 cap] 25)
 have hB1:=b1.trans (hb1.mono b1.size)
 go_upto_region 2 with fail
 replace hK:=hK.keeps (Keeps.below cp)
 have hBp:=hB1.trans (cp.mono hB1.size)
 have hWp:=hb1.trans (cp.mono hb1.size)
 generalize w1.alloc (.cells #[.slice ao 3 cap] 25)=w3 at *
 have hPW:W.heap.size≤w1.heap.size:=hb1.size
 generalize w1.heap.size=P at *
 obtain ⟨A,C,hPA,_,_⟩:=program_prog (by omega) hK
 obtain ⟨hOK,hRW⟩:=good_ok l m most
 have hka:=fun w' (hb:Below w3.heap.size w3 w')=>kacts_any m ma mc 50 w' (hm.keeps (Keeps.below (hBp.trans (hb.mono hBp.size)))) (by omega)
 have hrun:=fun w' xa xc (hb:Below w3.heap.size w3 w') (hX:AxsAt w' xa (actsS m 50))=>run_any ao 3 cap A _ C _ (2+pick most 40) xa xc (actsS m 50) w' ((hT.keeps (Keeps.below hBp)).keeps (Keeps.below hb)) (hPA.keeps (Keeps.below hb)) hX (by have:=actsS_len m 50;omega)
 rw [hRW] at hrun
 have p3:w3.cell? ⟨P,0,none⟩=some (.slice ao 3 cap):=cell_blk NP 0
 have M0:=(hWp.block _ (by omega)).trans N0
 have M1:=(hWp.block _ (by omega)).trans N1
 have HP:Aside (∀ wz aa ac pa pc,Below w.heap.size w wz→KindsAt wz ao (programS l 12)→ActsAt wz aa (goodS l m most).acts→ToldAt wz pa (goodS l m most).prints→GoodAns w wz l m most (.returned (.tuple #[.agg #[.slice ao 3 cap],.agg #[.slice aa (goodS l m most).acts.length ac,.slice pa (goodS l m most).prints.length pc],.bool true]))):=fun wz aa ac pa pc a1 a2 a4 a5=>⟨ao,cap,aa,ac,pa,pc,rfl,a1,a2,a4,a5⟩
 have hB3:=hBp
 have hW3:=hWp
 generalize goodS l m most=V at *
 generalize hAX:actsS m 50=AX at *
 clear hAX hOK hRW hPA
 have hSof:∀ w',Below w3.heap.size w3 w'→(w'.cell? ⟨P,0,none⟩=some (.slice ao 3 cap)):=fun w' hb'=>Keeps.below hb' _ _ p3
 go_cut [10,11] (fun s10 s11 wc=>∃ G aa ac pa pc,s10=.pointer (some ⟨G,0,none⟩)∧s11=.int .i64 0∧Below w3.heap.size w3 wc∧w3.heap.size≤G∧wc.heap[G]?=some (.cells #[.slice aa V.acts.length ac,.slice pa V.prints.length pc] 29 (0,0))∧ActsAt wc aa V.acts∧ToldAt wc pa V.prints)
 case first =>
  have hB:Below w3.heap.size w3 w3.drew:=(Below.refl _ _).drew
  refine wp_region_need (fun _=>true) (fun w'=>w'.cell? ⟨P,0,none⟩=some (.slice ao 3 cap)) (by kernel_rfl) (hSof _ hB) (fun hS=>?_)
  generalize w3.drew=wc0 at hS hB  ⊢
  refine tkN 0 hS ?_
  refine tkN 1 hS ?_
  refine tkN 2 hS ?_
  refine twN 3 8 (fun K hK=>?_) (fun K hK=>?_)
  ·go_simp
   refine (hka wc0 hB).mono ?_
   rintro e wc1 ⟨xa,xc,rfl,hbn,hX,_⟩
   have hBn:Below w3.heap.size w3 wc1:=hB.trans (hbn.mono hB.size)
   refine otN hK (hSof _ hBn) ?_
   replace hS:=hSof _ hBn
   clear hK
   replace hB:=hBn
   clear hBn hbn
   refine twN 4 8 (fun K hK=>?_) (fun K hK=>?_)
   ·go_simp
    refine (hrun wc1 xa xc hB hX).mono ?_
    rintro e wc2 ⟨aa,ac,pa,pc,rfl,hbn,hVA,hVP,_⟩
    dsimp only at hVA hVP ⊢
    have hBn:Below w3.heap.size w3 wc2:=hB.trans (hbn.mono hB.size)
    refine otN hK (hSof _ hBn) ?_
    replace hS:=hSof _ hBn
    clear hK
    replace hX:=hX.keeps (Keeps.below hbn)
    replace hB:=hBn
    clear hBn hbn
    refine tkN 5 hS ?_
    refine tkN 6 hS ?_
    refine tkN 7 hS ?_
    refine stN 8 (fun K hK=>?_)
    go_simp
    have hbn:=below_box wc2 (Obj.cells #[.slice none 0 0,.slice none 0 0] 29)
    have mG:=Deep.blk_alloc_new wc2 (Obj.cells #[.slice none 0 0,.slice none 0 0] 29)
    have xG:w3.heap.size≤wc2.heap.size:=hB.size
    try have daG:TT≤wc2.heap.size:=sT
    generalize wc2.alloc (Obj.cells #[.slice none 0 0,.slice none 0 0] 29)=wc3 at hbn mG ⊢
    obtain ⟨G,hG⟩:∃ G,G=wc2.heap.size:=⟨_,rfl⟩
    rw [← hG] at mG xG ⊢
    try rw [← hG] at daG
    clear hG
    have hBn:Below w3.heap.size w3 wc3:=hB.trans (hbn.mono hB.size)
    refine otN hK (hSof _ hBn) ?_
    replace hS:=hSof _ hBn
    clear hK
    replace hX:=hX.keeps (Keeps.below hbn)
    replace hVA:=hVA.keeps (Keeps.below hbn)
    replace hVP:=hVP.keeps (Keeps.below hbn)
    replace hB:=hBn
    clear hBn hbn
    refine stN 9 (fun K hK=>?_)
    have c0:=cellBlk mG 0
    have c1:=cellBlk mG 1
    have cf:∀ j,wc3.frozen? ⟨G,j,none⟩=false:=fun j=>by simp [World.frozen?,mG]
    simp at c0 c1
    go_simp
    have hBn:=two_below hB xG 0 1 (.slice aa V.acts.length ac) (.slice pa V.prints.length pc)
    replace hVA:=hVA.off (nilB2 mG) (fun b hb=>two_other 0 1 (.slice aa V.acts.length ac) (.slice pa V.prints.length pc) hb)
    replace hVP:=hVP.off (nilB2 mG) (fun b hb=>two_other 0 1 (.slice aa V.acts.length ac) (.slice pa V.prints.length pc) hb)
    replace mG:=two_blk mG 0 1 (.slice aa V.acts.length ac) (.slice pa V.prints.length pc)
    clear c0 c1 cf
    generalize (wc3.setCell ⟨G,0,none⟩ (.slice aa V.acts.length ac)).setCell ⟨G,1,none⟩ (.slice pa V.prints.length pc)=wc4 at *
    refine otN hK (hSof _ hBn) ?_
    replace hS:=hSof _ hBn
    clear hK
    replace hB:=hBn
    clear hBn
    refine tkN 10 hS ?_
    refine dnN ?_
    go_wp2_with fail
    go_meet
    case rel=>exact ⟨G,aa,ac,pa,pc,rfl,rfl,hB,xG,mG,hVA,hVP⟩
   ·go_simp
    have hbn:=below_box wc1 (Obj.cells #[.slice none 0 0,.slice none 0 0] 29)
    have mG:=Deep.blk_alloc_new wc1 (Obj.cells #[.slice none 0 0,.slice none 0 0] 29)
    have xG:w3.heap.size≤wc1.heap.size:=hB.size
    try have daG:TT≤wc1.heap.size:=sT
    generalize wc1.alloc (Obj.cells #[.slice none 0 0,.slice none 0 0] 29)=wc2 at hbn mG ⊢
    obtain ⟨G,hG⟩:∃ G,G=wc1.heap.size:=⟨_,rfl⟩
    rw [← hG] at mG xG ⊢
    try rw [← hG] at daG
    clear hG
    have hBn:Below w3.heap.size w3 wc2:=hB.trans (hbn.mono hB.size)
    refine otN hK (hSof _ hBn) ?_
    replace hS:=hSof _ hBn
    clear hK
    replace hX:=hX.keeps (Keeps.below hbn)
    replace hB:=hBn
    clear hBn hbn
    refine stN 4 (fun K hK=>?_)
    go_simp
    refine (hrun wc2 xa xc hB hX).mono ?_
    rintro e wc3 ⟨aa,ac,pa,pc,rfl,hbn,hVA,hVP,_⟩
    dsimp only at hVA hVP ⊢
    have hBn:Below w3.heap.size w3 wc3:=hB.trans (hbn.mono hB.size)
    refine otN hK (hSof _ hBn) ?_
    replace hS:=hSof _ hBn
    clear hK
    replace hX:=hX.keeps (Keeps.below hbn)
    replace mG:=(hbn.block _ (Array.getElem?_eq_some_iff.1 mG).1).trans mG
    replace hB:=hBn
    clear hBn hbn
    refine tkN 5 hS ?_
    refine tkN 6 hS ?_
    refine tkN 7 hS ?_
    refine stN 9 (fun K hK=>?_)
    have c0:=cellBlk mG 0
    have c1:=cellBlk mG 1
    have cf:∀ j,wc3.frozen? ⟨G,j,none⟩=false:=fun j=>by simp [World.frozen?,mG]
    simp at c0 c1
    go_simp
    have hBn:=two_below hB xG 0 1 (.slice aa V.acts.length ac) (.slice pa V.prints.length pc)
    replace hVA:=hVA.off (nilB2 mG) (fun b hb=>two_other 0 1 (.slice aa V.acts.length ac) (.slice pa V.prints.length pc) hb)
    replace hVP:=hVP.off (nilB2 mG) (fun b hb=>two_other 0 1 (.slice aa V.acts.length ac) (.slice pa V.prints.length pc) hb)
    replace mG:=two_blk mG 0 1 (.slice aa V.acts.length ac) (.slice pa V.prints.length pc)
    clear c0 c1 cf
    generalize (wc3.setCell ⟨G,0,none⟩ (.slice aa V.acts.length ac)).setCell ⟨G,1,none⟩ (.slice pa V.prints.length pc)=wc4 at *
    refine otN hK (hSof _ hBn) ?_
    replace hS:=hSof _ hBn
    clear hK
    replace hB:=hBn
    clear hBn
    refine tkN 10 hS ?_
    refine dnN ?_
    go_wp2_with fail
    go_meet
    case rel=>exact ⟨G,aa,ac,pa,pc,rfl,rfl,hB,xG,mG,hVA,hVP⟩
  ·go_simp
   have hbn:=below_box wc0 (Obj.cells #[.slice none 0 0,.slice none 0 0] 29)
   have mG:=Deep.blk_alloc_new wc0 (Obj.cells #[.slice none 0 0,.slice none 0 0] 29)
   have xG:w3.heap.size≤wc0.heap.size:=hB.size
   try have daG:TT≤wc0.heap.size:=sT
   generalize wc0.alloc (Obj.cells #[.slice none 0 0,.slice none 0 0] 29)=wc1 at hbn mG ⊢
   obtain ⟨G,hG⟩:∃ G,G=wc0.heap.size:=⟨_,rfl⟩
   rw [← hG] at mG xG ⊢
   try rw [← hG] at daG
   clear hG
   have hBn:Below w3.heap.size w3 wc1:=hB.trans (hbn.mono hB.size)
   refine otN hK (hSof _ hBn) ?_
   replace hS:=hSof _ hBn
   clear hK
   replace hB:=hBn
   clear hBn hbn
   refine stN 3 (fun K hK=>?_)
   go_simp
   refine (hka wc1 hB).mono ?_
   rintro e wc2 ⟨xa,xc,rfl,hbn,hX,_⟩
   have hBn:Below w3.heap.size w3 wc2:=hB.trans (hbn.mono hB.size)
   refine otN hK (hSof _ hBn) ?_
   replace hS:=hSof _ hBn
   clear hK
   replace mG:=(hbn.block _ (Array.getElem?_eq_some_iff.1 mG).1).trans mG
   replace hB:=hBn
   clear hBn hbn
   refine stN 4 (fun K hK=>?_)
   go_simp
   refine (hrun wc2 xa xc hB hX).mono ?_
   rintro e wc3 ⟨aa,ac,pa,pc,rfl,hbn,hVA,hVP,_⟩
   dsimp only at hVA hVP ⊢
   have hBn:Below w3.heap.size w3 wc3:=hB.trans (hbn.mono hB.size)
   refine otN hK (hSof _ hBn) ?_
   replace hS:=hSof _ hBn
   clear hK
   replace mG:=(hbn.block _ (Array.getElem?_eq_some_iff.1 mG).1).trans mG
   replace hX:=hX.keeps (Keeps.below hbn)
   replace hB:=hBn
   clear hBn hbn
   refine tkN 5 hS ?_
   refine tkN 6 hS ?_
   refine tkN 7 hS ?_
   refine stN 9 (fun K hK=>?_)
   have c0:=cellBlk mG 0
   have c1:=cellBlk mG 1
   have cf:∀ j,wc3.frozen? ⟨G,j,none⟩=false:=fun j=>by simp [World.frozen?,mG]
   simp at c0 c1
   go_simp
   have hBn:=two_below hB xG 0 1 (.slice aa V.acts.length ac) (.slice pa V.prints.length pc)
   replace hVA:=hVA.off (nilB2 mG) (fun b hb=>two_other 0 1 (.slice aa V.acts.length ac) (.slice pa V.prints.length pc) hb)
   replace hVP:=hVP.off (nilB2 mG) (fun b hb=>two_other 0 1 (.slice aa V.acts.length ac) (.slice pa V.prints.length pc) hb)
   replace mG:=two_blk mG 0 1 (.slice aa V.acts.length ac) (.slice pa V.prints.length pc)
   clear c0 c1 cf
   generalize (wc3.setCell ⟨G,0,none⟩ (.slice aa V.acts.length ac)).setCell ⟨G,1,none⟩ (.slice pa V.prints.length pc)=wc4 at *
   refine otN hK (hSof _ hBn) ?_
   replace hS:=hSof _ hBn
   clear hK
   replace hB:=hBn
   clear hBn
   refine tkN 10 hS ?_
   refine dnN ?_
   go_wp2_with fail
   go_meet
   case rel=>exact ⟨G,aa,ac,pa,pc,rfl,rfl,hB,xG,mG,hVA,hVP⟩
 case rest =>
  obtain ⟨G,aa,ac,pa,pc,rfl,rfl,hBc,xG,mG,hVA,hVP⟩:=hcut
  clear hrun hSof
  replace hK:=hK.keeps (Keeps.below hBc)
  replace p3:=Keeps.below hBc _ _ p3
  have hBw:=hB3.trans (hBc.mono hB3.size)
  replace M0:=(hBc.block _ (by have:=hW3.size;omega)).trans M0
  replace M1:=(hBc.block _ (by have:=hW3.size;omega)).trans M1
  have sW3:=hW3.size
  go_upto_region 3 with fail
  have g0:wc.cell? ⟨G,0,none⟩=some (.slice aa V.acts.length ac):=cell_blk mG 0
  have g1:wc.cell? ⟨G,1,none⟩=some (.slice pa V.prints.length pc):=cell_blk mG 1
  have hBd:Below wc.heap.size wc wc.drew:=(Below.refl _ _).drew
  have nP0:P≠w.heap.size:=by omega
  have nP1:P≠w.heap.size+1:=by omega
  have nG0:G≠w.heap.size:=by omega
  have nG1:G≠w.heap.size+1:=by omega
  have hS3:∀ w':World,w'.heap[P]?=wc.heap[P]?→w'.heap[G]?=wc.heap[G]?→(w'.cell? ⟨P,0,none⟩=some (.slice ao 3 cap)∧w'.cell? ⟨G,0,none⟩=some (.slice aa V.acts.length ac)∧w'.cell? ⟨G,1,none⟩=some (.slice pa V.prints.length pc)):=fun w' h1 h2=>⟨(World.cell?_of_block (a:=⟨P,0,none⟩) h1).trans p3,(World.cell?_of_block (a:=⟨G,0,none⟩) h2).trans g0,(World.cell?_of_block (a:=⟨G,1,none⟩) h2).trans g1⟩
  have hPl2:P < wc.heap.size:=World.block_lt_of_cell? _ _ p3
  have hGl2:=(Array.getElem?_eq_some_iff.1 mG).1
  refine wp_region_need (fun _=>true) (fun w'=>w'.cell? ⟨P,0,none⟩=some (.slice ao 3 cap)∧w'.cell? ⟨G,0,none⟩=some (.slice aa V.acts.length ac)∧w'.cell? ⟨G,1,none⟩=some (.slice pa V.prints.length pc)) (by kernel_rfl) (hS3 _ (hBd.block _ hPl2) (hBd.block _ hGl2)) (fun hS=>?_)
  have e0P:=hBd.block _ hPl2
  have e0G:=hBd.block _ hGl2
  replace M0:=(hBd.block _ (Array.getElem?_eq_some_iff.1 M0).1).trans M0
  replace M1:=(hBd.block _ (Array.getElem?_eq_some_iff.1 M1).1).trans M1
  replace hK:=hK.keeps (Keeps.below hBd)
  replace hVA:=hVA.keeps (Keeps.below hBd)
  replace hVP:=hVP.keeps (Keeps.below hBd)
  replace hBw:=hBw.trans (hBd.mono hBw.size)
  generalize wc.drew=wn at hS M0 M1 hK hVA hVP hBw e0P e0G ⊢
  refine tkN 0 hS ?_
  refine tkN 1 hS ?_
  refine tkN 2 hS ?_
  refine tkN 3 hS ?_
  have z0:wn.cell? ⟨w.heap.size,0,none⟩=some (.slice none 0 0):=cell_blk M0 0
  have zf:∀ i,wn.frozen? ⟨w.heap.size,i,none⟩=false:=fun i=>fz_blk M0 i
  refine stN 4 (fun K hK=>?_)
  go_simp
  have o1:∀ b,b≠w.heap.size→(wn.setCell ⟨w.heap.size,0,none⟩ (.slice ao 3 cap)).heap[b]?=wn.heap[b]?:=fun b hb=>Deep.blk_setCell_other _ ⟨w.heap.size,0,none⟩ _ _ hb
  have T0:(wn.setCell ⟨w.heap.size,0,none⟩ (.slice ao 3 cap)).heap[w.heap.size]?=some (.cells #[.slice ao 3 cap] 25 (0,0)):=setCell_blk M0 0 (.slice ao 3 cap)
  have hB6:Below w.heap.size w (wn.setCell ⟨w.heap.size,0,none⟩ (.slice ao 3 cap)):=hBw.setCell (Nat.le_refl _) _
  have r6:=hS3 (wn.setCell ⟨w.heap.size,0,none⟩ (.slice ao 3 cap)) ((o1 P nP0).trans e0P) ((o1 G nG0).trans e0G)
  refine otN hK (r6) ?_
  clear hK
  replace hS:=r6
  have f1P:=(o1 P nP0).trans e0P
  have f1G:=(o1 G nG0).trans e0G
  have hK6:=hK.off (programS_pos l 12) (nilB1 M0) o1
  have hA6:=hVA.off (nilB1 M0) o1
  have hP6:=hVP.off (nilB1 M0) o1
  have M6:=(o1 (w.heap.size+1) (by omega)).trans M1
  clear z0 zf r6
  generalize wn.setCell ⟨w.heap.size,0,none⟩ (.slice ao 3 cap)=w6 at *
  have z0:w6.cell? ⟨w.heap.size+1,0,none⟩=some (.slice none 0 0):=cell_blk M6 0
  have z1:w6.cell? ⟨w.heap.size+1,1,none⟩=some (.slice none 0 0):=cell_blk M6 1
  have zf:∀ i,w6.frozen? ⟨w.heap.size+1,i,none⟩=false:=fun i=>fz_blk M6 i
  refine stN 5 (fun K hK=>?_)
  go_simp
  have o2:∀ b,b≠w.heap.size+1→((w6.setCell ⟨w.heap.size+1,0,none⟩ (.slice aa V.acts.length ac)).setCell ⟨w.heap.size+1,1,none⟩ (.slice pa V.prints.length pc)).heap[b]?=w6.heap[b]?:=fun b hb=>two_other 0 1 _ _ hb
  have T1:=two_blk M6 0 1 (.slice aa V.acts.length ac) (.slice pa V.prints.length pc)
  have hB7:=two_below hB6 (show w.heap.size≤w.heap.size+1 by omega) 0 1 (.slice aa V.acts.length ac) (.slice pa V.prints.length pc)
  have r7:=hS3 ((w6.setCell ⟨w.heap.size+1,0,none⟩ (.slice aa V.acts.length ac)).setCell ⟨w.heap.size+1,1,none⟩ (.slice pa V.prints.length pc)) ((o2 P nP1).trans f1P) ((o2 G nG1).trans f1G)
  refine otN hK (r7) ?_
  clear hK
  replace hS:=r7
  have T0':=(o2 w.heap.size (by omega)).trans T0
  have HZ:=HP.out _ aa ac pa pc hB7 (hK6.off (programS_pos l 12) (nilB2 M6) o2) (hA6.off (nilB2 M6) o2) (hP6.off (nilB2 M6) o2)
  have HZ2:Aside (GoodAns w _ l m most _):=HZ
  clear z0 z1 zf r7 HZ o1 o2 hK hVA hVP hK6 hA6 hP6
  generalize (w6.setCell ⟨w.heap.size+1,0,none⟩ (.slice aa V.acts.length ac)).setCell ⟨w.heap.size+1,1,none⟩ (.slice pa V.prints.length pc)=w7 at *
  refine tkN 6 hS ?_
  refine dnN ?_
  have y0:=cell_blk T0' 0
  have y1:=cell_blk T1 0
  have y2:=cell_blk T1 1
  simp at y0 y1 y2
  go_wp2
  exact bodyPost_ret (v:=.tuple #[.agg #[.slice ao 3 cap],.agg #[.slice aa V.acts.length ac,.slice pa V.prints.length pc],.bool true]) (by simp [results,Tryz.results11,go_sem,y0,y1,y2]) rfl HZ2.out
end
section
open Go.RowKit
theorem worldsGood_any (l m:List Rw) (la ma:Option Addr) (lc mc:Nat) (most:Int) (w:World) (hT:TabAt 0 w) (h:RawsAt w la l) (hm:RawsAt w ma m) (hll:32*l.length≤140737488355328) (hmo:fit64 most) :
  Calls Tryz.prog 3 #[.slice la l.length lc,.slice ma m.length mc,.int .i64 most] w fun e w'=>e=.returned (.bool true)∧Below w.heap.size w w':=by
 obtain ⟨hOK,_⟩:=good_ok l m most
 have hfin:∀ x∈(goodS l m most).acts,x.fin≠8:=fun x hx=>by
  obtain ⟨i,hi⟩:=List.mem_iff_getElem?.1 hx
  have:=(hOK.acts i x hi).fin
  omega
 have hck:ckS 3 (lenOf (programS l 12)) (xOf (programS l 12))=(0,0,0):=program_ok l 12
 have hw:wckS 3 (lenOf (programS l 12)) (xOf (programS l 12)) (goodS l m most)=0:=by
  unfold wckS
  rw [hck,if_neg (by simp),hOK.may]
  rfl
 have hw0:wckS 3 (lenOf (programS l 12)) (xOf (programS l 12)) ⟨[],[]⟩=8:=by
  unfold wckS
  rw [hck,if_neg (by simp)]
  rfl
 have hpl:=fun w' (hb:Below w.heap.size w w')=>world_any l m la ma lc mc most w' (hT.keeps (Keeps.below hb)) (h.keeps (Keeps.below hb)) (hm.keeps (Keeps.below hb)) hll
 have hp40:=pick_bd (n:=most) (many:=40) (by omega)
 have hw40:IntKind.i64.wrap (2+pick most 40)=2+pick most 40:=by rw [IntKind.wrap_i64];omega
 clear hOK hck
 go_enter Tryz.func3,Tryz.ntmps3
 go_wp2_with fail
 refine (picked_any most 40 w hmo.1 hmo.2 (by omega) (by omega)).mono ?_
 rintro e w1 ⟨rfl,hw1⟩
 replace hw1:=hw1.symm
 subst hw1
 go_wp2_with fail
 refine (hpl w1 (Below.refl _ _)).mono ?_
 rintro e w2 ⟨ao,cap,aa,ac,pa,pc,rfl,hb2,hK,hVA,hVP⟩
 clear hpl
 obtain ⟨A,C,hPA,_,_⟩:=program_prog (by omega) hK
 have hT2:=hT.keeps (Keeps.below hb2)
 have hchk:=fun w' (hb:Below w2.heap.size w2 w')=>acheck_any ao 3 cap A _ C _ aa pa ac pc (goodS l m most) w' (hT2.keeps (Keeps.below hb)) (hPA.keeps (Keeps.below hb)) (hVA.keeps (Keeps.below hb)) (hVP.keeps (Keeps.below hb))
 have hchk2:=fun w' (hb:Below w2.heap.size w2 w') xa xc ya yc (h1:ActsAt w' xa (goodS l m most).acts) (h2:ToldAt w' ya (goodS l m most).prints)=>acheck_any ao 3 cap A _ C _ xa ya xc yc (goodS l m most) w' (hT2.keeps (Keeps.below hb)) (hPA.keeps (Keeps.below hb)) h1 h2
 have hchk3:=fun w' (hb:Below w2.heap.size w2 w')=>acheck_any ao 3 cap A _ C _ none none 0 0 ⟨[],[]⟩ w' (hT2.keeps (Keeps.below hb)) (hPA.keeps (Keeps.below hb)) (ActsAt.nil _ _) (ToldAt.nil _ _)
 rw [hw] at hchk hchk2
 rw [hw0] at hchk3
 simp only [List.length_nil] at hchk3
 have hcop:=fun w' (hb:Below w2.heap.size w2 w')=>copy_any aa pa ac pc (goodS l m most) w' (hVA.keeps (Keeps.below hb)) (hVP.keeps (Keeps.below hb))
 have hcon:=fun w' (hb:Below w2.heap.size w2 w')=>gcontainsBroken_any aa ac (goodS l m most).acts w' (hVA.keeps (Keeps.below hb)) hfin
 generalize goodS l m most=V at *
 generalize V.acts.length=LA at *
 generalize V.prints.length=LP at *
 obtain ⟨NP,NW,_,cb,_⟩:=boxes2 w2 (.cells #[.slice ao 3 cap] 25) (.cells #[.slice aa LA ac,.slice pa LP pc] 29)
 clear hK hPA hVA hVP hT h hm hT2
 go_upto_region 2 with fail
 generalize (w2.alloc (.cells #[.slice ao 3 cap] 25)).alloc (.cells #[.slice aa LA ac,.slice pa LP pc] 29)=w3 at *
 have p0:w3.cell? ⟨w2.heap.size,0,none⟩=some (.slice ao 3 cap):=cell_blk NP 0
 have q0:w3.cell? ⟨w2.heap.size+1,0,none⟩=some (.slice aa LA ac):=cell_blk NW 0
 have q1:w3.cell? ⟨w2.heap.size+1,1,none⟩=some (.slice pa LP pc):=cell_blk NW 1
 have hSof:∀ w',Below w3.heap.size w3 w'→(w'.cell? ⟨w2.heap.size,0,none⟩=some (.slice ao 3 cap)∧w'.cell? ⟨w2.heap.size+1,0,none⟩=some (.slice aa LA ac)∧w'.cell? ⟨w2.heap.size+1,1,none⟩=some (.slice pa LP pc)):=fun w' hb =>
  have k:=Keeps.below hb
  ⟨k _ _ p0,k _ _ q0,k _ _ q1⟩
 have hB:Below w3.heap.size w3 w3.drew:=(Below.refl _ _).drew
 have lift:∀ {w'},Below w3.heap.size w3 w'→Below w2.heap.size w2 w':=fun hb=>cb.trans (hb.mono cb.size)
 refine wp_region_need (fun _=>true) (fun w'=>w'.cell? ⟨w2.heap.size,0,none⟩=some (.slice ao 3 cap)∧w'.cell? ⟨w2.heap.size+1,0,none⟩=some (.slice aa LA ac)∧w'.cell? ⟨w2.heap.size+1,1,none⟩=some (.slice pa LP pc)) (by kernel_rfl) (hSof _ hB) (fun hS=>?_)
 generalize w3.drew=wc0 at hB hS ⊢
 refine tkN 0 hS ?_
 refine tkN 1 hS ?_
 refine tkN 2 hS ?_
 refine tkN 3 hS ?_
 refine stN 4 (fun K hK=>?_)
 go_simp
 refine (hchk wc0 (lift hB)).mono ?_
 rintro e wa ⟨rfl,hba⟩
 have hBa:=hB.trans (hba.mono hB.size)
 refine otN hK (hSof _ hBa) ?_
 clear hK
 replace hS:=hSof _ hBa
 refine tkN 5 hS ?_
 refine tkN 6 hS ?_
 refine tkN 7 hS ?_
 refine tkN 8 hS ?_
 refine tkN 9 hS ?_
 refine stN 10 (fun K hK=>?_)
 go_simp
 refine (hcop wa (lift hBa)).mono ?_
 rintro e wb ⟨ga,gp,rfl,hbb,hva,hvp⟩
 have hBb:=hBa.trans (hbb.mono hBa.size)
 refine otN hK (hSof _ hBb) ?_
 clear hK
 replace hS:=hSof _ hBb
 refine stN 11 (fun K hK=>?_)
 go_simp
 refine (hchk2 wb (lift hBb) (some ⟨ga,0,none⟩) LA (some ⟨gp,0,none⟩) LP hva hvp).mono ?_
 rintro e wd ⟨rfl,hbd⟩
 have hBd:=hBb.trans (hbd.mono hBb.size)
 refine otN hK (hSof _ hBd) ?_
 clear hK
 replace hS:=hSof _ hBd
 refine tkN 12 hS ?_
 refine tkN 13 hS ?_
 refine tkN 14 hS ?_
 refine tkN 15 hS ?_
 refine tkN 16 hS ?_
 refine stN 17 (fun K hK=>?_)
 go_simp
 refine (hchk3 wd (lift hBd)).mono ?_
 rintro e we ⟨rfl,hbe⟩
 have hBe:=hBd.trans (hbe.mono hBd.size)
 refine otN hK (hSof _ hBe) ?_
 clear hK
 replace hS:=hSof _ hBe
 refine tkN 18 hS ?_
 refine tkN 19 hS ?_
 refine tkN 20 hS ?_
 refine tkN 21 hS ?_
 refine tkN 22 hS ?_
 refine stN 23 (fun K hK=>?_)
 go_simp
 refine (hcon we (lift hBe)).mono ?_
 rintro e wf ⟨rfl,hbf⟩
 have hBf:=hBe.trans (hbf.mono hBe.size)
 refine otN hK (hSof _ hBf) ?_
 clear hK
 replace hS:=hSof _ hBf
 refine tkN 24 hS ?_
 refine tkN 25 hS ?_
 refine tkN 26 hS ?_
 refine dnN ?_
 have hBz:=hb2.trans ((lift hBf).mono hb2.size)
 go_wp2
 go_ret
 exact ⟨rfl,hBz⟩
theorem worldsGood_walk (a0:Option Addr) (c0:Nat) (l0:List Rw) (a1:Option Addr) (c1:Nat) (l1:List Rw) (n2:Int) (w:World) (hT:TabAt 0 w) (h0:RawsAt w a0 l0) (hb0:32*l0.length≤140737488351232) (h1:RawsAt w a1 l1) (_:32*l1.length≤140737488351232) (hi:-9223372036854775808≤n2∧n2≤9223372036854775807) :
  Calls Tryz.prog 3 #[.slice a0 l0.length c0,.slice a1 l1.length c1,.int .i64 n2] w fun e w'=>e=.returned (.bool true)∧Below w.heap.size w w' :=
 worldsGood_any l0 l1 a0 a1 c0 c1 n2 w hT h0 h1 (by omega) hi
end
section
open Go.ChangeShapes Go.WideShapes Go.ChangeAt Go.RowKit
theorem and_up {a b:Bool} (ha:a=true) (hb:b=true):(a && b)=true:=by rw [ha,hb];rfl
theorem worldsGood_facts:joinedFacts Tryz.prog 3 Tryz.f3 Rows.worldsGoodSpec Rows.worldsGoodRow=true:=by
 unfold joinedFacts
 refine and_up ?_ (by as_aux_lemma=>kernel_rfl)
 refine and_up ?_ (by as_aux_lemma=>kernel_rfl)
 refine and_up ?_ (by as_aux_lemma=>kernel_rfl)
 refine and_up ?_ (by as_aux_lemma=>kernel_rfl)
 refine and_up ?_ (by as_aux_lemma=>kernel_rfl)
 refine and_up ?_ (by as_aux_lemma=>kernel_rfl)
 refine and_up ?_ (by as_aux_lemma=>kernel_rfl)
 refine and_up ?_ (by as_aux_lemma=>kernel_rfl)
 refine and_up ?_ (by as_aux_lemma=>kernel_rfl)
 refine and_up ?_ (by as_aux_lemma=>kernel_rfl)
 refine and_up ?_ (by as_aux_lemma=>kernel_rfl)
 refine and_up ?_ (by as_aux_lemma=>kernel_rfl)
 refine and_up ?_ (by as_aux_lemma=>kernel_rfl)
 refine and_up ?_ (by as_aux_lemma=>kernel_rfl)
 refine and_up ?_ (by as_aux_lemma=>kernel_rfl)
 refine and_up ?_ (by as_aux_lemma=>kernel_rfl)
 refine and_up ?_ (by as_aux_lemma=>kernel_rfl)
 refine and_up ?_ (by as_aux_lemma=>kernel_rfl)
 refine and_up ?_ (by as_aux_lemma=>kernel_rfl)
 refine and_up ?_ (by as_aux_lemma=>kernel_rfl)
 refine and_up ?_ (by as_aux_lemma=>kernel_rfl)
 refine and_up ?_ (by as_aux_lemma=>kernel_rfl)
 refine and_up ?_ (by as_aux_lemma=>kernel_rfl)
 refine and_up ?_ (by as_aux_lemma=>kernel_rfl)
 refine and_up ?_ (by as_aux_lemma=>kernel_rfl)
 refine and_up ?_ (by as_aux_lemma=>kernel_rfl)
 refine and_up ?_ (by as_aux_lemma=>kernel_rfl)
 refine and_up ?_ (by as_aux_lemma=>kernel_rfl)
 refine and_up ?_ (by as_aux_lemma=>kernel_rfl)
 refine and_up ?_ (by as_aux_lemma=>kernel_rfl)
 refine and_up ?_ (by as_aux_lemma=>kernel_rfl)
 as_aux_lemma=>kernel_rfl
end
end Go.Proofs.YtddokajfafmhhaaGreatDoor
