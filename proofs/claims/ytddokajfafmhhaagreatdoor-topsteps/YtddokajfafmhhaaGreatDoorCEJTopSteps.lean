/- TStepsW JTopSteps. -/
import Derived.Test.YtddokajfafmhhaaGreatDoorCETSame
namespace Go.Proofs.YtddokajfafmhhaaGreatDoor
set_option maxRecDepth 100000
set_option maxHeartbeats 8000000
section
open Go.RowKit
theorem topSteps_any (l m:List Rw) (la ma:Option Addr) (lc mc:Nat) (most:Int) (w:World) (hT:TabAt 0 w) (h:RawsAt w la l) (hm:RawsAt w ma m) (hll:32*l.length≤140737488355328) (hmo:fit64 most) :
  Calls Tryz.prog 6 #[.slice la l.length lc,.slice ma m.length mc,.int .i64 most] w fun e w'=>e=.returned (.bool true)∧Below w.heap.size w w':=by
 have hpl:=fun w' (hb:Below w.heap.size w w')=>played_any l m la ma lc mc most w' (hT.keeps (Keeps.below hb)) (h.keeps (Keeps.below hb)) (hm.keeps (Keeps.below hb)) hll hmo
 go_enter Tryz.func6,Tryz.ntmps6
 go_wp2_with fail
 refine (worldTells_any w hT).mono ?_
 rintro e w1 ⟨rfl,hb1⟩
 go_wp2_with fail
 refine (hpl w1 hb1).mono ?_
 rintro e w2 ⟨ao,cap,xa,xc,aa,ac,pa,pc,rfl,hb2,hK,⟨hX,hxc⟩,hVA,hVP⟩
 clear hpl
 obtain ⟨A,C,hPA,_,_⟩:=program_prog (by omega) hK
 have hB2:=hb1.trans (hb2.mono hb1.size)
 have HV:Aside (∀ w',Keeps w2 w'→(ProgAt w' ao 3 A (pL l) C (pX l)∧TabAt 0 w')∧AxsAt w' xa (actsS m 60)∧ActsAt w' aa (playS l m most).acts∧ToldAt w' pa (playS l m most).prints):=fun w' q=>⟨⟨hPA.keeps q,(hT.keeps (Keeps.below hB2)).keeps q⟩,hX.keeps q,hVA.keeps q,hVP.keeps q⟩
 have HDO:Aside (∀ i a,(actsS m 60)[i]?=some a→doWS 3 (pL l) (pX l) (stepsS l m most i) a=(stepsS l m most (i+1),0)):=fun i a ha=>by
  have h1:=steps_next l m most ha
  rw [ok_do (steps_ok l m most i) h1.2,h1.1]
 have HLE:Aside (∀ i a,(actsS m 60)[i]?=some a→(stepsS l m most i).prints.length≤(stepsS l m most (i+1)).prints.length∧(stepsS l m most i).acts.length≤(stepsS l m most (i+1)).acts.length∧(stepsS l m most (i+1)).acts.length≤(stepsS l m most i).acts.length+1):=fun i a ha=>by
  rw [(steps_next l m most ha).1]
  have h1:=act_rest (pX l) (stepsS l m most i) a
  exact ⟨h1.1.1.length_le,h1.2⟩
 have HALL:Aside (stepsS l m most (actsS m 60).length=playS l m most):=steps_all l m most
 have H0:Aside (stepsS l m most 0=newW (2+pick most 40)):=rfl
 have hp40:=pick_bd (n:=most) (many:=40) (by omega)
 have HNW:Aside (wnewE 3 (pL l) (pX l) (2+pick most 40)=0):=by
  show wnewE _ _ _ _=0
  unfold wnewE
  rw [show ckS 3 (pL l) (pX l)=(0,0,0) from program_ok l 14,if_neg (by simp),if_neg (by omega)]
 have hAL:=actsS_len m 60
 generalize playS l m most=V at *
 generalize stepsS l m most=ST at *
 generalize actsS m 60=AX at *
 obtain ⟨KN,hKN⟩:∃ KN,KN=AX.length:=⟨_,rfl⟩
 have HKN:Aside (KN=AX.length):=hKN
 rw [← hKN] at hAL hxc ⊢
 clear hKN hK hPA hX hVA hVP hT h hm
 generalize pF l=PF at *
 generalize pX l=PX at *
 generalize pL l=PL at *
 obtain ⟨NP,NW,_,cb,cs⟩:=boxes2 w2 (.cells #[.slice ao 3 cap] 25) (.cells #[.slice aa V.acts.length ac,.slice pa V.prints.length pc] 29)
 go_upto_region 4 with fail
 generalize (w2.alloc (.cells #[.slice ao 3 cap] 25)).alloc (.cells #[.slice aa V.acts.length ac,.slice pa V.prints.length pc] 29)=w3 at *
 have p3:w3.cell? ⟨w2.heap.size,0,none⟩=some (.slice ao 3 cap):=cell_blk NP 0
 obtain ⟨P,hP⟩:∃ P,P=w2.heap.size:=⟨_,rfl⟩
 have HP0:Aside (P=w2.heap.size):=hP
 rw [← hP] at p3 NP NW ⊢
 clear hP
 have hw40:IntKind.i64.wrap (2+pick most 40)=2+pick most 40:=by rw [IntKind.wrap_i64];omega
 have hnew:∀ w',Below w3.heap.size w3 w'→Calls Tryz.prog 25 #[.agg #[.slice ao 3 cap],.int .i64 (2+pick most 40)] w' fun e w''=>∃ ya yc,e=.returned (.tuple #[.agg #[.slice ya (ST 0).acts.length yc,.slice none (ST 0).prints.length 0],.int .i64 0])∧Below w'.heap.size w' w''∧ActsAt w'' ya (ST 0).acts∧ToldAt w'' none (ST 0).prints:=fun w' hb=>by
  have hv:=(HV.out w' ((Keeps.below cb).trans (Keeps.below hb))).1
  have:=anew_any ao 3 cap A PL C PX (2+pick most 40) w' hv.2 hv.1
  have e1:wnew 3 PL PX (2+pick most 40)=ST 0:=by unfold wnew;rw [if_pos HNW.out,H0.out]
  rw [e1,HNW.out] at this
  exact this
 have hSof:∀ w',Below w3.heap.size w3 w'→(w'.cell? ⟨P,0,none⟩=some (.slice ao 3 cap)):=fun w' hb'=>Keeps.below hb' _ _ p3
 generalize hS0:ST 0=S0 at *
 go_cut [11,12] (fun s11 s12 wc=>∃ G ya yc,s11=.pointer (some ⟨G,0,none⟩)∧s12=.int .i64 0∧Below w3.heap.size w3 wc∧w3.heap.size≤G∧wc.heap[G]?=some (.cells #[.slice ya S0.acts.length yc,.slice none S0.prints.length 0] 29 (0,0))∧ActsAt wc ya S0.acts∧ToldAt wc none S0.prints)
 case first =>
  have hB:Below w3.heap.size w3 w3.drew:=(Below.refl _ _).drew
  refine wp_region_need (fun _=>true) (fun w'=>w'.cell? ⟨P,0,none⟩=some (.slice ao 3 cap)) (by kernel_rfl) (hSof _ hB) (fun hS=>?_)
  generalize w3.drew=wc0 at hS hB  ⊢
  refine tkN 0 hS ?_
  refine tkN 1 hS ?_
  refine twN 2 8 (fun K hK=>?_) (fun K hK=>?_)
  ·go_simp
   refine (kPicked_any most 40 wc0 hmo (by omega) (by omega)).mono ?_
   rintro e wc1 ⟨rfl,hbn⟩
   have hBn:Below w3.heap.size w3 wc1:=hB.trans (hbn.mono hB.size)
   refine otN hK (hSof _ hBn) ?_
   replace hS:=hSof _ hBn
   clear hK
   replace hB:=hBn
   clear hBn hbn
   refine tkN 3 hS ?_
   refine twN 4 8 (fun K hK=>?_) (fun K hK=>?_)
   ·go_simp
    refine (hnew wc1 hB).mono ?_
    rintro e wc2 ⟨ya,yc,rfl,hbn,hYA,hYP⟩
    have hBn:Below w3.heap.size w3 wc2:=hB.trans (hbn.mono hB.size)
    refine otN hK (hSof _ hBn) ?_
    replace hS:=hSof _ hBn
    clear hK
    replace hB:=hBn
    clear hBn hbn
    refine tkN 5 hS ?_
    refine tkN 6 hS ?_
    refine tkN 7 hS ?_
    refine stN 8 (fun K hK=>?_)
    go_simp
    have hbn:=below_box wc2 (Obj.cells #[.slice none 0 0,.slice none 0 0] 29)
    have mG:=Deep.blk_alloc_new wc2 (Obj.cells #[.slice none 0 0,.slice none 0 0] 29)
    have xG:w3.heap.size≤wc2.heap.size:=hB.size
    try have daG:TT≤wc2.heap.size:=sT
    generalize wc2.alloc (Obj.cells #[.slice none 0 0,.slice none 0 0] 29)=wc3 at hbn mG ⊢
    obtain ⟨G,hG⟩:∃ G,G=wc2.heap.size:=⟨_,rfl⟩
    rw [← hG] at mG xG ⊢
    try rw [← hG] at daG
    clear hG
    have hBn:Below w3.heap.size w3 wc3:=hB.trans (hbn.mono hB.size)
    refine otN hK (hSof _ hBn) ?_
    replace hS:=hSof _ hBn
    clear hK
    replace hYA:=hYA.keeps (Keeps.below hbn)
    replace hYP:=hYP.keeps (Keeps.below hbn)
    replace hB:=hBn
    clear hBn hbn
    refine stN 9 (fun K hK=>?_)
    have c0:=cellBlk mG 0
    have c1:=cellBlk mG 1
    have cf:∀ j,wc3.frozen? ⟨G,j,none⟩=false:=fun j=>by simp [World.frozen?,mG]
    simp at c0 c1
    go_simp
    have hBn:=two_below hB xG 0 1 (.slice ya S0.acts.length yc) (.slice none S0.prints.length 0)
    replace hYA:=hYA.off (nilB2 mG) (fun b hb=>two_other 0 1 (.slice ya S0.acts.length yc) (.slice none S0.prints.length 0) hb)
    replace hYP:=hYP.off (nilB2 mG) (fun b hb=>two_other 0 1 (.slice ya S0.acts.length yc) (.slice none S0.prints.length 0) hb)
    replace mG:=two_blk mG 0 1 (.slice ya S0.acts.length yc) (.slice none S0.prints.length 0)
    clear c0 c1 cf
    generalize (wc3.setCell ⟨G,0,none⟩ (.slice ya S0.acts.length yc)).setCell ⟨G,1,none⟩ (.slice none S0.prints.length 0)=wc4 at *
    refine otN hK (hSof _ hBn) ?_
    replace hS:=hSof _ hBn
    clear hK
    replace hB:=hBn
    clear hBn
    refine tkN 10 hS ?_
    refine dnN ?_
    go_wp2_with fail
    go_meet
    case rel=>exact ⟨G,ya,yc,rfl,rfl,hB,xG,mG,hYA,hYP⟩
   ·go_simp
    have hbn:=below_box wc1 (Obj.cells #[.slice none 0 0,.slice none 0 0] 29)
    have mG:=Deep.blk_alloc_new wc1 (Obj.cells #[.slice none 0 0,.slice none 0 0] 29)
    have xG:w3.heap.size≤wc1.heap.size:=hB.size
    try have daG:TT≤wc1.heap.size:=sT
    generalize wc1.alloc (Obj.cells #[.slice none 0 0,.slice none 0 0] 29)=wc2 at hbn mG ⊢
    obtain ⟨G,hG⟩:∃ G,G=wc1.heap.size:=⟨_,rfl⟩
    rw [← hG] at mG xG ⊢
    try rw [← hG] at daG
    clear hG
    have hBn:Below w3.heap.size w3 wc2:=hB.trans (hbn.mono hB.size)
    refine otN hK (hSof _ hBn) ?_
    replace hS:=hSof _ hBn
    clear hK
    replace hB:=hBn
    clear hBn hbn
    refine stN 4 (fun K hK=>?_)
    go_simp
    refine (hnew wc2 hB).mono ?_
    rintro e wc3 ⟨ya,yc,rfl,hbn,hYA,hYP⟩
    have hBn:Below w3.heap.size w3 wc3:=hB.trans (hbn.mono hB.size)
    refine otN hK (hSof _ hBn) ?_
    replace hS:=hSof _ hBn
    clear hK
    replace mG:=(hbn.block _ (Array.getElem?_eq_some_iff.1 mG).1).trans mG
    replace hB:=hBn
    clear hBn hbn
    refine tkN 5 hS ?_
    refine tkN 6 hS ?_
    refine tkN 7 hS ?_
    refine stN 9 (fun K hK=>?_)
    have c0:=cellBlk mG 0
    have c1:=cellBlk mG 1
    have cf:∀ j,wc3.frozen? ⟨G,j,none⟩=false:=fun j=>by simp [World.frozen?,mG]
    simp at c0 c1
    go_simp
    have hBn:=two_below hB xG 0 1 (.slice ya S0.acts.length yc) (.slice none S0.prints.length 0)
    replace hYA:=hYA.off (nilB2 mG) (fun b hb=>two_other 0 1 (.slice ya S0.acts.length yc) (.slice none S0.prints.length 0) hb)
    replace hYP:=hYP.off (nilB2 mG) (fun b hb=>two_other 0 1 (.slice ya S0.acts.length yc) (.slice none S0.prints.length 0) hb)
    replace mG:=two_blk mG 0 1 (.slice ya S0.acts.length yc) (.slice none S0.prints.length 0)
    clear c0 c1 cf
    generalize (wc3.setCell ⟨G,0,none⟩ (.slice ya S0.acts.length yc)).setCell ⟨G,1,none⟩ (.slice none S0.prints.length 0)=wc4 at *
    refine otN hK (hSof _ hBn) ?_
    replace hS:=hSof _ hBn
    clear hK
    replace hB:=hBn
    clear hBn
    refine tkN 10 hS ?_
    refine dnN ?_
    go_wp2_with fail
    go_meet
    case rel=>exact ⟨G,ya,yc,rfl,rfl,hB,xG,mG,hYA,hYP⟩
  ·go_simp
   have hbn:=below_box wc0 (Obj.cells #[.slice none 0 0,.slice none 0 0] 29)
   have mG:=Deep.blk_alloc_new wc0 (Obj.cells #[.slice none 0 0,.slice none 0 0] 29)
   have xG:w3.heap.size≤wc0.heap.size:=hB.size
   try have daG:TT≤wc0.heap.size:=sT
   generalize wc0.alloc (Obj.cells #[.slice none 0 0,.slice none 0 0] 29)=wc1 at hbn mG ⊢
   obtain ⟨G,hG⟩:∃ G,G=wc0.heap.size:=⟨_,rfl⟩
   rw [← hG] at mG xG ⊢
   try rw [← hG] at daG
   clear hG
   have hBn:Below w3.heap.size w3 wc1:=hB.trans (hbn.mono hB.size)
   refine otN hK (hSof _ hBn) ?_
   replace hS:=hSof _ hBn
   clear hK
   replace hB:=hBn
   clear hBn hbn
   refine stN 2 (fun K hK=>?_)
   go_simp
   refine (kPicked_any most 40 wc1 hmo (by omega) (by omega)).mono ?_
   rintro e wc2 ⟨rfl,hbn⟩
   have hBn:Below w3.heap.size w3 wc2:=hB.trans (hbn.mono hB.size)
   refine otN hK (hSof _ hBn) ?_
   replace hS:=hSof _ hBn
   clear hK
   replace mG:=(hbn.block _ (Array.getElem?_eq_some_iff.1 mG).1).trans mG
   replace hB:=hBn
   clear hBn hbn
   refine tkN 3 hS ?_
   refine stN 4 (fun K hK=>?_)
   go_simp
   refine (hnew wc2 hB).mono ?_
   rintro e wc3 ⟨ya,yc,rfl,hbn,hYA,hYP⟩
   have hBn:Below w3.heap.size w3 wc3:=hB.trans (hbn.mono hB.size)
   refine otN hK (hSof _ hBn) ?_
   replace hS:=hSof _ hBn
   clear hK
   replace mG:=(hbn.block _ (Array.getElem?_eq_some_iff.1 mG).1).trans mG
   replace hB:=hBn
   clear hBn hbn
   refine tkN 5 hS ?_
   refine tkN 6 hS ?_
   refine tkN 7 hS ?_
   refine stN 9 (fun K hK=>?_)
   have c0:=cellBlk mG 0
   have c1:=cellBlk mG 1
   have cf:∀ j,wc3.frozen? ⟨G,j,none⟩=false:=fun j=>by simp [World.frozen?,mG]
   simp at c0 c1
   go_simp
   have hBn:=two_below hB xG 0 1 (.slice ya S0.acts.length yc) (.slice none S0.prints.length 0)
   replace hYA:=hYA.off (nilB2 mG) (fun b hb=>two_other 0 1 (.slice ya S0.acts.length yc) (.slice none S0.prints.length 0) hb)
   replace hYP:=hYP.off (nilB2 mG) (fun b hb=>two_other 0 1 (.slice ya S0.acts.length yc) (.slice none S0.prints.length 0) hb)
   replace mG:=two_blk mG 0 1 (.slice ya S0.acts.length yc) (.slice none S0.prints.length 0)
   clear c0 c1 cf
   generalize (wc3.setCell ⟨G,0,none⟩ (.slice ya S0.acts.length yc)).setCell ⟨G,1,none⟩ (.slice none S0.prints.length 0)=wc4 at *
   refine otN hK (hSof _ hBn) ?_
   replace hS:=hSof _ hBn
   clear hK
   replace hB:=hBn
   clear hBn
   refine tkN 10 hS ?_
   refine dnN ?_
   go_wp2_with fail
   go_meet
   case rel=>exact ⟨G,ya,yc,rfl,rfl,hB,xG,mG,hYA,hYP⟩
 case rest =>
  obtain ⟨G,ya,yc,rfl,rfl,hBc,xG,mG,hYA,hYP⟩:=hcut
  clear hnew hSof
  have hBw3:Below w.heap.size w w3:=hB2.trans (cb.mono hB2.size)
  have hBwc:=hBw3.trans (hBc.mono hBw3.size)
  have NPc:=(hBc.block _ (by have:=HP0.out;omega)).trans NP
  have NWc:=(hBc.block _ (by have:=HP0.out;omega)).trans NW
  have hB2c:Below w2.heap.size w2 wc:=cb.trans (hBc.mono cb.size)
  have xG2:w2.heap.size≤G:=by have:=HP0.out;omega
  have xG3:P+1 < G:=by have:=HP0.out;omega
  have p0:wc.cell? ⟨P,0,none⟩=some (.slice ao 3 cap):=Keeps.below hBc _ _ p3
  clear NP NW p3 cb hb1 hb2 hBw3 hBc
  obtain ⟨KM,hKM⟩:∃ KM,KM=min KN 80:=⟨_,rfl⟩
  have hkm1:KM≤KN:=by omega
  have hkm2:KM≤80:=by omega
  have HKM:Aside (KM=min KN 80):=hKM
  have hS0':S0=ST 0:=hS0.symm
  go_upto_region 8 with fail
  have eM:min (KN:Int) 80=(KM:Int):=by omega
  have eX:max ((KM:Nat):Int) 0=(KM:Int):=by omega
  simp only [eM,eX,Int.toNat_natCast]
  clear eM eX hKM hkm2
  have HB0:Aside (Below w2.heap.size w2 wc):=hB2c
  have HB1:Aside (wc.heap[G]?=some (.cells #[.slice ya S0.acts.length yc,.slice none S0.prints.length 0] 29 (0,0))):=mG
  have HB2:Aside (ActsAt wc ya S0.acts∧ToldAt wc none S0.prints):=⟨hYA,hYP⟩
  have HNW3:Aside (wc.heap[P]?=some (.cells #[.slice ao 3 cap] 25 (0,0))∧wc.heap[P+1]?=some (.cells #[.slice aa V.acts.length ac,.slice pa V.prints.length pc] 29 (0,0))):=⟨NPc,NWc⟩
  have hPG:P+1 < wc.heap.size:=(Array.getElem?_eq_some_iff.1 NWc).1
  have hGs:G < wc.heap.size:=(Array.getElem?_eq_some_iff.1 mG).1
  clear hB2c mG hYA hYP NPc NWc p0
  have HI:Aside (Below w2.heap.size w2 wc∧wc.heap[P]?=some (.cells #[.slice ao 3 cap] 25 (0,0))∧wc.heap[P+1]?=some (.cells #[.slice aa V.acts.length ac,.slice pa V.prints.length pc] 29 (0,0))):=⟨HB0.out,HNW3.out⟩
  have HS0:Aside (S0=ST 0):=hS0'
  clear hS0 hS0' HB0 HNW3
  go_loopg [48,14,15,16] KM (fun g s48 s14 s15 s16 wr=>∃ (i:Nat) (ya:Option Addr) (yc:Nat) (yb:Option Addr) (yd:Nat),i≤KM∧g=KM - i∧s48=.int .i64 i∧Aside (Below w2.heap.size w2 wr∧wr.heap[P]?=some (.cells #[.slice ao 3 cap] 25 (0,0))∧wr.heap[P+1]?=some (.cells #[.slice aa V.acts.length ac,.slice pa V.prints.length pc] 29 (0,0)))∧Aside (wr.heap[G]?=some (.cells #[.slice ya (ST i).acts.length yc,.slice yb (ST i).prints.length yd] 29 (0,0)))∧Aside (ActsAt wr ya (ST i).acts∧ToldAt wr yb (ST i).prints))
  case atStart=>exact ⟨0,ya,yc,none,0,Nat.zero_le _,rfl,rfl,HI,by rw [← HS0.out];exact HB1,by rw [← HS0.out];exact HB2⟩
  case round =>
   obtain ⟨i,ya,yc,yb,yd,hi,rfl,rfl,HBr,HG,HY⟩:=hrel
   clear HI HB1 HB2 HS0
   by_cases hiL:i < KM
   ·have hiz:(i:Int) < (KM:Int):=by omega
    obtain ⟨ax,hax⟩:=at_some (l:=AX) (i:=i) (by rw [← HKN.out];omega)
    obtain ⟨lb,lo,rfl,e0,e1,e2,e3⟩:=(HV.out wr (Keeps.below HBr.out.1)).2.1 i ax hax
    have HD:Aside (doWS 3 PL PX (ST i) ax=(ST (i+1),0)):=HDO.out i ax hax
    obtain ⟨l1,l2,l3⟩:=HLE.out i ax hax
    obtain ⟨ak,aw,an,am⟩:=ax
    simp only at e0 e1 e2 e3
    obtain ⟨NQ,_,cq,sq⟩:=boxes1 wr (.cells #[.int .i64 ak,.int .i64 aw,.int .i64 an,.int .i64 am] 53)
    have hsB:=HBr.out.1.size
    have hPl:=(Array.getElem?_eq_some_iff.1 HBr.out.2.2).1
    have hGl:=(Array.getElem?_eq_some_iff.1 HG.out).1
    have hBq:=HBr.out.1.trans (cq.mono hsB)
    have MG:=(cq.block _ hGl).trans HG.out
    have MP:=(cq.block _ (by omega)).trans HBr.out.2.1
    have MQ:=(cq.block _ hPl).trans HBr.out.2.2
    have hYq:ActsAt _ ya (ST i).acts∧ToldAt _ yb (ST i).prints:=⟨HY.out.1.keeps (Keeps.below cq),HY.out.2.keeps (Keeps.below cq)⟩
    go_upto_region 10 with fail
    generalize wr.alloc (.cells #[.int .i64 ak,.int .i64 aw,.int .i64 an,.int .i64 am] 53)=wq at *
    have hv:=HV.out wq (Keeps.below hBq)
    have hdo:=do_any ao 3 cap A PL C PX ya yb yc yd (ST i) ak aw an am wq hv.1.2 hv.1.1 hYq.1 hYq.2
    rw [HD.out] at hdo
    obtain ⟨S2,hS2⟩:∃ S2,S2=ST (i+1):=⟨_,rfl⟩
    have HS2:Aside (S2=ST (i+1)):=hS2
    rw [← hS2] at hdo l1 l2 l3
    clear hS2 HD
    generalize ST i=S1 at *
    have q0:wq.cell? ⟨wr.heap.size,0,none⟩=some (.int .i64 ak):=cell_blk NQ 0
    have q1:wq.cell? ⟨wr.heap.size,1,none⟩=some (.int .i64 aw):=cell_blk NQ 1
    have q2:wq.cell? ⟨wr.heap.size,2,none⟩=some (.int .i64 an):=cell_blk NQ 2
    have q3:wq.cell? ⟨wr.heap.size,3,none⟩=some (.int .i64 am):=cell_blk NQ 3
    have p0:wq.cell? ⟨P,0,none⟩=some (.slice ao 3 cap):=cell_blk MP 0
    have g0:wq.cell? ⟨G,0,none⟩=some (.slice ya S1.acts.length yc):=cell_blk MG 0
    have g1:wq.cell? ⟨G,1,none⟩=some (.slice yb S1.prints.length yd):=cell_blk MG 1
    go_wp2_with fail
    refine hdo.mono ?_
    rintro e w4 ⟨za,zc,zb,zd,rfl,hb4,hZA,hZP,hzc⟩
    simp only at hZA hZP ⊢
    have hB4:=hBq.trans (hb4.mono hBq.size)
    have hq4:=hb4.size
    replace MG:=(hb4.block _ (by omega)).trans MG
    replace MP:=(hb4.block _ (by omega)).trans MP
    replace MQ:=(hb4.block _ (by omega)).trans MQ
    obtain ⟨N5,_,c5,s5⟩:=boxes1 w4 (.cells #[.slice za S2.acts.length zc,.slice zb S2.prints.length zd] 29)
    have hB5:=hB4.trans (c5.mono hB4.size)
    replace MG:=(c5.block _ (by omega)).trans MG
    replace MP:=(c5.block _ (by omega)).trans MP
    replace MQ:=(c5.block _ (by omega)).trans MQ
    replace hZA:=hZA.keeps (Keeps.below c5)
    replace hZP:=hZP.keeps (Keeps.below c5)
    clear q0 q1 q2 q3 p0 g0 g1 hv hdo hYq
    go_upto_region 11 with fail
    generalize w4.alloc (.cells #[.slice za S2.acts.length zc,.slice zb S2.prints.length zd] 29)=w5 at *
    have z0:w5.cell? ⟨w4.heap.size,0,none⟩=some (.slice za S2.acts.length zc):=cell_blk N5 0
    have z1:w5.cell? ⟨w4.heap.size,1,none⟩=some (.slice zb S2.prints.length zd):=cell_blk N5 1
    have g0:w5.cell? ⟨G,0,none⟩=some (.slice ya S1.acts.length yc):=cell_blk MG 0
    have g1:w5.cell? ⟨G,1,none⟩=some (.slice yb S1.prints.length yd):=cell_blk MG 1
    have gf:∀ j,w5.frozen? ⟨G,j,none⟩=false:=fun j=>fz_blk MG j
    have f1:¬ (S2.prints.length:Int) < (S1.prints.length:Int):=by omega
    have f2:¬ (S2.acts.length:Int) < (S1.acts.length:Int):=by omega
    have f3:¬ (S1.acts.length:Int)+1 < (S2.acts.length:Int):=by omega
    have fw:IntKind.i64.wrap ((S1.acts.length:Int)+1)=(S1.acts.length:Int)+1:=by
     have:=hZA.many
     rw [IntKind.wrap_i64];omega
    go_upto_region 14 with fail
    have MG2:=two_blk MG 0 1 (.slice za S2.acts.length zc) (.slice zb S2.prints.length zd)
    have ho:∀ b,b≠G→((w5.setCell ⟨G,0,none⟩ (.slice za S2.acts.length zc)).setCell ⟨G,1,none⟩ (.slice zb S2.prints.length zd)).heap[b]?=w5.heap[b]?:=fun b hb=>two_other 0 1 _ _ hb
    have HB6:Aside (Below w2.heap.size w2 ((w5.setCell ⟨G,0,none⟩ (.slice za S2.acts.length zc)).setCell ⟨G,1,none⟩ (.slice zb S2.prints.length zd))∧((w5.setCell ⟨G,0,none⟩ (.slice za S2.acts.length zc)).setCell ⟨G,1,none⟩ (.slice zb S2.prints.length zd)).heap[P]?=some (.cells #[.slice ao 3 cap] 25 (0,0))∧((w5.setCell ⟨G,0,none⟩ (.slice za S2.acts.length zc)).setCell ⟨G,1,none⟩ (.slice zb S2.prints.length zd)).heap[P+1]?=some (.cells #[.slice aa V.acts.length ac,.slice pa V.prints.length pc] 29 (0,0))) :=
     ⟨two_below hB5 xG2 0 1 (.slice za S2.acts.length zc) (.slice zb S2.prints.length zd),(ho P (by omega)).trans MP,(ho (P+1) (by omega)).trans MQ⟩
    have HY6:Aside (ActsAt ((w5.setCell ⟨G,0,none⟩ (.slice za S2.acts.length zc)).setCell ⟨G,1,none⟩ (.slice zb S2.prints.length zd)) za S2.acts∧ToldAt ((w5.setCell ⟨G,0,none⟩ (.slice za S2.acts.length zc)).setCell ⟨G,1,none⟩ (.slice zb S2.prints.length zd)) zb S2.prints):=⟨hZA.offS (slcB2 MG) ho,hZP.offS (slcB2 MG) ho⟩
    have HG6:Aside (((w5.setCell ⟨G,0,none⟩ (.slice za S2.acts.length zc)).setCell ⟨G,1,none⟩ (.slice zb S2.prints.length zd)).heap[G]?=some (.cells #[.slice za S2.acts.length zc,.slice zb S2.prints.length zd] 29 (0,0))):=MG2
    clear MG2 ho hZA hZP MG MP MQ z0 z1 g0 g1 gf f1 f2 f3 fw N5 c5 hB5 hB4 hb4 hq4 l1 l2 l3 HY
    generalize (w5.setCell ⟨G,0,none⟩ (.slice za S2.acts.length zc)).setCell ⟨G,1,none⟩ (.slice zb S2.prints.length zd)=w6 at *
    go_wp2
    go_roundg (KM - (i+1))
    case measure=>go_light;omega
    case rel=>go_light;exact ⟨i+1,za,zc,zb,zd,by omega,rfl,by go_num,HB6,by rw [← HS2.out];exact HG6,by rw [← HS2.out];exact HY6⟩
   ·have hiz:¬ (i:Int) < (KM:Int):=by omega
    obtain rfl:i=KM:=by omega
    have hBz:=hB2.trans (HBr.out.1.mono hB2.size)
    by_cases hK80:KN≤80
    ·have hE:ST i=V:=by
      have:i=KN:=by have:=HKM.out;omega
      rw [this,HKN.out];exact HALL.out
     have HG2:=HG.out
     have HY2:=HY.out
     rw [hE] at HG2 HY2
     have hv:=HV.out wr (Keeps.below HBr.out.1)
     have f80:¬ (80:Int) < (KN:Int):=by omega
     have g0:wr.cell? ⟨G,0,none⟩=some (.slice ya V.acts.length yc):=cell_blk HG2 0
     have g1:wr.cell? ⟨G,1,none⟩=some (.slice yb V.prints.length yd):=cell_blk HG2 1
     have p0:wr.cell? ⟨P+1,0,none⟩=some (.slice aa V.acts.length ac):=cell_blk HBr.out.2.2 0
     have p1:wr.cell? ⟨P+1,1,none⟩=some (.slice pa V.prints.length pc):=cell_blk HBr.out.2.2 1
     go_wp2_with fail
     refine (same_any aa ya pa yb ac yc pc yd V wr hv.2.2.1 HY2.1 hv.2.2.2 HY2.2).mono ?_
     rintro e w7 ⟨rfl,hb7⟩
     have hB7:=hBz.trans (hb7.mono hBz.size)
     go_wp2
     go_ret
     exact ⟨rfl,hB7⟩
    ·have f80:(80:Int) < (KN:Int):=by omega
     go_wp2
     go_ret
     exact ⟨rfl,hBz⟩
theorem topSteps_walk (a0:Option Addr) (c0:Nat) (l0:List Rw) (a1:Option Addr) (c1:Nat) (l1:List Rw) (n2:Int) (w:World) (hT:TabAt 0 w) (h0:RawsAt w a0 l0) (hb0:32*l0.length≤140737488351232) (h1:RawsAt w a1 l1) (_:32*l1.length≤140737488351232) (hi:-9223372036854775808≤n2∧n2≤9223372036854775807) :
  Calls Tryz.prog 6 #[.slice a0 l0.length c0,.slice a1 l1.length c1,.int .i64 n2] w fun e w'=>e=.returned (.bool true)∧Below w.heap.size w w' :=
 topSteps_any l0 l1 a0 a1 c0 c1 n2 w hT h0 h1 (by omega) hi
end
section
open Go.ChangeShapes Go.WideShapes Go.ChangeAt Go.RowKit
theorem and_up {a b:Bool} (ha:a=true) (hb:b=true):(a && b)=true:=by rw [ha,hb];rfl
theorem topSteps_facts:joinedFacts Tryz.prog 6 Tryz.f6 Rows.topStepsSpec Rows.topStepsRow=true:=by
 unfold joinedFacts
 refine and_up ?_ (by as_aux_lemma=>kernel_rfl)
 refine and_up ?_ (by as_aux_lemma=>kernel_rfl)
 refine and_up ?_ (by as_aux_lemma=>kernel_rfl)
 refine and_up ?_ (by as_aux_lemma=>kernel_rfl)
 refine and_up ?_ (by as_aux_lemma=>kernel_rfl)
 refine and_up ?_ (by as_aux_lemma=>kernel_rfl)
 refine and_up ?_ (by as_aux_lemma=>kernel_rfl)
 refine and_up ?_ (by as_aux_lemma=>kernel_rfl)
 refine and_up ?_ (by as_aux_lemma=>kernel_rfl)
 refine and_up ?_ (by as_aux_lemma=>kernel_rfl)
 refine and_up ?_ (by as_aux_lemma=>kernel_rfl)
 refine and_up ?_ (by as_aux_lemma=>kernel_rfl)
 refine and_up ?_ (by as_aux_lemma=>kernel_rfl)
 refine and_up ?_ (by as_aux_lemma=>kernel_rfl)
 refine and_up ?_ (by as_aux_lemma=>kernel_rfl)
 refine and_up ?_ (by as_aux_lemma=>kernel_rfl)
 refine and_up ?_ (by as_aux_lemma=>kernel_rfl)
 refine and_up ?_ (by as_aux_lemma=>kernel_rfl)
 refine and_up ?_ (by as_aux_lemma=>kernel_rfl)
 refine and_up ?_ (by as_aux_lemma=>kernel_rfl)
 refine and_up ?_ (by as_aux_lemma=>kernel_rfl)
 refine and_up ?_ (by as_aux_lemma=>kernel_rfl)
 refine and_up ?_ (by as_aux_lemma=>kernel_rfl)
 refine and_up ?_ (by as_aux_lemma=>kernel_rfl)
 refine and_up ?_ (by as_aux_lemma=>kernel_rfl)
 refine and_up ?_ (by as_aux_lemma=>kernel_rfl)
 refine and_up ?_ (by as_aux_lemma=>kernel_rfl)
 refine and_up ?_ (by as_aux_lemma=>kernel_rfl)
 refine and_up ?_ (by as_aux_lemma=>kernel_rfl)
 refine and_up ?_ (by as_aux_lemma=>kernel_rfl)
 refine and_up ?_ (by as_aux_lemma=>kernel_rfl)
 as_aux_lemma=>kernel_rfl
end
end Go.Proofs.YtddokajfafmhhaaGreatDoor
