/- TEndedW JTopEnded. -/
import Derived.Test.YtddokajfafmhhaaGreatDoorCETSame
namespace Go.Proofs.YtddokajfafmhhaaGreatDoor
set_option maxRecDepth 100000
set_option maxHeartbeats 8000000
section
open Go.RowKit
theorem end_facts {l:List Rw} {V:Wd} (h:WOk 3 (pL l) (pF l) V) {i:Nat} {x:Ac} (hx:V.acts[i]?=some x) (hf:x.fin≠0) (kind n:Int):doWS 3 (pL l) (pX l) V ⟨1+pick kind 3,i,pick n 9,0⟩=(V,0)∧x.box=[]∧x.obs=[]:=by
 have hi:i < V.acts.length:=(List.getElem?_eq_some_iff.1 hx).1
 have e:V.at (i:Int)=x:=by unfold Wd.at;rw [Int.toNat_natCast,hx];rfl
 have h8:=h.len
 have k3:=pick_bd (n:=kind) (many:=3) (by omega)
 have k9:=pick_bd (n:=n) (many:=9) (by omega)
 have ha:axFault ⟨1+pick kind 3,i,pick n 9,0⟩=0:=by
  unfold axFault
  simp only
  have w1:isW (pick n 9)=true:=isW_iff.2 (by omega)
  have w2:isW 0=true:=isW_iff.2 (by omega)
  rw [if_neg (by omega),w1,w2,if_neg (by simp;omega)]
 have hg:=((h.acts i x hx).gone).resolve_left hf
 refine ⟨?_,hg.1,hg.2.1⟩
 rw [ok_do h ha,ended_act h hi (by rw [e];exact hf)]
theorem topEnded_any (l m:List Rw) (la ma:Option Addr) (lc mc:Nat) (most kind nn:Int) (w:World) (hT:TabAt 0 w) (h:RawsAt w la l) (hm:RawsAt w ma m) (hll:32*l.length≤140737488355328) (hmo:fit64 most) (hki:fit64 kind) (hnn:fit64 nn) :
  Calls Tryz.prog 8 #[.slice la l.length lc,.slice ma m.length mc,.int .i64 most,.int .i64 kind,.int .i64 nn] w fun e w'=>e=.returned (.bool true)∧Below w.heap.size w w':=by
 have hpl:=fun w' (hb:Below w.heap.size w w')=>played_any l m la ma lc mc most w' (hT.keeps (Keeps.below hb)) (h.keeps (Keeps.below hb)) (hm.keeps (Keeps.below hb)) hll hmo
 have HE:Aside (∀ (i:Nat) x,(playS l m most).acts[i]?=some x→x.fin≠0→doWS 3 (pL l) (pX l) (playS l m most) ⟨1+pick kind 3,i,pick nn 9,0⟩=(playS l m most,0)∧x.box=[]∧x.obs=[]):=fun i x hx hf=>end_facts (play_ok l m most).1 hx hf kind nn
 have hV8:=(play_ok l m most).1.len
 go_enter Tryz.func8,Tryz.ntmps8
 go_wp2_with fail
 refine (worldTells_any w hT).mono ?_
 rintro e w1 ⟨rfl,hb1⟩
 go_wp2_with fail
 refine (hpl w1 hb1).mono ?_
 rintro e w2 ⟨ao,cap,xa,xc,aa,ac,pa,pc,rfl,hb2,hK,_,hVA,hVP⟩
 clear hpl
 obtain ⟨A,C,hPA,_,_⟩:=program_prog (by omega) hK
 have hB2:=hb1.trans (hb2.mono hb1.size)
 have HV:Aside (∀ w',Keeps w2 w'→(ProgAt w' ao 3 A (pL l) C (pX l)∧TabAt 0 w')∧ActsAt w' aa (playS l m most).acts∧ToldAt w' pa (playS l m most).prints):=fun w' q=>⟨⟨hPA.keeps q,(hT.keeps (Keeps.below hB2)).keeps q⟩,hVA.keeps q,hVP.keeps q⟩
 have hp3:=pick_bd (n:=kind) (many:=3) (by omega)
 have hp9:=pick_bd (n:=nn) (many:=9) (by omega)
 generalize playS l m most=V at *
 obtain ⟨KN,hKN⟩:∃ KN,KN=V.acts.length:=⟨_,rfl⟩
 have HKN:Aside (KN=V.acts.length):=hKN
 obtain ⟨KP,hKP⟩:∃ KP,KP=V.prints.length:=⟨_,rfl⟩
 have HKP:Aside (KP=V.prints.length):=hKP
 rw [← hKN] at hV8 ⊢
 rw [← hKP]
 clear hKN hKP hK hPA hVA hVP hT h hm
 generalize pF l=PF at *
 generalize pX l=PX at *
 generalize pL l=PL at *
 obtain ⟨NP,NW,_,cb,cs⟩:=boxes2 w2 (.cells #[.slice ao 3 cap] 25) (.cells #[.slice aa KN ac,.slice pa KP pc] 29)
 go_upto_region 4 with fail
 generalize (w2.alloc (.cells #[.slice ao 3 cap] 25)).alloc (.cells #[.slice aa KN ac,.slice pa KP pc] 29)=w3 at *
 have p3:w3.cell? ⟨w2.heap.size,0,none⟩=some (.slice ao 3 cap):=cell_blk NP 0
 have q3:w3.cell? ⟨w2.heap.size+1,0,none⟩=some (.slice aa KN ac):=cell_blk NW 0
 have r3:w3.cell? ⟨w2.heap.size+1,1,none⟩=some (.slice pa KP pc):=cell_blk NW 1
 have HK3:Aside (Keeps w2 w3∧Below w.heap.size w w3):=⟨Keeps.below cb,hB2.trans (cb.mono hB2.size)⟩
 generalize w2.heap.size=P at *
 have HC3:Aside (w3.cell? ⟨P,0,none⟩=some (.slice ao 3 cap)∧w3.cell? ⟨P+1,0,none⟩=some (.slice aa KN ac)∧w3.cell? ⟨P+1,1,none⟩=some (.slice pa KP pc)):=⟨p3,q3,r3⟩
 clear p3 r3 NP NW cb hb1 hb2
 go_wp2
 go_loopg [33,15,16,17,18] KN (fun g s33 s15 s16 s17 s18 wr=>∃ i:Nat,i≤KN∧g=KN - i∧s33=.int .i64 i∧Below w3.heap.size w3 wr)
 case atStart=>exact ⟨0,Nat.zero_le _,rfl,rfl,Below.refl _ _⟩
 case round =>
  obtain ⟨i,hi,rfl,rfl,hbr⟩:=hrel
  clear q3
  by_cases hiL:i < KN
  ·have hiz:(i:Int) < (KN:Int):=by omega
   obtain ⟨x,hx⟩:=at_some (l:=V.acts) (i:=i) (by rw [← HKN.out];exact hiL)
   obtain ⟨b,o,oa,oc,ra,rc,ba,bc,rfl,A1⟩:=(HV.out wr (HK3.out.1.trans (Keeps.below hbr))).2.1.cell i x hx
   have HX:Aside (x.fin≠0→doWS 3 PL PX V ⟨1+pick kind 3,i,pick nn 9,0⟩=(V,0)∧x.box=[]∧x.obs=[]):=HE.out i x hx
   clear hx
   obtain ⟨xk,xp,xM,xo,xr,xpc,xb,xf⟩:=x
   obtain ⟨x0,x1,x2,x3,x4,x5,x6,x7,_,_,_,_,_⟩:=A1
   simp only at x0 x1 x2 x3 x4 x5 x6 x7
   obtain ⟨N0,_,bX,sX⟩:=boxes1 wr (.cells #[.int .i64 xk,.int .i64 xp,.int .i64 xM,.slice oa xo.length oc,.slice ra xr.length rc,.int .i64 xpc,.slice ba xb.length bc,.int .i64 xf] 42)
   have hBx:=hbr.trans (bX.mono hbr.size)
   have hwx:w3.heap.size≤wr.heap.size:=hbr.size
   go_upto_region 7 with fail
   clear x0 x1 x2 x3 x4 x5 x6 x7
   generalize wr.alloc (.cells #[.int .i64 xk,.int .i64 xp,.int .i64 xM,.slice oa xo.length oc,.slice ra xr.length rc,.int .i64 xpc,.slice ba xb.length bc,.int .i64 xf] 42)=wx at *
   have c7:wx.cell? ⟨wr.heap.size,7,none⟩=some (.int .i64 xf):=cell_blk N0 7
   by_cases hf:xf=0
   ·have f0:(xf == 0)=true:=by simp [hf]
    go_wp2
    go_roundg (KN - (i+1))
    case measure=>go_light;omega
    case rel=>go_light;exact ⟨i+1,by omega,rfl,by go_num,hBx⟩
   ·have f0:(xf == 0)=false:=by simp [hf]
    obtain ⟨hD,hbx,hox⟩:=HX.out hf
    simp only at hbx hox
    subst hbx hox
    have hdo:∀ w',Below wx.heap.size wx w'→Calls Tryz.prog 22 #[.agg #[.slice ao 3 cap],.agg #[.slice (some ⟨b,o,none⟩) KN ac,.slice pa KP pc],.agg #[.int .i64 (1+pick kind 3),.int .i64 i,.int .i64 (pick nn 9),.int .i64 0]] w' fun e w''=>WAns w' w'' (V,0) e:=fun w' hb=>by
     have hv:=HV.out w' ((HK3.out.1.trans (Keeps.below hBx)).trans (Keeps.below hb))
     have:=do_any ao 3 cap A PL C PX (some ⟨b,o,none⟩) pa ac pc V (1+pick kind 3) i (pick nn 9) 0 w' hv.1.2 hv.1.1 hv.2.1 hv.2.2
     rw [hD,← HKN.out,← HKP.out] at this
     exact this
    have hS3:∀ w',Below wx.heap.size wx w'→(w'.cell? ⟨P,0,none⟩=some (.slice ao 3 cap)∧w'.cell? ⟨P+1,0,none⟩=some (.slice (some ⟨b,o,none⟩) KN ac)∧w'.cell? ⟨P+1,1,none⟩=some (.slice pa KP pc)):=fun w' hb =>
     have k:=(Keeps.below hBx).trans (Keeps.below hb)
     ⟨k _ _ HC3.out.1,k _ _ HC3.out.2.1,k _ _ HC3.out.2.2⟩
    have hw3:IntKind.i64.wrap (1+pick kind 3)=1+pick kind 3:=by rw [IntKind.wrap_i64];omega
    have hXs:wr.heap.size < wx.heap.size:=(Array.getElem?_eq_some_iff.1 N0).1
    have HN0:Aside (∀ w',Below wx.heap.size wx w'→w'.heap[wr.heap.size]?=some (.cells #[.int .i64 xk,.int .i64 xp,.int .i64 xM,.slice oa 0 oc,.slice ra xr.length rc,.int .i64 xpc,.slice ba 0 bc,.int .i64 xf] 42 (0,0))):=fun w' hb=>(hb.block _ hXs).trans N0
    clear hD HX HE N0
    generalize wr.heap.size=XB at *
    go_upto_region 8 with fail
    have hSof:=hS3
    go_cut [17,18] (fun s17 s18 wc=>∃ G ya yc yb yd,s17=.pointer (some ⟨G,0,none⟩)∧s18=.int .i64 0∧Below wx.heap.size wx wc∧wx.heap.size≤G∧wc.heap[G]?=some (.cells #[.slice ya V.acts.length yc,.slice yb V.prints.length yd] 29 (0,0))∧ActsAt wc ya V.acts∧ToldAt wc yb V.prints)
    case first =>
     have hB:Below wx.heap.size wx wx.drew:=(Below.refl _ _).drew
     refine wp_region_need (fun _=>true) (fun w'=>w'.cell? ⟨P,0,none⟩=some (.slice ao 3 cap)∧w'.cell? ⟨P+1,0,none⟩=some (.slice (some ⟨b,o,none⟩) KN ac)∧w'.cell? ⟨P+1,1,none⟩=some (.slice pa KP pc)) (by kernel_rfl) (hSof _ hB) (fun hS=>?_)
     generalize wx.drew=wc0 at hS hB  ⊢
     refine tkN 0 hS ?_
     refine tkN 1 hS ?_
     refine tkN 2 hS ?_
     refine tkN 5 hS ?_
     refine tkN 6 hS ?_
     refine twN 3 13 (fun K hK=>?_) (fun K hK=>?_)
     ·go_simp
      refine (kPicked_any kind 3 wc0 hki (by omega) (by omega)).mono ?_
      rintro e wc1 ⟨rfl,hbn⟩
      have hBn:Below wx.heap.size wx wc1:=hB.trans (hbn.mono hB.size)
      refine otN hK (hSof _ hBn) ?_
      replace hS:=hSof _ hBn
      clear hK
      replace hB:=hBn
      clear hBn hbn
      refine tkN 4 hS ?_
      refine twN 7 13 (fun K hK=>?_) (fun K hK=>?_)
      ·go_simp
       refine (kPicked_any nn 9 wc1 hnn (by omega) (by omega)).mono ?_
       rintro e wc2 ⟨rfl,hbn⟩
       have hBn:Below wx.heap.size wx wc2:=hB.trans (hbn.mono hB.size)
       refine otN hK (hSof _ hBn) ?_
       replace hS:=hSof _ hBn
       clear hK
       replace hB:=hBn
       clear hBn hbn
       refine tkN 8 hS ?_
       refine twN 9 13 (fun K hK=>?_) (fun K hK=>?_)
       ·go_simp
        refine (hdo wc2 hB).mono ?_
        rintro e wc3 ⟨ya,yc,yb,yd,rfl,hbn,hYA,hYP,_⟩
        dsimp only at hYA hYP ⊢
        have hBn:Below wx.heap.size wx wc3:=hB.trans (hbn.mono hB.size)
        refine otN hK (hSof _ hBn) ?_
        replace hS:=hSof _ hBn
        clear hK
        replace hB:=hBn
        clear hBn hbn
        refine tkN 10 hS ?_
        refine tkN 11 hS ?_
        refine tkN 12 hS ?_
        refine stN 13 (fun K hK=>?_)
        go_simp
        have hbn:=below_box wc3 (Obj.cells #[.slice none 0 0,.slice none 0 0] 29)
        have mG:=Deep.blk_alloc_new wc3 (Obj.cells #[.slice none 0 0,.slice none 0 0] 29)
        have xG:wx.heap.size≤wc3.heap.size:=hB.size
        try have daG:TT≤wc3.heap.size:=sT
        generalize wc3.alloc (Obj.cells #[.slice none 0 0,.slice none 0 0] 29)=wc4 at hbn mG ⊢
        obtain ⟨G,hG⟩:∃ G,G=wc3.heap.size:=⟨_,rfl⟩
        rw [← hG] at mG xG ⊢
        try rw [← hG] at daG
        clear hG
        have hBn:Below wx.heap.size wx wc4:=hB.trans (hbn.mono hB.size)
        refine otN hK (hSof _ hBn) ?_
        replace hS:=hSof _ hBn
        clear hK
        replace hYA:=hYA.keeps (Keeps.below hbn)
        replace hYP:=hYP.keeps (Keeps.below hbn)
        replace hB:=hBn
        clear hBn hbn
        refine stN 14 (fun K hK=>?_)
        have c0:=cellBlk mG 0
        have c1:=cellBlk mG 1
        have cf:∀ j,wc4.frozen? ⟨G,j,none⟩=false:=fun j=>by simp [World.frozen?,mG]
        simp at c0 c1
        go_simp
        have hBn:=two_below hB xG 0 1 (.slice ya V.acts.length yc) (.slice yb V.prints.length yd)
        replace hYA:=hYA.off (nilB2 mG) (fun b hb=>two_other 0 1 (.slice ya V.acts.length yc) (.slice yb V.prints.length yd) hb)
        replace hYP:=hYP.off (nilB2 mG) (fun b hb=>two_other 0 1 (.slice ya V.acts.length yc) (.slice yb V.prints.length yd) hb)
        replace mG:=two_blk mG 0 1 (.slice ya V.acts.length yc) (.slice yb V.prints.length yd)
        clear c0 c1 cf
        generalize (wc4.setCell ⟨G,0,none⟩ (.slice ya V.acts.length yc)).setCell ⟨G,1,none⟩ (.slice yb V.prints.length yd)=wc5 at *
        refine otN hK (hSof _ hBn) ?_
        replace hS:=hSof _ hBn
        clear hK
        replace hB:=hBn
        clear hBn
        refine tkN 15 hS ?_
        refine dnN ?_
        go_wp2_with fail
        go_meet
        case rel=>exact ⟨G,ya,yc,yb,yd,rfl,rfl,hB,xG,mG,hYA,hYP⟩
       ·go_simp
        have hbn:=below_box wc2 (Obj.cells #[.slice none 0 0,.slice none 0 0] 29)
        have mG:=Deep.blk_alloc_new wc2 (Obj.cells #[.slice none 0 0,.slice none 0 0] 29)
        have xG:wx.heap.size≤wc2.heap.size:=hB.size
        try have daG:TT≤wc2.heap.size:=sT
        generalize wc2.alloc (Obj.cells #[.slice none 0 0,.slice none 0 0] 29)=wc3 at hbn mG ⊢
        obtain ⟨G,hG⟩:∃ G,G=wc2.heap.size:=⟨_,rfl⟩
        rw [← hG] at mG xG ⊢
        try rw [← hG] at daG
        clear hG
        have hBn:Below wx.heap.size wx wc3:=hB.trans (hbn.mono hB.size)
        refine otN hK (hSof _ hBn) ?_
        replace hS:=hSof _ hBn
        clear hK
        replace hB:=hBn
        clear hBn hbn
        refine stN 9 (fun K hK=>?_)
        go_simp
        refine (hdo wc3 hB).mono ?_
        rintro e wc4 ⟨ya,yc,yb,yd,rfl,hbn,hYA,hYP,_⟩
        dsimp only at hYA hYP ⊢
        have hBn:Below wx.heap.size wx wc4:=hB.trans (hbn.mono hB.size)
        refine otN hK (hSof _ hBn) ?_
        replace hS:=hSof _ hBn
        clear hK
        replace mG:=(hbn.block _ (Array.getElem?_eq_some_iff.1 mG).1).trans mG
        replace hB:=hBn
        clear hBn hbn
        refine tkN 10 hS ?_
        refine tkN 11 hS ?_
        refine tkN 12 hS ?_
        refine stN 14 (fun K hK=>?_)
        have c0:=cellBlk mG 0
        have c1:=cellBlk mG 1
        have cf:∀ j,wc4.frozen? ⟨G,j,none⟩=false:=fun j=>by simp [World.frozen?,mG]
        simp at c0 c1
        go_simp
        have hBn:=two_below hB xG 0 1 (.slice ya V.acts.length yc) (.slice yb V.prints.length yd)
        replace hYA:=hYA.off (nilB2 mG) (fun b hb=>two_other 0 1 (.slice ya V.acts.length yc) (.slice yb V.prints.length yd) hb)
        replace hYP:=hYP.off (nilB2 mG) (fun b hb=>two_other 0 1 (.slice ya V.acts.length yc) (.slice yb V.prints.length yd) hb)
        replace mG:=two_blk mG 0 1 (.slice ya V.acts.length yc) (.slice yb V.prints.length yd)
        clear c0 c1 cf
        generalize (wc4.setCell ⟨G,0,none⟩ (.slice ya V.acts.length yc)).setCell ⟨G,1,none⟩ (.slice yb V.prints.length yd)=wc5 at *
        refine otN hK (hSof _ hBn) ?_
        replace hS:=hSof _ hBn
        clear hK
        replace hB:=hBn
        clear hBn
        refine tkN 15 hS ?_
        refine dnN ?_
        go_wp2_with fail
        go_meet
        case rel=>exact ⟨G,ya,yc,yb,yd,rfl,rfl,hB,xG,mG,hYA,hYP⟩
      ·go_simp
       have hbn:=below_box wc1 (Obj.cells #[.slice none 0 0,.slice none 0 0] 29)
       have mG:=Deep.blk_alloc_new wc1 (Obj.cells #[.slice none 0 0,.slice none 0 0] 29)
       have xG:wx.heap.size≤wc1.heap.size:=hB.size
       try have daG:TT≤wc1.heap.size:=sT
       generalize wc1.alloc (Obj.cells #[.slice none 0 0,.slice none 0 0] 29)=wc2 at hbn mG ⊢
       obtain ⟨G,hG⟩:∃ G,G=wc1.heap.size:=⟨_,rfl⟩
       rw [← hG] at mG xG ⊢
       try rw [← hG] at daG
       clear hG
       have hBn:Below wx.heap.size wx wc2:=hB.trans (hbn.mono hB.size)
       refine otN hK (hSof _ hBn) ?_
       replace hS:=hSof _ hBn
       clear hK
       replace hB:=hBn
       clear hBn hbn
       refine stN 7 (fun K hK=>?_)
       go_simp
       refine (kPicked_any nn 9 wc2 hnn (by omega) (by omega)).mono ?_
       rintro e wc3 ⟨rfl,hbn⟩
       have hBn:Below wx.heap.size wx wc3:=hB.trans (hbn.mono hB.size)
       refine otN hK (hSof _ hBn) ?_
       replace hS:=hSof _ hBn
       clear hK
       replace mG:=(hbn.block _ (Array.getElem?_eq_some_iff.1 mG).1).trans mG
       replace hB:=hBn
       clear hBn hbn
       refine tkN 8 hS ?_
       refine stN 9 (fun K hK=>?_)
       go_simp
       refine (hdo wc3 hB).mono ?_
       rintro e wc4 ⟨ya,yc,yb,yd,rfl,hbn,hYA,hYP,_⟩
       dsimp only at hYA hYP ⊢
       have hBn:Below wx.heap.size wx wc4:=hB.trans (hbn.mono hB.size)
       refine otN hK (hSof _ hBn) ?_
       replace hS:=hSof _ hBn
       clear hK
       replace mG:=(hbn.block _ (Array.getElem?_eq_some_iff.1 mG).1).trans mG
       replace hB:=hBn
       clear hBn hbn
       refine tkN 10 hS ?_
       refine tkN 11 hS ?_
       refine tkN 12 hS ?_
       refine stN 14 (fun K hK=>?_)
       have c0:=cellBlk mG 0
       have c1:=cellBlk mG 1
       have cf:∀ j,wc4.frozen? ⟨G,j,none⟩=false:=fun j=>by simp [World.frozen?,mG]
       simp at c0 c1
       go_simp
       have hBn:=two_below hB xG 0 1 (.slice ya V.acts.length yc) (.slice yb V.prints.length yd)
       replace hYA:=hYA.off (nilB2 mG) (fun b hb=>two_other 0 1 (.slice ya V.acts.length yc) (.slice yb V.prints.length yd) hb)
       replace hYP:=hYP.off (nilB2 mG) (fun b hb=>two_other 0 1 (.slice ya V.acts.length yc) (.slice yb V.prints.length yd) hb)
       replace mG:=two_blk mG 0 1 (.slice ya V.acts.length yc) (.slice yb V.prints.length yd)
       clear c0 c1 cf
       generalize (wc4.setCell ⟨G,0,none⟩ (.slice ya V.acts.length yc)).setCell ⟨G,1,none⟩ (.slice yb V.prints.length yd)=wc5 at *
       refine otN hK (hSof _ hBn) ?_
       replace hS:=hSof _ hBn
       clear hK
       replace hB:=hBn
       clear hBn
       refine tkN 15 hS ?_
       refine dnN ?_
       go_wp2_with fail
       go_meet
       case rel=>exact ⟨G,ya,yc,yb,yd,rfl,rfl,hB,xG,mG,hYA,hYP⟩
     ·go_simp
      have hbn:=below_box wc0 (Obj.cells #[.slice none 0 0,.slice none 0 0] 29)
      have mG:=Deep.blk_alloc_new wc0 (Obj.cells #[.slice none 0 0,.slice none 0 0] 29)
      have xG:wx.heap.size≤wc0.heap.size:=hB.size
      try have daG:TT≤wc0.heap.size:=sT
      generalize wc0.alloc (Obj.cells #[.slice none 0 0,.slice none 0 0] 29)=wc1 at hbn mG ⊢
      obtain ⟨G,hG⟩:∃ G,G=wc0.heap.size:=⟨_,rfl⟩
      rw [← hG] at mG xG ⊢
      try rw [← hG] at daG
      clear hG
      have hBn:Below wx.heap.size wx wc1:=hB.trans (hbn.mono hB.size)
      refine otN hK (hSof _ hBn) ?_
      replace hS:=hSof _ hBn
      clear hK
      replace hB:=hBn
      clear hBn hbn
      refine stN 3 (fun K hK=>?_)
      go_simp
      refine (kPicked_any kind 3 wc1 hki (by omega) (by omega)).mono ?_
      rintro e wc2 ⟨rfl,hbn⟩
      have hBn:Below wx.heap.size wx wc2:=hB.trans (hbn.mono hB.size)
      refine otN hK (hSof _ hBn) ?_
      replace hS:=hSof _ hBn
      clear hK
      replace mG:=(hbn.block _ (Array.getElem?_eq_some_iff.1 mG).1).trans mG
      replace hB:=hBn
      clear hBn hbn
      refine tkN 4 hS ?_
      refine stN 7 (fun K hK=>?_)
      go_simp
      refine (kPicked_any nn 9 wc2 hnn (by omega) (by omega)).mono ?_
      rintro e wc3 ⟨rfl,hbn⟩
      have hBn:Below wx.heap.size wx wc3:=hB.trans (hbn.mono hB.size)
      refine otN hK (hSof _ hBn) ?_
      replace hS:=hSof _ hBn
      clear hK
      replace mG:=(hbn.block _ (Array.getElem?_eq_some_iff.1 mG).1).trans mG
      replace hB:=hBn
      clear hBn hbn
      refine tkN 8 hS ?_
      refine stN 9 (fun K hK=>?_)
      go_simp
      refine (hdo wc3 hB).mono ?_
      rintro e wc4 ⟨ya,yc,yb,yd,rfl,hbn,hYA,hYP,_⟩
      dsimp only at hYA hYP ⊢
      have hBn:Below wx.heap.size wx wc4:=hB.trans (hbn.mono hB.size)
      refine otN hK (hSof _ hBn) ?_
      replace hS:=hSof _ hBn
      clear hK
      replace mG:=(hbn.block _ (Array.getElem?_eq_some_iff.1 mG).1).trans mG
      replace hB:=hBn
      clear hBn hbn
      refine tkN 10 hS ?_
      refine tkN 11 hS ?_
      refine tkN 12 hS ?_
      refine stN 14 (fun K hK=>?_)
      have c0:=cellBlk mG 0
      have c1:=cellBlk mG 1
      have cf:∀ j,wc4.frozen? ⟨G,j,none⟩=false:=fun j=>by simp [World.frozen?,mG]
      simp at c0 c1
      go_simp
      have hBn:=two_below hB xG 0 1 (.slice ya V.acts.length yc) (.slice yb V.prints.length yd)
      replace hYA:=hYA.off (nilB2 mG) (fun b hb=>two_other 0 1 (.slice ya V.acts.length yc) (.slice yb V.prints.length yd) hb)
      replace hYP:=hYP.off (nilB2 mG) (fun b hb=>two_other 0 1 (.slice ya V.acts.length yc) (.slice yb V.prints.length yd) hb)
      replace mG:=two_blk mG 0 1 (.slice ya V.acts.length yc) (.slice yb V.prints.length yd)
      clear c0 c1 cf
      generalize (wc4.setCell ⟨G,0,none⟩ (.slice ya V.acts.length yc)).setCell ⟨G,1,none⟩ (.slice yb V.prints.length yd)=wc5 at *
      refine otN hK (hSof _ hBn) ?_
      replace hS:=hSof _ hBn
      clear hK
      replace hB:=hBn
      clear hBn
      refine tkN 15 hS ?_
      refine dnN ?_
      go_wp2_with fail
      go_meet
      case rel=>exact ⟨G,ya,yc,yb,yd,rfl,rfl,hB,xG,mG,hYA,hYP⟩
    case rest =>
     obtain ⟨G,ya,yc,yb,yd,rfl,rfl,hBc,xG,mG,hYA,hYP⟩:=hcut
     clear hdo hSof
     obtain ⟨p0,w0,w1'⟩:=hS3 wc hBc
     have hv:=HV.out wc ((HK3.out.1.trans (Keeps.below hBx)).trans (Keeps.below hBc))
     have NX:=HN0.out wc hBc
     have hBc3:=hBx.trans (hBc.mono hBx.size)
     clear hS3
     have g0:wc.cell? ⟨G,0,none⟩=some (.slice ya V.acts.length yc):=cell_blk mG 0
     have g1:wc.cell? ⟨G,1,none⟩=some (.slice yb V.prints.length yd):=cell_blk mG 1
     have c3:wc.cell? ⟨XB,3,none⟩=some (.slice oa 0 oc):=cell_blk NX 3
     have c6:wc.cell? ⟨XB,6,none⟩=some (.slice ba 0 bc):=cell_blk NX 6
     have hsame:=same_any ya (some ⟨b,o,none⟩) yb pa yc ac yd pc V wc hYA hv.2.1 hYP hv.2.2
     rw [← HKN.out,← HKP.out] at hsame
     rw [← HKN.out] at g0
     rw [← HKP.out] at g1
     go_wp2_with fail
     refine hsame.mono ?_
     rintro e w7 ⟨rfl,hb7⟩
     replace c3:=Keeps.below hb7 _ _ c3
     replace c6:=Keeps.below hb7 _ _ c6
     have hB7:=hBc3.trans (hb7.mono hBc3.size)
     go_wp2
     go_roundg (KN - (i+1))
     case measure=>go_light;omega
     case rel=>go_light;exact ⟨i+1,by omega,rfl,by go_num,hB7⟩
  ·have hiz:¬ (i:Int) < (KN:Int):=by omega
   have hBz:=HK3.out.2.trans (hbr.mono HK3.out.2.size)
   go_wp2
   go_ret
   exact ⟨rfl,hBz⟩
theorem topEnded_walk (a0:Option Addr) (c0:Nat) (l0:List Rw) (a1:Option Addr) (c1:Nat) (l1:List Rw) (n2 n3 n4:Int) (w:World) (hT:TabAt 0 w) (h0:RawsAt w a0 l0) (hb0:32*l0.length≤140737488351232) (h1:RawsAt w a1 l1) (_:32*l1.length≤140737488351232) (h2:-9223372036854775808≤n2∧n2≤9223372036854775807) (h3:-9223372036854775808≤n3∧n3≤9223372036854775807) (h4:-9223372036854775808≤n4∧n4≤9223372036854775807) :
  Calls Tryz.prog 8 #[.slice a0 l0.length c0,.slice a1 l1.length c1,.int .i64 n2,.int .i64 n3,.int .i64 n4] w fun e w'=>e=.returned (.bool true)∧Below w.heap.size w w' :=
 topEnded_any l0 l1 a0 a1 c0 c1 n2 n3 n4 w hT h0 h1 (by omega) h2 h3 h4
end
section
open Go.ChangeShapes Go.WideShapes Go.ChangeAt Go.RowKit
theorem and_up {a b:Bool} (ha:a=true) (hb:b=true):(a && b)=true:=by rw [ha,hb];rfl
theorem topEnded_facts:joinedFacts Tryz.prog 8 Tryz.f8 Rows.topEndedSpec Rows.topEndedRow=true:=by
 unfold joinedFacts
 refine and_up ?_ (by as_aux_lemma=>kernel_rfl)
 refine and_up ?_ (by as_aux_lemma=>kernel_rfl)
 refine and_up ?_ (by as_aux_lemma=>kernel_rfl)
 refine and_up ?_ (by as_aux_lemma=>kernel_rfl)
 refine and_up ?_ (by as_aux_lemma=>kernel_rfl)
 refine and_up ?_ (by as_aux_lemma=>kernel_rfl)
 refine and_up ?_ (by as_aux_lemma=>kernel_rfl)
 refine and_up ?_ (by as_aux_lemma=>kernel_rfl)
 refine and_up ?_ (by as_aux_lemma=>kernel_rfl)
 refine and_up ?_ (by as_aux_lemma=>kernel_rfl)
 refine and_up ?_ (by as_aux_lemma=>kernel_rfl)
 refine and_up ?_ (by as_aux_lemma=>kernel_rfl)
 refine and_up ?_ (by as_aux_lemma=>kernel_rfl)
 refine and_up ?_ (by as_aux_lemma=>kernel_rfl)
 refine and_up ?_ (by as_aux_lemma=>kernel_rfl)
 refine and_up ?_ (by as_aux_lemma=>kernel_rfl)
 refine and_up ?_ (by as_aux_lemma=>kernel_rfl)
 refine and_up ?_ (by as_aux_lemma=>kernel_rfl)
 refine and_up ?_ (by as_aux_lemma=>kernel_rfl)
 refine and_up ?_ (by as_aux_lemma=>kernel_rfl)
 refine and_up ?_ (by as_aux_lemma=>kernel_rfl)
 refine and_up ?_ (by as_aux_lemma=>kernel_rfl)
 refine and_up ?_ (by as_aux_lemma=>kernel_rfl)
 refine and_up ?_ (by as_aux_lemma=>kernel_rfl)
 refine and_up ?_ (by as_aux_lemma=>kernel_rfl)
 refine and_up ?_ (by as_aux_lemma=>kernel_rfl)
 refine and_up ?_ (by as_aux_lemma=>kernel_rfl)
 refine and_up ?_ (by as_aux_lemma=>kernel_rfl)
 refine and_up ?_ (by as_aux_lemma=>kernel_rfl)
 refine and_up ?_ (by as_aux_lemma=>kernel_rfl)
 refine and_up ?_ (by as_aux_lemma=>kernel_rfl)
 as_aux_lemma=>kernel_rfl
end
end Go.Proofs.YtddokajfafmhhaaGreatDoor
