/- TTwiceW. -/
import Derived.Lib.LazyBuf
import Derived.Test.YtddokajfafmhhaaGreatDoorCETopTwiceTSame
namespace Go.Proofs.YtddokajfafmhhaaGreatDoor
set_option maxRecDepth 100000
set_option maxHeartbeats 8000000
open Go.RowKit
theorem seqAx_of {w:World} {ao:Option Addr} {l:List Ax} (h:AxsAt w ao l):SeqAt fAx 4 w ao l:=fun i x hx=>by
 obtain ⟨b,o,e,h0,h1,h2,h3⟩:=h i x hx
 refine ⟨b,o,e,fun j u hu=>?_⟩
 match j,hu with
 | 0,hu=>simp [fAx] at hu;subst hu;exact h0
 | 1,hu=>simp [fAx] at hu;subst hu;exact h1
 | 2,hu=>simp [fAx] at hu;subst hu;exact h2
 | 3,hu=>simp [fAx] at hu;subst hu;exact h3
 | j+4,hu=>simp [fAx] at hu
theorem cloneAxs_any (l:List Ax) (b o lc:Nat) (w:World) (hS:SeqAt fAx 4 w (some ⟨b,o,none⟩) l) (h0:0 < l.length) (hl:l.length≤1000) :
  Calls Tryz.prog 30 #[.slice (some ⟨b,o,none⟩) l.length lc] w fun e w'=>∃ g cap,e=.returned (.slice (some ⟨g,0,none⟩) l.length cap)∧SeqOwn fAx 4 53 w' w.heap.size (.slice (some ⟨g,0,none⟩) l.length cap) l∧Below w.heap.size w w':=by
 have heq:=fun (w:World)=>run_eql_slice_nil (P:=Tryz.prog) w 46 53 (some ⟨b,o,none⟩) l.length lc Tryz.underlying46
 go_enter Tryz.func30,Tryz.ntmps30
 have hO0:SeqOwn fAx 4 53 (w.alloc (.cells #[] 53)) w.heap.size (.slice (some ⟨w.heap.size,0,none⟩) 0 0) [] :=
  ⟨by simp,.inr ⟨w.heap.size,0,#[],rfl,Nat.le_refl _,Deep.blk_alloc_new w _,Nat.le_refl _,Nat.zero_le _,by simp,by simp⟩⟩
 have hS0:=hS.keeps (Keeps.alloc w (.cells #[] 53))
 have hmx:maxLen=9223372036854775807:=rfl
 have hb0:=below_box w (.cells #[] 53)
 go_wp2_with (at_builtin;refine wpList_seq Tryz.rowAx rfl _ _ (by rfl) (v:=.slice (some ⟨w.heap.size,0,none⟩) 0 0) (by simp [Act.eval]) hO0 (by simp) l _ lc (by simp [Act.eval]) hS0 h0 (by simp;omega) (by simp;omega) ?_;rintro g cap w2 hO hg2 hb2 hg)
 simp only [List.length_nil,Nat.zero_add,List.nil_append] at hO
 go_ret
 exact ⟨g,cap,by simp,hO,hb0.trans hb2⟩
theorem seq_ne_box {α:Type} {f:α→List Value} {s:Nat} {e t:TypeId} {w:World} {base:Nat} {v:Value} {l:List α} (h:SeqOwn f s e w base v l) {U:Nat} {c:Array Value} (hU:w.heap[U]?=some (.cells c t (0,0))) (ht:t≠e):v.ownBlock≠some U:=fun e1=>by
 rcases h.2 with ⟨h0,_⟩ | ⟨g,cap,cur,e2,_,hg,_⟩
 ·rw [h0] at e1;cases e1
 ·rw [e2] at e1
  simp only [Value.ownBlock,Option.some.injEq] at e1
  subst e1
  rw [hU] at hg
  simp only [Option.some.injEq,Obj.cells.injEq] at hg
  exact ht hg.2.1
theorem ToldAt.take {w:World} {a:Option Addr} {l:List (Int × Int)} (h:ToldAt w a l) (n:Nat):ToldAt w a (l.take n) :=
 ⟨fun i x hi=>h.cell i x (by rw [List.getElem?_take] at hi;split at hi;exact hi;cases hi),by have:=h.many;rw [List.length_take];omega⟩
theorem AxsAt.nil (w:World):AxsAt w none []:=fun i a hi=>by simp at hi
def twiceS (l m n:List Rw) (most:Int):Wd:=(runS (pX l) (newW (2+pick most 40)) (actsS m 60++actsS n 20)).1
theorem twice_ok (l m n:List Rw) (most:Int):runWS 3 (pL l) (pX l) (2+pick most 40) (actsS m 60++actsS n 20)=(twiceS l m n most,0)∧(twiceS l m n most).prints.take (playS l m most).prints.length=(playS l m most).prints∧(playS l m most).prints.length≤(twiceS l m n most).prints.length:=by
 have hp:=pick_bd (n:=most) (many:=40) (by omega)
 have hall:∀ a∈actsS m 60++actsS n 20,axFault a=0:=fun a ha=>by
  rcases List.mem_append.1 ha with ha | ha
  ·exact actsS_ok m 60 a ha
  ·exact actsS_ok n 20 a ha
 have hr:=WOk.run (play_ver l) _ (wok_new (play_ver l) (by omega) (M:=2+pick most 40) (by omega)) hall
 have hE:wnewE 3 (pL l) (pX l) (2+pick most 40)=0:=by
  unfold wnewE
  rw [show ckS 3 (pL l) (pX l)=(0,0,0) from program_ok l 14,if_neg (by simp),if_neg (by omega)]
 have hl:=actsS_len m 60
 have hl2:=actsS_len n 20
 refine ⟨?_,?_⟩
 ·unfold runWS twiceS
  rw [hE,if_neg (by simp),if_neg (by rw [List.length_append];omega)]
  exact Prod.ext rfl hr.1
 ·have he:twiceS l m n most=(runS (pX l) (playS l m most) (actsS n 20)).1:=by
   unfold twiceS
   rw [run_app _ _ _ _ (actsS_ok m 60)]
   rfl
  have hpre:=run_rest (pX l) (actsS n 20) (playS l m most) (actsS_ok n 20)
  rw [← he] at hpre
  exact ⟨(List.prefix_iff_eq_take.1 hpre).symm,hpre.length_le⟩
theorem topTwice_any (l m n:List Rw) (la ma na:Option Addr) (lc mc nc:Nat) (most:Int) (w:World) (hT:TabAt 0 w) (h:RawsAt w la l) (hm:RawsAt w ma m) (hn:RawsAt w na n) (hll:32*l.length≤140737488355328) (hmo:fit64 most) :
  Calls Tryz.prog 9 #[.slice la l.length lc,.slice ma m.length mc,.slice na n.length nc,.int .i64 most] w fun e w'=>e=.returned (.bool true)∧Below w.heap.size w w':=by
 have hpl:=fun w' (hb:Below w.heap.size w w')=>played_any l m la ma lc mc most w' (hT.keeps (Keeps.below hb)) (h.keeps (Keeps.below hb)) (hm.keeps (Keeps.below hb)) hll hmo
 have HPL:Aside (runWS 3 (pL l) (pX l) (2+pick most 40) (actsS m 60)=(playS l m most,0)):=(play_ok l m most).2
 obtain ⟨t1,t2,t3⟩:=twice_ok l m n most
 have HTW:Aside (runWS 3 (pL l) (pX l) (2+pick most 40) (actsS m 60++actsS n 20)=(twiceS l m n most,0)):=t1
 have HPR:Aside ((twiceS l m n most).prints.take (playS l m most).prints.length=(playS l m most).prints):=t2
 clear t1 t2
 go_enter Tryz.func9,Tryz.ntmps9
 go_wp2_with fail
 refine (worldTells_any w hT).mono ?_
 rintro e w1 ⟨rfl,hb1⟩
 go_wp2_with fail
 refine (hpl w1 hb1).mono ?_
 rintro e w2 ⟨ao,cap,xa,xc,aa,ac,pa,pc,rfl,hb2,hK,⟨hX,hxc⟩,hVA,hVP⟩
 clear hpl
 obtain ⟨A,C,hPA,_,_⟩:=program_prog (by omega) hK
 have hB2:=hb1.trans (hb2.mono hb1.size)
 have HV:Aside (∀ w',Keeps w2 w'→(ProgAt w' ao 3 A (pL l) C (pX l)∧TabAt 0 w'∧RawsAt w' na n)∧AxsAt w' xa (actsS m 60)∧ActsAt w' aa (playS l m most).acts∧ToldAt w' pa (playS l m most).prints):=fun w' q=>⟨⟨hPA.keeps q,(hT.keeps (Keeps.below hB2)).keeps q,(hn.keeps (Keeps.below hB2)).keeps q⟩,hX.keeps q,hVA.keeps q,hVP.keeps q⟩
 have hAL:=actsS_len m 60
 have hA2:=actsS_len n 20
 have hap1:0 < (actsS m 60).length:=by unfold actsS;simp
 have hap2:0 < (actsS n 20).length:=by unfold actsS;simp
 have hKa:=fun w' (h:RawsAt w' na n)=>kacts_any n na nc 20 w' h (by omega)
 generalize playS l m most=V at *
 generalize twiceS l m n most=V2 at *
 generalize actsS m 60=AX at *
 generalize actsS n 20=A2 at *
 obtain ⟨KN,hKN⟩:∃ KN,KN=AX.length:=⟨_,rfl⟩
 have HKN:Aside (KN=AX.length):=hKN
 rw [← hKN] at hAL hxc hap1 ⊢
 clear hKN hK hPA hX hVA hVP hT h hm hn
 generalize pF l=PF at *
 generalize pX l=PX at *
 generalize pL l=PL at *
 obtain ⟨NP,NW,_,cb,cs⟩:=boxes2 w2 (.cells #[.slice ao 3 cap] 25) (.cells #[.slice aa V.acts.length ac,.slice pa V.prints.length pc] 29)
 go_upto_region 4 with fail
 generalize (w2.alloc (.cells #[.slice ao 3 cap] 25)).alloc (.cells #[.slice aa V.acts.length ac,.slice pa V.prints.length pc] 29)=w3 at *
 have p3:w3.cell? ⟨w2.heap.size,0,none⟩=some (.slice ao 3 cap):=cell_blk NP 0
 have HW3:Aside (w3.cell? ⟨w2.heap.size+1,0,none⟩=some (.slice aa V.acts.length ac)∧w3.cell? ⟨w2.heap.size+1,1,none⟩=some (.slice pa V.prints.length pc)):=⟨cell_blk NW 0,cell_blk NW 1⟩
 have hK3:Keeps w2 w3:=Keeps.below cb
 have hB3:Below w.heap.size w w3:=hB2.trans (cb.mono hB2.size)
 generalize w2.heap.size=P at *
 clear NP NW hb1 hb2 cb
 have hp40:=pick_bd (n:=most) (many:=40) (by omega)
 have hw40:IntKind.i64.wrap (2+pick most 40)=2+pick most 40:=by rw [IntKind.wrap_i64];omega
 have hrun:∀ w',Below w3.heap.size w3 w'→Calls Tryz.prog 29 #[.agg #[.slice ao 3 cap],.int .i64 (2+pick most 40),.slice xa KN xc] w' fun e w''=>WAns w' w'' (V,0) e:=fun w' hb=>by
  have hv:=HV.out w' (hK3.trans (Keeps.below hb))
  have:=run_any ao 3 cap A PL C PX (2+pick most 40) xa xc AX w' hv.1.2.1 hv.1.1 hv.2.1 (by have:=HKN.out;omega)
  rw [HPL.out,← HKN.out] at this
  exact this
 have hSof:∀ w',Below w3.heap.size w3 w'→(w'.cell? ⟨P,0,none⟩=some (.slice ao 3 cap)):=fun w' hb'=>Keeps.below hb' _ _ p3
 go_cut [13,14] (fun s13 s14 wc=>∃ G ya yc yb yd,s13=.pointer (some ⟨G,0,none⟩)∧s14=.int .i64 0∧Below w3.heap.size w3 wc∧w3.heap.size≤G∧wc.heap[G]?=some (.cells #[.slice ya V.acts.length yc,.slice yb V.prints.length yd] 29 (0,0))∧ActsAt wc ya V.acts∧ToldAt wc yb V.prints)
 case first =>
  have hB:Below w3.heap.size w3 w3.drew:=(Below.refl _ _).drew
  refine wp_region_need (fun _=>true) (fun w'=>w'.cell? ⟨P,0,none⟩=some (.slice ao 3 cap)) (by kernel_rfl) (hSof _ hB) (fun hS=>?_)
  generalize w3.drew=wc0 at hS hB  ⊢
  refine tkN 0 hS ?_
  refine tkN 1 hS ?_
  refine tkN 4 hS ?_
  refine twN 2 9 (fun K hK=>?_) (fun K hK=>?_)
  ·go_simp
   refine (kPicked_any most 40 wc0 hmo (by omega) (by omega)).mono ?_
   rintro e wc1 ⟨rfl,hbn⟩
   have hBn:Below w3.heap.size w3 wc1:=hB.trans (hbn.mono hB.size)
   refine otN hK (hSof _ hBn) ?_
   replace hS:=hSof _ hBn
   clear hK
   replace hB:=hBn
   clear hBn hbn
   refine tkN 3 hS ?_
   refine twN 5 9 (fun K hK=>?_) (fun K hK=>?_)
   ·go_simp
    refine (hrun wc1 hB).mono ?_
    rintro e wc2 ⟨ya,yc,yb,yd,rfl,hbn,hYA,hYP,_⟩
    dsimp only at hYA hYP ⊢
    have hBn:Below w3.heap.size w3 wc2:=hB.trans (hbn.mono hB.size)
    refine otN hK (hSof _ hBn) ?_
    replace hS:=hSof _ hBn
    clear hK
    replace hB:=hBn
    clear hBn hbn
    refine tkN 6 hS ?_
    refine tkN 7 hS ?_
    refine tkN 8 hS ?_
    refine stN 9 (fun K hK=>?_)
    go_simp
    have hbn:=below_box wc2 (Obj.cells #[.slice none 0 0,.slice none 0 0] 29)
    have mG:=Deep.blk_alloc_new wc2 (Obj.cells #[.slice none 0 0,.slice none 0 0] 29)
    have xG:w3.heap.size≤wc2.heap.size:=hB.size
    try have daG:TT≤wc2.heap.size:=sT
    generalize wc2.alloc (Obj.cells #[.slice none 0 0,.slice none 0 0] 29)=wc3 at hbn mG ⊢
    obtain ⟨G,hG⟩:∃ G,G=wc2.heap.size:=⟨_,rfl⟩
    rw [← hG] at mG xG ⊢
    try rw [← hG] at daG
    clear hG
    have hBn:Below w3.heap.size w3 wc3:=hB.trans (hbn.mono hB.size)
    refine otN hK (hSof _ hBn) ?_
    replace hS:=hSof _ hBn
    clear hK
    replace hYA:=hYA.keeps (Keeps.below hbn)
    replace hYP:=hYP.keeps (Keeps.below hbn)
    replace hB:=hBn
    clear hBn hbn
    refine stN 10 (fun K hK=>?_)
    have c0:=cellBlk mG 0
    have c1:=cellBlk mG 1
    have cf:∀ j,wc3.frozen? ⟨G,j,none⟩=false:=fun j=>by simp [World.frozen?,mG]
    simp at c0 c1
    go_simp
    have hBn:=two_below hB xG 0 1 (.slice ya V.acts.length yc) (.slice yb V.prints.length yd)
    replace hYA:=hYA.off (nilB2 mG) (fun b hb=>two_other 0 1 (.slice ya V.acts.length yc) (.slice yb V.prints.length yd) hb)
    replace hYP:=hYP.off (nilB2 mG) (fun b hb=>two_other 0 1 (.slice ya V.acts.length yc) (.slice yb V.prints.length yd) hb)
    replace mG:=two_blk mG 0 1 (.slice ya V.acts.length yc) (.slice yb V.prints.length yd)
    clear c0 c1 cf
    generalize (wc3.setCell ⟨G,0,none⟩ (.slice ya V.acts.length yc)).setCell ⟨G,1,none⟩ (.slice yb V.prints.length yd)=wc4 at *
    refine otN hK (hSof _ hBn) ?_
    replace hS:=hSof _ hBn
    clear hK
    replace hB:=hBn
    clear hBn
    refine tkN 11 hS ?_
    refine dnN ?_
    go_wp2_with fail
    go_meet
    case rel=>exact ⟨G,ya,yc,yb,yd,rfl,rfl,hB,xG,mG,hYA,hYP⟩
   ·go_simp
    have hbn:=below_box wc1 (Obj.cells #[.slice none 0 0,.slice none 0 0] 29)
    have mG:=Deep.blk_alloc_new wc1 (Obj.cells #[.slice none 0 0,.slice none 0 0] 29)
    have xG:w3.heap.size≤wc1.heap.size:=hB.size
    try have daG:TT≤wc1.heap.size:=sT
    generalize wc1.alloc (Obj.cells #[.slice none 0 0,.slice none 0 0] 29)=wc2 at hbn mG ⊢
    obtain ⟨G,hG⟩:∃ G,G=wc1.heap.size:=⟨_,rfl⟩
    rw [← hG] at mG xG ⊢
    try rw [← hG] at daG
    clear hG
    have hBn:Below w3.heap.size w3 wc2:=hB.trans (hbn.mono hB.size)
    refine otN hK (hSof _ hBn) ?_
    replace hS:=hSof _ hBn
    clear hK
    replace hB:=hBn
    clear hBn hbn
    refine stN 5 (fun K hK=>?_)
    go_simp
    refine (hrun wc2 hB).mono ?_
    rintro e wc3 ⟨ya,yc,yb,yd,rfl,hbn,hYA,hYP,_⟩
    dsimp only at hYA hYP ⊢
    have hBn:Below w3.heap.size w3 wc3:=hB.trans (hbn.mono hB.size)
    refine otN hK (hSof _ hBn) ?_
    replace hS:=hSof _ hBn
    clear hK
    replace mG:=(hbn.block _ (Array.getElem?_eq_some_iff.1 mG).1).trans mG
    replace hB:=hBn
    clear hBn hbn
    refine tkN 6 hS ?_
    refine tkN 7 hS ?_
    refine tkN 8 hS ?_
    refine stN 10 (fun K hK=>?_)
    have c0:=cellBlk mG 0
    have c1:=cellBlk mG 1
    have cf:∀ j,wc3.frozen? ⟨G,j,none⟩=false:=fun j=>by simp [World.frozen?,mG]
    simp at c0 c1
    go_simp
    have hBn:=two_below hB xG 0 1 (.slice ya V.acts.length yc) (.slice yb V.prints.length yd)
    replace hYA:=hYA.off (nilB2 mG) (fun b hb=>two_other 0 1 (.slice ya V.acts.length yc) (.slice yb V.prints.length yd) hb)
    replace hYP:=hYP.off (nilB2 mG) (fun b hb=>two_other 0 1 (.slice ya V.acts.length yc) (.slice yb V.prints.length yd) hb)
    replace mG:=two_blk mG 0 1 (.slice ya V.acts.length yc) (.slice yb V.prints.length yd)
    clear c0 c1 cf
    generalize (wc3.setCell ⟨G,0,none⟩ (.slice ya V.acts.length yc)).setCell ⟨G,1,none⟩ (.slice yb V.prints.length yd)=wc4 at *
    refine otN hK (hSof _ hBn) ?_
    replace hS:=hSof _ hBn
    clear hK
    replace hB:=hBn
    clear hBn
    refine tkN 11 hS ?_
    refine dnN ?_
    go_wp2_with fail
    go_meet
    case rel=>exact ⟨G,ya,yc,yb,yd,rfl,rfl,hB,xG,mG,hYA,hYP⟩
  ·go_simp
   have hbn:=below_box wc0 (Obj.cells #[.slice none 0 0,.slice none 0 0] 29)
   have mG:=Deep.blk_alloc_new wc0 (Obj.cells #[.slice none 0 0,.slice none 0 0] 29)
   have xG:w3.heap.size≤wc0.heap.size:=hB.size
   try have daG:TT≤wc0.heap.size:=sT
   generalize wc0.alloc (Obj.cells #[.slice none 0 0,.slice none 0 0] 29)=wc1 at hbn mG ⊢
   obtain ⟨G,hG⟩:∃ G,G=wc0.heap.size:=⟨_,rfl⟩
   rw [← hG] at mG xG ⊢
   try rw [← hG] at daG
   clear hG
   have hBn:Below w3.heap.size w3 wc1:=hB.trans (hbn.mono hB.size)
   refine otN hK (hSof _ hBn) ?_
   replace hS:=hSof _ hBn
   clear hK
   replace hB:=hBn
   clear hBn hbn
   refine stN 2 (fun K hK=>?_)
   go_simp
   refine (kPicked_any most 40 wc1 hmo (by omega) (by omega)).mono ?_
   rintro e wc2 ⟨rfl,hbn⟩
   have hBn:Below w3.heap.size w3 wc2:=hB.trans (hbn.mono hB.size)
   refine otN hK (hSof _ hBn) ?_
   replace hS:=hSof _ hBn
   clear hK
   replace mG:=(hbn.block _ (Array.getElem?_eq_some_iff.1 mG).1).trans mG
   replace hB:=hBn
   clear hBn hbn
   refine tkN 3 hS ?_
   refine stN 5 (fun K hK=>?_)
   go_simp
   refine (hrun wc2 hB).mono ?_
   rintro e wc3 ⟨ya,yc,yb,yd,rfl,hbn,hYA,hYP,_⟩
   dsimp only at hYA hYP ⊢
   have hBn:Below w3.heap.size w3 wc3:=hB.trans (hbn.mono hB.size)
   refine otN hK (hSof _ hBn) ?_
   replace hS:=hSof _ hBn
   clear hK
   replace mG:=(hbn.block _ (Array.getElem?_eq_some_iff.1 mG).1).trans mG
   replace hB:=hBn
   clear hBn hbn
   refine tkN 6 hS ?_
   refine tkN 7 hS ?_
   refine tkN 8 hS ?_
   refine stN 10 (fun K hK=>?_)
   have c0:=cellBlk mG 0
   have c1:=cellBlk mG 1
   have cf:∀ j,wc3.frozen? ⟨G,j,none⟩=false:=fun j=>by simp [World.frozen?,mG]
   simp at c0 c1
   go_simp
   have hBn:=two_below hB xG 0 1 (.slice ya V.acts.length yc) (.slice yb V.prints.length yd)
   replace hYA:=hYA.off (nilB2 mG) (fun b hb=>two_other 0 1 (.slice ya V.acts.length yc) (.slice yb V.prints.length yd) hb)
   replace hYP:=hYP.off (nilB2 mG) (fun b hb=>two_other 0 1 (.slice ya V.acts.length yc) (.slice yb V.prints.length yd) hb)
   replace mG:=two_blk mG 0 1 (.slice ya V.acts.length yc) (.slice yb V.prints.length yd)
   clear c0 c1 cf
   generalize (wc3.setCell ⟨G,0,none⟩ (.slice ya V.acts.length yc)).setCell ⟨G,1,none⟩ (.slice yb V.prints.length yd)=wc4 at *
   refine otN hK (hSof _ hBn) ?_
   replace hS:=hSof _ hBn
   clear hK
   replace hB:=hBn
   clear hBn
   refine tkN 11 hS ?_
   refine dnN ?_
   go_wp2_with fail
   go_meet
   case rel=>exact ⟨G,ya,yc,yb,yd,rfl,rfl,hB,xG,mG,hYA,hYP⟩
 case rest =>
  obtain ⟨G1,ya,yc,yb,yd,rfl,rfl,hBc,xG1,mG1,hYA,hYP⟩:=hcut
  clear hrun hSof
  have hK4:Keeps w2 wc:=hK3.trans (Keeps.below hBc)
  have hB4:=hB3.trans (hBc.mono hB3.size)
  have HW4:Aside (wc.cell? ⟨P+1,0,none⟩=some (.slice aa V.acts.length ac)∧wc.cell? ⟨P+1,1,none⟩=some (.slice pa V.prints.length pc)):=⟨Keeps.below hBc _ _ HW3.out.1,Keeps.below hBc _ _ HW3.out.2⟩
  have p4:=Keeps.below hBc _ _ p3
  have HG1:Aside (wc.cell? ⟨G1,0,none⟩=some (.slice ya V.acts.length yc)∧wc.cell? ⟨G1,1,none⟩=some (.slice yb V.prints.length yd)):=⟨cell_blk mG1 0,cell_blk mG1 1⟩
  have HY1:Aside (ActsAt wc ya V.acts):=hYA
  have HYP1:Aside (ToldAt wc yb V.prints):=hYP
  clear hYA hYP mG1 xG1 hBc hK3 hB3 p3 HW3
  obtain ⟨b0,o0,rfl⟩:∃ b o,xa=some ⟨b,o,none⟩:=by
   obtain ⟨a,ha⟩:=at_some (l:=AX) (i:=0) (by rw [← HKN.out];exact hap1)
   obtain ⟨b,o,e,_⟩:=(HV.out wc hK4).2.1 0 a ha
   exact ⟨b,o,e⟩
  obtain ⟨wf,hwf⟩:∃ wf,wf=wc:=⟨_,rfl⟩
  subst hwf
  have hclo:∀ w',Below wf.heap.size wf w'→Calls Tryz.prog 30 #[.slice (some ⟨b0,o0,none⟩) KN xc] w' fun e w''=>∃ g c,e=.returned (.slice (some ⟨g,0,none⟩) KN c)∧SeqOwn fAx 4 53 w'' w'.heap.size (.slice (some ⟨g,0,none⟩) KN c) AX∧Below w'.heap.size w' w'':=fun w' hb=>by
   have:=cloneAxs_any AX b0 o0 xc w' (seqAx_of (HV.out w' (hK4.trans (Keeps.below hb))).2.1) (by rw [← HKN.out];exact hap1) (by rw [← HKN.out];omega)
   rw [← HKN.out] at this
   exact this
  have hrun:∀ w' va vc,Below wf.heap.size wf w'→AxsAt w' va (AX++A2)→Calls Tryz.prog 29 #[.agg #[.slice ao 3 cap],.int .i64 (2+pick most 40),.slice va (KN+A2.length) vc] w' fun e w''=>WAns w' w'' (V2,0) e:=fun w' va vc hb hax=>by
   have hv:=HV.out w' (hK4.trans (Keeps.below hb))
   have hl12:(AX++A2).length=KN+A2.length:=by rw [List.length_append,← HKN.out]
   have:=run_any ao 3 cap A PL C PX (2+pick most 40) va vc (AX++A2) w' hv.1.2.1 hv.1.1 hax (by omega)
   rw [HTW.out,hl12] at this
   exact this
  have hka2:∀ w',Below wf.heap.size wf w'→_:=fun w' hb=>hKa w' (HV.out w' (hK4.trans (Keeps.below hb))).1.2.2
  have hSof:∀ w',Below wf.heap.size wf w'→(w'.cell? ⟨P,0,none⟩=some (.slice ao 3 cap)):=fun w' hb'=>Keeps.below hb' _ _ p4
  have hmx:maxLen=9223372036854775807:=rfl
  clear hKa
  go_upto_region 5 with fail
  go_cut [15,16] (fun s15 s16 wc=>∃ G za zc zb zd,s15=.pointer (some ⟨G,0,none⟩)∧s16=.int .i64 0∧Below wf.heap.size wf wc∧wf.heap.size≤G∧wc.heap[G]?=some (.cells #[.slice za V2.acts.length zc,.slice zb V2.prints.length zd] 29 (0,0))∧ToldAt wc zb V2.prints∧V2.prints.length≤zd)
  case first =>
   have hB:Below wf.heap.size wf wf.drew:=(Below.refl _ _).drew
   refine wp_region_need (fun _=>true) (fun w'=>w'.cell? ⟨P,0,none⟩=some (.slice ao 3 cap)) (by kernel_rfl) (hSof _ hB) (fun hS=>?_)
   generalize wf.drew=wc0 at hS hB  ⊢
   refine tkN 0 hS ?_
   refine tkN 1 hS ?_
   refine tkN 4 hS ?_
   refine tkN 6 hS ?_
   refine twN 2 13 (fun K hK=>?_) (fun K hK=>?_)
   ·go_simp
    refine (kPicked_any most 40 wc0 hmo (by omega) (by omega)).mono ?_
    rintro e wc1 ⟨rfl,hbn⟩
    have hBn:Below wf.heap.size wf wc1:=hB.trans (hbn.mono hB.size)
    refine otN hK (hSof _ hBn) ?_
    replace hS:=hSof _ hBn
    clear hK
    replace hB:=hBn
    clear hBn hbn
    refine tkN 3 hS ?_
    refine twN 5 13 (fun K hK=>?_) (fun K hK=>?_)
    ·go_simp
     refine (hclo wc1 hB).mono ?_
     rintro e wc2 ⟨g1,c1,rfl,hO1,hbn⟩
     replace hO1:SeqOwn fAx 4 53 wc2 wf.heap.size (.slice (some ⟨g1,0,none⟩) KN c1) AX:=ownsRow_base hO1 hB.size
     have hBn:Below wf.heap.size wf wc2:=hB.trans (hbn.mono hB.size)
     refine otN hK (hSof _ hBn) ?_
     replace hS:=hSof _ hBn
     clear hK
     replace hB:=hBn
     clear hBn hbn
     refine twN 7 13 (fun K hK=>?_) (fun K hK=>?_)
     ·go_simp
      refine (hka2 wc2 hB).mono ?_
      rintro e wc3 ⟨va,vc,rfl,hbn,hX2,_⟩
      have hBn:Below wf.heap.size wf wc3:=hB.trans (hbn.mono hB.size)
      refine otN hK (hSof _ hBn) ?_
      replace hS:=hSof _ hBn
      clear hK
      replace hO1:=hO1.below hbn
      replace hB:=hBn
      clear hBn hbn
      refine twN 8 13 (fun K hK=>?_) (fun K hK=>?_)
      ·refine step_seq Tryz.rowAx rfl _ _ rfl (v:=.slice (some ⟨g1,0,none⟩) KN c1) (by simp [Act.eval]) hO1 hB.size A2 va vc (by simp [Act.eval]) (seqAx_of hX2) hap2 (by have:=HKN.out;omega) (by have:=HKN.out;omega) ?_
       rintro g2 c2 wc4 hO2 hg2 hbA _
       have hBn:Below wf.heap.size wf wc4:=hB.trans hbA
       clear hO1 hX2 hg2 hbA
       have hO1:=hO2
       have hX2:=AxsAt.nil wc4
       rw [← HKN.out]
       clear hO2
       refine otN hK (hSof _ hBn) ?_
       replace hS:=hSof _ hBn
       clear hK
       replace hB:=hBn
       clear hBn
       refine twN 9 13 (fun K hK=>?_) (fun K hK=>?_)
       ·go_simp
        refine (hrun wc4 _ c2 hB (seqAx_to (hO1.at Tryz.rowAx.len))).mono ?_
        rintro e wc5 ⟨za,zc,zb,zd,rfl,hbn,hZA,hZP,hzc⟩
        dsimp only at hZA hZP hzc ⊢
        have hBn:Below wf.heap.size wf wc5:=hB.trans (hbn.mono hB.size)
        refine otN hK (hSof _ hBn) ?_
        replace hS:=hSof _ hBn
        clear hK
        replace hO1:=hO1.below hbn
        replace hX2:=hX2.keeps (Keeps.below hbn)
        replace hB:=hBn
        clear hBn hbn
        refine tkN 10 hS ?_
        refine tkN 11 hS ?_
        refine tkN 12 hS ?_
        refine stN 13 (fun K hK=>?_)
        go_simp
        have hbn:=below_box wc5 (Obj.cells #[.slice none 0 0,.slice none 0 0] 29)
        have mG:=Deep.blk_alloc_new wc5 (Obj.cells #[.slice none 0 0,.slice none 0 0] 29)
        have xG:wf.heap.size≤wc5.heap.size:=hB.size
        try have daG:TT≤wc5.heap.size:=sT
        generalize wc5.alloc (Obj.cells #[.slice none 0 0,.slice none 0 0] 29)=wc6 at hbn mG ⊢
        obtain ⟨G,hG⟩:∃ G,G=wc5.heap.size:=⟨_,rfl⟩
        rw [← hG] at mG xG ⊢
        try rw [← hG] at daG
        clear hG
        have hBn:Below wf.heap.size wf wc6:=hB.trans (hbn.mono hB.size)
        refine otN hK (hSof _ hBn) ?_
        replace hS:=hSof _ hBn
        clear hK
        replace hO1:=hO1.below hbn
        replace hX2:=hX2.keeps (Keeps.below hbn)
        replace hZA:=hZA.keeps (Keeps.below hbn)
        replace hZP:=hZP.keeps (Keeps.below hbn)
        replace hB:=hBn
        clear hBn hbn
        refine stN 14 (fun K hK=>?_)
        have c0:=cellBlk mG 0
        have c1:=cellBlk mG 1
        have cf:∀ j,wc6.frozen? ⟨G,j,none⟩=false:=fun j=>by simp [World.frozen?,mG]
        simp at c0 c1
        go_simp
        have hBn:=two_below hB xG 0 1 (.slice za V2.acts.length zc) (.slice zb V2.prints.length zd)
        replace hZP:=hZP.off (nilB2 mG) (fun b hb=>two_other 0 1 (.slice za V2.acts.length zc) (.slice zb V2.prints.length zd) hb)
        replace mG:=two_blk mG 0 1 (.slice za V2.acts.length zc) (.slice zb V2.prints.length zd)
        clear c0 c1 cf
        generalize (wc6.setCell ⟨G,0,none⟩ (.slice za V2.acts.length zc)).setCell ⟨G,1,none⟩ (.slice zb V2.prints.length zd)=wc7 at *
        refine otN hK (hSof _ hBn) ?_
        replace hS:=hSof _ hBn
        clear hK
        replace hB:=hBn
        clear hBn
        refine tkN 15 hS ?_
        refine dnN ?_
        go_wp2_with fail
        go_meet
        case rel=>exact ⟨G,za,zc,zb,zd,rfl,rfl,hB,xG,mG,hZP,hzc⟩
       ·go_simp
        have hbn:=below_box wc4 (Obj.cells #[.slice none 0 0,.slice none 0 0] 29)
        have mG:=Deep.blk_alloc_new wc4 (Obj.cells #[.slice none 0 0,.slice none 0 0] 29)
        have xG:wf.heap.size≤wc4.heap.size:=hB.size
        try have daG:TT≤wc4.heap.size:=sT
        generalize wc4.alloc (Obj.cells #[.slice none 0 0,.slice none 0 0] 29)=wc5 at hbn mG ⊢
        obtain ⟨G,hG⟩:∃ G,G=wc4.heap.size:=⟨_,rfl⟩
        rw [← hG] at mG xG ⊢
        try rw [← hG] at daG
        clear hG
        have hBn:Below wf.heap.size wf wc5:=hB.trans (hbn.mono hB.size)
        refine otN hK (hSof _ hBn) ?_
        replace hS:=hSof _ hBn
        clear hK
        replace hO1:=hO1.below hbn
        replace hX2:=hX2.keeps (Keeps.below hbn)
        replace hB:=hBn
        clear hBn hbn
        refine stN 9 (fun K hK=>?_)
        go_simp
        refine (hrun wc5 _ c2 hB (seqAx_to (hO1.at Tryz.rowAx.len))).mono ?_
        rintro e wc6 ⟨za,zc,zb,zd,rfl,hbn,hZA,hZP,hzc⟩
        dsimp only at hZA hZP hzc ⊢
        have hBn:Below wf.heap.size wf wc6:=hB.trans (hbn.mono hB.size)
        refine otN hK (hSof _ hBn) ?_
        replace hS:=hSof _ hBn
        clear hK
        replace hO1:=hO1.below hbn
        replace hX2:=hX2.keeps (Keeps.below hbn)
        replace mG:=(hbn.block _ (Array.getElem?_eq_some_iff.1 mG).1).trans mG
        replace hB:=hBn
        clear hBn hbn
        refine tkN 10 hS ?_
        refine tkN 11 hS ?_
        refine tkN 12 hS ?_
        refine stN 14 (fun K hK=>?_)
        have c0:=cellBlk mG 0
        have c1:=cellBlk mG 1
        have cf:∀ j,wc6.frozen? ⟨G,j,none⟩=false:=fun j=>by simp [World.frozen?,mG]
        simp at c0 c1
        go_simp
        have hBn:=two_below hB xG 0 1 (.slice za V2.acts.length zc) (.slice zb V2.prints.length zd)
        replace hZP:=hZP.off (nilB2 mG) (fun b hb=>two_other 0 1 (.slice za V2.acts.length zc) (.slice zb V2.prints.length zd) hb)
        replace mG:=two_blk mG 0 1 (.slice za V2.acts.length zc) (.slice zb V2.prints.length zd)
        clear c0 c1 cf
        generalize (wc6.setCell ⟨G,0,none⟩ (.slice za V2.acts.length zc)).setCell ⟨G,1,none⟩ (.slice zb V2.prints.length zd)=wc7 at *
        refine otN hK (hSof _ hBn) ?_
        replace hS:=hSof _ hBn
        clear hK
        replace hB:=hBn
        clear hBn
        refine tkN 15 hS ?_
        refine dnN ?_
        go_wp2_with fail
        go_meet
        case rel=>exact ⟨G,za,zc,zb,zd,rfl,rfl,hB,xG,mG,hZP,hzc⟩
      ·go_simp
       have hbn:=below_box wc3 (Obj.cells #[.slice none 0 0,.slice none 0 0] 29)
       have mG:=Deep.blk_alloc_new wc3 (Obj.cells #[.slice none 0 0,.slice none 0 0] 29)
       have xG:wf.heap.size≤wc3.heap.size:=hB.size
       try have daG:TT≤wc3.heap.size:=sT
       generalize wc3.alloc (Obj.cells #[.slice none 0 0,.slice none 0 0] 29)=wc4 at hbn mG ⊢
       obtain ⟨G,hG⟩:∃ G,G=wc3.heap.size:=⟨_,rfl⟩
       rw [← hG] at mG xG ⊢
       try rw [← hG] at daG
       clear hG
       have hBn:Below wf.heap.size wf wc4:=hB.trans (hbn.mono hB.size)
       refine otN hK (hSof _ hBn) ?_
       replace hS:=hSof _ hBn
       clear hK
       replace hO1:=hO1.below hbn
       replace hX2:=hX2.keeps (Keeps.below hbn)
       replace hB:=hBn
       clear hBn hbn
       refine stN 8 (fun K hK=>?_)
       refine step_seq Tryz.rowAx rfl _ _ rfl (v:=.slice (some ⟨g1,0,none⟩) KN c1) (by simp [Act.eval]) hO1 hB.size A2 va vc (by simp [Act.eval]) (seqAx_of hX2) hap2 (by have:=HKN.out;omega) (by have:=HKN.out;omega) ?_
       rintro g2 c2 wc5 hO2 hg2 hbA _
       have hBn:Below wf.heap.size wf wc5:=hB.trans hbA
       replace mG:=(hg2.block _ (Array.getElem?_eq_some_iff.1 mG).1 (Ne.symm (seq_ne_box hO1 mG (by decide)))).trans mG
       clear hO1 hX2 hg2 hbA
       have hO1:=hO2
       have hX2:=AxsAt.nil wc5
       rw [← HKN.out]
       clear hO2
       refine otN hK (hSof _ hBn) ?_
       replace hS:=hSof _ hBn
       clear hK
       replace hB:=hBn
       clear hBn
       refine stN 9 (fun K hK=>?_)
       go_simp
       refine (hrun wc5 _ c2 hB (seqAx_to (hO1.at Tryz.rowAx.len))).mono ?_
       rintro e wc6 ⟨za,zc,zb,zd,rfl,hbn,hZA,hZP,hzc⟩
       dsimp only at hZA hZP hzc ⊢
       have hBn:Below wf.heap.size wf wc6:=hB.trans (hbn.mono hB.size)
       refine otN hK (hSof _ hBn) ?_
       replace hS:=hSof _ hBn
       clear hK
       replace hO1:=hO1.below hbn
       replace hX2:=hX2.keeps (Keeps.below hbn)
       replace mG:=(hbn.block _ (Array.getElem?_eq_some_iff.1 mG).1).trans mG
       replace hB:=hBn
       clear hBn hbn
       refine tkN 10 hS ?_
       refine tkN 11 hS ?_
       refine tkN 12 hS ?_
       refine stN 14 (fun K hK=>?_)
       have c0:=cellBlk mG 0
       have c1:=cellBlk mG 1
       have cf:∀ j,wc6.frozen? ⟨G,j,none⟩=false:=fun j=>by simp [World.frozen?,mG]
       simp at c0 c1
       go_simp
       have hBn:=two_below hB xG 0 1 (.slice za V2.acts.length zc) (.slice zb V2.prints.length zd)
       replace hZP:=hZP.off (nilB2 mG) (fun b hb=>two_other 0 1 (.slice za V2.acts.length zc) (.slice zb V2.prints.length zd) hb)
       replace mG:=two_blk mG 0 1 (.slice za V2.acts.length zc) (.slice zb V2.prints.length zd)
       clear c0 c1 cf
       generalize (wc6.setCell ⟨G,0,none⟩ (.slice za V2.acts.length zc)).setCell ⟨G,1,none⟩ (.slice zb V2.prints.length zd)=wc7 at *
       refine otN hK (hSof _ hBn) ?_
       replace hS:=hSof _ hBn
       clear hK
       replace hB:=hBn
       clear hBn
       refine tkN 15 hS ?_
       refine dnN ?_
       go_wp2_with fail
       go_meet
       case rel=>exact ⟨G,za,zc,zb,zd,rfl,rfl,hB,xG,mG,hZP,hzc⟩
     ·go_simp
      have hbn:=below_box wc2 (Obj.cells #[.slice none 0 0,.slice none 0 0] 29)
      have mG:=Deep.blk_alloc_new wc2 (Obj.cells #[.slice none 0 0,.slice none 0 0] 29)
      have xG:wf.heap.size≤wc2.heap.size:=hB.size
      try have daG:TT≤wc2.heap.size:=sT
      generalize wc2.alloc (Obj.cells #[.slice none 0 0,.slice none 0 0] 29)=wc3 at hbn mG ⊢
      obtain ⟨G,hG⟩:∃ G,G=wc2.heap.size:=⟨_,rfl⟩
      rw [← hG] at mG xG ⊢
      try rw [← hG] at daG
      clear hG
      have hBn:Below wf.heap.size wf wc3:=hB.trans (hbn.mono hB.size)
      refine otN hK (hSof _ hBn) ?_
      replace hS:=hSof _ hBn
      clear hK
      replace hO1:=hO1.below hbn
      replace hB:=hBn
      clear hBn hbn
      refine stN 7 (fun K hK=>?_)
      go_simp
      refine (hka2 wc3 hB).mono ?_
      rintro e wc4 ⟨va,vc,rfl,hbn,hX2,_⟩
      have hBn:Below wf.heap.size wf wc4:=hB.trans (hbn.mono hB.size)
      refine otN hK (hSof _ hBn) ?_
      replace hS:=hSof _ hBn
      clear hK
      replace hO1:=hO1.below hbn
      replace mG:=(hbn.block _ (Array.getElem?_eq_some_iff.1 mG).1).trans mG
      replace hB:=hBn
      clear hBn hbn
      refine stN 8 (fun K hK=>?_)
      refine step_seq Tryz.rowAx rfl _ _ rfl (v:=.slice (some ⟨g1,0,none⟩) KN c1) (by simp [Act.eval]) hO1 hB.size A2 va vc (by simp [Act.eval]) (seqAx_of hX2) hap2 (by have:=HKN.out;omega) (by have:=HKN.out;omega) ?_
      rintro g2 c2 wc5 hO2 hg2 hbA _
      have hBn:Below wf.heap.size wf wc5:=hB.trans hbA
      replace mG:=(hg2.block _ (Array.getElem?_eq_some_iff.1 mG).1 (Ne.symm (seq_ne_box hO1 mG (by decide)))).trans mG
      clear hO1 hX2 hg2 hbA
      have hO1:=hO2
      have hX2:=AxsAt.nil wc5
      rw [← HKN.out]
      clear hO2
      refine otN hK (hSof _ hBn) ?_
      replace hS:=hSof _ hBn
      clear hK
      replace hB:=hBn
      clear hBn
      refine stN 9 (fun K hK=>?_)
      go_simp
      refine (hrun wc5 _ c2 hB (seqAx_to (hO1.at Tryz.rowAx.len))).mono ?_
      rintro e wc6 ⟨za,zc,zb,zd,rfl,hbn,hZA,hZP,hzc⟩
      dsimp only at hZA hZP hzc ⊢
      have hBn:Below wf.heap.size wf wc6:=hB.trans (hbn.mono hB.size)
      refine otN hK (hSof _ hBn) ?_
      replace hS:=hSof _ hBn
      clear hK
      replace hO1:=hO1.below hbn
      replace mG:=(hbn.block _ (Array.getElem?_eq_some_iff.1 mG).1).trans mG
      replace hX2:=hX2.keeps (Keeps.below hbn)
      replace hB:=hBn
      clear hBn hbn
      refine tkN 10 hS ?_
      refine tkN 11 hS ?_
      refine tkN 12 hS ?_
      refine stN 14 (fun K hK=>?_)
      have c0:=cellBlk mG 0
      have c1:=cellBlk mG 1
      have cf:∀ j,wc6.frozen? ⟨G,j,none⟩=false:=fun j=>by simp [World.frozen?,mG]
      simp at c0 c1
      go_simp
      have hBn:=two_below hB xG 0 1 (.slice za V2.acts.length zc) (.slice zb V2.prints.length zd)
      replace hZP:=hZP.off (nilB2 mG) (fun b hb=>two_other 0 1 (.slice za V2.acts.length zc) (.slice zb V2.prints.length zd) hb)
      replace mG:=two_blk mG 0 1 (.slice za V2.acts.length zc) (.slice zb V2.prints.length zd)
      clear c0 c1 cf
      generalize (wc6.setCell ⟨G,0,none⟩ (.slice za V2.acts.length zc)).setCell ⟨G,1,none⟩ (.slice zb V2.prints.length zd)=wc7 at *
      refine otN hK (hSof _ hBn) ?_
      replace hS:=hSof _ hBn
      clear hK
      replace hB:=hBn
      clear hBn
      refine tkN 15 hS ?_
      refine dnN ?_
      go_wp2_with fail
      go_meet
      case rel=>exact ⟨G,za,zc,zb,zd,rfl,rfl,hB,xG,mG,hZP,hzc⟩
    ·go_simp
     have hbn:=below_box wc1 (Obj.cells #[.slice none 0 0,.slice none 0 0] 29)
     have mG:=Deep.blk_alloc_new wc1 (Obj.cells #[.slice none 0 0,.slice none 0 0] 29)
     have xG:wf.heap.size≤wc1.heap.size:=hB.size
     try have daG:TT≤wc1.heap.size:=sT
     generalize wc1.alloc (Obj.cells #[.slice none 0 0,.slice none 0 0] 29)=wc2 at hbn mG ⊢
     obtain ⟨G,hG⟩:∃ G,G=wc1.heap.size:=⟨_,rfl⟩
     rw [← hG] at mG xG ⊢
     try rw [← hG] at daG
     clear hG
     have hBn:Below wf.heap.size wf wc2:=hB.trans (hbn.mono hB.size)
     refine otN hK (hSof _ hBn) ?_
     replace hS:=hSof _ hBn
     clear hK
     replace hB:=hBn
     clear hBn hbn
     refine stN 5 (fun K hK=>?_)
     go_simp
     refine (hclo wc2 hB).mono ?_
     rintro e wc3 ⟨g1,c1,rfl,hO1,hbn⟩
     replace hO1:SeqOwn fAx 4 53 wc3 wf.heap.size (.slice (some ⟨g1,0,none⟩) KN c1) AX:=ownsRow_base hO1 hB.size
     have hBn:Below wf.heap.size wf wc3:=hB.trans (hbn.mono hB.size)
     refine otN hK (hSof _ hBn) ?_
     replace hS:=hSof _ hBn
     clear hK
     replace mG:=(hbn.block _ (Array.getElem?_eq_some_iff.1 mG).1).trans mG
     replace hB:=hBn
     clear hBn hbn
     refine stN 7 (fun K hK=>?_)
     go_simp
     refine (hka2 wc3 hB).mono ?_
     rintro e wc4 ⟨va,vc,rfl,hbn,hX2,_⟩
     have hBn:Below wf.heap.size wf wc4:=hB.trans (hbn.mono hB.size)
     refine otN hK (hSof _ hBn) ?_
     replace hS:=hSof _ hBn
     clear hK
     replace mG:=(hbn.block _ (Array.getElem?_eq_some_iff.1 mG).1).trans mG
     replace hO1:=hO1.below hbn
     replace hB:=hBn
     clear hBn hbn
     refine stN 8 (fun K hK=>?_)
     refine step_seq Tryz.rowAx rfl _ _ rfl (v:=.slice (some ⟨g1,0,none⟩) KN c1) (by simp [Act.eval]) hO1 hB.size A2 va vc (by simp [Act.eval]) (seqAx_of hX2) hap2 (by have:=HKN.out;omega) (by have:=HKN.out;omega) ?_
     rintro g2 c2 wc5 hO2 hg2 hbA _
     have hBn:Below wf.heap.size wf wc5:=hB.trans hbA
     replace mG:=(hg2.block _ (Array.getElem?_eq_some_iff.1 mG).1 (Ne.symm (seq_ne_box hO1 mG (by decide)))).trans mG
     clear hO1 hX2 hg2 hbA
     have hO1:=hO2
     have hX2:=AxsAt.nil wc5
     rw [← HKN.out]
     clear hO2
     refine otN hK (hSof _ hBn) ?_
     replace hS:=hSof _ hBn
     clear hK
     replace hB:=hBn
     clear hBn
     refine stN 9 (fun K hK=>?_)
     go_simp
     refine (hrun wc5 _ c2 hB (seqAx_to (hO1.at Tryz.rowAx.len))).mono ?_
     rintro e wc6 ⟨za,zc,zb,zd,rfl,hbn,hZA,hZP,hzc⟩
     dsimp only at hZA hZP hzc ⊢
     have hBn:Below wf.heap.size wf wc6:=hB.trans (hbn.mono hB.size)
     refine otN hK (hSof _ hBn) ?_
     replace hS:=hSof _ hBn
     clear hK
     replace mG:=(hbn.block _ (Array.getElem?_eq_some_iff.1 mG).1).trans mG
     replace hO1:=hO1.below hbn
     replace hX2:=hX2.keeps (Keeps.below hbn)
     replace hB:=hBn
     clear hBn hbn
     refine tkN 10 hS ?_
     refine tkN 11 hS ?_
     refine tkN 12 hS ?_
     refine stN 14 (fun K hK=>?_)
     have c0:=cellBlk mG 0
     have c1:=cellBlk mG 1
     have cf:∀ j,wc6.frozen? ⟨G,j,none⟩=false:=fun j=>by simp [World.frozen?,mG]
     simp at c0 c1
     go_simp
     have hBn:=two_below hB xG 0 1 (.slice za V2.acts.length zc) (.slice zb V2.prints.length zd)
     replace hZP:=hZP.off (nilB2 mG) (fun b hb=>two_other 0 1 (.slice za V2.acts.length zc) (.slice zb V2.prints.length zd) hb)
     replace mG:=two_blk mG 0 1 (.slice za V2.acts.length zc) (.slice zb V2.prints.length zd)
     clear c0 c1 cf
     generalize (wc6.setCell ⟨G,0,none⟩ (.slice za V2.acts.length zc)).setCell ⟨G,1,none⟩ (.slice zb V2.prints.length zd)=wc7 at *
     refine otN hK (hSof _ hBn) ?_
     replace hS:=hSof _ hBn
     clear hK
     replace hB:=hBn
     clear hBn
     refine tkN 15 hS ?_
     refine dnN ?_
     go_wp2_with fail
     go_meet
     case rel=>exact ⟨G,za,zc,zb,zd,rfl,rfl,hB,xG,mG,hZP,hzc⟩
   ·go_simp
    have hbn:=below_box wc0 (Obj.cells #[.slice none 0 0,.slice none 0 0] 29)
    have mG:=Deep.blk_alloc_new wc0 (Obj.cells #[.slice none 0 0,.slice none 0 0] 29)
    have xG:wf.heap.size≤wc0.heap.size:=hB.size
    try have daG:TT≤wc0.heap.size:=sT
    generalize wc0.alloc (Obj.cells #[.slice none 0 0,.slice none 0 0] 29)=wc1 at hbn mG ⊢
    obtain ⟨G,hG⟩:∃ G,G=wc0.heap.size:=⟨_,rfl⟩
    rw [← hG] at mG xG ⊢
    try rw [← hG] at daG
    clear hG
    have hBn:Below wf.heap.size wf wc1:=hB.trans (hbn.mono hB.size)
    refine otN hK (hSof _ hBn) ?_
    replace hS:=hSof _ hBn
    clear hK
    replace hB:=hBn
    clear hBn hbn
    refine stN 2 (fun K hK=>?_)
    go_simp
    refine (kPicked_any most 40 wc1 hmo (by omega) (by omega)).mono ?_
    rintro e wc2 ⟨rfl,hbn⟩
    have hBn:Below wf.heap.size wf wc2:=hB.trans (hbn.mono hB.size)
    refine otN hK (hSof _ hBn) ?_
    replace hS:=hSof _ hBn
    clear hK
    replace mG:=(hbn.block _ (Array.getElem?_eq_some_iff.1 mG).1).trans mG
    replace hB:=hBn
    clear hBn hbn
    refine tkN 3 hS ?_
    refine stN 5 (fun K hK=>?_)
    go_simp
    refine (hclo wc2 hB).mono ?_
    rintro e wc3 ⟨g1,c1,rfl,hO1,hbn⟩
    replace hO1:SeqOwn fAx 4 53 wc3 wf.heap.size (.slice (some ⟨g1,0,none⟩) KN c1) AX:=ownsRow_base hO1 hB.size
    have hBn:Below wf.heap.size wf wc3:=hB.trans (hbn.mono hB.size)
    refine otN hK (hSof _ hBn) ?_
    replace hS:=hSof _ hBn
    clear hK
    replace mG:=(hbn.block _ (Array.getElem?_eq_some_iff.1 mG).1).trans mG
    replace hB:=hBn
    clear hBn hbn
    refine stN 7 (fun K hK=>?_)
    go_simp
    refine (hka2 wc3 hB).mono ?_
    rintro e wc4 ⟨va,vc,rfl,hbn,hX2,_⟩
    have hBn:Below wf.heap.size wf wc4:=hB.trans (hbn.mono hB.size)
    refine otN hK (hSof _ hBn) ?_
    replace hS:=hSof _ hBn
    clear hK
    replace mG:=(hbn.block _ (Array.getElem?_eq_some_iff.1 mG).1).trans mG
    replace hO1:=hO1.below hbn
    replace hB:=hBn
    clear hBn hbn
    refine stN 8 (fun K hK=>?_)
    refine step_seq Tryz.rowAx rfl _ _ rfl (v:=.slice (some ⟨g1,0,none⟩) KN c1) (by simp [Act.eval]) hO1 hB.size A2 va vc (by simp [Act.eval]) (seqAx_of hX2) hap2 (by have:=HKN.out;omega) (by have:=HKN.out;omega) ?_
    rintro g2 c2 wc5 hO2 hg2 hbA _
    have hBn:Below wf.heap.size wf wc5:=hB.trans hbA
    replace mG:=(hg2.block _ (Array.getElem?_eq_some_iff.1 mG).1 (Ne.symm (seq_ne_box hO1 mG (by decide)))).trans mG
    clear hO1 hX2 hg2 hbA
    have hO1:=hO2
    have hX2:=AxsAt.nil wc5
    rw [← HKN.out]
    clear hO2
    refine otN hK (hSof _ hBn) ?_
    replace hS:=hSof _ hBn
    clear hK
    replace hB:=hBn
    clear hBn
    refine stN 9 (fun K hK=>?_)
    go_simp
    refine (hrun wc5 _ c2 hB (seqAx_to (hO1.at Tryz.rowAx.len))).mono ?_
    rintro e wc6 ⟨za,zc,zb,zd,rfl,hbn,hZA,hZP,hzc⟩
    dsimp only at hZA hZP hzc ⊢
    have hBn:Below wf.heap.size wf wc6:=hB.trans (hbn.mono hB.size)
    refine otN hK (hSof _ hBn) ?_
    replace hS:=hSof _ hBn
    clear hK
    replace mG:=(hbn.block _ (Array.getElem?_eq_some_iff.1 mG).1).trans mG
    replace hO1:=hO1.below hbn
    replace hX2:=hX2.keeps (Keeps.below hbn)
    replace hB:=hBn
    clear hBn hbn
    refine tkN 10 hS ?_
    refine tkN 11 hS ?_
    refine tkN 12 hS ?_
    refine stN 14 (fun K hK=>?_)
    have c0:=cellBlk mG 0
    have c1:=cellBlk mG 1
    have cf:∀ j,wc6.frozen? ⟨G,j,none⟩=false:=fun j=>by simp [World.frozen?,mG]
    simp at c0 c1
    go_simp
    have hBn:=two_below hB xG 0 1 (.slice za V2.acts.length zc) (.slice zb V2.prints.length zd)
    replace hZP:=hZP.off (nilB2 mG) (fun b hb=>two_other 0 1 (.slice za V2.acts.length zc) (.slice zb V2.prints.length zd) hb)
    replace mG:=two_blk mG 0 1 (.slice za V2.acts.length zc) (.slice zb V2.prints.length zd)
    clear c0 c1 cf
    generalize (wc6.setCell ⟨G,0,none⟩ (.slice za V2.acts.length zc)).setCell ⟨G,1,none⟩ (.slice zb V2.prints.length zd)=wc7 at *
    refine otN hK (hSof _ hBn) ?_
    replace hS:=hSof _ hBn
    clear hK
    replace hB:=hBn
    clear hBn
    refine tkN 15 hS ?_
    refine dnN ?_
    go_wp2_with fail
    go_meet
    case rel=>exact ⟨G,za,zc,zb,zd,rfl,rfl,hB,xG,mG,hZP,hzc⟩
  case rest =>
   obtain ⟨G2,za,zc,zb,zd,rfl,rfl,hBd,xG2,mG2,hZP,hzc⟩:=hcut
   clear hclo hrun hka2 hSof
   have hB5:=hB4.trans (hBd.mono hB4.size)
   have hsz:=hBd.size
   have kd:=Keeps.below hBd
   have hAV:=(HV.out wc (hK4.trans kd)).2.2
   have hYA:=HY1.out.keeps kd
   have hv0:=kd _ _ HW4.out.1
   have hv1:=kd _ _ HW4.out.2
   have hg0:=kd _ _ HG1.out.1
   have hg1:=kd _ _ HG1.out.2
   have hg2:wc.cell? ⟨G2,1,none⟩=some (.slice zb V2.prints.length zd):=cell_blk mG2 1
   have hTk:=hZP.take V.prints.length
   rw [HPR.out] at hTk
   have hzc2:V.prints.length≤zd:=Nat.le_trans t3 hzc
   have hSof:∀ w',Below wc.heap.size wc w'→(w'.cell? ⟨P+1,0,none⟩=some (.slice aa V.acts.length ac)∧w'.cell? ⟨P+1,1,none⟩=some (.slice pa V.prints.length pc)∧w'.cell? ⟨G1,0,none⟩=some (.slice ya V.acts.length yc)∧w'.cell? ⟨G1,1,none⟩=some (.slice yb V.prints.length yd)∧w'.cell? ⟨G2,1,none⟩=some (.slice zb V2.prints.length zd)):=fun w' hb =>
    have k:=Keeps.below hb
    ⟨k _ _ hv0,k _ _ hv1,k _ _ hg0,k _ _ hg1,k _ _ hg2⟩
   have hBr:Below wc.heap.size wc wc.drew:=(Below.refl _ _).drew
   have hsame:=fun w' (hb:Below wc.heap.size wc w')=>same_any aa ya pa yb ac yc pc yd V w' (hAV.1.keeps (Keeps.below hb)) (hYA.keeps (Keeps.below hb)) (hAV.2.keeps (Keeps.below hb)) (HYP1.out.keeps (Keeps.below (hBd.trans (hb.mono hBd.size))))
   have heq:=fun w' (hb:Below wc.heap.size wc w')=>equalTold_any zb pa zd pc V.prints w' (hTk.keeps (Keeps.below hb)) (hAV.2.keeps (Keeps.below hb))
   have f1:¬ (V2.prints.length:Int) < (V.prints.length:Int):=by omega
   clear hv0 hv1 hg0 hg1 hg2 hTk hAV hYA hZP mG2
   generalize V.prints.length=LP at *
   generalize V2.prints.length=LQ at *
   generalize V.acts.length=LA at *
   go_upto_region 6 with fail
   refine wp_region_need (fun _=>true) (fun w'=>w'.cell? ⟨P+1,0,none⟩=some (.slice aa LA ac)∧w'.cell? ⟨P+1,1,none⟩=some (.slice pa LP pc)∧w'.cell? ⟨G1,0,none⟩=some (.slice ya LA yc)∧w'.cell? ⟨G1,1,none⟩=some (.slice yb LP yd)∧w'.cell? ⟨G2,1,none⟩=some (.slice zb LQ zd)) (by kernel_rfl) (hSof _ hBr) (fun hS=>?_)
   generalize wc.drew=wc0 at hBr hS ⊢
   refine tkN 0 hS ?_
   refine tkN 1 hS ?_
   refine tkN 2 hS ?_
   refine tkN 3 hS ?_
   refine tkN 4 hS ?_
   refine tkN 5 hS ?_
   refine tkN 6 hS ?_
   refine tkN 7 hS ?_
   refine tkN 8 hS ?_
   refine tkN 9 hS ?_
   refine tkN 10 hS ?_
   refine tkN 11 hS ?_
   refine stN 12 (fun K hK=>?_)
   go_simp
   refine (hsame wc0 hBr).mono ?_
   rintro e w7 ⟨rfl,hb7⟩
   have hB7:=hBr.trans (hb7.mono hBr.size)
   refine otN hK (hSof _ hB7) ?_
   clear hK
   replace hS:=hSof _ hB7
   refine tkN 13 hS ?_
   refine tkN 14 hS ?_
   refine tkN 15 hS ?_
   refine tkN 16 hS ?_
   refine tkN 17 hS ?_
   refine tkN 18 hS ?_
   refine tkN 19 hS ?_
   refine tkN 20 hS ?_
   refine tkN 21 hS ?_
   refine tkN 22 hS ?_
   refine tkN 23 hS ?_
   refine tkN 24 hS ?_
   refine tkN 25 hS ?_
   refine tkN 26 hS ?_
   refine tkN 27 hS ?_
   refine tkN 28 hS ?_
   refine tkN 29 hS ?_
   refine tkN 30 hS ?_
   refine tkN 31 hS ?_
   refine stN 32 (fun K hK=>?_)
   go_simp
   refine (heq w7 hB7).mono ?_
   rintro e w8 ⟨rfl,n8,rfl⟩
   have hB8:=below_drewN hB7 n8
   refine otN hK (hSof _ hB8) ?_
   clear hK
   replace hS:=hSof _ hB8
   refine tkN 33 hS ?_
   refine tkN 34 hS ?_
   refine dnN ?_
   have hBz:=hB5.trans (hB8.mono hB5.size)
   go_wp2
   go_ret
   exact ⟨rfl,hBz⟩
theorem topTwice_walk (a0:Option Addr) (c0:Nat) (l0:List Rw) (a1:Option Addr) (c1:Nat) (l1:List Rw) (a2:Option Addr) (c2:Nat) (l2:List Rw) (n3:Int) (w:World) (hT:TabAt 0 w) (h0:RawsAt w a0 l0) (hb0:32*l0.length≤140737488351232) (h1:RawsAt w a1 l1) (_:32*l1.length≤140737488351232) (h2:RawsAt w a2 l2) (_:32*l2.length≤140737488351232) (hi:-9223372036854775808≤n3∧n3≤9223372036854775807) :
  Calls Tryz.prog 9 #[.slice a0 l0.length c0,.slice a1 l1.length c1,.slice a2 l2.length c2,.int .i64 n3] w fun e w'=>e=.returned (.bool true)∧Below w.heap.size w w' :=
 topTwice_any l0 l1 l2 a0 a1 a2 c0 c1 c2 n3 w hT h0 h1 h2 (by omega) hi
end Go.Proofs.YtddokajfafmhhaaGreatDoor
