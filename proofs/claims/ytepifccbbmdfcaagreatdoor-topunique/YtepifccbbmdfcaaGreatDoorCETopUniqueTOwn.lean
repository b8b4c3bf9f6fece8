/- TOwn. -/
import Derived.Test.YtepifccbbmdfcaaGreatDoorCETopUniqueKActs
namespace Go.Proofs.YtepifccbbmdfcaaGreatDoor
set_option maxRecDepth 100000
set_option maxHeartbeats 8000000
section
open Go.RowKit
def NilB (w:World) (R:Nat):Prop:=∀ o v,w.cell? ⟨R,o,none⟩=some v->v=.slice none 0 0
theorem nilB1 {w:World} {R:Nat} {t:TypeId} (h:w.heap[R]?=some (.cells #[.slice none 0 0] t (0,0))):NilB w R:=fun o v hv=>by
 rw[cellBlk h] at hv
 match o,hv with
 | 0,hv=>simpa using hv.symm
 | o+1,hv=>simp at hv
theorem nilB2 {w:World} {R:Nat} {t:TypeId} (h:w.heap[R]?=some (.cells #[.slice none 0 0,.slice none 0 0] t (0,0))):NilB w R:=fun o v hv=>by
 rw[cellBlk h] at hv
 match o,hv with
 | 0,hv=>simpa using hv.symm
 | 1,hv=>simpa using hv.symm
 | o+2,hv=>simp at hv
section
variable {w w':World} {R:Nat}
theorem NilB.ne (hR:NilB w R) {b o:Nat} {v:Value} (h:w.cell? ⟨b,o,none⟩=some v) (hv:v≠.slice none 0 0):b≠R:=fun e=>by
 subst e;exact hv (hR o v h)
theorem cell_off (ho:∀ b,b≠R->w'.heap[b]?=w.heap[b]?) {b o:Nat} {v:Value} (hb:b≠R) (h:w.cell? ⟨b,o,none⟩=some v):w'.cell? ⟨b,o,none⟩=some v:=(World.cell?_of_block (a:=⟨b,o,none⟩) (ho b hb)).trans h
theorem ValsAt.off {ao:Option Addr} {l:List Vl} (h:ValsAt w ao l) (hR:NilB w R) (ho:∀ b,b≠R->w'.heap[b]?=w.heap[b]?):ValsAt w' ao l:=fun i v hi=>by
 obtain⟨b,o,e,h1,h2⟩:=h i v hi;have hb:=hR.ne h1 (by simp);exact⟨b,o,e,cell_off ho hb h1,cell_off ho hb h2⟩
theorem AxsAt.off {ao:Option Addr} {l:List Ax} (h:AxsAt w ao l) (hR:NilB w R) (ho:∀ b,b≠R->w'.heap[b]?=w.heap[b]?):AxsAt w' ao l:=fun i v hi=>by
 obtain⟨b,o,e,h1,h2,h3,h4⟩:=h i v hi;have hb:=hR.ne h1 (by simp);exact⟨b,o,e,cell_off ho hb h1,cell_off ho hb h2,cell_off ho hb h3,cell_off ho hb h4⟩
theorem ToldAt.off {ao:Option Addr} {l:List (Int × Int)} (h:ToldAt w ao l) (hR:NilB w R) (ho:∀ b,b≠R->w'.heap[b]?=w.heap[b]?):ToldAt w' ao l :=
 ⟨fun i v hi=>by
  obtain⟨b,o,e,h1,h2⟩:=h.cell i v hi;have hb:=hR.ne h1 (by simp);exact⟨b,o,e,cell_off ho hb h1,cell_off ho hb h2⟩,h.many⟩
theorem ObsAt.off {ao:Option Addr} {l:List Ob} (h:ObsAt w ao l) (hR:NilB w R) (ho:∀ b,b≠R->w'.heap[b]?=w.heap[b]?):ObsAt w' ao l :=
 ⟨fun i v hi=>by
  obtain⟨b,o,fa,fc,e,h1,h2,h3,h4⟩:=h.cell i v hi;have hb:=hR.ne h2 (by simp);exact⟨b,o,fa,fc,e,cell_off ho hb h1,cell_off ho hb h2,h3.off hR ho,h4⟩,h.many⟩
theorem ActsAt.off {ao:Option Addr} {l:List Ac} (h:ActsAt w ao l) (hR:NilB w R) (ho:∀ b,b≠R->w'.heap[b]?=w.heap[b]?):ActsAt w' ao l :=
 ⟨fun i v hi=>by
  obtain⟨b,o,oa,oc,ra,rc,ba,bc,e,h1⟩:=h.cell i v hi;have hb:=hR.ne h1.c0 (by simp);exact⟨b,o,oa,oc,ra,rc,ba,bc,e,⟨cell_off ho hb h1.c0,cell_off ho hb h1.c1,cell_off ho hb h1.c2,cell_off ho hb h1.c3,cell_off ho hb h1.c4,cell_off ho hb h1.c5,cell_off ho hb h1.c6,cell_off ho hb h1.c7,h1.obs.off hR ho,h1.regs.off hR ho,h1.box.off hR ho,h1.rlen,h1.blen⟩⟩,h.many⟩
theorem KindsAt.off {ao:Option Addr} {rows:List (List Ins)} (h:KindsAt w ao rows) (hne:∀ l∈rows,0<l.length) (hR:NilB w R) (ho:∀ b,b≠R->w'.heap[b]?=w.heap[b]?):KindsAt w' ao rows:=fun r l hl=>by
 obtain⟨b,o,ra,rc,e,h1,h2⟩:=h r l hl;have h0:=hne l (List.mem_of_getElem? hl);refine⟨b,o,ra,rc,e,cell_off ho (hR.ne h1 (fun e=>by simp only[Value.slice.injEq] at e;omega)) h1,fun i x hx=>?_⟩;obtain⟨b2,o2,e2,hc⟩:=h2 i x hx;have hb:=hR.ne (hc 0 _ rfl) (by simp);exact⟨b2,o2,e2,fun j u hu=>cell_off ho hb (hc j u hu)⟩
end
theorem programS_pos (l:List Rw) (most:Nat):∀ x∈programS l most,0<x.length:=fun x hx=>by
 simp only[programS,List.mem_cons,List.not_mem_nil,or_false] at hx
 rcases hx with rfl | rfl | rfl <;> simp[behS]
end
section
open Go.RowKit
theorem kPicked_any (n many:Int) (w:World) (h:fit64 n) (hm:0<many) (hm':many<=1000000):Calls Tryz.prog 23 #[.int .i64 n,.int .i64 many] w fun e w'=>e=.returned (.int .i64 (pick n many))/\Below w.heap.size w w':=by
 go_enter Tryz.func23,Tryz.ntmps23
 go_wp2_with fail
 refine(picked_any n many w h.1 h.2 hm hm').mono ?_;rintro e w' ⟨rfl,rfl⟩;go_wp2
 go_ret
 exact⟨rfl,Below.refl _ _⟩
def playS (l m:List Rw) (most:Int):Wd:=(runS (xOf (programS l 14)) (newW (2+pick most 40)) (actsS m 60)).1
theorem play_ok (l m:List Rw) (most:Int):WOk 3 (lenOf (programS l 14)) (fun r=>flowS (xOf (programS l 14) r) (lenOf (programS l 14) r)) (playS l m most)/\runWS 3 (lenOf (programS l 14)) (xOf (programS l 14)) (2+pick most 40) (actsS m 60)=(playS l m most,0):=by
 have hc:ckS 3 (lenOf (programS l 14)) (xOf (programS l 14))=(0,0,0):=program_ok l 14;obtain⟨hpf,hver⟩:=ver_of (by rw[hc]);have hp:=pick_bd (n:=most) (many:=40) (by omega);have hr:=WOk.run hver (actsS m 60) (wok_new hver (by omega) (M:=2+pick most 40) (by omega)) (actsS_ok m 60);have hE:wnewE 3 (lenOf (programS l 14)) (xOf (programS l 14)) (2+pick most 40)=0:=by
  unfold wnewE
  rw[hc,if_neg (by simp),if_neg (by omega)]
 refine⟨hr.2,?_⟩;have hl:=actsS_len m 60
 unfold runWS playS
 rw[hE,if_neg (by simp),if_neg (by omega)];exact Prod.ext rfl hr.1
def PlayAns (w w':World) (l m:List Rw) (most:Int) (e:Ending):Prop:=∃ ao cap xa xc aa ac pa pc,
 e=.returned (.tuple #[.agg #[.slice ao 3 cap],.slice xa (actsS m 60).length xc,.agg #[.slice aa (playS l m most).acts.length ac,.slice pa (playS l m most).prints.length pc],.bool true])/\Below w.heap.size w w'/\KindsAt w' ao (programS l 14)/\(AxsAt w' xa (actsS m 60)/\(actsS m 60).length<=xc)/\ActsAt w' aa (playS l m most).acts/\ToldAt w' pa (playS l m most).prints
theorem played_any (l m:List Rw) (la ma:Option Addr) (lc mc:Nat) (most:Int) (w:World) (hT:TabAt 0 w) (h:RawsAt w la l) (hm:RawsAt w ma m) (hll:32*l.length<=140737488355328) (hmo:fit64 most) :
  Calls Tryz.prog 19 #[.slice la l.length lc,.slice ma m.length mc,.int .i64 most] w fun e w'=>PlayAns w w' l m most e:=by
 obtain⟨N0,N1,k1,b1,s1⟩:=boxes2 w (.cells #[.slice none 0 0] 38) (.cells #[.slice none 0 0,.slice none 0 0] 32)
 go_enter Tryz.func19,Tryz.ntmps19
 go_upto_region 1 with fail
 generalize (w.alloc (.cells #[.slice none 0 0] 38)).alloc (.cells #[.slice none 0 0,.slice none 0 0] 32)=W at *
 go_wp2_with fail
 refine(kprogram_any l la lc 14 W (h.keeps k1) hll (by omega) (hT.keeps k1)).mono ?_;rintro e w1 ⟨ao,cap,rfl,hb1,hK⟩;obtain⟨NP,_,cp,sp⟩:=boxes1 w1 (.cells #[.slice ao 3 cap] 38);have hB1:=b1.trans (hb1.mono b1.size)
 go_upto_region 2 with fail
 replace hK:=hK.keeps (Keeps.below cp);have hBp:=hB1.trans (cp.mono hB1.size);have hWp:=hb1.trans (cp.mono hb1.size);generalize w1.alloc (.cells #[.slice ao 3 cap] 38)=w2 at *;have hPW:W.heap.size<=w1.heap.size:=hb1.size;generalize w1.heap.size=P at *
 go_wp2_with fail
 refine(kacts_any m ma mc 60 w2 (hm.keeps (Keeps.below hBp)) (by omega)).mono ?_;rintro e w3 ⟨xa,xc,rfl,hb3,hX,hxc⟩;replace hK:=hK.keeps (Keeps.below hb3);have hB3:=hBp.trans (hb3.mono hBp.size);have hW3:=hWp.trans (hb3.mono hWp.size);obtain⟨A,C,hPA,_,_⟩:=program_prog (by omega) hK;obtain⟨hOK,hRW⟩:=play_ok l m most;have hrun:=fun w' (hb:Below w3.heap.size w3 w')=>run_any ao 3 cap A _ C _ (2+pick most 40) xa xc (actsS m 60) w' ((hT.keeps (Keeps.below hB3)).keeps (Keeps.below hb)) (hPA.keeps (Keeps.below hb)) (hX.keeps (Keeps.below hb)) (by have:=actsS_len m 60;omega)
 rw[hRW] at hrun;have p3:w3.cell? ⟨P,0,none⟩=some (.slice ao 3 cap):=Keeps.below hb3 _ _ (cell_blk NP 0);have M0:=(hW3.block _ (by omega)).trans N0;have M1:=(hW3.block _ (by omega)).trans N1;have hPl:P<w3.heap.size:=World.block_lt_of_cell? _ _ p3;have hp40:=pick_bd (n:=most) (many:=40) (by omega)
 go_upto_region 3 with fail
 have hw40:IntKind.i64.wrap (2+pick most 40)=2+pick most 40:=by rw[IntKind.wrap_i64];omega
 have HP:Aside (∀ wz aa ac pa pc,Below w.heap.size w wz->KindsAt wz ao (programS l 14)->AxsAt wz xa (actsS m 60)->ActsAt wz aa (playS l m most).acts->ToldAt wz pa (playS l m most).prints->PlayAns w wz l m most (.returned (.tuple #[.agg #[.slice ao 3 cap],.slice xa (actsS m 60).length xc,.agg #[.slice aa (playS l m most).acts.length ac,.slice pa (playS l m most).prints.length pc],.bool true]))):=fun wz aa ac pa pc a1 a2 a3 a4 a5=>⟨ao,cap,xa,xc,aa,ac,pa,pc,rfl,a1,a2,⟨a3,hxc⟩,a4,a5⟩
 generalize playS l m most=V at *;generalize hAX:actsS m 60=AX at *;clear hAX hOK hRW hPA;have hSof:∀ w',Below w3.heap.size w3 w'->(w'.cell? ⟨P,0,none⟩=some (.slice ao 3 cap)):=fun w' hb'=>Keeps.below hb' _ _ p3
 go_cut [12,13] (fun s12 s13 wc=>∃ G aa ac pa pc,s12=.pointer (some ⟨G,0,none⟩)/\s13=.int .i64 0/\Below w3.heap.size w3 wc/\w3.heap.size<=G/\wc.heap[G]?=some (.cells #[.slice aa V.acts.length ac,.slice pa V.prints.length pc] 32 (0,0))/\ActsAt wc aa V.acts/\ToldAt wc pa V.prints)
 case first =>
  have hB:Below w3.heap.size w3 w3.drew:=(Below.refl _ _).drew;refine wp_region_need (fun _=>true) (fun w'=>w'.cell? ⟨P,0,none⟩=some (.slice ao 3 cap)) (by kernel_rfl) (hSof _ hB) (fun hS=>?_);generalize w3.drew=wc0 at hS hB  ⊢;refine tkN 0 hS ?_;refine tkN 1 hS ?_;refine tkN 4 hS ?_;refine twN 2 9 (fun K hK=>?_) (fun K hK=>?_)
  ·go_simp
   refine(kPicked_any most 40 wc0 hmo (by omega) (by omega)).mono ?_;rintro e wc1 ⟨rfl,hbn⟩;have hBn:Below w3.heap.size w3 wc1:=hB.trans (hbn.mono hB.size);refine otN hK (hSof _ hBn) ?_;replace hS:=hSof _ hBn;clear hK;replace hB:=hBn;clear hBn hbn;refine tkN 3 hS ?_;refine twN 5 9 (fun K hK=>?_) (fun K hK=>?_)
   ·go_simp
    refine(hrun wc1 hB).mono ?_;rintro e wc2 ⟨aa,ac,pa,pc,rfl,hbn,hVA,hVP,_⟩
    dsimp only at hVA hVP ⊢
    have hBn:Below w3.heap.size w3 wc2:=hB.trans (hbn.mono hB.size);refine otN hK (hSof _ hBn) ?_;replace hS:=hSof _ hBn;clear hK;replace hB:=hBn;clear hBn hbn;refine tkN 6 hS ?_;refine tkN 7 hS ?_;refine tkN 8 hS ?_;refine stN 9 (fun K hK=>?_);go_simp;have hbn:=below_box wc2 (Obj.cells #[.slice none 0 0,.slice none 0 0] 32);have mG:=Deep.blk_alloc_new wc2 (Obj.cells #[.slice none 0 0,.slice none 0 0] 32)
    have xG:w3.heap.size<=wc2.heap.size:=hB.size
    try have daG:TT<=wc2.heap.size:=sT
    generalize wc2.alloc (Obj.cells #[.slice none 0 0,.slice none 0 0] 32)=wc3 at hbn mG ⊢;obtain⟨G,hG⟩:∃ G,G=wc2.heap.size:=⟨_,rfl⟩;rw[<- hG] at mG xG ⊢
    try rw[<- hG] at daG
    clear hG;have hBn:Below w3.heap.size w3 wc3:=hB.trans (hbn.mono hB.size);refine otN hK (hSof _ hBn) ?_;replace hS:=hSof _ hBn;clear hK;replace hVA:=hVA.keeps (Keeps.below hbn);replace hVP:=hVP.keeps (Keeps.below hbn);replace hB:=hBn;clear hBn hbn;refine stN 10 (fun K hK=>?_);have c0:=cellBlk mG 0;have c1:=cellBlk mG 1;have cf:∀ j,wc3.frozen? ⟨G,j,none⟩=false:=fun j=>by simp[World.frozen?,mG]
    simp at c0 c1;go_simp;have hBn:=two_below hB xG 0 1 (.slice aa V.acts.length ac) (.slice pa V.prints.length pc);replace hVA:=hVA.off (nilB2 mG) (fun b hb=>two_other 0 1 (.slice aa V.acts.length ac) (.slice pa V.prints.length pc) hb);replace hVP:=hVP.off (nilB2 mG) (fun b hb=>two_other 0 1 (.slice aa V.acts.length ac) (.slice pa V.prints.length pc) hb);replace mG:=two_blk mG 0 1 (.slice aa V.acts.length ac) (.slice pa V.prints.length pc)
    clear c0 c1 cf;generalize (wc3.setCell ⟨G,0,none⟩ (.slice aa V.acts.length ac)).setCell ⟨G,1,none⟩ (.slice pa V.prints.length pc)=wc4 at *;refine otN hK (hSof _ hBn) ?_;replace hS:=hSof _ hBn;clear hK;replace hB:=hBn;clear hBn;refine tkN 11 hS ?_;refine dnN ?_
    go_wp2_with fail
    go_meet
    case rel=>exact⟨G,aa,ac,pa,pc,rfl,rfl,hB,xG,mG,hVA,hVP⟩
   ·go_simp
    have hbn:=below_box wc1 (Obj.cells #[.slice none 0 0,.slice none 0 0] 32);have mG:=Deep.blk_alloc_new wc1 (Obj.cells #[.slice none 0 0,.slice none 0 0] 32);have xG:w3.heap.size<=wc1.heap.size:=hB.size
    try have daG:TT<=wc1.heap.size:=sT
    generalize wc1.alloc (Obj.cells #[.slice none 0 0,.slice none 0 0] 32)=wc2 at hbn mG ⊢;obtain⟨G,hG⟩:∃ G,G=wc1.heap.size:=⟨_,rfl⟩;rw[<- hG] at mG xG ⊢
    try rw[<- hG] at daG
    clear hG;have hBn:Below w3.heap.size w3 wc2:=hB.trans (hbn.mono hB.size);refine otN hK (hSof _ hBn) ?_;replace hS:=hSof _ hBn;clear hK;replace hB:=hBn;clear hBn hbn;refine stN 5 (fun K hK=>?_);go_simp;refine(hrun wc2 hB).mono ?_;rintro e wc3 ⟨aa,ac,pa,pc,rfl,hbn,hVA,hVP,_⟩
    dsimp only at hVA hVP ⊢
    have hBn:Below w3.heap.size w3 wc3:=hB.trans (hbn.mono hB.size);refine otN hK (hSof _ hBn) ?_;replace hS:=hSof _ hBn;clear hK;replace mG:=(hbn.block _ (Array.getElem?_eq_some_iff.1 mG).1).trans mG;replace hB:=hBn;clear hBn hbn;refine tkN 6 hS ?_;refine tkN 7 hS ?_;refine tkN 8 hS ?_;refine stN 10 (fun K hK=>?_);have c0:=cellBlk mG 0;have c1:=cellBlk mG 1;have cf:∀ j,wc3.frozen? ⟨G,j,none⟩=false:=fun j=>by simp[World.frozen?,mG]
    simp at c0 c1;go_simp;have hBn:=two_below hB xG 0 1 (.slice aa V.acts.length ac) (.slice pa V.prints.length pc);replace hVA:=hVA.off (nilB2 mG) (fun b hb=>two_other 0 1 (.slice aa V.acts.length ac) (.slice pa V.prints.length pc) hb);replace hVP:=hVP.off (nilB2 mG) (fun b hb=>two_other 0 1 (.slice aa V.acts.length ac) (.slice pa V.prints.length pc) hb);replace mG:=two_blk mG 0 1 (.slice aa V.acts.length ac) (.slice pa V.prints.length pc)
    clear c0 c1 cf;generalize (wc3.setCell ⟨G,0,none⟩ (.slice aa V.acts.length ac)).setCell ⟨G,1,none⟩ (.slice pa V.prints.length pc)=wc4 at *;refine otN hK (hSof _ hBn) ?_;replace hS:=hSof _ hBn;clear hK;replace hB:=hBn;clear hBn;refine tkN 11 hS ?_;refine dnN ?_
    go_wp2_with fail
    go_meet
    case rel=>exact⟨G,aa,ac,pa,pc,rfl,rfl,hB,xG,mG,hVA,hVP⟩
  ·go_simp
   have hbn:=below_box wc0 (Obj.cells #[.slice none 0 0,.slice none 0 0] 32);have mG:=Deep.blk_alloc_new wc0 (Obj.cells #[.slice none 0 0,.slice none 0 0] 32);have xG:w3.heap.size<=wc0.heap.size:=hB.size
   try have daG:TT<=wc0.heap.size:=sT
   generalize wc0.alloc (Obj.cells #[.slice none 0 0,.slice none 0 0] 32)=wc1 at hbn mG ⊢;obtain⟨G,hG⟩:∃ G,G=wc0.heap.size:=⟨_,rfl⟩;rw[<- hG] at mG xG ⊢
   try rw[<- hG] at daG
   clear hG;have hBn:Below w3.heap.size w3 wc1:=hB.trans (hbn.mono hB.size);refine otN hK (hSof _ hBn) ?_;replace hS:=hSof _ hBn;clear hK;replace hB:=hBn;clear hBn hbn;refine stN 2 (fun K hK=>?_);go_simp;refine(kPicked_any most 40 wc1 hmo (by omega) (by omega)).mono ?_;rintro e wc2 ⟨rfl,hbn⟩;have hBn:Below w3.heap.size w3 wc2:=hB.trans (hbn.mono hB.size);refine otN hK (hSof _ hBn) ?_;replace hS:=hSof _ hBn
   clear hK;replace mG:=(hbn.block _ (Array.getElem?_eq_some_iff.1 mG).1).trans mG;replace hB:=hBn;clear hBn hbn;refine tkN 3 hS ?_;refine stN 5 (fun K hK=>?_);go_simp;refine(hrun wc2 hB).mono ?_;rintro e wc3 ⟨aa,ac,pa,pc,rfl,hbn,hVA,hVP,_⟩
   dsimp only at hVA hVP ⊢
   have hBn:Below w3.heap.size w3 wc3:=hB.trans (hbn.mono hB.size);refine otN hK (hSof _ hBn) ?_;replace hS:=hSof _ hBn;clear hK;replace mG:=(hbn.block _ (Array.getElem?_eq_some_iff.1 mG).1).trans mG;replace hB:=hBn;clear hBn hbn;refine tkN 6 hS ?_;refine tkN 7 hS ?_;refine tkN 8 hS ?_;refine stN 10 (fun K hK=>?_);have c0:=cellBlk mG 0;have c1:=cellBlk mG 1;have cf:∀ j,wc3.frozen? ⟨G,j,none⟩=false:=fun j=>by simp[World.frozen?,mG]
   simp at c0 c1;go_simp;have hBn:=two_below hB xG 0 1 (.slice aa V.acts.length ac) (.slice pa V.prints.length pc);replace hVA:=hVA.off (nilB2 mG) (fun b hb=>two_other 0 1 (.slice aa V.acts.length ac) (.slice pa V.prints.length pc) hb);replace hVP:=hVP.off (nilB2 mG) (fun b hb=>two_other 0 1 (.slice aa V.acts.length ac) (.slice pa V.prints.length pc) hb);replace mG:=two_blk mG 0 1 (.slice aa V.acts.length ac) (.slice pa V.prints.length pc)
   clear c0 c1 cf;generalize (wc3.setCell ⟨G,0,none⟩ (.slice aa V.acts.length ac)).setCell ⟨G,1,none⟩ (.slice pa V.prints.length pc)=wc4 at *;refine otN hK (hSof _ hBn) ?_;replace hS:=hSof _ hBn;clear hK;replace hB:=hBn;clear hBn;refine tkN 11 hS ?_;refine dnN ?_
   go_wp2_with fail
   go_meet
   case rel=>exact⟨G,aa,ac,pa,pc,rfl,rfl,hB,xG,mG,hVA,hVP⟩
 case rest =>
  obtain⟨G,aa,ac,pa,pc,rfl,rfl,hBc,xG,mG,hVA,hVP⟩:=hcut;clear hrun hSof;replace hK:=hK.keeps (Keeps.below hBc);replace hX:=hX.keeps (Keeps.below hBc);replace p3:=Keeps.below hBc _ _ p3;have hBw:=hB3.trans (hBc.mono hB3.size);replace M0:=(hBc.block _ (by have:=hW3.size;omega)).trans M0;replace M1:=(hBc.block _ (by have:=hW3.size;omega)).trans M1;have sW3:=hW3.size
  go_upto_region 4 with fail
  have g0:wc.cell? ⟨G,0,none⟩=some (.slice aa V.acts.length ac):=cell_blk mG 0;have g1:wc.cell? ⟨G,1,none⟩=some (.slice pa V.prints.length pc):=cell_blk mG 1;have hBd:Below wc.heap.size wc wc.drew:=(Below.refl _ _).drew;have nP0:P≠w.heap.size:=by omega
  have nP1:P≠w.heap.size+1:=by omega
  have nG0:G≠w.heap.size:=by omega
  have nG1:G≠w.heap.size+1:=by omega
  have hS3:∀ w':World,w'.heap[P]?=wc.heap[P]?->w'.heap[G]?=wc.heap[G]?->(w'.cell? ⟨P,0,none⟩=some (.slice ao 3 cap)/\w'.cell? ⟨G,0,none⟩=some (.slice aa V.acts.length ac)/\w'.cell? ⟨G,1,none⟩=some (.slice pa V.prints.length pc)):=fun w' h1 h2=>⟨(World.cell?_of_block (a:=⟨P,0,none⟩) h1).trans p3,(World.cell?_of_block (a:=⟨G,0,none⟩) h2).trans g0,(World.cell?_of_block (a:=⟨G,1,none⟩) h2).trans g1⟩
  have hPl2:P<wc.heap.size:=World.block_lt_of_cell? _ _ p3;have hGl2:=(Array.getElem?_eq_some_iff.1 mG).1;refine wp_region_need (fun _=>true) (fun w'=>w'.cell? ⟨P,0,none⟩=some (.slice ao 3 cap)/\w'.cell? ⟨G,0,none⟩=some (.slice aa V.acts.length ac)/\w'.cell? ⟨G,1,none⟩=some (.slice pa V.prints.length pc)) (by kernel_rfl) (hS3 _ (hBd.block _ hPl2) (hBd.block _ hGl2)) (fun hS=>?_);have e0P:=hBd.block _ hPl2
  have e0G:=hBd.block _ hGl2;replace M0:=(hBd.block _ (Array.getElem?_eq_some_iff.1 M0).1).trans M0;replace M1:=(hBd.block _ (Array.getElem?_eq_some_iff.1 M1).1).trans M1;replace hK:=hK.keeps (Keeps.below hBd);replace hX:=hX.keeps (Keeps.below hBd);replace hVA:=hVA.keeps (Keeps.below hBd);replace hVP:=hVP.keeps (Keeps.below hBd);replace hBw:=hBw.trans (hBd.mono hBw.size);generalize wc.drew=wn at hS M0 M1 hK hX hVA hVP hBw e0P e0G ⊢
  refine tkN 0 hS ?_;refine tkN 1 hS ?_;refine tkN 2 hS ?_;refine tkN 3 hS ?_;refine tkN 4 hS ?_;have z0:wn.cell? ⟨w.heap.size,0,none⟩=some (.slice none 0 0):=cell_blk M0 0;have zf:∀ i,wn.frozen? ⟨w.heap.size,i,none⟩=false:=fun i=>fz_blk M0 i
  refine stN 5 (fun K hK=>?_);go_simp;have o1:∀ b,b≠w.heap.size->(wn.setCell ⟨w.heap.size,0,none⟩ (.slice ao 3 cap)).heap[b]?=wn.heap[b]?:=fun b hb=>Deep.blk_setCell_other _ ⟨w.heap.size,0,none⟩ _ _ hb
  have T0:(wn.setCell ⟨w.heap.size,0,none⟩ (.slice ao 3 cap)).heap[w.heap.size]?=some (.cells #[.slice ao 3 cap] 38 (0,0)):=setCell_blk M0 0 (.slice ao 3 cap);have hB6:Below w.heap.size w (wn.setCell ⟨w.heap.size,0,none⟩ (.slice ao 3 cap)):=hBw.setCell (Nat.le_refl _) _;have r6:=hS3 (wn.setCell ⟨w.heap.size,0,none⟩ (.slice ao 3 cap)) ((o1 P nP0).trans e0P) ((o1 G nG0).trans e0G);refine otN hK (r6) ?_
  clear hK;replace hS:=r6;have f1P:=(o1 P nP0).trans e0P;have f1G:=(o1 G nG0).trans e0G;have hK6:=hK.off (programS_pos l 14) (nilB1 M0) o1;have hX6:=hX.off (nilB1 M0) o1;have hA6:=hVA.off (nilB1 M0) o1;have hP6:=hVP.off (nilB1 M0) o1;have M6:=(o1 (w.heap.size+1) (by omega)).trans M1;clear z0 zf r6;generalize wn.setCell ⟨w.heap.size,0,none⟩ (.slice ao 3 cap)=w6 at *;refine tkN 6 hS ?_;have z0:w6.cell? ⟨w.heap.size+1,0,none⟩=some (.slice none 0 0):=cell_blk M6 0
  have z1:w6.cell? ⟨w.heap.size+1,1,none⟩=some (.slice none 0 0):=cell_blk M6 1;have zf:∀ i,w6.frozen? ⟨w.heap.size+1,i,none⟩=false:=fun i=>fz_blk M6 i
  refine stN 7 (fun K hK=>?_);go_simp;have o2:∀ b,b≠w.heap.size+1->((w6.setCell ⟨w.heap.size+1,0,none⟩ (.slice aa V.acts.length ac)).setCell ⟨w.heap.size+1,1,none⟩ (.slice pa V.prints.length pc)).heap[b]?=w6.heap[b]?:=fun b hb=>two_other 0 1 _ _ hb
  have T1:=two_blk M6 0 1 (.slice aa V.acts.length ac) (.slice pa V.prints.length pc);have hB7:=two_below hB6 (show w.heap.size<=w.heap.size+1 by omega) 0 1 (.slice aa V.acts.length ac) (.slice pa V.prints.length pc);have r7:=hS3 ((w6.setCell ⟨w.heap.size+1,0,none⟩ (.slice aa V.acts.length ac)).setCell ⟨w.heap.size+1,1,none⟩ (.slice pa V.prints.length pc)) ((o2 P nP1).trans f1P) ((o2 G nG1).trans f1G)
  refine otN hK (r7) ?_;clear hK;replace hS:=r7;have T0':=(o2 w.heap.size (by omega)).trans T0;have HZ:=HP.out _ aa ac pa pc hB7 (hK6.off (programS_pos l 14) (nilB2 M6) o2) (hX6.off (nilB2 M6) o2) (hA6.off (nilB2 M6) o2) (hP6.off (nilB2 M6) o2);have HZ2:Aside (PlayAns w _ l m most _):=HZ;clear z0 z1 zf r7 HZ o1 o2 hK hX hVA hVP hK6 hX6 hA6 hP6;generalize (w6.setCell ⟨w.heap.size+1,0,none⟩ (.slice aa V.acts.length ac)).setCell ⟨w.heap.size+1,1,none⟩ (.slice pa V.prints.length pc)=w7 at *
  refine tkN 8 hS ?_;refine dnN ?_;have y0:=cell_blk T0' 0;have y1:=cell_blk T1 0;have y2:=cell_blk T1 1;simp at y0 y1 y2;go_wp2
  exact bodyPost_ret (v:=.tuple #[.agg #[.slice ao 3 cap],.slice xa AX.length xc,.agg #[.slice aa V.acts.length ac,.slice pa V.prints.length pc],.bool true]) (by simp[results,Tryz.results19,go_sem,y0,y1,y2]) rfl HZ2.out
end
section
open Go.RowKit
section
variable {w w':World} {R:Nat}
end
def pX (l:List Rw):Nat->Nat->Nat->Int:=xOf (programS l 14)
def pL (l:List Rw):Nat->Nat:=lenOf (programS l 14)
def pF (l:List Rw) (r:Nat):List Pt:=flowS (xOf (programS l 14) r) (lenOf (programS l 14) r)
end
section
def whoOf (t:Nat):Int:=if t=0 then 1 else if t<100 then t+1 else t-80
theorem whoOf_pos {a:Nat} (ha:a<9\/(100<=a/\a<106)):1<=whoOf a/\whoOf a<=25:=by
 unfold whoOf
 split
 ·omega
 ·split <;> omega
def Told0 (l:List Ob) (T:Tags) (f:Int->Int):Prop:=∀ n,f n≠0->∃ t v,T t v/\(t<9\/(100<=t/\t<106))/\f n=whoOf t/\Rc l v n
def tellF (f:Int->Int) (R:List Int) (who:Int):Int->Int:=fun z=>if z∈R then who else f z
theorem told_none (l:List Ob) (T:Tags):Told0 l T (fun _=>0):=fun _ h=>absurd rfl h
theorem told_free {l:List Ob} {T:Tags} (h:Held l T) {f:Int->Int} (hf:Told0 l T f) {t:Nat} {v:Vl} (hv:T t v) (_:t<9\/(100<=t/\t<106)):∀ n∈reach l [v],(obAt l n).dead=false/\(f n=0\/f n=whoOf t):=fun n hn=>by
 obtain⟨u,hu,hr⟩:=rc_of_reach hn;simp at hu;subst hu;refine⟨h.alive t u n hv hr,?_⟩
 by_cases h0:f n=0
 ·exact Or.inl h0
 ·obtain⟨s,x,hx,hs,e,hr'⟩:=hf n h0
  rw[e,h.apart s t x u n hx hv hr' hr];exact Or.inr rfl
theorem told_more {l:List Ob} {T:Tags} {f:Int->Int} (hf:Told0 l T f) {t:Nat} {v:Vl} (hv:T t v) (ht:t<9\/(100<=t/\t<106)):Told0 l T (tellF f (reach l [v]) (whoOf t)):=fun n hn=>by
 unfold tellF at hn ⊢
 by_cases hm:n∈reach l [v]
 ·rw[if_pos hm]
  obtain⟨u,hu,hr⟩:=rc_of_reach hm;simp at hu;subst hu;exact⟨t,u,hv,ht,rfl,hr⟩
 ·rw[if_neg hm] at hn ⊢
  exact hf n hn
end
section
open Go.RowKit Go.Maps
theorem MapF.below {w w':World} {m N:Nat} {f:Int->Int} (h:MapF w m N f) (hb:Below w.heap.size w w'):MapF w' m N f:=by
 obtain⟨D,hD,hh⟩:=h;exact⟨D,hD.kept (row:=none) ⟨hb.os,hb.tape,hb.output,hb.size,fun k hk _=>hb.block k hk⟩ (by simp),hh⟩
theorem MapF.le {w:World} {m N N':Nat} {f:Int->Int} (h:MapF w m N f) (hN:N<=N'):MapF w m N' f:=by
 obtain⟨D,⟨es,clock,h1,h2,h3,h4⟩,hh⟩:=h;exact⟨D,⟨es,clock,h1,h2,by omega,h4⟩,hh⟩
theorem MapF.none (w:World):MapF (w.alloc (Obj.map #[] 0)) w.heap.size 0 (fun _=>0) :=
 ⟨_,World.ownsMap_made (H:=Unit) w Tryz.prog 3 (plainElem Tryz.prog 3),fun _=>rfl⟩
theorem MapF.lt {w:World} {m N:Nat} {f:Int->Int} (h:MapF w m N f):m<w.heap.size:=by
 obtain⟨D,⟨es,clock,h1,_⟩,_⟩:=h;exact(Array.getElem?_eq_some_iff.1 h1).1
theorem keeps_map {w w':World} {m N:Nat} {f:Int->Int} (h:MapF w m N f) (hg:w.grownBy w' (some m)):Keeps w w':=fun a v e=>by
 obtain⟨D,⟨es,clock,h1,_⟩,_⟩:=h;have hb:=World.block_lt_of_cell? _ _ e;have hne:a.block≠m:=fun e2=>by
  unfold World.cell? at e
  rw[e2,h1] at e;simp at e
 rw[World.cell?_of_block (hg.block a.block hb (by simpa using hne))];exact e
theorem MapF.put {w:World} {m N:Nat} {f:Int->Int} (h:MapF w m N f) (hN:N<=1000000) {a b:Int} (ha:0<=a/\a<=1000) (hb:0<=b/\b<=1000) :
  ∃ w',(Instr.mapUpdate 64 (.map (some m)) (.int .i64 a) (.int .i64 b)).run Tryz.prog w=.ok () w'/\w.grownBy w' (some m)/\MapF w' m (N+1) (fun z=>if z=a then b else f z):=by
 obtain⟨D,hD,hat⟩:=h;obtain⟨w',h1,h2,h3⟩:=hD.update keysN Tryz.underlying64 (by unfold maxLen;omega) (keyOf_int_mk (P:=Tryz.prog) (k:=3) (q:=.i64) (a:=a) Tryz.underlying3 (wf64 (by omega) (by omega))) (plainElem_int (a:=b) Tryz.underlying3 (wf64 (by omega) (by omega)));refine⟨w',h1,h3,_,h2,fun z=>?_⟩
 show _=DataW.lit (.int .i64 (if z=a then b else f z))
 by_cases hz:z=a
 ·subst hz
  rw[if_pos rfl];exact atKey_put_same hD.isMap (by simp[WideAt.IsKeyLit]) _ _
 ·rw[if_neg hz,atKey_put_other (by simp[hz])]
  exact hat z
theorem MapF.look {w:World} {m N:Nat} {f:Int->Int} (h:MapF w m N f) {a:Int} (ha:0<=a/\a<=1000):(Instr.lookup 64 (.map (some m)) (.int .i64 a) false).run Tryz.prog w=.ok (.int .i64 (f a)) w:=by
 obtain⟨D,hD,hat⟩:=h;obtain⟨c,h1,h2,_⟩:=hD.lookup_int keysN Tryz.underlying64 Tryz.underlying3 (Tryz.zeroN _) (keyOf_int_mk (P:=Tryz.prog) (k:=3) (q:=.i64) (a:=a) Tryz.underlying3 (wf64 (by omega) (by omega)));rw[hat] at h2;obtain rfl:f a=c:=by simpa using h2
 exact h1
theorem grown_some {B m:Nat} {w0 w w':World} (hB:Below B w0 w) (hg:w.grownBy w' (some m)) (hs:B<=w.heap.size) (hm:B<=m):Below B w0 w' :=
 hB.grown hg hs (fun k hk=>by cases hk;exact hm)
theorem Two.made (w:World) (x:Int):Two (w.alloc (Obj.map #[] 0)) w.heap.size x false false :=
 ⟨_,0,Nat.le_refl _,MapF.none w,(fun e=>nomatch e),(fun e=>nomatch e)⟩
theorem Two.below {w w':World} {m:Nat} {x:Int} {p q:Bool} (h:Two w m x p q) (hb:Below w.heap.size w w'):Two w' m x p q:=by
 obtain⟨f,N,h1,h3,h4,h5⟩:=h;exact⟨f,N,h1,h3.below hb,h4,h5⟩
theorem two_n (p q:Bool):p.toNat+q.toNat<=2:=by cases p <;> cases q <;> decide
theorem Two.ins1 {w:World} {m:Nat} {x:Int} {q:Bool} (h:Two w m x false q):∃ w',(Instr.mapUpdate 64 (.map (some m)) (.int .i64 2) (.int .i64 1)).run Tryz.prog w=.ok () w'/\(w.grownBy w' (some m)/\Keeps w w')/\Two w' m x true q:=by
 obtain⟨f,N,h1,h3,h4,h5⟩:=h;have:=two_n false q;obtain⟨w',r1,r2,r3⟩:=h3.put (a:=2) (b:=1) (by omega) (by omega) (by omega);exact⟨w',r1,⟨r2,keeps_map h3 r2⟩,_,N+1,by simp at h1 ⊢;omega,r3,fun _=>rfl,fun e=>h5 e⟩
theorem Two.ins2 {w:World} {m:Nat} {x:Int} {p:Bool} (h:Two w m x p false) (hx:0<=x/\x<=1000):∃ w',(Instr.mapUpdate 64 (.map (some m)) (.int .i64 3) (.int .i64 x)).run Tryz.prog w=.ok () w'/\(w.grownBy w' (some m)/\Keeps w w')/\Two w' m x p true:=by
 obtain⟨f,N,h1,h3,h4,h5⟩:=h;have:=two_n p false;obtain⟨w',r1,r2,r3⟩:=h3.put (a:=3) (b:=x) (by omega) (by omega) hx;exact⟨w',r1,⟨r2,keeps_map h3 r2⟩,_,N+1,by simp at h1 ⊢;omega,r3,fun e=>h4 e,fun _=>rfl⟩
theorem Two.look {w:World} {m:Nat} {x:Int} (h:Two w m x true true) {k c:Int} (hk:(k=2/\c=1)\/(k=3/\c=x)):(Instr.lookup 64 (.map (some m)) (.int .i64 k) false).run Tryz.prog w=.ok (.int .i64 c) w:=by
 obtain⟨f,N,h1,h3,h4,h5⟩:=h
 rcases hk with⟨rfl,rfl⟩ | ⟨rfl,rfl⟩
 ·rw[h3.look (by omega),h4 rfl]
 ·rw[h3.look (by omega),h5 rfl]
theorem tellF_next {f:Int->Int} {R:List Int} {q who:Int} (z:Int):tellF f (R++[q]) who z=if z=q then who else tellF f R who z:=by
 unfold tellF
 by_cases h:z=q
 ·rw[if_pos h,if_pos (by simp[h])]
 ·rw[if_neg h]
  by_cases h2:z∈R
  ·rw[if_pos h2,if_pos (by simp[h2])]
  ·rw[if_neg h2,if_neg (by simp[h2,h])]
theorem own_any (x:Ac) (oa ra ba:Option Addr) (oc rc bc:Nat) (la:Option Addr) (lc:Nat) (v:Vl) (m N B:Nat) (f:Int->Int) (who:Int) (w:World) (h:ObsAt w oa x.obs) (hv:ValsAt w la [v]) (hm:MapF w m N f) (hN:N<=1000000) (hA:hMay x.M x.obs [v]=true)
  (hfree:∀ n∈reach x.obs [v],(obAt x.obs n).dead=false/\(f n=0\/f n=who)) (hw:-9223372036854775808<=who/\who<=9223372036854775807) (hBm:B<=m) (hBw:B<=w.heap.size) :
  Calls Tryz.prog 21 #[.agg #[.int .i64 x.kind,.int .i64 x.par,.int .i64 x.M,.slice oa x.obs.length oc,.slice ra x.regs.length rc,.int .i64 x.pc,.slice ba x.box.length bc,.int .i64 x.fin],.slice la 1 lc,.map (some m),.int .i64 who] w fun e w'=>e=.returned (.bool true)/\Keeps w w'/\Below B w w'/\MapF w' m (N+60) (tellF f (reach x.obs [v]) who):=by
 obtain⟨N0,k1,b1,s1⟩:=boxes1 w (.cells #[.int .i64 x.kind,.int .i64 x.par,.int .i64 x.M,.slice oa x.obs.length oc,.slice ra x.regs.length rc,.int .i64 x.pc,.slice ba x.box.length bc,.int .i64 x.fin] 50);obtain⟨kind,par,M,obs,regs,pc,box,fin⟩:=x;simp only at h hA hfree N0 k1 b1 s1 ⊢;have hl60:=hMay_bound hA;have hok:=reach_ok hA [v] (hMay_roots' hA);have hol:=hok.len;have hmw:=hm.lt;replace h:=h.keeps k1
 replace hv:=hv.keeps k1;replace hm:=hm.below b1
 go_enter Tryz.func21,Tryz.ntmps21
 go_upto_region 1 with fail
 generalize w.alloc (.cells #[.int .i64 kind,.int .i64 par,.int .i64 M,.slice oa obs.length oc,.slice ra regs.length rc,.int .i64 pc,.slice ba box.length bc,.int .i64 fin] 50)=W at *;have hB1:Below B w W:=b1.mono hBw;have c2:W.cell? ⟨w.heap.size,2,none⟩=some (.int .i64 M):=cell_blk N0 2;have c3:W.cell? ⟨w.heap.size,3,none⟩=some (.slice oa obs.length oc):=cell_blk N0 3;clear N0
 go_wp2_with fail
 refine(reach_any M oa oc obs la lc [v] W h hv (by simp)).mono ?_;have hRS:reachS M obs [v]=(reach obs [v],0):=by rw[reachS,if_pos hA]
 rw[hRS];simp only;rintro e w3 ⟨ov,oc2,rfl,hb3,hI⟩;have hA3:=hI.at;have k3:=Keeps.below hb3;replace h:=h.keeps k3;replace hm:=hm.below hb3;replace c3:=k3 _ _ c3;have hB3:Below B w w3:=hB1.trans (hb3.mono (Nat.le_trans hBw hB1.size));have hK3:=k1.trans k3;clear hI hRS hb3 c2 k1 k3 b1 hv hB1;obtain⟨rr,hrr⟩:∃ rr,rr=reach obs [v]:=⟨_,rfl⟩;have HRR:Aside (rr=reach obs [v]):=hrr;rw[<- hrr] at hA3 hok hol hfree ⊢
 have HF:Aside (∀ n∈rr,(obAt obs n).dead=false/\(f n=0\/f n=who)):=hfree;clear hrr hfree hA;obtain⟨R,hR⟩:∃ R,R=rr.length:=⟨_,rfl⟩;have HR:Aside (R=rr.length):=hR;rw[<- hR] at hol ⊢;clear hR;have HM3:Aside (MapF w3 m (N+0) (tellF f (rr.take 0) who)):=by
  have e:tellF f (rr.take 0) who=f:=by funext z;simp[tellF]
  rw[e];exact hm
 have HB3:Aside (Below B w w3/\Keeps w w3):=⟨hB3,hK3⟩;have HO3:Aside (ObsAt w3 oa obs/\IntsAt w3 ov rr/\w3.cell? ⟨w.heap.size,3,none⟩=some (.slice oa obs.length oc)):=⟨h,hA3,c3⟩;have hsw:w.heap.size<=w3.heap.size:=hB3.size;clear hm hB3 hK3 h hA3 c3;go_wp2
 go_loopg [22,12] R (fun g s22 s12 wr=>∃ i:Nat,i<=R/\g=R-i/\s22=.int .i64 i/\Aside (Keeps w3 wr/\Below B w wr/\MapF wr m (N+i) (tellF f (rr.take i) who)))
 case atStart=>exact⟨0,Nat.zero_le _,rfl,rfl,Keeps.refl _,HB3.out.1,HM3.out⟩
 case round =>
  obtain⟨i,hi,rfl,rfl,HW⟩:=hrel;clear HM3;obtain⟨kr,hbr,hmr⟩:=HW.out;have hob:=HO3.out.1.keeps kr;have hiA:=HO3.out.2.1.keeps kr;have c3:=kr _ _ HO3.out.2.2
  by_cases hiR:i<R
  ·have hiz:(i:Int)<(R:Int):=by omega
   obtain⟨p,hp⟩:=at_some (l:=rr) (i:=i) (by rw[<- HR.out];exact hiR);have hpm:=List.mem_of_getElem? hp;have hpb:=hok.2 p hpm;obtain⟨q,rfl⟩:=Int.eq_ofNat_of_zero_le hpb.1;have hqz:(q:Int)<(obs.length:Int):=hpb.2;obtain⟨⟨fs,dead⟩,hx⟩:=at_some (l:=obs) (i:=q) (by omega);obtain⟨hdd,hff⟩:=HF.out _ hpm;have hd:dead=false:=by rw[obAt,Int.toNat_natCast,hx] at hdd;exact hdd
   subst hd;have HTK:Aside (rr.take (i+1)=rr.take i++[(q:Int)]):=by show rr.take (i+1)=_;rw[List.take_add_one,hp];rfl
   have htf:tellF f (rr.take i) who q=0\/tellF f (rr.take i) who q=who:=by
    unfold tellF
    split
    ·exact Or.inr rfl
    ·exact hff
   obtain⟨b,o,fa,fc,rfl,d1,d2,_,_⟩:=hob.cell q _ hx;obtain⟨ib,io,rfl,d3⟩:=hiA i _ hp;simp only at d1 d2;obtain⟨D,hD,hat⟩:=hmr;have hatq:=hat q;generalize htq:tellF f (rr.take i) who q=tq at *;have hkey:=keyOf_int_mk (P:=Tryz.prog) (k:=3) (q:=.i64) (a:=(q:Int)) Tryz.underlying3 (wf64 (by omega) (by omega));have hrun:(Instr.lookup 64 (.map (some m)) (.int .i64 (q:Int)) false).run Tryz.prog wr=.ok (.int .i64 tq) wr:=by
    obtain⟨c,h1,h2,_⟩:=hD.lookup_int keysN Tryz.underlying64 Tryz.underlying3 (Tryz.zeroN _) hkey;rw[hatq] at h2;obtain rfl:tq=c:=by simpa using h2
    exact h1
   have HAT:Aside (∀ z,D.atKey (.int .i64 z) (.lit (.int .i64 0))=.lit (.int .i64 (tellF f (rr.take i) who z))):=hat;have HKR:Aside (Keeps w3 wr/\Below B w wr):=⟨kr,hbr⟩;have HMW:Aside (∀ w1,wr.grownBy w1 (some m)->w1.ownsMap Tryz.prog 3 (plainElem Tryz.prog 3) m (N+i+1) (D.put (.int .i64 (q:Int)) (.lit (.int .i64 who)))->Keeps w3 w1/\Below B w w1/\MapF w1 m (N+(i+1)) (tellF f (rr.take (i+1)) who)):=fun w1 hg hD1=>by
    refine⟨kr.trans (keeps_map ⟨D,hD,hat⟩ hg),hbr.grown hg (Nat.le_trans hBw hbr.size) (fun k hk=>by cases hk;exact hBm),_,hD1,fun z=>?_⟩;rw[HTK.out,tellF_next]
    by_cases hz:z=(q:Int)
    ·subst hz
     rw[if_pos rfl];exact atKey_put_same hD.isMap (by simp[WideAt.IsKeyLit]) _ _
    ·rw[if_neg hz,atKey_put_other (by simp[hz])]
     exact hat z
   clear hp hx hpm hff hdd hat htq hob hiA kr hbr d1
   by_cases hz:tq=0
   ·subst hz
    go_wp2_with (at_mapUpdate;refine wpList_mapUpdate_own _ rfl _ _ _ 64 rfl 3 3 keysN Tryz.underlying64 _ m (N+i) D rfl hD ?m1 _ _ _ rfl rfl hkey _ [] (plainElem_int Tryz.underlying3 (wf64 ?m2 ?m3)) ?_;(case m1=>unfold maxLen;omega);(case m2=>omega);(case m3=>omega);intro w1 hD1 hg1)
    have HW1:Aside (Keeps w3 w1/\Below B w w1/\MapF w1 m (N+(i+1)) (tellF f (rr.take (i+1)) who)):=HMW.out w1 hg1 hD1;clear hD1 hg1
    go_roundg (R-(i+1))
    case measure=>go_light;omega
    case rel=>go_light;exact⟨i+1,by omega,rfl,by go_num,HW1⟩
   ·have hzw:who=tq:=(htf.resolve_left hz).symm
    subst hzw;have hzb:(who != 0)=true:=by simp[hz]
    go_wp2_with (at_mapUpdate;refine wpList_mapUpdate_own _ rfl _ _ _ 64 rfl 3 3 keysN Tryz.underlying64 _ m (N+i) D rfl hD ?m1 _ _ _ rfl rfl hkey _ [] (plainElem_int Tryz.underlying3 (wf64 ?m2 ?m3)) ?_;(case m1=>unfold maxLen;omega);(case m2=>omega);(case m3=>omega);intro w1 hD1 hg1)
    have HW1:Aside (Keeps w3 w1/\Below B w w1/\MapF w1 m (N+(i+1)) (tellF f (rr.take (i+1)) who)):=HMW.out w1 hg1 hD1;clear hD1 hg1
    go_roundg (R-(i+1))
    case measure=>go_light;omega
    case rel=>go_light;exact⟨i+1,by omega,rfl,by go_num,HW1⟩
  ·have hD:rr.take i=rr:=List.take_of_length_le (by rw[<- HR.out];omega)
   rw[hD] at hmr;have hK:Keeps w wr:=HB3.out.2.trans kr;have hm9:MapF wr m (N+60) (tellF f rr who):=hmr.le (by omega);clear hob hiA c3 kr;go_wp2
   go_ret
   exact⟨rfl,hK,hbr,by rw[<- HRR.out];exact hm9⟩
end
end Go.Proofs.YtepifccbbmdfcaaGreatDoor
