/- Facts. -/
import Derived.Deep.Slices
import Derived.Lib.SmallJoins
import Derived.OpenShut
import Derived.SizedLaws
import Derived.LaidMore
import Derived.Stop.Joined
import Derived.Test.YtihpkcccfgbcmaaGreatDoorRows
import Derived.Test.YtihpkcccfgbcmaaGreatDoorCBKActs
namespace Go.Proofs.YtihpkcccfgbcmaaGreatDoor
set_option maxRecDepth 100000
set_option maxHeartbeats 8000000
section
open Go.RowKit
def NilB (w:World) (R:Nat):Prop:=∀ o v,w.cell? ⟨R,o,none⟩=some v->v=.slice none 0 0
theorem nilB1 {w:World} {R:Nat} {t:TypeId} (h:w.heap[R]?=some (.cells #[.slice none 0 0] t (0,0))):NilB w R:=fun o v hv=>by
 rw[cellBlk h] at hv
 match o,hv with
 | 0,hv=>simpa using hv.symm
 | o+1,hv=>simp at hv
theorem nilB2 {w:World} {R:Nat} {t:TypeId} (h:w.heap[R]?=some (.cells #[.slice none 0 0,.slice none 0 0] t (0,0))):NilB w R:=fun o v hv=>by
 rw[cellBlk h] at hv
 match o,hv with
 | 0,hv=>simpa using hv.symm
 | 1,hv=>simpa using hv.symm
 | o+2,hv=>simp at hv
section
variable {w w':World} {R:Nat}
theorem NilB.ne (hR:NilB w R) {b o:Nat} {v:Value} (h:w.cell? ⟨b,o,none⟩=some v) (hv:v≠.slice none 0 0):b≠R:=fun e=>by
 subst e;exact hv (hR o v h)
theorem cell_off (ho:∀ b,b≠R->w'.heap[b]?=w.heap[b]?) {b o:Nat} {v:Value} (hb:b≠R) (h:w.cell? ⟨b,o,none⟩=some v):w'.cell? ⟨b,o,none⟩=some v:=(World.cell?_of_block (a:=⟨b,o,none⟩) (ho b hb)).trans h
theorem ValsAt.off {ao:Option Addr} {l:List Vl} (h:ValsAt w ao l) (hR:NilB w R) (ho:∀ b,b≠R->w'.heap[b]?=w.heap[b]?):ValsAt w' ao l:=fun i v hi=>by
 obtain⟨b,o,e,h1,h2⟩:=h i v hi;have hb:=hR.ne h1 (by simp);exact⟨b,o,e,cell_off ho hb h1,cell_off ho hb h2⟩
theorem AxsAt.off {ao:Option Addr} {l:List Ax} (h:AxsAt w ao l) (hR:NilB w R) (ho:∀ b,b≠R->w'.heap[b]?=w.heap[b]?):AxsAt w' ao l:=fun i v hi=>by
 obtain⟨b,o,e,h1,h2,h3,h4⟩:=h i v hi;have hb:=hR.ne h1 (by simp);exact⟨b,o,e,cell_off ho hb h1,cell_off ho hb h2,cell_off ho hb h3,cell_off ho hb h4⟩
theorem ToldAt.off {ao:Option Addr} {l:List (Int × Int)} (h:ToldAt w ao l) (hR:NilB w R) (ho:∀ b,b≠R->w'.heap[b]?=w.heap[b]?):ToldAt w' ao l :=
 ⟨fun i v hi=>by
  obtain⟨b,o,e,h1,h2⟩:=h.cell i v hi;have hb:=hR.ne h1 (by simp);exact⟨b,o,e,cell_off ho hb h1,cell_off ho hb h2⟩,h.many⟩
theorem ObsAt.off {ao:Option Addr} {l:List Ob} (h:ObsAt w ao l) (hR:NilB w R) (ho:∀ b,b≠R->w'.heap[b]?=w.heap[b]?):ObsAt w' ao l :=
 ⟨fun i v hi=>by
  obtain⟨b,o,fa,fc,e,h1,h2,h3,h4⟩:=h.cell i v hi;have hb:=hR.ne h2 (by simp);exact⟨b,o,fa,fc,e,cell_off ho hb h1,cell_off ho hb h2,h3.off hR ho,h4⟩,h.many⟩
theorem ActsAt.off {ao:Option Addr} {l:List Ac} (h:ActsAt w ao l) (hR:NilB w R) (ho:∀ b,b≠R->w'.heap[b]?=w.heap[b]?):ActsAt w' ao l :=
 ⟨fun i v hi=>by
  obtain⟨b,o,oa,oc,ra,rc,ba,bc,e,h1⟩:=h.cell i v hi;have hb:=hR.ne h1.c0 (by simp);exact⟨b,o,oa,oc,ra,rc,ba,bc,e,⟨cell_off ho hb h1.c0,cell_off ho hb h1.c1,cell_off ho hb h1.c2,cell_off ho hb h1.c3,cell_off ho hb h1.c4,cell_off ho hb h1.c5,cell_off ho hb h1.c6,cell_off ho hb h1.c7,h1.obs.off hR ho,h1.regs.off hR ho,h1.box.off hR ho,h1.rlen,h1.blen⟩⟩,h.many⟩
theorem KindsAt.off {ao:Option Addr} {rows:List (List Ins)} (h:KindsAt w ao rows) (hne:∀ l∈rows,0<l.length) (hR:NilB w R) (ho:∀ b,b≠R->w'.heap[b]?=w.heap[b]?):KindsAt w' ao rows:=fun r l hl=>by
 obtain⟨b,o,ra,rc,e,h1,h2⟩:=h r l hl;have h0:=hne l (List.mem_of_getElem? hl);refine⟨b,o,ra,rc,e,cell_off ho (hR.ne h1 (fun e=>by simp only[Value.slice.injEq] at e;omega)) h1,fun i x hx=>?_⟩;obtain⟨b2,o2,e2,hc⟩:=h2 i x hx;have hb:=hR.ne (hc 0 _ rfl) (by simp);exact⟨b2,o2,e2,fun j u hu=>cell_off ho hb (hc j u hu)⟩
end
theorem programS_pos (l:List Rw) (most:Nat):∀ x∈programS l most,0<x.length:=fun x hx=>by
 simp only[programS,List.mem_cons,List.not_mem_nil,or_false] at hx
 rcases hx with rfl | rfl | rfl <;> simp[behS]
end
section
open Go.RowKit
theorem kPicked_any (n many:Int) (w:World) (h:fit64 n) (hm:0<many) (hm':many<=1000000):Calls Tryz.prog 24 #[.int .i64 n,.int .i64 many] w fun e w'=>e=.returned (.int .i64 (pick n many))/\Below w.heap.size w w':=by
 go_enter Tryz.func24,Tryz.ntmps24
 go_wp2_with fail
 refine(picked_any n many w h.1 h.2 hm hm').mono ?_;rintro e w' ⟨rfl,rfl⟩;go_wp2
 go_ret
 exact⟨rfl,Below.refl _ _⟩
def playS (l m:List Rw) (most:Int):Wd:=(runS (xOf (programS l 14)) (newW (2+pick most 40)) (actsS m 60)).1
theorem play_ok (l m:List Rw) (most:Int):WOk 3 (lenOf (programS l 14)) (fun r=>flowS (xOf (programS l 14) r) (lenOf (programS l 14) r)) (playS l m most)/\runWS 3 (lenOf (programS l 14)) (xOf (programS l 14)) (2+pick most 40) (actsS m 60)=(playS l m most,0):=by
 have hc:ckS 3 (lenOf (programS l 14)) (xOf (programS l 14))=(0,0,0):=program_ok l 14;obtain⟨hpf,hver⟩:=ver_of (by rw[hc]);have hp:=pick_bd (n:=most) (many:=40) (by omega);have hr:=WOk.run hver (actsS m 60) (wok_new hver (by omega) (M:=2+pick most 40) (by omega)) (actsS_ok m 60);have hE:wnewE 3 (lenOf (programS l 14)) (xOf (programS l 14)) (2+pick most 40)=0:=by
  unfold wnewE
  rw[hc,if_neg (by simp),if_neg (by omega)]
 refine⟨hr.2,?_⟩;have hl:=actsS_len m 60
 unfold runWS playS
 rw[hE,if_neg (by simp),if_neg (by omega)];exact Prod.ext rfl hr.1
def PlayAns (w w':World) (l m:List Rw) (most:Int) (e:Ending):Prop:=∃ ao cap xa xc aa ac pa pc,
 e=.returned (.tuple #[.agg #[.slice ao 3 cap],.slice xa (actsS m 60).length xc,.agg #[.slice aa (playS l m most).acts.length ac,.slice pa (playS l m most).prints.length pc],.bool true])/\Below w.heap.size w w'/\KindsAt w' ao (programS l 14)/\(AxsAt w' xa (actsS m 60)/\(actsS m 60).length<=xc)/\ActsAt w' aa (playS l m most).acts/\ToldAt w' pa (playS l m most).prints
theorem played_any (l m:List Rw) (la ma:Option Addr) (lc mc:Nat) (most:Int) (w:World) (hT:TabAt 0 w) (h:RawsAt w la l) (hm:RawsAt w ma m) (hll:32*l.length<=140737488355328) (hmo:fit64 most) :
  Calls Tryz.prog 21 #[.slice la l.length lc,.slice ma m.length mc,.int .i64 most] w fun e w'=>PlayAns w w' l m most e:=by
 obtain⟨N0,N1,k1,b1,s1⟩:=boxes2 w (.cells #[.slice none 0 0] 24) (.cells #[.slice none 0 0,.slice none 0 0] 28)
 go_enter Tryz.func21,Tryz.ntmps21
 go_upto_region 1 with fail
 generalize (w.alloc (.cells #[.slice none 0 0] 24)).alloc (.cells #[.slice none 0 0,.slice none 0 0] 28)=W at *
 go_wp2_with fail
 refine(kprogram_any l la lc 14 W (h.keeps k1) hll (by omega) (hT.keeps k1)).mono ?_;rintro e w1 ⟨ao,cap,rfl,hb1,hK⟩;obtain⟨NP,_,cp,sp⟩:=boxes1 w1 (.cells #[.slice ao 3 cap] 24);have hB1:=b1.trans (hb1.mono b1.size)
 go_upto_region 2 with fail
 replace hK:=hK.keeps (Keeps.below cp);have hBp:=hB1.trans (cp.mono hB1.size);have hWp:=hb1.trans (cp.mono hb1.size);generalize w1.alloc (.cells #[.slice ao 3 cap] 24)=w2 at *;have hPW:W.heap.size<=w1.heap.size:=hb1.size;generalize w1.heap.size=P at *
 go_wp2_with fail
 refine(kacts_any m ma mc 60 w2 (hm.keeps (Keeps.below hBp)) (by omega)).mono ?_;rintro e w3 ⟨xa,xc,rfl,hb3,hX,hxc⟩;replace hK:=hK.keeps (Keeps.below hb3);have hB3:=hBp.trans (hb3.mono hBp.size);have hW3:=hWp.trans (hb3.mono hWp.size);obtain⟨A,C,hPA,_,_⟩:=program_prog (by omega) hK;obtain⟨hOK,hRW⟩:=play_ok l m most;have hrun:=fun w' (hb:Below w3.heap.size w3 w')=>run_any ao 3 cap A _ C _ (2+pick most 40) xa xc (actsS m 60) w' ((hT.keeps (Keeps.below hB3)).keeps (Keeps.below hb)) (hPA.keeps (Keeps.below hb)) (hX.keeps (Keeps.below hb)) (by have:=actsS_len m 60;omega)
 rw[hRW] at hrun;have p3:w3.cell? ⟨P,0,none⟩=some (.slice ao 3 cap):=Keeps.below hb3 _ _ (cell_blk NP 0);have M0:=(hW3.block _ (by omega)).trans N0;have M1:=(hW3.block _ (by omega)).trans N1;have hPl:P<w3.heap.size:=World.block_lt_of_cell? _ _ p3;have hp40:=pick_bd (n:=most) (many:=40) (by omega)
 go_upto_region 3 with fail
 have hw40:IntKind.i64.wrap (2+pick most 40)=2+pick most 40:=by rw[IntKind.wrap_i64];omega
 have HP:Aside (∀ wz aa ac pa pc,Below w.heap.size w wz->KindsAt wz ao (programS l 14)->AxsAt wz xa (actsS m 60)->ActsAt wz aa (playS l m most).acts->ToldAt wz pa (playS l m most).prints->PlayAns w wz l m most (.returned (.tuple #[.agg #[.slice ao 3 cap],.slice xa (actsS m 60).length xc,.agg #[.slice aa (playS l m most).acts.length ac,.slice pa (playS l m most).prints.length pc],.bool true]))):=fun wz aa ac pa pc a1 a2 a3 a4 a5=>⟨ao,cap,xa,xc,aa,ac,pa,pc,rfl,a1,a2,⟨a3,hxc⟩,a4,a5⟩
 generalize playS l m most=V at *;generalize hAX:actsS m 60=AX at *;clear hAX hOK hRW hPA;have hSof:∀ w',Below w3.heap.size w3 w'->(w'.cell? ⟨P,0,none⟩=some (.slice ao 3 cap)):=fun w' hb'=>Keeps.below hb' _ _ p3
 go_cut [12,13] (fun s12 s13 wc=>∃ G aa ac pa pc,s12=.pointer (some ⟨G,0,none⟩)/\s13=.int .i64 0/\Below w3.heap.size w3 wc/\w3.heap.size<=G/\wc.heap[G]?=some (.cells #[.slice aa V.acts.length ac,.slice pa V.prints.length pc] 28 (0,0))/\ActsAt wc aa V.acts/\ToldAt wc pa V.prints)
 case first =>
  have hB:Below w3.heap.size w3 w3.drew:=(Below.refl _ _).drew;refine wp_region_need (fun _=>true) (fun w'=>w'.cell? ⟨P,0,none⟩=some (.slice ao 3 cap)) (by kernel_rfl) (hSof _ hB) (fun hS=>?_);generalize w3.drew=wc0 at hS hB  ⊢;refine tkN 0 hS ?_;refine tkN 1 hS ?_;refine tkN 4 hS ?_;refine twN 2 9 (fun K hK=>?_) (fun K hK=>?_)
  ·go_simp
   refine(kPicked_any most 40 wc0 hmo (by omega) (by omega)).mono ?_;rintro e wc1 ⟨rfl,hbn⟩;have hBn:Below w3.heap.size w3 wc1:=hB.trans (hbn.mono hB.size);refine otN hK (hSof _ hBn) ?_;replace hS:=hSof _ hBn;clear hK;replace hB:=hBn;clear hBn hbn;refine tkN 3 hS ?_;refine twN 5 9 (fun K hK=>?_) (fun K hK=>?_)
   ·go_simp
    refine(hrun wc1 hB).mono ?_;rintro e wc2 ⟨aa,ac,pa,pc,rfl,hbn,hVA,hVP,_⟩
    dsimp only at hVA hVP ⊢
    have hBn:Below w3.heap.size w3 wc2:=hB.trans (hbn.mono hB.size);refine otN hK (hSof _ hBn) ?_;replace hS:=hSof _ hBn;clear hK;replace hB:=hBn;clear hBn hbn;refine tkN 6 hS ?_;refine tkN 7 hS ?_;refine tkN 8 hS ?_;refine stN 9 (fun K hK=>?_);go_simp;have hbn:=below_box wc2 (Obj.cells #[.slice none 0 0,.slice none 0 0] 28);have mG:=Deep.blk_alloc_new wc2 (Obj.cells #[.slice none 0 0,.slice none 0 0] 28)
    have xG:w3.heap.size<=wc2.heap.size:=hB.size
    try have daG:TT<=wc2.heap.size:=sT
    generalize wc2.alloc (Obj.cells #[.slice none 0 0,.slice none 0 0] 28)=wc3 at hbn mG ⊢;obtain⟨G,hG⟩:∃ G,G=wc2.heap.size:=⟨_,rfl⟩;rw[<- hG] at mG xG ⊢
    try rw[<- hG] at daG
    clear hG;have hBn:Below w3.heap.size w3 wc3:=hB.trans (hbn.mono hB.size);refine otN hK (hSof _ hBn) ?_;replace hS:=hSof _ hBn;clear hK;replace hVA:=hVA.keeps (Keeps.below hbn);replace hVP:=hVP.keeps (Keeps.below hbn);replace hB:=hBn;clear hBn hbn;refine stN 10 (fun K hK=>?_);have c0:=cellBlk mG 0;have c1:=cellBlk mG 1;have cf:∀ j,wc3.frozen? ⟨G,j,none⟩=false:=fun j=>by simp[World.frozen?,mG]
    simp at c0 c1;go_simp;have hBn:=two_below hB xG 0 1 (.slice aa V.acts.length ac) (.slice pa V.prints.length pc);replace hVA:=hVA.off (nilB2 mG) (fun b hb=>two_other 0 1 (.slice aa V.acts.length ac) (.slice pa V.prints.length pc) hb);replace hVP:=hVP.off (nilB2 mG) (fun b hb=>two_other 0 1 (.slice aa V.acts.length ac) (.slice pa V.prints.length pc) hb);replace mG:=two_blk mG 0 1 (.slice aa V.acts.length ac) (.slice pa V.prints.length pc)
    clear c0 c1 cf;generalize (wc3.setCell ⟨G,0,none⟩ (.slice aa V.acts.length ac)).setCell ⟨G,1,none⟩ (.slice pa V.prints.length pc)=wc4 at *;refine otN hK (hSof _ hBn) ?_;replace hS:=hSof _ hBn;clear hK;replace hB:=hBn;clear hBn;refine tkN 11 hS ?_;refine dnN ?_
    go_wp2_with fail
    go_meet
    case rel=>exact⟨G,aa,ac,pa,pc,rfl,rfl,hB,xG,mG,hVA,hVP⟩
   ·go_simp
    have hbn:=below_box wc1 (Obj.cells #[.slice none 0 0,.slice none 0 0] 28);have mG:=Deep.blk_alloc_new wc1 (Obj.cells #[.slice none 0 0,.slice none 0 0] 28);have xG:w3.heap.size<=wc1.heap.size:=hB.size
    try have daG:TT<=wc1.heap.size:=sT
    generalize wc1.alloc (Obj.cells #[.slice none 0 0,.slice none 0 0] 28)=wc2 at hbn mG ⊢;obtain⟨G,hG⟩:∃ G,G=wc1.heap.size:=⟨_,rfl⟩;rw[<- hG] at mG xG ⊢
    try rw[<- hG] at daG
    clear hG;have hBn:Below w3.heap.size w3 wc2:=hB.trans (hbn.mono hB.size);refine otN hK (hSof _ hBn) ?_;replace hS:=hSof _ hBn;clear hK;replace hB:=hBn;clear hBn hbn;refine stN 5 (fun K hK=>?_);go_simp;refine(hrun wc2 hB).mono ?_;rintro e wc3 ⟨aa,ac,pa,pc,rfl,hbn,hVA,hVP,_⟩
    dsimp only at hVA hVP ⊢
    have hBn:Below w3.heap.size w3 wc3:=hB.trans (hbn.mono hB.size);refine otN hK (hSof _ hBn) ?_;replace hS:=hSof _ hBn;clear hK;replace mG:=(hbn.block _ (Array.getElem?_eq_some_iff.1 mG).1).trans mG;replace hB:=hBn;clear hBn hbn;refine tkN 6 hS ?_;refine tkN 7 hS ?_;refine tkN 8 hS ?_;refine stN 10 (fun K hK=>?_);have c0:=cellBlk mG 0;have c1:=cellBlk mG 1;have cf:∀ j,wc3.frozen? ⟨G,j,none⟩=false:=fun j=>by simp[World.frozen?,mG]
    simp at c0 c1;go_simp;have hBn:=two_below hB xG 0 1 (.slice aa V.acts.length ac) (.slice pa V.prints.length pc);replace hVA:=hVA.off (nilB2 mG) (fun b hb=>two_other 0 1 (.slice aa V.acts.length ac) (.slice pa V.prints.length pc) hb);replace hVP:=hVP.off (nilB2 mG) (fun b hb=>two_other 0 1 (.slice aa V.acts.length ac) (.slice pa V.prints.length pc) hb);replace mG:=two_blk mG 0 1 (.slice aa V.acts.length ac) (.slice pa V.prints.length pc)
    clear c0 c1 cf;generalize (wc3.setCell ⟨G,0,none⟩ (.slice aa V.acts.length ac)).setCell ⟨G,1,none⟩ (.slice pa V.prints.length pc)=wc4 at *;refine otN hK (hSof _ hBn) ?_;replace hS:=hSof _ hBn;clear hK;replace hB:=hBn;clear hBn;refine tkN 11 hS ?_;refine dnN ?_
    go_wp2_with fail
    go_meet
    case rel=>exact⟨G,aa,ac,pa,pc,rfl,rfl,hB,xG,mG,hVA,hVP⟩
  ·go_simp
   have hbn:=below_box wc0 (Obj.cells #[.slice none 0 0,.slice none 0 0] 28);have mG:=Deep.blk_alloc_new wc0 (Obj.cells #[.slice none 0 0,.slice none 0 0] 28);have xG:w3.heap.size<=wc0.heap.size:=hB.size
   try have daG:TT<=wc0.heap.size:=sT
   generalize wc0.alloc (Obj.cells #[.slice none 0 0,.slice none 0 0] 28)=wc1 at hbn mG ⊢;obtain⟨G,hG⟩:∃ G,G=wc0.heap.size:=⟨_,rfl⟩;rw[<- hG] at mG xG ⊢
   try rw[<- hG] at daG
   clear hG;have hBn:Below w3.heap.size w3 wc1:=hB.trans (hbn.mono hB.size);refine otN hK (hSof _ hBn) ?_;replace hS:=hSof _ hBn;clear hK;replace hB:=hBn;clear hBn hbn;refine stN 2 (fun K hK=>?_);go_simp;refine(kPicked_any most 40 wc1 hmo (by omega) (by omega)).mono ?_;rintro e wc2 ⟨rfl,hbn⟩;have hBn:Below w3.heap.size w3 wc2:=hB.trans (hbn.mono hB.size);refine otN hK (hSof _ hBn) ?_;replace hS:=hSof _ hBn
   clear hK;replace mG:=(hbn.block _ (Array.getElem?_eq_some_iff.1 mG).1).trans mG;replace hB:=hBn;clear hBn hbn;refine tkN 3 hS ?_;refine stN 5 (fun K hK=>?_);go_simp;refine(hrun wc2 hB).mono ?_;rintro e wc3 ⟨aa,ac,pa,pc,rfl,hbn,hVA,hVP,_⟩
   dsimp only at hVA hVP ⊢
   have hBn:Below w3.heap.size w3 wc3:=hB.trans (hbn.mono hB.size);refine otN hK (hSof _ hBn) ?_;replace hS:=hSof _ hBn;clear hK;replace mG:=(hbn.block _ (Array.getElem?_eq_some_iff.1 mG).1).trans mG;replace hB:=hBn;clear hBn hbn;refine tkN 6 hS ?_;refine tkN 7 hS ?_;refine tkN 8 hS ?_;refine stN 10 (fun K hK=>?_);have c0:=cellBlk mG 0;have c1:=cellBlk mG 1;have cf:∀ j,wc3.frozen? ⟨G,j,none⟩=false:=fun j=>by simp[World.frozen?,mG]
   simp at c0 c1;go_simp;have hBn:=two_below hB xG 0 1 (.slice aa V.acts.length ac) (.slice pa V.prints.length pc);replace hVA:=hVA.off (nilB2 mG) (fun b hb=>two_other 0 1 (.slice aa V.acts.length ac) (.slice pa V.prints.length pc) hb);replace hVP:=hVP.off (nilB2 mG) (fun b hb=>two_other 0 1 (.slice aa V.acts.length ac) (.slice pa V.prints.length pc) hb);replace mG:=two_blk mG 0 1 (.slice aa V.acts.length ac) (.slice pa V.prints.length pc)
   clear c0 c1 cf;generalize (wc3.setCell ⟨G,0,none⟩ (.slice aa V.acts.length ac)).setCell ⟨G,1,none⟩ (.slice pa V.prints.length pc)=wc4 at *;refine otN hK (hSof _ hBn) ?_;replace hS:=hSof _ hBn;clear hK;replace hB:=hBn;clear hBn;refine tkN 11 hS ?_;refine dnN ?_
   go_wp2_with fail
   go_meet
   case rel=>exact⟨G,aa,ac,pa,pc,rfl,rfl,hB,xG,mG,hVA,hVP⟩
 case rest =>
  obtain⟨G,aa,ac,pa,pc,rfl,rfl,hBc,xG,mG,hVA,hVP⟩:=hcut;clear hrun hSof;replace hK:=hK.keeps (Keeps.below hBc);replace hX:=hX.keeps (Keeps.below hBc);replace p3:=Keeps.below hBc _ _ p3;have hBw:=hB3.trans (hBc.mono hB3.size);replace M0:=(hBc.block _ (by have:=hW3.size;omega)).trans M0;replace M1:=(hBc.block _ (by have:=hW3.size;omega)).trans M1;have sW3:=hW3.size
  go_upto_region 4 with fail
  have g0:wc.cell? ⟨G,0,none⟩=some (.slice aa V.acts.length ac):=cell_blk mG 0;have g1:wc.cell? ⟨G,1,none⟩=some (.slice pa V.prints.length pc):=cell_blk mG 1;have hBd:Below wc.heap.size wc wc.drew:=(Below.refl _ _).drew;have nP0:P≠w.heap.size:=by omega
  have nP1:P≠w.heap.size+1:=by omega
  have nG0:G≠w.heap.size:=by omega
  have nG1:G≠w.heap.size+1:=by omega
  have hS3:∀ w':World,w'.heap[P]?=wc.heap[P]?->w'.heap[G]?=wc.heap[G]?->(w'.cell? ⟨P,0,none⟩=some (.slice ao 3 cap)/\w'.cell? ⟨G,0,none⟩=some (.slice aa V.acts.length ac)/\w'.cell? ⟨G,1,none⟩=some (.slice pa V.prints.length pc)):=fun w' h1 h2=>⟨(World.cell?_of_block (a:=⟨P,0,none⟩) h1).trans p3,(World.cell?_of_block (a:=⟨G,0,none⟩) h2).trans g0,(World.cell?_of_block (a:=⟨G,1,none⟩) h2).trans g1⟩
  have hPl2:P<wc.heap.size:=World.block_lt_of_cell? _ _ p3;have hGl2:=(Array.getElem?_eq_some_iff.1 mG).1;refine wp_region_need (fun _=>true) (fun w'=>w'.cell? ⟨P,0,none⟩=some (.slice ao 3 cap)/\w'.cell? ⟨G,0,none⟩=some (.slice aa V.acts.length ac)/\w'.cell? ⟨G,1,none⟩=some (.slice pa V.prints.length pc)) (by kernel_rfl) (hS3 _ (hBd.block _ hPl2) (hBd.block _ hGl2)) (fun hS=>?_);have e0P:=hBd.block _ hPl2
  have e0G:=hBd.block _ hGl2;replace M0:=(hBd.block _ (Array.getElem?_eq_some_iff.1 M0).1).trans M0;replace M1:=(hBd.block _ (Array.getElem?_eq_some_iff.1 M1).1).trans M1;replace hK:=hK.keeps (Keeps.below hBd);replace hX:=hX.keeps (Keeps.below hBd);replace hVA:=hVA.keeps (Keeps.below hBd);replace hVP:=hVP.keeps (Keeps.below hBd);replace hBw:=hBw.trans (hBd.mono hBw.size);generalize wc.drew=wn at hS M0 M1 hK hX hVA hVP hBw e0P e0G ⊢
  refine tkN 0 hS ?_;refine tkN 1 hS ?_;refine tkN 2 hS ?_;refine tkN 3 hS ?_;refine tkN 4 hS ?_;have z0:wn.cell? ⟨w.heap.size,0,none⟩=some (.slice none 0 0):=cell_blk M0 0;have zf:∀ i,wn.frozen? ⟨w.heap.size,i,none⟩=false:=fun i=>fz_blk M0 i
  refine stN 5 (fun K hK=>?_);go_simp;have o1:∀ b,b≠w.heap.size->(wn.setCell ⟨w.heap.size,0,none⟩ (.slice ao 3 cap)).heap[b]?=wn.heap[b]?:=fun b hb=>Deep.blk_setCell_other _ ⟨w.heap.size,0,none⟩ _ _ hb
  have T0:(wn.setCell ⟨w.heap.size,0,none⟩ (.slice ao 3 cap)).heap[w.heap.size]?=some (.cells #[.slice ao 3 cap] 24 (0,0)):=setCell_blk M0 0 (.slice ao 3 cap);have hB6:Below w.heap.size w (wn.setCell ⟨w.heap.size,0,none⟩ (.slice ao 3 cap)):=hBw.setCell (Nat.le_refl _) _;have r6:=hS3 (wn.setCell ⟨w.heap.size,0,none⟩ (.slice ao 3 cap)) ((o1 P nP0).trans e0P) ((o1 G nG0).trans e0G);refine otN hK (r6) ?_
  clear hK;replace hS:=r6;have f1P:=(o1 P nP0).trans e0P;have f1G:=(o1 G nG0).trans e0G;have hK6:=hK.off (programS_pos l 14) (nilB1 M0) o1;have hX6:=hX.off (nilB1 M0) o1;have hA6:=hVA.off (nilB1 M0) o1;have hP6:=hVP.off (nilB1 M0) o1;have M6:=(o1 (w.heap.size+1) (by omega)).trans M1;clear z0 zf r6;generalize wn.setCell ⟨w.heap.size,0,none⟩ (.slice ao 3 cap)=w6 at *;refine tkN 6 hS ?_;have z0:w6.cell? ⟨w.heap.size+1,0,none⟩=some (.slice none 0 0):=cell_blk M6 0
  have z1:w6.cell? ⟨w.heap.size+1,1,none⟩=some (.slice none 0 0):=cell_blk M6 1;have zf:∀ i,w6.frozen? ⟨w.heap.size+1,i,none⟩=false:=fun i=>fz_blk M6 i
  refine stN 7 (fun K hK=>?_);go_simp;have o2:∀ b,b≠w.heap.size+1->((w6.setCell ⟨w.heap.size+1,0,none⟩ (.slice aa V.acts.length ac)).setCell ⟨w.heap.size+1,1,none⟩ (.slice pa V.prints.length pc)).heap[b]?=w6.heap[b]?:=fun b hb=>two_other 0 1 _ _ hb
  have T1:=two_blk M6 0 1 (.slice aa V.acts.length ac) (.slice pa V.prints.length pc);have hB7:=two_below hB6 (show w.heap.size<=w.heap.size+1 by omega) 0 1 (.slice aa V.acts.length ac) (.slice pa V.prints.length pc);have r7:=hS3 ((w6.setCell ⟨w.heap.size+1,0,none⟩ (.slice aa V.acts.length ac)).setCell ⟨w.heap.size+1,1,none⟩ (.slice pa V.prints.length pc)) ((o2 P nP1).trans f1P) ((o2 G nG1).trans f1G)
  refine otN hK (r7) ?_;clear hK;replace hS:=r7;have T0':=(o2 w.heap.size (by omega)).trans T0;have HZ:=HP.out _ aa ac pa pc hB7 (hK6.off (programS_pos l 14) (nilB2 M6) o2) (hX6.off (nilB2 M6) o2) (hA6.off (nilB2 M6) o2) (hP6.off (nilB2 M6) o2);have HZ2:Aside (PlayAns w _ l m most _):=HZ;clear z0 z1 zf r7 HZ o1 o2 hK hX hVA hVP hK6 hX6 hA6 hP6;generalize (w6.setCell ⟨w.heap.size+1,0,none⟩ (.slice aa V.acts.length ac)).setCell ⟨w.heap.size+1,1,none⟩ (.slice pa V.prints.length pc)=w7 at *
  refine tkN 8 hS ?_;refine dnN ?_;have y0:=cell_blk T0' 0;have y1:=cell_blk T1 0;have y2:=cell_blk T1 1;simp at y0 y1 y2;go_wp2
  exact bodyPost_ret (v:=.tuple #[.agg #[.slice ao 3 cap],.slice xa AX.length xc,.agg #[.slice aa V.acts.length ac,.slice pa V.prints.length pc],.bool true]) (by simp[results,Tryz.results21,go_sem,y0,y1,y2]) rfl HZ2.out
end
section
open Go.RowKit
theorem worldTells_any (w:World) (hT:TabAt 0 w):Calls Tryz.prog 20 #[] w fun e w'=>e=.returned (.bool true)/\Below w.heap.size w w':=by
 go_enter Tryz.func20,Tryz.ntmps20
 go_wp2_with fail
 refine(kprogram_any [] none 0 2 w ((fun i v hi=>by simp at hi)) (by simp) (by omega) hT).mono ?_;rintro e w1 ⟨ao,cap,rfl,hb1,hK⟩;obtain⟨A,C,hP,hck,hpf⟩:=program_prog (by omega) hK
 go_wp2_with fail
 refine(anew_any ao 3 cap A _ C _ 10 _ (hT.keeps (Keeps.below hb1)) hP).mono ?_;rintro e w2 ⟨aa,ca,rfl,hb2,_,_⟩;have hE:wnewE 3 (lenOf (programS [] 2)) (xOf (programS [] 2)) 10=0:=by
  unfold wnewE
  rw[hck]
  rfl
 have hV:wnew 3 (lenOf (programS [] 2)) (xOf (programS [] 2)) 10=newW 10:=by
  unfold wnew
  rw[if_pos hE]
 rw[hE,hV];have hb3:=hb1.trans (hb2.mono hb1.size);clear hP hK hck hpf hb1 hb2 hT hE hV;simp only[newW,List.length_cons,List.length_nil];go_wp2
 go_ret
 exact⟨rfl,hb3.alloc hb3.size _⟩
end
section
open Go.ChangeShapes Go.WideShapes Go.ChangeAt Go.RowKit Go.Deep
section
variable {H:Type} {enc:TypeId × Value->H} {P:Program} {w:World} {base:Nat} {spare:Nat->Bool} {held:Bool}
theorem trodAll_stays (hl:laidOutB P=true) {W W':World} {sp':Nat->Bool}:∀ {ts:List TypeId} {vs:List Value} {ds:List (DataW H)} {ps:List MemPlace},DataW.TrodAll enc P W base (fun _=>true) true ts vs ds ps ->
  (∀ t∈ts,P.readableRec t=true/\t<P.types.size)->(∀ p∈ps,W.sameAt W' p)->(∀ p∈ps,sp' p.block=true)->DataW.TrodAll enc P W' base sp' true ts vs ds ps
 | [],vs,ds,ps,h,_,_,_=>by
  obtain⟨rfl,rfl,rfl⟩:=trodAll_nil h;exact trodAll_mk0
 | t :: ts,vs,ds,ps,h,ht,h1,h2=>by
  obtain⟨v,vs',d,ds',p,q,rfl,rfl,rfl,hd,hrest⟩:=trodAll_cons h;exact trodAll_cons_mk (WideElems.Trod_stays hl (ht t (by simp)).1 (ht t (by simp)).2 hd (fun x hx=>h1 x (by simp[hx])) (fun x hx=>h2 x (by simp[hx])))
   (trodAll_stays hl hrest (fun u hu=>ht u (by simp[hu])) (fun x hx=>h1 x (by simp[hx])) (fun x hx=>h2 x (by simp[hx])))
theorem open_int {tN:TypeId} (hN:P.underlying tN=some (.int .i64)) {r:Reach} {b0:Nat} {v:Value} {d:DataW H} {p:List MemPlace} (hv:Value.okWide P w r b0 tN v) (h:DataW.Trod enc P w base spare held tN v d p) :
  ∃ n:Int,v=.int .i64 n/\(-9223372036854775808<=n/\n<=9223372036854775807):=by
 obtain⟨n,rfl⟩:=okWide_int hN hv;obtain⟨fuel,hf⟩:=h;obtain⟨a,e,_,w1⟩:=DataW.trod_int hN hf;simp[Value.cells] at e;subst e;exact⟨_,rfl,bounds_i64 w1⟩
end
end
section
open Go.ChangeShapes Go.WideShapes Go.ChangeAt Go.RowKit Go.Deep
theorem reach_eq:reachBytes=140737488351232:=rfl
structure HeapTypes (P:Program) (tH tOO tO tVV tV tN tB:TypeId) (h0 h1 o0 o1 v0 v1:Field):Prop where
 hH:P.underlying tH=some (.struct #[h0,h1])
 hh0:h0.type=tN/\h0.offset=0
 hh1:h1.type=tOO/\h1.offset=1
 cH:P.cellsOf tH=2
 cOO:P.cellsOf tOO=1
 hOO:P.underlying tOO=some (.slice tO)
 cO:P.cellsOf tO=2
 hO:P.underlying tO=some (.struct #[o0,o1])
 ho0:o0.type=tVV/\o0.offset=0
 ho1:o1.type=tB/\o1.offset=1
 cVV:P.cellsOf tVV=1
 hVV:P.underlying tVV=some (.slice tV)
 cV:P.cellsOf tV=2
 hV:P.underlying tV=some (.struct #[v0,v1])
 hv0:v0.type=tN/\v0.offset=0
 hv1:v1.type=tN/\v1.offset=1
 hN:P.underlying tN=some (.int .i64)
 cN:P.cellsOf tN=1
 hB:P.underlying tB=some .bool
 cB:P.cellsOf tB=1
 bO:P.bytesOf tO=32
 bV:P.bytesOf tV=16
theorem getElem?_ofRange {α:Type} {f:Nat->α} {n i:Nat} {v:α} (h:((List.range n).map f)[i]?=some v):i<n/\f i=v:=by
 rw[List.getElem?_map] at h;obtain⟨j,hj,rfl⟩:=Option.map_eq_some_iff.1 h;obtain⟨hi,rfl⟩:=List.getElem?_eq_some_iff.1 hj;rw[List.length_range] at hi;exact⟨hi,by simp⟩
section
variable {H:Type} {enc:TypeId × Value->H} {P:Program} {w:World} {base:Nat} {spare:Nat->Bool} {held:Bool}
variable {tH tOO tO tVV tV tN tB:TypeId} {h0 h1 o0 o1 v0 v1:Field}
end
theorem Tryz.cellsH:Tryz.prog.cellsOf 53=2:=by kernel_rfl
theorem Tryz.cellsOO:Tryz.prog.cellsOf 51=1:=by kernel_rfl
theorem Tryz.cellsO:Tryz.prog.cellsOf 91=2:=by kernel_rfl
theorem Tryz.cellsVV:Tryz.prog.cellsOf 54=1:=by kernel_rfl
theorem Tryz.cellsV:Tryz.prog.cellsOf 66=2:=by kernel_rfl
theorem Tryz.cellsN:Tryz.prog.cellsOf 3=1:=by kernel_rfl
theorem Tryz.cellsB:Tryz.prog.cellsOf 4=1:=by kernel_rfl
theorem Tryz.bytesO:Tryz.prog.bytesOf 91=32:=by kernel_rfl
theorem Tryz.bytesV:Tryz.prog.bytesOf 66=16:=by kernel_rfl
theorem types:∃ h0 h1 o0 o1 v0 v1,HeapTypes Tryz.prog 53 51 91 54 66 3 4 h0 h1 o0 o1 v0 v1 :=
 ⟨_,_,_,_,_,_,Tryz.underlying53,⟨rfl,rfl⟩,⟨rfl,rfl⟩,Tryz.cellsH,Tryz.cellsOO,Tryz.underlying51,Tryz.cellsO,Tryz.underlying91,⟨rfl,rfl⟩,⟨rfl,rfl⟩,Tryz.cellsVV,Tryz.underlying54,Tryz.cellsV,Tryz.underlying66,
  ⟨rfl,rfl⟩,⟨rfl,rfl⟩,Tryz.underlying3,Tryz.cellsN,Tryz.underlying4,Tryz.cellsB,Tryz.bytesO,Tryz.bytesV⟩
end
section
open Go.ChangeShapes Go.WideShapes Go.ChangeAt Go.RowKit Go.Deep
structure RawTypes (P:Program) (tRR tR tN:TypeId) (r0 r1 r2 r3:Field):Prop where
 hRR:P.underlying tRR=some (.slice tR)
 cR:P.cellsOf tR=4
 hR:P.underlying tR=some (.struct #[r0,r1,r2,r3])
 hr0:r0.type=tN/\r0.offset=0
 hr1:r1.type=tN/\r1.offset=1
 hr2:r2.type=tN/\r2.offset=2
 hr3:r3.type=tN/\r3.offset=3
 hN:P.underlying tN=some (.int .i64)
 cN:P.cellsOf tN=1
 bR:P.bytesOf tR=32
section
variable {H:Type} {enc:TypeId × Value->H} {P:Program} {w:World} {base:Nat} {spare:Nat->Bool} {held:Bool}
variable {tRR tR tN:TypeId} {r0 r1 r2 r3:Field}
theorem open_rawc (T:RawTypes P tRR tR tN r0 r1 r2 r3) {fuel:Nat} {cs:List Value} {x:DataW H × List MemPlace} (h:DataW.trod enc P w base spare held fuel tR cs=some x) :
  ∃ a b c d:Int,cs=[.int .i64 a,.int .i64 b,.int .i64 c,.int .i64 d]/\fit64 a/\fit64 b/\fit64 c/\fit64 d:=by
 obtain⟨y0,y1,y2,y3,n,_,hl,g0,g1,g2,g3⟩:=Joins.trod_struct4 T.hR h;rw[T.cR] at hl
 match cs,hl with
 | [c0,c1,c2,c3],_ =>
  rw[T.hr0.1,T.hr0.2,T.cN] at g0;rw[T.hr1.1,T.hr1.2,T.cN] at g1;rw[T.hr2.1,T.hr2.2,T.cN] at g2;rw[T.hr3.1,T.hr3.2,T.cN] at g3;obtain⟨a0,e0,_,w0⟩:=DataW.trod_int T.hN g0;obtain⟨a1,e1,_,w1⟩:=DataW.trod_int T.hN g1;obtain⟨a2,e2,_,w2⟩:=DataW.trod_int T.hN g2;obtain⟨a3,e3,_,w3⟩:=DataW.trod_int T.hN g3;simp at e0 e1 e2 e3;subst e0 e1 e2 e3;exact⟨a0,a1,a2,a3,rfl,bounds_i64 w0,bounds_i64 w1,bounds_i64 w2,bounds_i64 w3⟩
theorem open_raws (T:RawTypes P tRR tR tN r0 r1 r2 r3) {v:Value} {d:DataW H} {p:List MemPlace} {r:Reach} {b0:Nat} (hv:Value.okWide P w r b0 tRR v) (h:DataW.Trod enc P w base (fun _=>true) held tRR v d p)
  (hsz:∀ n∈d.weights P tRR,n<=reachBytes) :
  ∃ (ao:Option Addr) (l:List Rw) (cap:Nat),v=.slice ao l.length cap/\RawsAt w ao l/\32*l.length<=140737488351232:=by
 obtain⟨a0,n0,c0,rfl⟩:=okWide_slice T.hRR hv;obtain⟨fuel,hf⟩:=h
 rcases open_slice T.hRR hf with⟨hcs,hx⟩ | ⟨a,len,cap,m,n,D,Pl,hcs,_,hl,hm,hmm,hx,hel⟩
 ·simp only[Value.cells,List.cons.injEq,and_true,Value.slice.injEq] at hcs
  obtain⟨rfl,rfl,rfl⟩:=hcs;exact⟨none,[],0,rfl,fun i v hi=>by simp at hi,by show 32*0<=140737488351232;omega⟩
 ·simp only[Value.cells,List.cons.injEq,and_true,Value.slice.injEq] at hcs
  obtain⟨rfl,rfl,rfl⟩:=hcs
  try simp only[if_true] at hmm
  rw[T.cR] at hel;obtain⟨z,hz⟩:=choose_lt (α:=Int × Int × Int × Int) (n:=m) (p:=fun i z=>w.cells? base (a.add (i*4)) 4=some [.int .i64 z.1,.int .i64 z.2.1,.int .i64 z.2.2.1,.int .i64 z.2.2.2]/\fit64 z.1/\fit64 z.2.1/\fit64 z.2.2.1/\fit64 z.2.2.2) (fun i hi=>by
   obtain⟨cs',hc,ht⟩:=hel i hi;obtain⟨a,b,c,d,rfl,hq⟩:=open_rawc T ht;exact⟨(a,b,c,d),hc,hq⟩)
  refine⟨some a,(List.range n0).map (fun i=>⟨(z i).1,(z i).2.1,(z i).2.2.1,(z i).2.2.2⟩),c0,by simp,fun i v hi=>?_,?_⟩
  ·obtain⟨hi',rfl⟩:=getElem?_ofRange hi
   obtain⟨_,_,hc0⟩:=World.cells?_some (hz 0 (by omega)).1;obtain⟨_,_,hc⟩:=World.cells?_some (hz i (by omega)).1;obtain⟨b,o,sp⟩:=a;have hsp:sp=none:=by
    have:=World.cell?_spot ((hc0 0 (by omega)).trans rfl)
    simpa[Addr.add] using this
   subst hsp;have d0:=hc 0 (by omega);have d1:=hc 1 (by omega);have d2:=hc 2 (by omega);have d3:=hc 3 (by omega);rw[add_plain,add_plain] at d0 d1 d2 d3;have e0:w.cell? ⟨b,o+i*4,none⟩=some (.int .i64 (z i).1):=by simpa using d0
   exact⟨b,o,rfl,World.block_lt_of_cell? _ _ e0,e0,by simpa using d1,by simpa using d2,by simpa using d3,(hz i (by omega)).2⟩
  ·have hx':d=(d,p).1:=rfl
   rw[hx',hx] at hsz;have:=hsz ((((List.range n0).map D).length+((List.range (m-n0)).map fun j=>D (n0+j)).length)*P.bytesOf tR) (by simp[DataW.weights,T.hRR]);simp only[List.length_map,List.length_range,T.bR,reach_eq] at this ⊢
   omega
end
theorem Tryz.cellsR:Tryz.prog.cellsOf 119=4:=by kernel_rfl
theorem Tryz.bytesR:Tryz.prog.bytesOf 119=32:=by kernel_rfl
theorem rawTypes:∃ r0 r1 r2 r3,RawTypes Tryz.prog 57 119 3 r0 r1 r2 r3 :=
 ⟨_,_,_,_,Tryz.underlying57,Tryz.cellsR,Tryz.underlying119,⟨rfl,rfl⟩,⟨rfl,rfl⟩,⟨rfl,rfl⟩,⟨rfl,rfl⟩,Tryz.underlying3,Tryz.cellsN,Tryz.bytesR⟩
end
section
open Go.ChangeShapes Go.WideShapes Go.ChangeAt Go.RowKit
theorem Tryz.gOps : Tryz.prog.globalNamed "treadwheel/code.operators" = some 0 := by kernel_rfl
theorem Tryz.tOps:(Tryz.prog.globals[0]?).map (·.type)=some 192:=by kernel_rfl
theorem Tryz.cOp:Tryz.prog.cellsOf 191=5:=by kernel_rfl
theorem Tryz.cBool:Tryz.prog.cellsOf 4=1:=by kernel_rfl
theorem Tryz.cInt:Tryz.prog.cellsOf 3=1:=by kernel_rfl
def tabRow {H:Type} (k:Nat):DataW H:=.agg [.lit (.bool (aOf k)),.lit (.bool (bOf k)),.lit (.bool (nOf k)),.lit (.int .i64 (loOf k)),.lit (.int .i64 (hiOf k))]
theorem tab_datum:(Rows.laid_treadwheel_code_operators:DataW Unit)=.agg ((List.range 20).map tabRow):=by kernel_rfl
abbrev opsLaid : List (String × DataW Unit) := [("treadwheel/code.operators", Rows.laid_treadwheel_code_operators)]
section
variable {H:Type} {enc:TypeId × Value->H} {w:World} {base:Nat} {spare:Nat->Bool} {held:Bool}
theorem open_oper {fuel:Nat} {cs:List Value} {x:DataW H × List MemPlace} {a b c:Bool} {l m:Int} (h:DataW.trod enc Tryz.prog w base spare held fuel 191 cs=some x)
  (hx:x.1=.agg [.lit (.bool a),.lit (.bool b),.lit (.bool c),.lit (.int .i64 l),.lit (.int .i64 m)]):cs=[.bool a,.bool b,.bool c,.int .i64 l,.int .i64 m]:=by
 obtain⟨xs,n,_,rfl,hl,hlen,hf⟩:=DataW.trod_struct Tryz.underlying191 h;rw[Tryz.cOp] at hl
 match cs,hl with
 | [c0,c1,c2,c3,c4],_ =>
  match xs,hlen with
  | [x0,x1,x2,x3,x4],_ =>
   simp only[List.map_cons,List.map_nil,DataW.agg.injEq,List.cons.injEq,and_true] at hx;obtain⟨q0,q1,q2,q3,q4⟩:=hx;have g0:DataW.trod enc Tryz.prog w base spare held n 4 (List.take (Tryz.prog.cellsOf 4) (List.drop 0 [c0,c1,c2,c3,c4]))=some x0:=hf 0 _ rfl;have g1:DataW.trod enc Tryz.prog w base spare held n 4 (List.take (Tryz.prog.cellsOf 4) (List.drop 1 [c0,c1,c2,c3,c4]))=some x1:=hf 1 _ rfl;have g2:DataW.trod enc Tryz.prog w base spare held n 4 (List.take (Tryz.prog.cellsOf 4) (List.drop 2 [c0,c1,c2,c3,c4]))=some x2:=hf 2 _ rfl
   have g3:DataW.trod enc Tryz.prog w base spare held n 3 (List.take (Tryz.prog.cellsOf 3) (List.drop 3 [c0,c1,c2,c3,c4]))=some x3:=hf 3 _ rfl;have g4:DataW.trod enc Tryz.prog w base spare held n 3 (List.take (Tryz.prog.cellsOf 3) (List.drop 4 [c0,c1,c2,c3,c4]))=some x4:=hf 4 _ rfl;rw[Tryz.cBool] at g0 g1 g2;rw[Tryz.cInt] at g3 g4;simp only[List.drop_zero,List.drop_succ_cons,List.take_succ_cons,List.take_zero] at g0 g1 g2 g3 g4
   obtain⟨b0,e0,y0⟩:=DataW.trod_bool Tryz.underlying4 g0;obtain⟨b1,e1,y1⟩:=DataW.trod_bool Tryz.underlying4 g1;obtain⟨b2,e2,y2⟩:=DataW.trod_bool Tryz.underlying4 g2;obtain⟨b3,e3,y3,_⟩:=DataW.trod_int Tryz.underlying3 g3;obtain⟨b4,e4,y4,_⟩:=DataW.trod_int Tryz.underlying3 g4;subst y0 y1 y2 y3 y4;simp at q0 q1 q2 q3 q4 e0 e1 e2 e3 e4;subst q0 q1 q2 q3 q4 e0 e1 e2 e3 e4
   rfl
end
theorem tab_of_laid {W:World} (h:laidMetH Tryz.prog opsLaid W):TabAt 0 W:=by
 rw[MakeChecks.laidMetH_plain _ _ _ (by kernel_rfl)] at h;obtain⟨ps,⟨g0,t0,cs0,f0,p0,q0,hg0,ht0,hv0,hd0,_⟩,_,_⟩:=h;obtain rfl:=Option.some.inj (Tryz.gOps.symm.trans hg0);obtain rfl:=Option.some.inj (Tryz.tOps.symm.trans ht0);rw[tab_datum] at hd0;obtain⟨xs,m,_,hx,_,hlen,hel⟩:=DataW.trod_array Tryz.underlying192 hd0;simp only[Prod.mk.injEq,DataW.agg.injEq] at hx;rw[Tryz.cOp] at hel;intro k hk;have hk':k<xs.length:=by omega
 have hxk:xs[k].1=tabRow k:=by
  have:=congrArg (fun l=>l[k]?) hx.1;simp[hk,hk'] at this
  exact this.symm
 have e:=open_oper ((hel k hk).trans (List.getElem?_eq_getElem hk')) hxk;have hc:∀ j,j<5->W.cell? ⟨0,k*5+j,none⟩=[Value.bool (aOf k),.bool (bOf k),.bool (nOf k),.int .i64 (loOf k),.int .i64 (hiOf k)][j]?:=fun j hj=>by
  rw[World.var?_cell hg0 hv0,<- e];simp[hj,List.getElem?_drop]
 exact⟨hc 0 (by omega),hc 1 (by omega),hc 2 (by omega),hc 3 (by omega),hc 4 (by omega)⟩
theorem door_met (os:Os) (args:Array Value):laidMetH Tryz.prog opsLaid ((World.doorLaid Tryz.prog 400 os).forCall (fun _ _=>0) ⟨#[],args,[]⟩).memory :=
 laidMetH_of_parts3 (fuel:=8) (laidMet_of_run' 8 (by kernel_rfl) (by kernel_rfl)) (by kernel_rfl) (by kernel_rfl)
end
section
open Go.ChangeShapes Go.WideShapes Go.ChangeAt Go.RowKit Go.Deep
theorem Tryz.cown:ownKnob Tryz.prog.godebug=none:=by kernel_rfl
theorem Tryz.claidOut:laidOutB Tryz.prog=true:=by kernel_rfl
end
end Go.Proofs.YtihpkcccfgbcmaaGreatDoor
