/- AClear. -/
import Derived.Test.YtepifccbbmdfcaaGreatDoorCBWIsActor
import Derived.Test.YtepifccbbmdfcaaGreatDoorCBHCollect
namespace Go.Proofs.YtepifccbbmdfcaaGreatDoor
set_option maxRecDepth 100000
set_option maxHeartbeats 8000000
open Go.RowKit
theorem WdOwn.cellsAt {w:World} {base Bw:Nat} {V:Wd} {av pv:Value} {fl:List Fa} {rs:List (List (Value × Ob))} (h:WdOwn w base Bw V av pv fl rs) {g nn c:Nat} (hav:av=.slice (some ⟨g,0,none⟩) nn c) {j:Nat} {x:Ac} (hx:V.acts[j]?=some x) :
  ∃ fa r,fl[j]?=some fa/\rs[j]?=some r/\AcOwn w base fa r x /\
  w.cell? ⟨g,j*8,none⟩=some (.int .i64 x.kind)/\w.cell? ⟨g,j*8+1,none⟩=some (.int .i64 x.par)/\w.cell? ⟨g,j*8+2,none⟩=some (.int .i64 x.M)/\w.cell? ⟨g,j*8+3,none⟩=some (.slice fa.oa x.obs.length fa.oc) /\
  w.cell? ⟨g,j*8+4,none⟩=some (.slice fa.ra x.regs.length fa.rc)/\w.cell? ⟨g,j*8+5,none⟩=some (.int .i64 x.pc)/\w.cell? ⟨g,j*8+6,none⟩=some (.slice fa.ba x.box.length fa.bc)/\w.cell? ⟨g,j*8+7,none⟩=some (.int .i64 x.fin):=by
 obtain⟨fa,r,g',c',R,hfa,hr,hA,hav2,_,k0,k1,k2,k3,k4,k5,k6,k7⟩:=h.cells hx;rw[hav] at hav2;simp only[Value.slice.injEq,Option.some.injEq,Addr.mk.injEq,and_true] at hav2;obtain⟨rfl,_,_⟩:=hav2;exact⟨fa,r,hfa,hr,hA,k0,k1,k2,k3,k4,k5,k6,k7⟩
theorem AcOwn.regVals {w:World} {base:Nat} {fa:Fa} {r:List (Value × Ob)} {x:Ac} (h:AcOwn w base fa r x):ValsAt w fa.ra x.regs:=seqVl_to (SeqOwn.at (f:=fVl) (s:=2) (fun _=>rfl) h.regs)
theorem AcOwn.boxVals {w:World} {base:Nat} {fa:Fa} {r:List (Value × Ob)} {x:Ac} (h:AcOwn w base fa r x):ValsAt w fa.ba x.box:=seqVl_to (SeqOwn.at (f:=fVl) (s:=2) (fun _=>rfl) h.box)
theorem AcOwn.obsAt {w:World} {base:Nat} {fa:Fa} {r:List (Value × Ob)} {x:Ac} (h:AcOwn w base fa r x):ObsAt w fa.oa x.obs:=by
 have:=h.heap.obs.2
 rwa [h.obs] at this
theorem collectS_len {M:Int} {l:List Ob} {roots:List Vl} (h:(collectS M l roots).2.2=0):(collectS M l roots).2.1.length=roots.length:=by
 cases hq:hMay M l roots with
 | false=>rw[collectS_no hq] at h;simp at h
 | true=>rw[collectS_yes hq];simp
theorem clearS_regs {a:Ac}:(clearS a).regs.length=a.regs.length:=by
 unfold clearS
 split
 ·rename_i h
  have:=collectS_len h;have hl:a.roots.length=a.regs.length+a.box.length:=by simp[Ac.roots]
  simp only[List.length_take,this,hl];omega
 ·rfl
theorem clearS_box {a:Ac}:(clearS a).box.length=a.box.length:=by
 unfold clearS
 split
 ·rename_i h
  have:=collectS_len h;have hl:a.roots.length=a.regs.length+a.box.length:=by simp[Ac.roots]
  simp only[List.length_drop,this,hl];omega
 ·rfl
theorem ValsOwn.below {w w':World} {base:Nat} {v:Value} {l:List Vl} (h:ValsOwn w base v l) (hb:Below w.heap.size w w'):ValsOwn w' base v l:=ownsRow_below h hb
theorem clearUp_any (w:World) {base Bw:Nat} {V:Wd} {av pv:Value} {fl:List Fa} {rs:List (List (Value × Ob))} (h:WdOwn w base Bw V av pv fl rs) {j:Nat} {x:Ac} (hx:V.acts[j]?=some x) {g nn c:Nat} (hav:av=.slice (some ⟨g,0,none⟩) nn c) (h8:x.regs.length=8) (h6:x.box.length<=6) :
  Calls Tryz.prog 50 #[.pointer (some ⟨g,j*8,none⟩)] w fun e w'=>e=.returned (.tuple #[])/\∃ fl' rs',WdOwn w' base Bw { V with acts:=V.acts.set j (clearS x) } av pv fl' rs'/\Moved w w' (wdFoot Bw av pv fl rs) (wdFoot Bw av pv fl' rs'):=by
 obtain⟨fa,r,hfa,hr,hA,k0,k1,k2,k3,k4,k5,k6,k7⟩:=h.cellsAt hav hx;have kfg:=h.fz hav;have hVr:=hA.regVals;have hVb:=hA.boxVals;have hOb:=hA.obsAt;have hrt:∀ w',Below w.heap.size w w'->Calls Tryz.prog 79 #[.agg #[.int .i64 x.kind,.int .i64 x.par,.int .i64 x.M,.slice fa.oa x.obs.length fa.oc,.slice fa.ra 8 fa.rc,.int .i64 x.pc,.slice fa.ba x.box.length fa.bc,.int .i64 x.fin]] w' fun e w''=>∃ va vc,e=.returned (.slice va (8+x.box.length) vc)/\ValsAt w'' va x.roots/\Below w'.heap.size w' w'':=fun w' hb=>by
  have:=roots_any x.kind x.par x.M x.pc x.fin fa.oa fa.ra fa.ba x.obs.length fa.oc fa.rc fa.bc x.regs x.box w' (hVr.keeps (Keeps.below hb)) (hVb.keeps (Keeps.below hb)) (by omega) h6;rw[h8] at this
  exact this
 have HLEN:Aside ((collectS x.M x.obs x.roots).2.2=0->(collectS x.M x.obs x.roots).2.1.length=8+x.box.length):=fun h0=>by
  rw[collectS_len h0,Ac.roots,List.length_append,h8]
 have HCL:Aside (clearS x=if (collectS x.M x.obs x.roots).2.2=0 then { x with M:=(collectS x.M x.obs x.roots).1.1,obs:=(collectS x.M x.obs x.roots).1.2,regs:=(collectS x.M x.obs x.roots).2.1.take x.regs.length,box:=(collectS x.M x.obs x.roots).2.1.drop x.regs.length } else x):=rfl;have hcol:∀ w' va vc,Below w.heap.size w w'->ValsAt w' va x.roots->Calls Tryz.prog 78 #[.agg #[.int .i64 x.M,.slice fa.oa x.obs.length fa.oc],.slice va (8+x.box.length) vc] w' fun e w'' =>
   ∃ ga gc ua uc,e=.returned (.tuple #[.agg #[.int .i64 (collectS x.M x.obs x.roots).1.1,.slice ga (collectS x.M x.obs x.roots).1.2.length gc],.slice ua (collectS x.M x.obs x.roots).2.1.length uc,.int .i64 (collectS x.M x.obs x.roots).2.2])/\Below w'.heap.size w' w'' /\
    ValsOwn w'' w'.heap.size (.slice ua (collectS x.M x.obs x.roots).2.1.length uc) (collectS x.M x.obs x.roots).2.1 /\
    ∃ rows,rows.map (·.2)=(collectS x.M x.obs x.roots).1.2/\HeapOwn w'' w'.heap.size (.slice ga (collectS x.M x.obs x.roots).1.2.length gc) rows:=fun w' va vc hb hv=>by
  have:=collect_any x.M fa.oa fa.oc x.obs va vc x.roots w' (hOb.keeps (Keeps.below hb)) hv (by rw[Ac.roots,List.length_append];omega);rw[show x.roots.length=8+x.box.length by rw[Ac.roots,List.length_append,h8]] at this
  exact this
 rw[h8] at k4;generalize clearS x=RC at *;generalize collectS x.M x.obs x.roots=CS at *;obtain⟨⟨cM,cl⟩,cm,ce⟩:=CS;simp only at hcol HLEN HCL;have HW:Aside (WdOwn w base Bw V av pv fl rs):=h;have HAV:Aside (av=.slice (some ⟨g,0,none⟩) nn c):=hav;have hgl:g<w.heap.size:=(World.ownsRow.lt h.acts g (by rw[hav];rfl)).2;have HM:Aside (∀ w',Below w.heap.size w w'->Moved w w' (wdFoot Bw av pv fl rs) (wdFoot Bw av pv fl rs)):=fun w' hb'=>Moved.of_below hb'
 have HA:Aside (AcOwn w base fa r x):=hA;clear h hav hA hVr hVb hOb;generalize hXB:x.box.length=XB at *;have HXB:Aside (x.box.length=XB):=hXB;clear hXB;generalize x.obs.length=XL at *;have hSof:∀ w',Below w.heap.size w w'->(w'.cell? ⟨g,j*8,none⟩=some (.int .i64 x.kind)/\w'.cell? ⟨g,j*8+1,none⟩=some (.int .i64 x.par)/\w'.cell? ⟨g,j*8+2,none⟩=some (.int .i64 x.M)/\w'.cell? ⟨g,j*8+3,none⟩=some (.slice fa.oa XL fa.oc)/\w'.cell? ⟨g,j*8+4,none⟩=some (.slice fa.ra 8 fa.rc)/\w'.cell? ⟨g,j*8+5,none⟩=some (.int .i64 x.pc)/\w'.cell? ⟨g,j*8+6,none⟩=some (.slice fa.ba XB fa.bc)/\w'.cell? ⟨g,j*8+7,none⟩=some (.int .i64 x.fin)):=fun w' hb'=>⟨Keeps.below hb' _ _ k0,Keeps.below hb' _ _ k1,Keeps.below hb' _ _ k2,Keeps.below hb' _ _ k3,Keeps.below hb' _ _ k4,Keeps.below hb' _ _ k5,Keeps.below hb' _ _ k6,Keeps.below hb' _ _ k7⟩
 go_enter Tryz.func50,Tryz.ntmps50
 go_upto_region 0 with fail
 go_cut [2,3,4] (fun s2 s3 s4 wc=>∃ G ga gc ua uc BB rows,s2=.pointer (some ⟨G,0,none⟩)/\s3=.slice ua cm.length uc/\s4=.int .i64 ce/\Below w.heap.size w wc/\w.heap.size<=G/\wc.heap[G]?=some (.cells #[.int .i64 cM,.slice ga cl.length gc] 47 (0,0))/\w.heap.size<=BB/\rows.map (·.2)=cl/\HeapOwn wc BB (.slice ga cl.length gc) rows/\ValsOwn wc BB (.slice ua cm.length uc) cm)
 case first =>
  have hB:Below w.heap.size w w.drew:=(Below.refl _ _).drew;refine wp_region_need (fun _=>true) (fun w'=>w'.cell? ⟨g,j*8,none⟩=some (.int .i64 x.kind)/\w'.cell? ⟨g,j*8+1,none⟩=some (.int .i64 x.par)/\w'.cell? ⟨g,j*8+2,none⟩=some (.int .i64 x.M)/\w'.cell? ⟨g,j*8+3,none⟩=some (.slice fa.oa XL fa.oc)/\w'.cell? ⟨g,j*8+4,none⟩=some (.slice fa.ra 8 fa.rc)/\w'.cell? ⟨g,j*8+5,none⟩=some (.int .i64 x.pc)/\w'.cell? ⟨g,j*8+6,none⟩=some (.slice fa.ba XB fa.bc)/\w'.cell? ⟨g,j*8+7,none⟩=some (.int .i64 x.fin)) (by kernel_rfl) (hSof _ hB) (fun hS=>?_)
  generalize w.drew=wc0 at hS hB  ⊢;refine tkN 0 hS ?_;refine tkN 1 hS ?_;refine tkN 2 hS ?_;refine tkN 3 hS ?_;refine tkN 4 hS ?_;refine tkN 5 hS ?_;refine tkN 6 hS ?_;refine twN 7 13 (fun K hK=>?_) (fun K hK=>?_)
  ·go_simp
   refine(hrt wc0 hB).mono ?_;rintro e wc1 ⟨va,vc,rfl,hVA,hbn⟩;have hBn:Below w.heap.size w wc1:=hB.trans (hbn.mono hB.size);refine otN hK (hSof _ hBn) ?_;replace hS:=hSof _ hBn;clear hK;replace hB:=hBn;clear hBn hbn;refine twN 8 13 (fun K hK=>?_) (fun K hK=>?_)
   ·go_simp
    refine(hcol wc1 va vc hB hVA).mono ?_;rintro e wc2 ⟨ga,gc,ua,uc,rfl,hbn,hV,rows,hrows,hO⟩;obtain⟨BB,hBB⟩:∃ BB,BB=wc1.heap.size:=⟨_,rfl⟩
    try have dcG:G<wc1.heap.size:=(Array.getElem?_eq_some_iff.1 mG).1
    try rw[<- hBB] at dcG
    rw[<- hBB] at hO hV;have sB:w.heap.size<=BB:=by rw[hBB];exact hB.size
    clear hBB;obtain⟨TT,hTT⟩:∃ TT,TT=wc2.heap.size:=⟨_,rfl⟩;have thO:=fun b hb=>(hO.blk_le b hb).2
    rw[<- hTT] at thO;have thV:=fun b hb=>(World.ownsRow.lt hV b (mem_vB.1 hb)).2
    rw[<- hTT] at thV;have sT:TT<=wc2.heap.size:=Nat.le_of_eq hTT;clear hTT;have hBn:Below w.heap.size w wc2:=hB.trans (hbn.mono hB.size);refine otN hK (hSof _ hBn) ?_;replace hS:=hSof _ hBn;clear hK;replace hVA:=hVA.keeps (Keeps.below hbn);replace hB:=hBn;clear hBn hbn;refine tkN 9 hS ?_;refine tkN 10 hS ?_;refine tkN 11 hS ?_;refine tkN 12 hS ?_;refine stN 13 (fun K hK=>?_);go_simp;have hbn:=below_box wc2 (Obj.cells #[.int .i64 0,.slice none 0 0] 47)
    have mG:=Deep.blk_alloc_new wc2 (Obj.cells #[.int .i64 0,.slice none 0 0] 47);have xG:w.heap.size<=wc2.heap.size:=hB.size
    try have daG:TT<=wc2.heap.size:=sT
    generalize wc2.alloc (Obj.cells #[.int .i64 0,.slice none 0 0] 47)=wc3 at hbn mG ⊢;obtain⟨G,hG⟩:∃ G,G=wc2.heap.size:=⟨_,rfl⟩;rw[<- hG] at mG xG ⊢
    try rw[<- hG] at daG
    clear hG;have hBn:Below w.heap.size w wc3:=hB.trans (hbn.mono hB.size);refine otN hK (hSof _ hBn) ?_;replace hS:=hSof _ hBn;clear hK;replace hVA:=hVA.keeps (Keeps.below hbn);replace hO:=hO.below hbn;replace hV:=hV.below hbn;replace sT:=Nat.le_trans sT hbn.size;replace hB:=hBn;clear hBn hbn;refine stN 14 (fun K hK=>?_);have c0:=cellBlk mG 0;have c1:=cellBlk mG 1;have cf:∀ j,wc3.frozen? ⟨G,j,none⟩=false:=fun j=>by simp[World.frozen?,mG]
    simp at c0 c1;go_simp;have hBn:=two_below hB xG 0 1 (.int .i64 cM) (.slice ga cl.length gc);replace mG:=two_blk mG 0 1 (.int .i64 cM) (.slice ga cl.length gc);replace hO:=hO.at_block (fun b hb=>two_other 0 1 (.int .i64 cM) (.slice ga cl.length gc) (show b≠G by have hq1:=thO b hb;have hq2:=(hO.blk_le b hb).1;omega));replace hV:=ownsRow_at_block hV (fun b hb=>two_other 0 1 (.int .i64 cM) (.slice ga cl.length gc) (show b≠G by have hq1:=thV b hb;have hq2:=(World.ownsRow.lt hV b (mem_vB.1 hb)).1;omega))
    clear c0 c1 cf;generalize (wc3.setCell ⟨G,0,none⟩ (.int .i64 cM)).setCell ⟨G,1,none⟩ (.slice ga cl.length gc)=wc4 at *;refine otN hK (hSof _ hBn) ?_;replace hS:=hSof _ hBn;clear hK;replace hB:=hBn;clear hBn;refine tkN 15 hS ?_;refine tkN 16 hS ?_;refine dnN ?_
    go_wp2_with fail
    go_meet
    case rel=>exact⟨G,ga,gc,ua,uc,BB,rows,rfl,rfl,rfl,hB,xG,mG,sB,hrows,hO,hV⟩
   ·go_simp
    have hbn:=below_box wc1 (Obj.cells #[.int .i64 0,.slice none 0 0] 47);have mG:=Deep.blk_alloc_new wc1 (Obj.cells #[.int .i64 0,.slice none 0 0] 47);have xG:w.heap.size<=wc1.heap.size:=hB.size
    try have daG:TT<=wc1.heap.size:=sT
    generalize wc1.alloc (Obj.cells #[.int .i64 0,.slice none 0 0] 47)=wc2 at hbn mG ⊢;obtain⟨G,hG⟩:∃ G,G=wc1.heap.size:=⟨_,rfl⟩;rw[<- hG] at mG xG ⊢
    try rw[<- hG] at daG
    clear hG;have hBn:Below w.heap.size w wc2:=hB.trans (hbn.mono hB.size);refine otN hK (hSof _ hBn) ?_;replace hS:=hSof _ hBn;clear hK;replace hVA:=hVA.keeps (Keeps.below hbn);replace hB:=hBn;clear hBn hbn;refine stN 8 (fun K hK=>?_);go_simp;refine(hcol wc2 va vc hB hVA).mono ?_;rintro e wc3 ⟨ga,gc,ua,uc,rfl,hbn,hV,rows,hrows,hO⟩;obtain⟨BB,hBB⟩:∃ BB,BB=wc2.heap.size:=⟨_,rfl⟩
    try have dcG:G<wc2.heap.size:=(Array.getElem?_eq_some_iff.1 mG).1
    try rw[<- hBB] at dcG
    rw[<- hBB] at hO hV;have sB:w.heap.size<=BB:=by rw[hBB];exact hB.size
    clear hBB;obtain⟨TT,hTT⟩:∃ TT,TT=wc3.heap.size:=⟨_,rfl⟩;have thO:=fun b hb=>(hO.blk_le b hb).2
    rw[<- hTT] at thO;have thV:=fun b hb=>(World.ownsRow.lt hV b (mem_vB.1 hb)).2
    rw[<- hTT] at thV;have sT:TT<=wc3.heap.size:=Nat.le_of_eq hTT;clear hTT;have hBn:Below w.heap.size w wc3:=hB.trans (hbn.mono hB.size);refine otN hK (hSof _ hBn) ?_;replace hS:=hSof _ hBn;clear hK;replace hVA:=hVA.keeps (Keeps.below hbn);replace mG:=(hbn.block _ (Array.getElem?_eq_some_iff.1 mG).1).trans mG;replace hB:=hBn;clear hBn hbn;refine tkN 9 hS ?_;refine tkN 10 hS ?_;refine tkN 11 hS ?_
    refine tkN 12 hS ?_;refine stN 14 (fun K hK=>?_);have c0:=cellBlk mG 0;have c1:=cellBlk mG 1;have cf:∀ j,wc3.frozen? ⟨G,j,none⟩=false:=fun j=>by simp[World.frozen?,mG]
    simp at c0 c1;go_simp;have hBn:=two_below hB xG 0 1 (.int .i64 cM) (.slice ga cl.length gc);replace mG:=two_blk mG 0 1 (.int .i64 cM) (.slice ga cl.length gc);replace hO:=hO.at_block (fun b hb=>two_other 0 1 (.int .i64 cM) (.slice ga cl.length gc) (show b≠G by have hq1:=thO b hb;have hq2:=(hO.blk_le b hb).1;omega));replace hV:=ownsRow_at_block hV (fun b hb=>two_other 0 1 (.int .i64 cM) (.slice ga cl.length gc) (show b≠G by have hq1:=thV b hb;have hq2:=(World.ownsRow.lt hV b (mem_vB.1 hb)).1;omega))
    clear c0 c1 cf;generalize (wc3.setCell ⟨G,0,none⟩ (.int .i64 cM)).setCell ⟨G,1,none⟩ (.slice ga cl.length gc)=wc4 at *;refine otN hK (hSof _ hBn) ?_;replace hS:=hSof _ hBn;clear hK;replace hB:=hBn;clear hBn;refine tkN 15 hS ?_;refine tkN 16 hS ?_;refine dnN ?_
    go_wp2_with fail
    go_meet
    case rel=>exact⟨G,ga,gc,ua,uc,BB,rows,rfl,rfl,rfl,hB,xG,mG,sB,hrows,hO,hV⟩
  ·go_simp
   have hbn:=below_box wc0 (Obj.cells #[.int .i64 0,.slice none 0 0] 47);have mG:=Deep.blk_alloc_new wc0 (Obj.cells #[.int .i64 0,.slice none 0 0] 47);have xG:w.heap.size<=wc0.heap.size:=hB.size
   try have daG:TT<=wc0.heap.size:=sT
   generalize wc0.alloc (Obj.cells #[.int .i64 0,.slice none 0 0] 47)=wc1 at hbn mG ⊢;obtain⟨G,hG⟩:∃ G,G=wc0.heap.size:=⟨_,rfl⟩;rw[<- hG] at mG xG ⊢
   try rw[<- hG] at daG
   clear hG;have hBn:Below w.heap.size w wc1:=hB.trans (hbn.mono hB.size);refine otN hK (hSof _ hBn) ?_;replace hS:=hSof _ hBn;clear hK;replace hB:=hBn;clear hBn hbn;refine stN 7 (fun K hK=>?_);go_simp;refine(hrt wc1 hB).mono ?_;rintro e wc2 ⟨va,vc,rfl,hVA,hbn⟩;have hBn:Below w.heap.size w wc2:=hB.trans (hbn.mono hB.size);refine otN hK (hSof _ hBn) ?_;replace hS:=hSof _ hBn;clear hK;replace mG:=(hbn.block _ (Array.getElem?_eq_some_iff.1 mG).1).trans mG
   replace hB:=hBn;clear hBn hbn;refine stN 8 (fun K hK=>?_);go_simp;refine(hcol wc2 va vc hB hVA).mono ?_;rintro e wc3 ⟨ga,gc,ua,uc,rfl,hbn,hV,rows,hrows,hO⟩;obtain⟨BB,hBB⟩:∃ BB,BB=wc2.heap.size:=⟨_,rfl⟩
   try have dcG:G<wc2.heap.size:=(Array.getElem?_eq_some_iff.1 mG).1
   try rw[<- hBB] at dcG
   rw[<- hBB] at hO hV;have sB:w.heap.size<=BB:=by rw[hBB];exact hB.size
   clear hBB;obtain⟨TT,hTT⟩:∃ TT,TT=wc3.heap.size:=⟨_,rfl⟩;have thO:=fun b hb=>(hO.blk_le b hb).2
   rw[<- hTT] at thO;have thV:=fun b hb=>(World.ownsRow.lt hV b (mem_vB.1 hb)).2
   rw[<- hTT] at thV;have sT:TT<=wc3.heap.size:=Nat.le_of_eq hTT;clear hTT;have hBn:Below w.heap.size w wc3:=hB.trans (hbn.mono hB.size);refine otN hK (hSof _ hBn) ?_;replace hS:=hSof _ hBn;clear hK;replace mG:=(hbn.block _ (Array.getElem?_eq_some_iff.1 mG).1).trans mG;replace hVA:=hVA.keeps (Keeps.below hbn);replace hB:=hBn;clear hBn hbn;refine tkN 9 hS ?_;refine tkN 10 hS ?_;refine tkN 11 hS ?_;refine tkN 12 hS ?_
   refine stN 14 (fun K hK=>?_);have c0:=cellBlk mG 0;have c1:=cellBlk mG 1;have cf:∀ j,wc3.frozen? ⟨G,j,none⟩=false:=fun j=>by simp[World.frozen?,mG]
   simp at c0 c1;go_simp;have hBn:=two_below hB xG 0 1 (.int .i64 cM) (.slice ga cl.length gc);replace mG:=two_blk mG 0 1 (.int .i64 cM) (.slice ga cl.length gc);replace hO:=hO.at_block (fun b hb=>two_other 0 1 (.int .i64 cM) (.slice ga cl.length gc) (show b≠G by have hq1:=thO b hb;have hq2:=(hO.blk_le b hb).1;omega));replace hV:=ownsRow_at_block hV (fun b hb=>two_other 0 1 (.int .i64 cM) (.slice ga cl.length gc) (show b≠G by have hq1:=thV b hb;have hq2:=(World.ownsRow.lt hV b (mem_vB.1 hb)).1;omega))
   clear c0 c1 cf;generalize (wc3.setCell ⟨G,0,none⟩ (.int .i64 cM)).setCell ⟨G,1,none⟩ (.slice ga cl.length gc)=wc4 at *;refine otN hK (hSof _ hBn) ?_;replace hS:=hSof _ hBn;clear hK;replace hB:=hBn;clear hBn;refine tkN 15 hS ?_;refine tkN 16 hS ?_;refine dnN ?_
   go_wp2_with fail
   go_meet
   case rel=>exact⟨G,ga,gc,ua,uc,BB,rows,rfl,rfl,rfl,hB,xG,mG,sB,hrows,hO,hV⟩
 case rest =>
  obtain⟨G,ga,gc,ua,uc,BB,rows,rfl,rfl,rfl,hBc,xG,mG,sB,hrows,hO,hV⟩:=hcut;have HB:Aside (Below w.heap.size w wc):=hBc;have G0:wc.cell? ⟨G,0,none⟩=some (.int .i64 cM):=cell_blk mG 0;have G1:wc.cell? ⟨G,1,none⟩=some (.slice ga cl.length gc):=cell_blk mG 1;have d2:=Keeps.below hBc _ _ k2;have d3:=Keeps.below hBc _ _ k3;have kfw:∀ i,wc.frozen? ⟨g,i,none⟩=false:=fun i=>(hBc.frozen (by simpa using hgl)).trans (kfg i)
  clear hSof hrt hcol k0 k1 k2 k3 k5 k7 mG hBc kfg
  by_cases hce:ce=0
  rotate_left
  ·have q0:(ce != 0)=true:=by simp[hce]
   have hRK:RC=x:=by rw[HCL.out,if_neg hce]
   subst hRK;clear k4 k6;go_wp2
   exact bodyPost_ret (v:=.tuple #[]) (by simp[results,Tryz.results50,go_sem]) rfl ⟨rfl,_,_,HW.out.same hx HB.out,HM.out _ HB.out⟩
  subst hce;have HLN:Aside (cm.length=8+XB):=HLEN.out rfl;have hl8:8<=cm.length:=by have:=HLN.out;omega
  have hRK:RC={ x with M:=cM,obs:=cl,regs:=cm.take x.regs.length,box:=cm.drop x.regs.length }:=by rw[HCL.out,if_pos rfl]
  rw[h8] at hRK;have HRK:Aside (RC={ x with M:=cM,obs:=cl,regs:=cm.take 8,box:=cm.drop 8 }):=hRK;clear hRK HLEN HCL;have hz:=HW.out.newHeap HB.out hfa hr hx HAV.out (M:=cM) hrows rfl hO sB;have hblk:∀ b∈vB (.slice ua cm.length uc),w.heap.size<=b:=fun b hb=>Nat.le_trans sB (World.ownsRow.lt hV b (mem_vB.1 hb)).1
  have hV1:ValsOwn ((wc.setCell ⟨g,j*8+2,none⟩ (.int .i64 cM)).setCell ⟨g,j*8+3,none⟩ (.slice ga cl.length gc)) BB (.slice ua cm.length uc) cm:=ownsRow_at_block hV (fun b hb=>two_other _ _ _ _ (by have:=hblk b hb;omega))
  go_upto_region 3 with fail
  clear hO hrows hV d2 d3 kfw G0 G1;generalize (wc.setCell ⟨g,j*8+2,none⟩ (.int .i64 cM)).setCell ⟨g,j*8+3,none⟩ (.slice ga cl.length gc)=W3 at *;obtain⟨hz1,hzM⟩:=hz;have hjl:j<fl.length:=(List.getElem?_eq_some_iff.1 hfa).1;have hjr:j<rs.length:=(List.getElem?_eq_some_iff.1 hr).1;have hjv:j<V.acts.length:=(List.getElem?_eq_some_iff.1 hx).1;have hfa1:(fl.set j { fa with M:=cM,oa:=ga,on:=cl.length,oc:=gc })[j]?=some { fa with M:=cM,oa:=ga,on:=cl.length,oc:=gc }:=by rw[List.getElem?_set,if_pos rfl,if_pos hjl]
  have hr1:(rs.set j rows)[j]?=some rows:=by rw[List.getElem?_set,if_pos rfl,if_pos hjr]
  have hx1:(V.acts.set j (x.heap cM cl))[j]?=some (x.heap cM cl):=by rw[List.getElem?_set,if_pos rfl,if_pos hjv]
  have hA1:=hz1.each j _ _ _ hfa1 hr1 hx1;have hreg:=hA1.regs;simp only[Ac.heap] at hreg;have hrn8:fa.rn=8:=HA.out.rn.trans h8;have hbnX:fa.bn=XB:=HA.out.bn.trans HXB.out;have k4':=hz1.cell hfa1 HAV.out (k:=4) rfl;have k6':=hz1.cell hfa1 HAV.out (k:=6) rfl;rw[hrn8] at hreg;have hregin:∀ b∈vB (.slice fa.ra 8 fa.rc),b<w.heap.size:=fun b hb=>HW.out.blk_lt b (List.mem_append_right _ (mem_actsFoot hfa hr (List.mem_append_right _ (List.mem_append_left _ (by rw[hrn8];exact hb)))))
  simp only[hrn8,hbnX] at k4' k6';have hreg2:SeqOwn fVl 2 66 W3 base (.slice fa.ra x.regs.length fa.rc) x.regs:=by rw[h8];exact hreg
  obtain⟨W4,hrun,hwr,hown⟩:=copy_own hreg2 hV1.vals.2 (by omega) uc 3;rw[h8] at hrun hwr hown;have hz2:=hz1.inRegs hfa1 hr1 hx1 (by simp only[hrn8];exact hwr) (l:=cm.take 8) (by simp only[hrn8];exact hown) (by simp only[Ac.heap,List.length_take];omega);have hV2:ValsOwn W4 BB (.slice ua cm.length uc) cm:=ownsRow_at_block hV1 (fun b hb=>hwr.other b (fun hb'=>by have:=hblk b hb;have:=hregin b hb';omega))
  clear hwr hown hreg hreg2 hA1;obtain⟨hz2,hzN⟩:=hz2;simp only[List.set_set] at hz2;replace hzM:=hzM.trans hzN;clear hzN;have k6'':=hz2.cell hfa1 HAV.out (k:=6) rfl;simp only[hbnX] at k6'';obtain⟨U,cu,eU,hcu⟩:∃ U cu,(Value.slice ua cm.length uc)=.slice (some ⟨U,0,none⟩) cm.length cu/\cm.length<=cu:=by
   rcases hV2.2 with⟨_,h0⟩ | ⟨U,cu,_,e,_,_,h1,_⟩
   ·omega
   ·exact⟨U,cu,e,h1⟩
  simp only[Value.slice.injEq] at eU;obtain⟨rfl,_,rfl⟩:=eU;have HALL:Aside (ValsAt W4 (some ⟨U,0,none⟩) cm):=hV2.vals.2;clear hV1 hV2 hblk hregin
  go_upto_region 4 with fail
  have hbx:=(hz2.each j _ _ _ hfa1 hr1 (by rw[List.getElem?_set,if_pos rfl,if_pos hjv])).box;simp only[hbnX] at hbx;have hBd:Below W4.heap.size W4 W4.drew:=(Below.refl _ _).drew;have hbx2:SeqOwn fVl 2 66 W4.drew base (.slice fa.ba x.box.length fa.bc) x.box:=by rw[HXB.out];exact ownsRow_at_block hbx (fun b _=>rfl)
  have hdl:(cm.drop 8).length=XB:=by rw[List.length_drop,HLN.out];omega
  have HV8:Aside (ValsAt W4.drew (some ⟨U,16,none⟩) (cm.drop 8)):=fun i v hi=>by
   rw[List.getElem?_drop] at hi;obtain⟨b,o,e,q1,q2⟩:=HALL.out _ _ hi;simp only[Option.some.injEq,Addr.mk.injEq,and_true] at e;obtain⟨rfl,rfl⟩:=e;refine⟨U,16,rfl,?_,?_⟩
   ·rw[show 16+i*2=0+(8+i)*2 by omega];exact q1
   ·rw[show 16+i*2+1=0+(8+i)*2+1 by omega];exact q2
  obtain⟨A,hAeq,hVA⟩:∃ A:Addr,(if uc=8 then (some ⟨U,0,none⟩:Option Addr) else some ⟨U,16,none⟩)=some A/\ValsAt W4.drew (some A) (cm.drop 8):=by
   by_cases huc:uc=8
   ·have h0:cm.drop 8=[]:=by apply List.eq_nil_of_length_eq_zero;rw[List.length_drop];omega
    exact⟨⟨U,0,none⟩,by rw[if_pos huc],by rw[h0];intro i v hi;simp at hi⟩
   ·exact⟨⟨U,16,none⟩,by rw[if_neg huc],HV8.out⟩
  obtain⟨W5,hrun5,hwr5,hown5⟩:=copy_own hbx2 hVA (by rw[hdl,HXB.out];omega) (uc-8) 3;rw[HXB.out,hdl] at hrun5;rw[HXB.out] at hwr5 hown5;have hzd:WdOwn W4.drew base Bw _ av pv _ _:=hz2.below hBd;have hz5:=hzd.inBox hfa1 hr1 (by rw[List.getElem?_set,if_pos rfl,if_pos hjv]) (by simp only[hbnX];exact hwr5) (l:=(cm.drop 8).take XB) (by simp only[hbnX];exact hown5) (by simp only[Ac.heap,List.length_take,hdl,HXB.out];omega)
  have HZ:Aside (∃ fl' rs',WdOwn W5 base Bw { V with acts:=V.acts.set j RC } av pv fl' rs'/\Moved w W5 (wdFoot Bw av pv fl rs) (wdFoot Bw av pv fl' rs')):=by
   have e:(cm.drop 8).take XB=cm.drop 8:=List.take_of_length_le (by omega);obtain⟨a1,a2⟩:=hz5;simp only[List.set_set] at a1;rw[e] at a1;refine⟨_,_,?_,hzM.trans ((Moved.of_below hBd).trans a2)⟩;rw[HRK.out];exact a1
  have hl9:cm.length-8=XB:=by rw[HLN.out];omega
  rw[<- hl9] at hrun5;have HRUN:Aside ((Builtin.copy_ #[48,48] 3 #[.slice fa.ba XB fa.bc,.slice (some A) (cm.length-8) (uc-8)]).run Tryz.prog W4.drew=.ok (goInt XB) W5):=by
   show _=_
   rw[hl9] at hrun5 ⊢;exact hrun5
  have hS0:=Keeps.below hBd _ _ k6'';have hu8:8<=uc:=by omega
  have hz8:(8:Int)<=(cm.length:Int):=by omega
  clear hz5 hzd hrun5 hwr5 hown5 hVA HV8 hdl hl9 hbx hbx2 hz2 hz1 hzM hfa1 hr1 hx1 HALL HW HM HA HRK;refine wp_region_need (fun j=>j != 7) (fun w2=>w2.cell? ⟨g,j*8+6,none⟩=some (.slice fa.ba XB fa.bc)) (by kernel_rfl) hS0 (fun hS=>?_);clear hS0;refine tkN 0 hS ?_;refine tkN 1 hS ?_;refine tkN 2 hS ?_;refine tkN 3 hS ?_;refine tkN 4 hS ?_;refine tkN 5 hS ?_;refine tkN 6 hS ?_;refine wpAnyN_one (i:=7) (by kernel_rfl) rfl (fun K hK=>?_)
  refine step_copy (by rfl) _ _ _ _ (by rfl) (.slice fa.ba XB fa.bc) (.slice (some A) (cm.length-8) (uc-8)) (by rfl) (by rfl) _ _ HRUN.out ?_;refine laN hK ?_;clear hK;go_wp2
  go_end0
  exact⟨rfl,HZ.out⟩
end Go.Proofs.YtepifccbbmdfcaaGreatDoor
