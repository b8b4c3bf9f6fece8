/- ASpawn. -/
import Derived.Test.YtepifccbbmdfcaaGreatDoorCBWOwn7
import Derived.Test.YtepifccbbmdfcaaGreatDoorCBWNew
namespace Go.Proofs.YtepifccbbmdfcaaGreatDoor
set_option maxRecDepth 100000
set_option maxHeartbeats 8000000
open Go.RowKit
theorem regs_new {w:World} {base g:Nat} {k n:Int} (hb:base<=g) (h:w.heap[g]?=some (.cells #[.int .i64 k,.int .i64 n,.int .i64 0,.int .i64 0,.int .i64 0,.int .i64 0,.int .i64 0,.int .i64 0,.int .i64 0,.int .i64 0,.int .i64 0,.int .i64 0,.int .i64 0,.int .i64 0,.int .i64 0,.int .i64 0] 66)) :
  SeqOwn fVl 2 66 w base (.slice (some ⟨g,0,none⟩) 8 8) [⟨k,n⟩,nilV,nilV,nilV,nilV,nilV,nilV,nilV] :=
 ⟨rfl,.inr ⟨g,8,_,rfl,hb,h,by simp,by decide,rfl,rfl⟩⟩
theorem spawn_any (who:Nat) (op a b n:Int) (w:World) {base Bw:Nat} {V:Wd} {av pv:Value} {fl:List Fa} {rs:List (List (Value × Ob))} (h:WdOwn w base Bw V av pv fl rs) (hsh:Shp V) {x:Ac} (hx:V.acts[who]?=some x) (ha:0<=a/\a<=7) (hb:0<=b/\b<=7) (hVL:V.acts.length<=8) :
  Calls Tryz.prog 115 #[.pointer (some ⟨Bw,0,none⟩),.int .i64 who,.agg #[.int .i64 op,.int .i64 a,.int .i64 b,.int .i64 n]] w fun e w'=>e=.returned (.int .i64 (spawnS V who ⟨op,a,b,n⟩).2)/\∃ av' pv' fl' rs',WdOwn w' base Bw (spawnS V who ⟨op,a,b,n⟩).1 av' pv' fl' rs'/\Moved w w' (wdFoot Bw av pv fl rs) (wdFoot Bw av' pv' fl' rs'):=by
 obtain⟨h8,h6⟩:=hsh who x hx;obtain⟨qa,va,rfl,hqa,hva,era⟩:=reg_of ha h8;obtain⟨qb,vb,rfl,hqb,hvb,erb⟩:=reg_of hb h8;obtain⟨fa0,r0,g,c,hfa0,hr0,hA0,hav⟩:=h.at hx;have HAV:Aside (av=.slice (some ⟨g,0,none⟩) V.acts.length c):=hav;have hwl:=(List.getElem?_eq_some_iff.1 hx).1;have hwz:(who:Int)<(V.acts.length:Int):=by omega
 obtain⟨N0,_,b1,s1⟩:=boxes1 w (.cells #[.int .i64 op,.int .i64 qa,.int .i64 qb,.int .i64 n] 43);have h1:=h.below b1;have c0:=h1.bw.1;rw[hav] at c0;obtain⟨R,_,_,rc,_,_,_,k4,kq,_,_,_,hrc⟩:=h1.regAt hav hx h8;obtain⟨oa,oc,_,_,_,_,_,k2,k3,hO⟩:=h1.heapAt hav hx;obtain⟨rb1,rb2⟩:=kq qb _ hvb;clear hrc;have HS:Aside (spawnS V who ⟨op,qa,qb,n⟩=if vb.k≠2 then (V,8) else if 8<=V.acts.length then (V,6) else if (transferS x.M x.obs vb x.M [] true).e≠0 then (V,8) else (⟨V.acts.set who (((x.heap (transferS x.M x.obs vb x.M [] true).M1 (transferS x.M x.obs vb x.M [] true).o1).put qb nilV).put qa (numV V.acts.length))++[beginS n who (transferS x.M x.obs vb x.M [] true).M2 (transferS x.M x.obs vb x.M [] true).o2 (transferS x.M x.obs vb x.M [] true).v],V.prints⟩,0)):=by
  show spawnS V who ⟨op,qa,qb,n⟩=_
  unfold spawnS
  rw[at_of hx,erb]
  rfl
 generalize spawnS V who ⟨op,qa,qb,n⟩=RS at *;obtain⟨yk,yn⟩:=vb;simp only at rb1 rb2 HS;have htr:∀ w',Below _ _ w'->Calls Tryz.prog 156 #[.agg #[.int .i64 x.M,.slice oa x.obs.length oc],.agg #[.int .i64 yk,.int .i64 yn],.agg #[.int .i64 x.M,.slice none 0 0],.bool true] w' _:=fun w' hb=>transfer_any2 x.M oa oc x.obs yk yn x.M none 0 [] true w' (hO.keeps (Keeps.below hb)) ⟨fun i o hi=>by simp at hi,by simp⟩
 generalize hTE:transferS x.M x.obs ⟨yk,yn⟩ x.M [] true=T at *;clear hTE;obtain⟨tM1,to1,tM2,to2,⟨tk,tn⟩,te⟩:=T;simp only at htr HS;have HW:Aside (WdOwn w base Bw V av pv fl rs):=h;have HSH:Aside (Shp V):=hsh;have hza:(qa:Int)<8:=by omega
 have hzb:(qb:Int)<8:=by omega
 have hgl:g<w.heap.size:=(World.ownsRow.lt h.acts g (by rw[hav];rfl)).2;have hlt:∀ b∈wdFoot Bw av pv fl rs,b<w.heap.size:=fun b hb=>h.blk_lt b hb
 generalize x.M=xM at *;generalize x.obs.length=xL at *;clear h h1 hA0 hfa0 hr0 hav kq era erb hO hsh;generalize hVLe:V.acts.length=VL at *;have HVL:Aside (V.acts.length=VL):=hVLe;clear hVLe
 go_enter Tryz.func115,Tryz.ntmps115
 go_upto_region 1 with fail
 generalize w.alloc (.cells #[.int .i64 op,.int .i64 qa,.int .i64 qb,.int .i64 n] 43)=W at *;have d2:W.cell? ⟨w.heap.size,2,none⟩=some (.int .i64 qb):=cell_blk N0 2
 go_upto_region 2 with fail
 have hSof:∀ w',Below W.heap.size W w'->(w'.cell? ⟨w.heap.size,2,none⟩=some (.int .i64 qb)/\w'.cell? ⟨g,who*8+2,none⟩=some (.int .i64 xM)/\w'.cell? ⟨g,who*8+3,none⟩=some (.slice oa xL oc)/\w'.cell? ⟨g,who*8+4,none⟩=some (.slice (some ⟨R,0,none⟩) 8 rc)/\w'.cell? ⟨R,qb*2,none⟩=some (.int .i64 yk)/\w'.cell? ⟨R,qb*2+1,none⟩=some (.int .i64 yn)):=fun w' hb'=>⟨Keeps.below hb' _ _ d2,Keeps.below hb' _ _ k2,Keeps.below hb' _ _ k3,Keeps.below hb' _ _ k4,Keeps.below hb' _ _ rb1,Keeps.below hb' _ _ rb2⟩
 have hB:Below W.heap.size W W.drew:=(Below.refl _ _).drew;refine wp_region_need (fun _=>true) (fun w'=>w'.cell? ⟨w.heap.size,2,none⟩=some (.int .i64 qb)/\w'.cell? ⟨g,who*8+2,none⟩=some (.int .i64 xM)/\w'.cell? ⟨g,who*8+3,none⟩=some (.slice oa xL oc)/\w'.cell? ⟨g,who*8+4,none⟩=some (.slice (some ⟨R,0,none⟩) 8 rc)/\w'.cell? ⟨R,qb*2,none⟩=some (.int .i64 yk)/\w'.cell? ⟨R,qb*2+1,none⟩=some (.int .i64 yn)) (by kernel_rfl) (hSof _ hB) (fun hS=>?_)
 generalize W.drew=wn at hS hB ⊢;refine tkN 0 hS ?_;refine tkN 1 hS ?_;refine tkN 2 hS ?_;refine tkN 3 hS ?_;refine tkN 4 hS ?_;refine tkN 5 hS ?_;refine tkN 6 hS ?_;refine tkN 7 hS ?_;refine stN 8 (fun K hK=>?_);go_simp;refine(isNoObject_any yk yn wn).mono ?_;rintro e w2 ⟨rfl,hb2⟩;have hB2:Below W.heap.size W w2:=hB.trans (hb2.mono hB.size);have hS2:=hSof w2 hB2;refine otN hK (hS2) ?_;clear hK;replace hS:=hS2
 refine dnN ?_;have hBw2:=b1.trans (hB2.mono b1.size)
 by_cases hyk:yk=2
 rotate_left
 ·have e1:(yk != 2)=true:=by simp[hyk]
  have hRS:RS=(V,8):=by rw[HS.out,if_pos hyk]
  subst hRS;go_wp2
  go_ret
  exact⟨rfl,_,_,_,_,HW.out.below hBw2,Moved.of_below hBw2⟩
 subst hyk;have e1:((2:Int) != 2)=false:=rfl;replace c0:=Keeps.below hB2 _ _ c0
 by_cases h9:8<=VL
 ·have h9z:(8:Int)<=(VL:Int):=by omega
  have hRS:RS=(V,6):=by rw[HS.out,if_neg (by simp),if_pos h9]
  subst hRS;go_wp2
  go_ret
  exact⟨rfl,_,_,_,_,HW.out.below hBw2,Moved.of_below hBw2⟩
 have h9z:¬ (8:Int)<=(VL:Int):=by omega
 have HR3:Aside (RS=if te≠0 then (V,8) else (⟨V.acts.set who (((x.heap tM1 to1).put qb nilV).put qa (numV VL))++[beginS n who tM2 to2 ⟨tk,tn⟩],V.prints⟩,0)):=by
  show RS=_
  rw[HS.out,if_neg (by simp),if_neg h9]
 clear HS;have htr2:∀ w',Below w2.heap.size w2 w'->Calls Tryz.prog 156 _ w' _:=fun w' hb=>htr w' (hB2.trans (hb.mono hB2.size))
 replace hSof:=fun w' (hb:Below w2.heap.size w2 w')=>hSof w' (hB2.trans (hb.mono hB2.size))
 replace N0:=(hB2.block _ (by omega)).trans N0;clear hS hS2 hb2 hB htr k2 k3 k4 rb1 rb2 d2
 go_upto_region 6 with fail
 simp only[show((2:Int) != 2)=false from rfl]
 go_cut [8,9,10,11] (fun s8 s9 s10 s11 wc=>∃ G1 G2 G3 fa1 fc1 ta1 tc1 BB rows1 rows2,s8=.pointer (some ⟨G1,0,none⟩)/\s9=.pointer (some ⟨G2,0,none⟩)/\s10=.pointer (some ⟨G3,0,none⟩)/\s11=.int .i64 te/\Below w2.heap.size w2 wc/\w2.heap.size<=G1/\w2.heap.size<=G2/\w2.heap.size<=G3/\wc.heap[G1]?=some (.cells #[.int .i64 tM1,.slice fa1 to1.length fc1] 47 (0,0))/\wc.heap[G2]?=some (.cells #[.int .i64 tM2,.slice ta1 to2.length tc1] 47 (0,0))/\wc.heap[G3]?=some (.cells #[.int .i64 tk,.int .i64 tn] 66 (0,0))/\w2.heap.size<=BB/\rows1.map (·.2)=to1/\rows2.map (·.2)=to2/\HeapOwn wc BB (.slice fa1 to1.length fc1) rows1/\HeapOwn wc BB (.slice ta1 to2.length tc1) rows2/\HeapsApart (.slice fa1 to1.length fc1) rows1 (.slice ta1 to2.length tc1) rows2/\(∀ b∈vB (.slice fa1 to1.length fc1)++rowsB rows1,b≠G2/\b≠G3))
 case first =>
  have hB:Below w2.heap.size w2 w2.drew:=(Below.refl _ _).drew;refine wp_region_need (fun _=>true) (fun w'=>w'.cell? ⟨w.heap.size,2,none⟩=some (.int .i64 qb)/\w'.cell? ⟨g,who*8+2,none⟩=some (.int .i64 xM)/\w'.cell? ⟨g,who*8+3,none⟩=some (.slice oa xL oc)/\w'.cell? ⟨g,who*8+4,none⟩=some (.slice (some ⟨R,0,none⟩) 8 rc)/\w'.cell? ⟨R,qb*2,none⟩=some (.int .i64 2)/\w'.cell? ⟨R,qb*2+1,none⟩=some (.int .i64 yn)) (by kernel_rfl) (hSof _ hB) (fun hS=>?_)
  generalize w2.drew=wc0 at hS hB  ⊢;refine tkN 0 hS ?_;refine tkN 1 hS ?_;refine tkN 2 hS ?_;refine tkN 3 hS ?_;refine tkN 4 hS ?_;refine tkN 5 hS ?_;refine tkN 6 hS ?_;refine tkN 7 hS ?_;refine tkN 8 hS ?_;refine tkN 9 hS ?_;refine tkN 10 hS ?_;refine tkN 11 hS ?_;refine tkN 12 hS ?_;refine tkN 13 hS ?_;refine tkN 14 hS ?_;refine tkN 15 hS ?_;refine tkN 16 hS ?_;refine tkN 17 hS ?_;have hF:Tx w2 wc0 (Obj.cells #[.int .i64 0,.slice none 0 0] 47) (Obj.cells #[.int .i64 0,.slice none 0 0] 47) (Obj.cells #[.int .i64 0,.int .i64 0] 66) none none none none:=Tx.start hB
  clear hS hB;refine jnN 4 [18,19,20,21,22,23,24,25,26] (fun vs wc=>∃ G1 G2 G3 BB TT fa1 fc1 ta1 tc1 rows1 rows2,vs=[(52,.tuple #[.agg #[.int .i64 tM1,.slice fa1 to1.length fc1],.agg #[.int .i64 tM2,.slice ta1 to2.length tc1],.agg #[.int .i64 tk,.int .i64 tn],.int .i64 te]),(33,.tuple #[.agg #[.int .i64 tM1,.slice fa1 to1.length fc1],.agg #[.int .i64 tM2,.slice ta1 to2.length tc1],.agg #[.int .i64 tk,.int .i64 tn],.int .i64 te]),(53,.agg #[.int .i64 tM1,.slice fa1 to1.length fc1]),(54,.agg #[.int .i64 tM2,.slice ta1 to2.length tc1]),(55,.agg #[.int .i64 tk,.int .i64 tn]),(56,.int .i64 te),(8,.pointer (some ⟨G1,0,none⟩)),(9,.pointer (some ⟨G2,0,none⟩)),(10,.pointer (some ⟨G3,0,none⟩))]/\Tx w2 wc (Obj.cells #[.int .i64 0,.slice none 0 0] 47) (Obj.cells #[.int .i64 0,.slice none 0 0] 47) (Obj.cells #[.int .i64 0,.int .i64 0] 66) (some G1) (some G2) (some G3) (some (BB,TT,((.slice fa1 to1.length fc1),rows1),((.slice ta1 to2.length tc1),rows2)))/\rows1.map (·.2)=to1/\rows2.map (·.2)=to2/\HeapsApart (.slice fa1 to1.length fc1) rows1 (.slice ta1 to2.length tc1) rows2) ?_ (fun hJ=>?_)
  ·clear hF
   rintro _ wc0 ⟨G1,G2,G3,BB,TT,fa1,fc1,ta1,tc1,rows1,rows2,rfl,hF,hr1,hr2,hap⟩;obtain⟨hB,⟨xG1,mG1,qG1⟩,⟨xG2,mG2,qG2⟩,⟨xG3,mG3,qG3⟩,⟨nG1G2,nG1G3,nG2G3⟩,sB,hO1,hO2,thO1,thO2⟩:=hF.out;clear hF;have hS:=hSof _ hB;simp only[puts,Act.put,List.setIfInBounds_toArray,List.set_cons_zero,List.set_cons_succ];refine stN 27 (fun K hK=>?_);have c0:=cellBlk mG1 0;have c1:=cellBlk mG1 1;have cf:∀ j,wc0.frozen? ⟨G1,j,none⟩=false:=fun j=>by simp[World.frozen?,mG1]
   simp at c0 c1;go_simp;have hBn:=two_below hB xG1 0 1 (.int .i64 tM1) (.slice fa1 to1.length fc1);replace mG1:=two_blk mG1 0 1 (.int .i64 tM1) (.slice fa1 to1.length fc1)
   try replace mG2:=(two_other 0 1 (.int .i64 tM1) (.slice fa1 to1.length fc1) (show G2≠G1 by omega)).trans mG2
   try replace mG3:=(two_other 0 1 (.int .i64 tM1) (.slice fa1 to1.length fc1) (show G3≠G1 by omega)).trans mG3
   replace hO1:=hO1.at_block (fun b hb=>two_other 0 1 (.int .i64 tM1) (.slice fa1 to1.length fc1) (show b≠G1 by have hq1:=thO1 b hb;have hq2:=(hO1.blk_le b hb).1;omega));replace hO2:=hO2.at_block (fun b hb=>two_other 0 1 (.int .i64 tM1) (.slice fa1 to1.length fc1) (show b≠G1 by have hq1:=thO2 b hb;have hq2:=(hO2.blk_le b hb).1;omega));clear c0 c1 cf;generalize (wc0.setCell ⟨G1,0,none⟩ (.int .i64 tM1)).setCell ⟨G1,1,none⟩ (.slice fa1 to1.length fc1)=wc1 at *
   refine otN hK (hSof _ hBn) ?_;replace hS:=hSof _ hBn;clear hK;replace hB:=hBn;clear hBn;refine stN 28 (fun K hK=>?_);have c0:=cellBlk mG2 0;have c1:=cellBlk mG2 1;have cf:∀ j,wc1.frozen? ⟨G2,j,none⟩=false:=fun j=>by simp[World.frozen?,mG2]
   simp at c0 c1;go_simp;have hBn:=two_below hB xG2 0 1 (.int .i64 tM2) (.slice ta1 to2.length tc1);replace mG2:=two_blk mG2 0 1 (.int .i64 tM2) (.slice ta1 to2.length tc1)
   try replace mG1:=(two_other 0 1 (.int .i64 tM2) (.slice ta1 to2.length tc1) (show G1≠G2 by omega)).trans mG1
   try replace mG3:=(two_other 0 1 (.int .i64 tM2) (.slice ta1 to2.length tc1) (show G3≠G2 by omega)).trans mG3
   replace hO1:=hO1.at_block (fun b hb=>two_other 0 1 (.int .i64 tM2) (.slice ta1 to2.length tc1) (show b≠G2 by have hq1:=thO1 b hb;have hq2:=(hO1.blk_le b hb).1;omega));replace hO2:=hO2.at_block (fun b hb=>two_other 0 1 (.int .i64 tM2) (.slice ta1 to2.length tc1) (show b≠G2 by have hq1:=thO2 b hb;have hq2:=(hO2.blk_le b hb).1;omega));clear c0 c1 cf;generalize (wc1.setCell ⟨G2,0,none⟩ (.int .i64 tM2)).setCell ⟨G2,1,none⟩ (.slice ta1 to2.length tc1)=wc2 at *
   refine otN hK (hSof _ hBn) ?_;replace hS:=hSof _ hBn;clear hK;replace hB:=hBn;clear hBn;refine stN 29 (fun K hK=>?_);have c0:=cellBlk mG3 0;have c1:=cellBlk mG3 1;have cf:∀ j,wc2.frozen? ⟨G3,j,none⟩=false:=fun j=>by simp[World.frozen?,mG3]
   simp at c0 c1;go_simp;have hBn:=two_below hB xG3 0 1 (.int .i64 tk) (.int .i64 tn);replace mG3:=two_blk mG3 0 1 (.int .i64 tk) (.int .i64 tn)
   try replace mG1:=(two_other 0 1 (.int .i64 tk) (.int .i64 tn) (show G1≠G3 by omega)).trans mG1
   try replace mG2:=(two_other 0 1 (.int .i64 tk) (.int .i64 tn) (show G2≠G3 by omega)).trans mG2
   replace hO1:=hO1.at_block (fun b hb=>two_other 0 1 (.int .i64 tk) (.int .i64 tn) (show b≠G3 by have hq1:=thO1 b hb;have hq2:=(hO1.blk_le b hb).1;omega));replace hO2:=hO2.at_block (fun b hb=>two_other 0 1 (.int .i64 tk) (.int .i64 tn) (show b≠G3 by have hq1:=thO2 b hb;have hq2:=(hO2.blk_le b hb).1;omega));clear c0 c1 cf;generalize (wc2.setCell ⟨G3,0,none⟩ (.int .i64 tk)).setCell ⟨G3,1,none⟩ (.int .i64 tn)=wc3 at *
   refine otN hK (hSof _ hBn) ?_;replace hS:=hSof _ hBn;clear hK;replace hB:=hBn;clear hBn;refine tkN 30 hS ?_;refine dnN ?_
   go_wp2_with fail
   go_meet
   case rel=>exact⟨G1,G2,G3,fa1,fc1,ta1,tc1,BB,rows1,rows2,rfl,rfl,rfl,rfl,hB,xG1,xG2,xG3,mG1,mG2,mG3,sB,hr1,hr2,hO1,hO2,hap,fun b hb=>by have hq1:=thO1 b hb;have hq2:=(hO1.blk_le b hb).1;exact⟨by omega,by omega⟩⟩
  refine foN 18 24 25 26 (fun K hK=>?_) (fun K hK=>?_) (fun K hK=>?_) (fun K hK=>?_)
  ·have hB:=hF.below
   go_simp;refine(htr2 wc0 hB).mono ?_;rintro e wc1 ⟨fa1,fc1,ta1,tc1,rows1,rows2,rfl,hbn,hr1,hr2,hO1,hO2,hap⟩;obtain⟨BB,TT,hF⟩:=hF.call hbn hO1 hO2;clear hB hbn hO1 hO2;refine otN hK (hSof _ hF.below) ?_;clear hK;have hS:=hSof _ hF.below;refine tkN 19 hS ?_;refine tkN 20 hS ?_;refine tkN 21 hS ?_;refine tkN 22 hS ?_;refine tkN 23 hS ?_;clear hS;refine thN 24 25 26 (fun K hK=>?_) (fun K hK=>?_) (fun K hK=>?_)
   ·go_simp
    obtain⟨wc2,G1,e1,e2,hF⟩:=hF.al1;rw[e1,e2];clear e1 e2;refine otN hK (hSof _ hF.below) ?_;clear hK;refine twN 25 26 (fun K hK=>?_) (fun K hK=>?_)
    ·go_simp
     obtain⟨wc3,G2,e1,e2,hF⟩:=hF.al2;rw[e1,e2];clear e1 e2;refine otN hK (hSof _ hF.below) ?_;clear hK;refine stN 26 (fun K hK=>?_);go_simp;obtain⟨wc4,G3,e1,e2,hF⟩:=hF.al3;rw[e1,e2];clear e1 e2;refine otN hK (hSof _ hF.below) ?_;clear hK;exact jmN hJ ⟨G1,G2,G3,BB,TT,fa1,fc1,ta1,tc1,rows1,rows2,rfl,hF,hr1,hr2,hap⟩
    ·go_simp
     obtain⟨wc3,G3,e1,e2,hF⟩:=hF.al3;rw[e1,e2];clear e1 e2;refine otN hK (hSof _ hF.below) ?_;clear hK;refine stN 25 (fun K hK=>?_);go_simp;obtain⟨wc4,G2,e1,e2,hF⟩:=hF.al2;rw[e1,e2];clear e1 e2;refine otN hK (hSof _ hF.below) ?_;clear hK;exact jmN hJ ⟨G1,G2,G3,BB,TT,fa1,fc1,ta1,tc1,rows1,rows2,rfl,hF,hr1,hr2,hap⟩
   ·go_simp
    obtain⟨wc2,G2,e1,e2,hF⟩:=hF.al2;rw[e1,e2];clear e1 e2;refine otN hK (hSof _ hF.below) ?_;clear hK;refine twN 24 26 (fun K hK=>?_) (fun K hK=>?_)
    ·go_simp
     obtain⟨wc3,G1,e1,e2,hF⟩:=hF.al1;rw[e1,e2];clear e1 e2;refine otN hK (hSof _ hF.below) ?_;clear hK;refine stN 26 (fun K hK=>?_);go_simp;obtain⟨wc4,G3,e1,e2,hF⟩:=hF.al3;rw[e1,e2];clear e1 e2;refine otN hK (hSof _ hF.below) ?_;clear hK;exact jmN hJ ⟨G1,G2,G3,BB,TT,fa1,fc1,ta1,tc1,rows1,rows2,rfl,hF,hr1,hr2,hap⟩
    ·go_simp
     obtain⟨wc3,G3,e1,e2,hF⟩:=hF.al3;rw[e1,e2];clear e1 e2;refine otN hK (hSof _ hF.below) ?_;clear hK;refine stN 24 (fun K hK=>?_);go_simp;obtain⟨wc4,G1,e1,e2,hF⟩:=hF.al1;rw[e1,e2];clear e1 e2;refine otN hK (hSof _ hF.below) ?_;clear hK;exact jmN hJ ⟨G1,G2,G3,BB,TT,fa1,fc1,ta1,tc1,rows1,rows2,rfl,hF,hr1,hr2,hap⟩
   ·go_simp
    obtain⟨wc2,G3,e1,e2,hF⟩:=hF.al3;rw[e1,e2];clear e1 e2;refine otN hK (hSof _ hF.below) ?_;clear hK;refine twN 24 25 (fun K hK=>?_) (fun K hK=>?_)
    ·go_simp
     obtain⟨wc3,G1,e1,e2,hF⟩:=hF.al1;rw[e1,e2];clear e1 e2;refine otN hK (hSof _ hF.below) ?_;clear hK;refine stN 25 (fun K hK=>?_);go_simp;obtain⟨wc4,G2,e1,e2,hF⟩:=hF.al2;rw[e1,e2];clear e1 e2;refine otN hK (hSof _ hF.below) ?_;clear hK;exact jmN hJ ⟨G1,G2,G3,BB,TT,fa1,fc1,ta1,tc1,rows1,rows2,rfl,hF,hr1,hr2,hap⟩
    ·go_simp
     obtain⟨wc3,G2,e1,e2,hF⟩:=hF.al2;rw[e1,e2];clear e1 e2;refine otN hK (hSof _ hF.below) ?_;clear hK;refine stN 24 (fun K hK=>?_);go_simp;obtain⟨wc4,G1,e1,e2,hF⟩:=hF.al1;rw[e1,e2];clear e1 e2;refine otN hK (hSof _ hF.below) ?_;clear hK;exact jmN hJ ⟨G1,G2,G3,BB,TT,fa1,fc1,ta1,tc1,rows1,rows2,rfl,hF,hr1,hr2,hap⟩
  ·go_simp
   obtain⟨wc1,G1,e1,e2,hF⟩:=hF.al1;rw[e1,e2];clear e1 e2;refine otN hK (hSof _ hF.below) ?_;clear hK;refine thN 18 25 26 (fun K hK=>?_) (fun K hK=>?_) (fun K hK=>?_)
   ·have hB:=hF.below
    go_simp;refine(htr2 wc1 hB).mono ?_;rintro e wc2 ⟨fa1,fc1,ta1,tc1,rows1,rows2,rfl,hbn,hr1,hr2,hO1,hO2,hap⟩;obtain⟨BB,TT,hF⟩:=hF.call hbn hO1 hO2;clear hB hbn hO1 hO2;refine otN hK (hSof _ hF.below) ?_;clear hK;have hS:=hSof _ hF.below;refine tkN 19 hS ?_;refine tkN 20 hS ?_;refine tkN 21 hS ?_;refine tkN 22 hS ?_;refine tkN 23 hS ?_;clear hS;refine twN 25 26 (fun K hK=>?_) (fun K hK=>?_)
    ·go_simp
     obtain⟨wc3,G2,e1,e2,hF⟩:=hF.al2;rw[e1,e2];clear e1 e2;refine otN hK (hSof _ hF.below) ?_;clear hK;refine stN 26 (fun K hK=>?_);go_simp;obtain⟨wc4,G3,e1,e2,hF⟩:=hF.al3;rw[e1,e2];clear e1 e2;refine otN hK (hSof _ hF.below) ?_;clear hK;exact jmN hJ ⟨G1,G2,G3,BB,TT,fa1,fc1,ta1,tc1,rows1,rows2,rfl,hF,hr1,hr2,hap⟩
    ·go_simp
     obtain⟨wc3,G3,e1,e2,hF⟩:=hF.al3;rw[e1,e2];clear e1 e2;refine otN hK (hSof _ hF.below) ?_;clear hK;refine stN 25 (fun K hK=>?_);go_simp;obtain⟨wc4,G2,e1,e2,hF⟩:=hF.al2;rw[e1,e2];clear e1 e2;refine otN hK (hSof _ hF.below) ?_;clear hK;exact jmN hJ ⟨G1,G2,G3,BB,TT,fa1,fc1,ta1,tc1,rows1,rows2,rfl,hF,hr1,hr2,hap⟩
   ·go_simp
    obtain⟨wc2,G2,e1,e2,hF⟩:=hF.al2;rw[e1,e2];clear e1 e2;refine otN hK (hSof _ hF.below) ?_;clear hK;refine twN 18 26 (fun K hK=>?_) (fun K hK=>?_)
    ·have hB:=hF.below
     go_simp;refine(htr2 wc2 hB).mono ?_;rintro e wc3 ⟨fa1,fc1,ta1,tc1,rows1,rows2,rfl,hbn,hr1,hr2,hO1,hO2,hap⟩;obtain⟨BB,TT,hF⟩:=hF.call hbn hO1 hO2;clear hB hbn hO1 hO2;refine otN hK (hSof _ hF.below) ?_;clear hK;have hS:=hSof _ hF.below;refine tkN 19 hS ?_;refine tkN 20 hS ?_;refine tkN 21 hS ?_;refine tkN 22 hS ?_;refine tkN 23 hS ?_;clear hS;refine stN 26 (fun K hK=>?_);go_simp;obtain⟨wc4,G3,e1,e2,hF⟩:=hF.al3
     rw[e1,e2];clear e1 e2;refine otN hK (hSof _ hF.below) ?_;clear hK;exact jmN hJ ⟨G1,G2,G3,BB,TT,fa1,fc1,ta1,tc1,rows1,rows2,rfl,hF,hr1,hr2,hap⟩
    ·go_simp
     obtain⟨wc3,G3,e1,e2,hF⟩:=hF.al3;rw[e1,e2];clear e1 e2;refine otN hK (hSof _ hF.below) ?_;clear hK;refine stN 18 (fun K hK=>?_);have hB:=hF.below;go_simp;refine(htr2 wc3 hB).mono ?_;rintro e wc4 ⟨fa1,fc1,ta1,tc1,rows1,rows2,rfl,hbn,hr1,hr2,hO1,hO2,hap⟩;obtain⟨BB,TT,hF⟩:=hF.call hbn hO1 hO2;clear hB hbn hO1 hO2;refine otN hK (hSof _ hF.below) ?_;clear hK;have hS:=hSof _ hF.below;refine tkN 19 hS ?_
     refine tkN 20 hS ?_;refine tkN 21 hS ?_;refine tkN 22 hS ?_;refine tkN 23 hS ?_;clear hS;exact jmN hJ ⟨G1,G2,G3,BB,TT,fa1,fc1,ta1,tc1,rows1,rows2,rfl,hF,hr1,hr2,hap⟩
   ·go_simp
    obtain⟨wc2,G3,e1,e2,hF⟩:=hF.al3;rw[e1,e2];clear e1 e2;refine otN hK (hSof _ hF.below) ?_;clear hK;refine twN 18 25 (fun K hK=>?_) (fun K hK=>?_)
    ·have hB:=hF.below
     go_simp;refine(htr2 wc2 hB).mono ?_;rintro e wc3 ⟨fa1,fc1,ta1,tc1,rows1,rows2,rfl,hbn,hr1,hr2,hO1,hO2,hap⟩;obtain⟨BB,TT,hF⟩:=hF.call hbn hO1 hO2;clear hB hbn hO1 hO2;refine otN hK (hSof _ hF.below) ?_;clear hK;have hS:=hSof _ hF.below;refine tkN 19 hS ?_;refine tkN 20 hS ?_;refine tkN 21 hS ?_;refine tkN 22 hS ?_;refine tkN 23 hS ?_;clear hS;refine stN 25 (fun K hK=>?_);go_simp;obtain⟨wc4,G2,e1,e2,hF⟩:=hF.al2
     rw[e1,e2];clear e1 e2;refine otN hK (hSof _ hF.below) ?_;clear hK;exact jmN hJ ⟨G1,G2,G3,BB,TT,fa1,fc1,ta1,tc1,rows1,rows2,rfl,hF,hr1,hr2,hap⟩
    ·go_simp
     obtain⟨wc3,G2,e1,e2,hF⟩:=hF.al2;rw[e1,e2];clear e1 e2;refine otN hK (hSof _ hF.below) ?_;clear hK;refine stN 18 (fun K hK=>?_);have hB:=hF.below;go_simp;refine(htr2 wc3 hB).mono ?_;rintro e wc4 ⟨fa1,fc1,ta1,tc1,rows1,rows2,rfl,hbn,hr1,hr2,hO1,hO2,hap⟩;obtain⟨BB,TT,hF⟩:=hF.call hbn hO1 hO2;clear hB hbn hO1 hO2;refine otN hK (hSof _ hF.below) ?_;clear hK;have hS:=hSof _ hF.below;refine tkN 19 hS ?_
     refine tkN 20 hS ?_;refine tkN 21 hS ?_;refine tkN 22 hS ?_;refine tkN 23 hS ?_;clear hS;exact jmN hJ ⟨G1,G2,G3,BB,TT,fa1,fc1,ta1,tc1,rows1,rows2,rfl,hF,hr1,hr2,hap⟩
  ·go_simp
   obtain⟨wc1,G2,e1,e2,hF⟩:=hF.al2;rw[e1,e2];clear e1 e2;refine otN hK (hSof _ hF.below) ?_;clear hK;refine thN 18 24 26 (fun K hK=>?_) (fun K hK=>?_) (fun K hK=>?_)
   ·have hB:=hF.below
    go_simp;refine(htr2 wc1 hB).mono ?_;rintro e wc2 ⟨fa1,fc1,ta1,tc1,rows1,rows2,rfl,hbn,hr1,hr2,hO1,hO2,hap⟩;obtain⟨BB,TT,hF⟩:=hF.call hbn hO1 hO2;clear hB hbn hO1 hO2;refine otN hK (hSof _ hF.below) ?_;clear hK;have hS:=hSof _ hF.below;refine tkN 19 hS ?_;refine tkN 20 hS ?_;refine tkN 21 hS ?_;refine tkN 22 hS ?_;refine tkN 23 hS ?_;clear hS;refine twN 24 26 (fun K hK=>?_) (fun K hK=>?_)
    ·go_simp
     obtain⟨wc3,G1,e1,e2,hF⟩:=hF.al1;rw[e1,e2];clear e1 e2;refine otN hK (hSof _ hF.below) ?_;clear hK;refine stN 26 (fun K hK=>?_);go_simp;obtain⟨wc4,G3,e1,e2,hF⟩:=hF.al3;rw[e1,e2];clear e1 e2;refine otN hK (hSof _ hF.below) ?_;clear hK;exact jmN hJ ⟨G1,G2,G3,BB,TT,fa1,fc1,ta1,tc1,rows1,rows2,rfl,hF,hr1,hr2,hap⟩
    ·go_simp
     obtain⟨wc3,G3,e1,e2,hF⟩:=hF.al3;rw[e1,e2];clear e1 e2;refine otN hK (hSof _ hF.below) ?_;clear hK;refine stN 24 (fun K hK=>?_);go_simp;obtain⟨wc4,G1,e1,e2,hF⟩:=hF.al1;rw[e1,e2];clear e1 e2;refine otN hK (hSof _ hF.below) ?_;clear hK;exact jmN hJ ⟨G1,G2,G3,BB,TT,fa1,fc1,ta1,tc1,rows1,rows2,rfl,hF,hr1,hr2,hap⟩
   ·go_simp
    obtain⟨wc2,G1,e1,e2,hF⟩:=hF.al1;rw[e1,e2];clear e1 e2;refine otN hK (hSof _ hF.below) ?_;clear hK;refine twN 18 26 (fun K hK=>?_) (fun K hK=>?_)
    ·have hB:=hF.below
     go_simp;refine(htr2 wc2 hB).mono ?_;rintro e wc3 ⟨fa1,fc1,ta1,tc1,rows1,rows2,rfl,hbn,hr1,hr2,hO1,hO2,hap⟩;obtain⟨BB,TT,hF⟩:=hF.call hbn hO1 hO2;clear hB hbn hO1 hO2;refine otN hK (hSof _ hF.below) ?_;clear hK;have hS:=hSof _ hF.below;refine tkN 19 hS ?_;refine tkN 20 hS ?_;refine tkN 21 hS ?_;refine tkN 22 hS ?_;refine tkN 23 hS ?_;clear hS;refine stN 26 (fun K hK=>?_);go_simp;obtain⟨wc4,G3,e1,e2,hF⟩:=hF.al3
     rw[e1,e2];clear e1 e2;refine otN hK (hSof _ hF.below) ?_;clear hK;exact jmN hJ ⟨G1,G2,G3,BB,TT,fa1,fc1,ta1,tc1,rows1,rows2,rfl,hF,hr1,hr2,hap⟩
    ·go_simp
     obtain⟨wc3,G3,e1,e2,hF⟩:=hF.al3;rw[e1,e2];clear e1 e2;refine otN hK (hSof _ hF.below) ?_;clear hK;refine stN 18 (fun K hK=>?_);have hB:=hF.below;go_simp;refine(htr2 wc3 hB).mono ?_;rintro e wc4 ⟨fa1,fc1,ta1,tc1,rows1,rows2,rfl,hbn,hr1,hr2,hO1,hO2,hap⟩;obtain⟨BB,TT,hF⟩:=hF.call hbn hO1 hO2;clear hB hbn hO1 hO2;refine otN hK (hSof _ hF.below) ?_;clear hK;have hS:=hSof _ hF.below;refine tkN 19 hS ?_
     refine tkN 20 hS ?_;refine tkN 21 hS ?_;refine tkN 22 hS ?_;refine tkN 23 hS ?_;clear hS;exact jmN hJ ⟨G1,G2,G3,BB,TT,fa1,fc1,ta1,tc1,rows1,rows2,rfl,hF,hr1,hr2,hap⟩
   ·go_simp
    obtain⟨wc2,G3,e1,e2,hF⟩:=hF.al3;rw[e1,e2];clear e1 e2;refine otN hK (hSof _ hF.below) ?_;clear hK;refine twN 18 24 (fun K hK=>?_) (fun K hK=>?_)
    ·have hB:=hF.below
     go_simp;refine(htr2 wc2 hB).mono ?_;rintro e wc3 ⟨fa1,fc1,ta1,tc1,rows1,rows2,rfl,hbn,hr1,hr2,hO1,hO2,hap⟩;obtain⟨BB,TT,hF⟩:=hF.call hbn hO1 hO2;clear hB hbn hO1 hO2;refine otN hK (hSof _ hF.below) ?_;clear hK;have hS:=hSof _ hF.below;refine tkN 19 hS ?_;refine tkN 20 hS ?_;refine tkN 21 hS ?_;refine tkN 22 hS ?_;refine tkN 23 hS ?_;clear hS;refine stN 24 (fun K hK=>?_);go_simp;obtain⟨wc4,G1,e1,e2,hF⟩:=hF.al1
     rw[e1,e2];clear e1 e2;refine otN hK (hSof _ hF.below) ?_;clear hK;exact jmN hJ ⟨G1,G2,G3,BB,TT,fa1,fc1,ta1,tc1,rows1,rows2,rfl,hF,hr1,hr2,hap⟩
    ·go_simp
     obtain⟨wc3,G1,e1,e2,hF⟩:=hF.al1;rw[e1,e2];clear e1 e2;refine otN hK (hSof _ hF.below) ?_;clear hK;refine stN 18 (fun K hK=>?_);have hB:=hF.below;go_simp;refine(htr2 wc3 hB).mono ?_;rintro e wc4 ⟨fa1,fc1,ta1,tc1,rows1,rows2,rfl,hbn,hr1,hr2,hO1,hO2,hap⟩;obtain⟨BB,TT,hF⟩:=hF.call hbn hO1 hO2;clear hB hbn hO1 hO2;refine otN hK (hSof _ hF.below) ?_;clear hK;have hS:=hSof _ hF.below;refine tkN 19 hS ?_
     refine tkN 20 hS ?_;refine tkN 21 hS ?_;refine tkN 22 hS ?_;refine tkN 23 hS ?_;clear hS;exact jmN hJ ⟨G1,G2,G3,BB,TT,fa1,fc1,ta1,tc1,rows1,rows2,rfl,hF,hr1,hr2,hap⟩
  ·go_simp
   obtain⟨wc1,G3,e1,e2,hF⟩:=hF.al3;rw[e1,e2];clear e1 e2;refine otN hK (hSof _ hF.below) ?_;clear hK;refine thN 18 24 25 (fun K hK=>?_) (fun K hK=>?_) (fun K hK=>?_)
   ·have hB:=hF.below
    go_simp;refine(htr2 wc1 hB).mono ?_;rintro e wc2 ⟨fa1,fc1,ta1,tc1,rows1,rows2,rfl,hbn,hr1,hr2,hO1,hO2,hap⟩;obtain⟨BB,TT,hF⟩:=hF.call hbn hO1 hO2;clear hB hbn hO1 hO2;refine otN hK (hSof _ hF.below) ?_;clear hK;have hS:=hSof _ hF.below;refine tkN 19 hS ?_;refine tkN 20 hS ?_;refine tkN 21 hS ?_;refine tkN 22 hS ?_;refine tkN 23 hS ?_;clear hS;refine twN 24 25 (fun K hK=>?_) (fun K hK=>?_)
    ·go_simp
     obtain⟨wc3,G1,e1,e2,hF⟩:=hF.al1;rw[e1,e2];clear e1 e2;refine otN hK (hSof _ hF.below) ?_;clear hK;refine stN 25 (fun K hK=>?_);go_simp;obtain⟨wc4,G2,e1,e2,hF⟩:=hF.al2;rw[e1,e2];clear e1 e2;refine otN hK (hSof _ hF.below) ?_;clear hK;exact jmN hJ ⟨G1,G2,G3,BB,TT,fa1,fc1,ta1,tc1,rows1,rows2,rfl,hF,hr1,hr2,hap⟩
    ·go_simp
     obtain⟨wc3,G2,e1,e2,hF⟩:=hF.al2;rw[e1,e2];clear e1 e2;refine otN hK (hSof _ hF.below) ?_;clear hK;refine stN 24 (fun K hK=>?_);go_simp;obtain⟨wc4,G1,e1,e2,hF⟩:=hF.al1;rw[e1,e2];clear e1 e2;refine otN hK (hSof _ hF.below) ?_;clear hK;exact jmN hJ ⟨G1,G2,G3,BB,TT,fa1,fc1,ta1,tc1,rows1,rows2,rfl,hF,hr1,hr2,hap⟩
   ·go_simp
    obtain⟨wc2,G1,e1,e2,hF⟩:=hF.al1;rw[e1,e2];clear e1 e2;refine otN hK (hSof _ hF.below) ?_;clear hK;refine twN 18 25 (fun K hK=>?_) (fun K hK=>?_)
    ·have hB:=hF.below
     go_simp;refine(htr2 wc2 hB).mono ?_;rintro e wc3 ⟨fa1,fc1,ta1,tc1,rows1,rows2,rfl,hbn,hr1,hr2,hO1,hO2,hap⟩;obtain⟨BB,TT,hF⟩:=hF.call hbn hO1 hO2;clear hB hbn hO1 hO2;refine otN hK (hSof _ hF.below) ?_;clear hK;have hS:=hSof _ hF.below;refine tkN 19 hS ?_;refine tkN 20 hS ?_;refine tkN 21 hS ?_;refine tkN 22 hS ?_;refine tkN 23 hS ?_;clear hS;refine stN 25 (fun K hK=>?_);go_simp;obtain⟨wc4,G2,e1,e2,hF⟩:=hF.al2
     rw[e1,e2];clear e1 e2;refine otN hK (hSof _ hF.below) ?_;clear hK;exact jmN hJ ⟨G1,G2,G3,BB,TT,fa1,fc1,ta1,tc1,rows1,rows2,rfl,hF,hr1,hr2,hap⟩
    ·go_simp
     obtain⟨wc3,G2,e1,e2,hF⟩:=hF.al2;rw[e1,e2];clear e1 e2;refine otN hK (hSof _ hF.below) ?_;clear hK;refine stN 18 (fun K hK=>?_);have hB:=hF.below;go_simp;refine(htr2 wc3 hB).mono ?_;rintro e wc4 ⟨fa1,fc1,ta1,tc1,rows1,rows2,rfl,hbn,hr1,hr2,hO1,hO2,hap⟩;obtain⟨BB,TT,hF⟩:=hF.call hbn hO1 hO2;clear hB hbn hO1 hO2;refine otN hK (hSof _ hF.below) ?_;clear hK;have hS:=hSof _ hF.below;refine tkN 19 hS ?_
     refine tkN 20 hS ?_;refine tkN 21 hS ?_;refine tkN 22 hS ?_;refine tkN 23 hS ?_;clear hS;exact jmN hJ ⟨G1,G2,G3,BB,TT,fa1,fc1,ta1,tc1,rows1,rows2,rfl,hF,hr1,hr2,hap⟩
   ·go_simp
    obtain⟨wc2,G2,e1,e2,hF⟩:=hF.al2;rw[e1,e2];clear e1 e2;refine otN hK (hSof _ hF.below) ?_;clear hK;refine twN 18 24 (fun K hK=>?_) (fun K hK=>?_)
    ·have hB:=hF.below
     go_simp;refine(htr2 wc2 hB).mono ?_;rintro e wc3 ⟨fa1,fc1,ta1,tc1,rows1,rows2,rfl,hbn,hr1,hr2,hO1,hO2,hap⟩;obtain⟨BB,TT,hF⟩:=hF.call hbn hO1 hO2;clear hB hbn hO1 hO2;refine otN hK (hSof _ hF.below) ?_;clear hK;have hS:=hSof _ hF.below;refine tkN 19 hS ?_;refine tkN 20 hS ?_;refine tkN 21 hS ?_;refine tkN 22 hS ?_;refine tkN 23 hS ?_;clear hS;refine stN 24 (fun K hK=>?_);go_simp;obtain⟨wc4,G1,e1,e2,hF⟩:=hF.al1
     rw[e1,e2];clear e1 e2;refine otN hK (hSof _ hF.below) ?_;clear hK;exact jmN hJ ⟨G1,G2,G3,BB,TT,fa1,fc1,ta1,tc1,rows1,rows2,rfl,hF,hr1,hr2,hap⟩
    ·go_simp
     obtain⟨wc3,G1,e1,e2,hF⟩:=hF.al1;rw[e1,e2];clear e1 e2;refine otN hK (hSof _ hF.below) ?_;clear hK;refine stN 18 (fun K hK=>?_);have hB:=hF.below;go_simp;refine(htr2 wc3 hB).mono ?_;rintro e wc4 ⟨fa1,fc1,ta1,tc1,rows1,rows2,rfl,hbn,hr1,hr2,hO1,hO2,hap⟩;obtain⟨BB,TT,hF⟩:=hF.call hbn hO1 hO2;clear hB hbn hO1 hO2;refine otN hK (hSof _ hF.below) ?_;clear hK;have hS:=hSof _ hF.below;refine tkN 19 hS ?_
     refine tkN 20 hS ?_;refine tkN 21 hS ?_;refine tkN 22 hS ?_;refine tkN 23 hS ?_;clear hS;exact jmN hJ ⟨G1,G2,G3,BB,TT,fa1,fc1,ta1,tc1,rows1,rows2,rfl,hF,hr1,hr2,hap⟩
 case rest =>
  obtain⟨G1,G2,G3,fa1,fc1,ta1,tc1,BB,rows1,rows2,rfl,rfl,rfl,rfl,hB,xG1,xG2,xG3,mG1,mG2,mG3,sB,hr1,hr2,hO1,hO2,hap,e13⟩:=hcut;clear hSof htr2;have hBw:=hBw2.trans (hB.mono hBw2.size);have sw2:=hBw2.size;replace N0:=(hB.block _ (by have:=hB2.size;omega)).trans N0;have hM0:Moved w wc (wdFoot Bw av pv fl rs) (wdFoot Bw av pv fl rs):=Moved.of_below hBw;have hW0:=HW.out.below hBw
  by_cases hte:te=0
  rotate_left
  ·have q0:(te != 0)=true:=by simp[hte]
   have hRS:RS=(V,8):=by rw[HR3.out,if_pos hte]
   subst hRS;clear hO1 hO2;go_wp2
   go_ret
   exact⟨rfl,_,_,_,_,hW0,hM0⟩
  subst hte;have HR4:Aside (RS=(⟨V.acts.set who (((x.heap tM1 to1).put qb nilV).put qa (numV VL))++[beginS n who tM2 to2 ⟨tk,tn⟩],V.prints⟩,0)):=by
   show RS=_
   rw[HR3.out,if_neg (by simp)]
  clear HR3;have hgw:g∈wdFoot Bw av pv fl rs:=List.mem_append_left _ (by simp[mem_vB,HAV.out,Value.ownBlock]);have hbase:base<=BB:=by
   have:=(World.ownsRow.lt HW.out.acts g (by rw[HAV.out];rfl)).1;omega
  have hdis1:∀ b∈vB (.slice fa1 to1.length fc1)++rowsB rows1,b∉wdFoot Bw av pv fl rs:=fun b hb hb'=>by
   have:=hlt b hb';have:=(hO1.blk_le b hb).1;omega
  have hap3:=heaps_apart hap hO1 hO2;obtain⟨fl2,rs2,hW2,hM2,hf2⟩:=hW0.newHeap3 hx HAV.out (M:=tM1) hr1 rfl hO1 hbase hdis1 hM0 (by omega);have hoth2:∀ b,b≠g->((wc.setCell ⟨g,who*8+2,none⟩ (.int .i64 tM1)).setCell ⟨g,who*8+3,none⟩ (.slice fa1 to1.length fc1)).heap[b]?=wc.heap[b]?:=fun b hb=>two_other _ _ _ _ hb
  have hO2':=hO2.at_block (fun b hb=>hoth2 b (fun e=>by have h2:=(hO2.blk_le b hb).1;omega));have mK2:=(hoth2 G2 (by omega)).trans mG2;have mK3:=(hoth2 G3 (by omega)).trans mG3;have N0':=(hoth2 w.heap.size (by omega)).trans N0;have hdis2:∀ b∈vB (.slice ta1 to2.length tc1)++rowsB rows2,b∉wdFoot Bw av pv fl2 rs2:=fun b hb hb'=>by
   rcases hf2 b hb' with h1 | h1
   ·have:=hlt b h1
    have:=(hO2.blk_le b hb).1;omega
   ·exact hap3 b h1 hb
  have c1:wc.cell? ⟨G1,0,none⟩=some (.int .i64 tM1):=cell_blk mG1 0;have c2:wc.cell? ⟨G1,1,none⟩=some (.slice fa1 to1.length fc1):=cell_blk mG1 1;obtain⟨_,_,_,_,_,_,_,p2,p3,_,_,_,_⟩:=hW0.cellsAt HAV.out hx;have pf:=hW0.fz HAV.out
  go_upto_region 10 with fail
  have hI2:w.heap.size∉wdFoot Bw av pv fl2 rs2:=fun hb=>by
   rcases hf2 _ hb with q | q
   ·have:=hlt _ q;omega
   ·have:=(hO1.blk_le _ q).1;have:=hB2.size;omega
  have hG2n:G2∉wdFoot Bw av pv fl2 rs2:=fun hb=>by
   rcases hf2 _ hb with q | q
   ·have:=hlt _ q;omega
   ·exact(e13 _ q).1 rfl
  have hG3n:G3∉wdFoot Bw av pv fl2 rs2:=fun hb=>by
   rcases hf2 _ hb with q | q
   ·have:=hlt _ q;omega
   ·exact(e13 _ q).2 rfl
  clear hoth2 hW0 hM0 hO1 hO2 p2 p3 pf c1 c2 mG1 mG2 mG3 hdis1 N0 hf2 hap3 hap e13;generalize (wc.setCell ⟨g,who*8+2,none⟩ (.int .i64 tM1)).setCell ⟨g,who*8+3,none⟩ (.slice fa1 to1.length fc1)=W2 at *;have hx1:=set_at hx (x.heap tM1 to1);have sBB:w.heap.size<=BB:=by omega
  obtain⟨R2,fb,rb,rc2,hfb,hrb,hra2,k42,kq2,kf2,hRl2,_,hrc2⟩:=hW2.regAt HAV.out hx1 h8;clear hrc2;have hR2in:R2∈wdFoot Bw av pv fl2 rs2:=List.mem_append_right _ (mem_actsFoot hfb hrb (List.mem_append_right _ (List.mem_append_left _ (by rw[mem_vB,hra2];rfl))));obtain⟨z1,hz1⟩:=at_some (l:=(x.heap tM1 to1).regs) (i:=qb) (by show qb<x.regs.length;omega);obtain⟨q1,q2⟩:=kq2 qb _ hz1;have f2:W2.cell? ⟨w.heap.size,2,none⟩=some (.int .i64 qb):=cell_blk N0' 2
  have hBd:Below W2.heap.size W2 W2.drew:=(Below.refl _ _).drew;refine wp_region_need (fun j=>j != 8) (fun w'=>w'.cell? ⟨w.heap.size,2,none⟩=some (.int .i64 qb)/\w'.cell? ⟨g,who*8+4,none⟩=some (.slice (some ⟨R2,0,none⟩) 8 rc2)) (by kernel_rfl) ⟨Keeps.below hBd _ _ f2,Keeps.below hBd _ _ k42⟩ (fun hS=>?_);generalize W2.drew=wn2 at hS hBd ⊢;replace q1:=Keeps.below hBd _ _ q1;replace q2:=Keeps.below hBd _ _ q2
  have kf':∀ i,wn2.frozen? ⟨R2,i,none⟩=false:=fun i=>(hBd.frozen hRl2).trans (kf2 i)
  refine tkN 0 hS ?_;refine tkN 1 hS ?_;refine tkN 2 hS ?_;refine tkN 3 hS ?_;refine tkN 4 hS ?_;refine tkN 5 hS ?_;refine tkN 6 hS ?_;refine tkN 7 hS ?_;refine stN 8 (fun K hK=>?_);go_simp;refine laN hK ?_;clear hK;have hs3:=(hW2.below hBd).setReg hfb hrb hx1 hra2 (q:=qb) (by show qb<x.regs.length;omega) nilV;have hW3:WdOwn ((wn2.setCell ⟨R2,qb*2,none⟩ (.int .i64 0)).setCell ⟨R2,qb*2+1,none⟩ (.int .i64 0)) base Bw _ av pv fl2 rs2:=hs3.1
  have hM3:Moved w ((wn2.setCell ⟨R2,qb*2,none⟩ (.int .i64 0)).setCell ⟨R2,qb*2+1,none⟩ (.int .i64 0)) (wdFoot Bw av pv fl rs) (wdFoot Bw av pv fl2 rs2):=(hM2.trans (Moved.of_below hBd)).trans hs3.2;simp only[List.set_set] at hW3;have ho3:∀ b,b<W2.heap.size->b≠R2->((wn2.setCell ⟨R2,qb*2,none⟩ (.int .i64 0)).setCell ⟨R2,qb*2+1,none⟩ (.int .i64 0)).heap[b]?=W2.heap[b]?:=fun b hb hne=>(two_other _ _ _ _ hne).trans (hBd.block b hb)
  have N03:=(ho3 w.heap.size (Array.getElem?_eq_some_iff.1 N0').1 (fun e=>hI2 (by rw[e];exact hR2in))).trans N0';have mK23:=(ho3 G2 (Array.getElem?_eq_some_iff.1 mK2).1 (fun e=>hG2n (by rw[e];exact hR2in))).trans mK2;have mK33:=(ho3 G3 (Array.getElem?_eq_some_iff.1 mK3).1 (fun e=>hG3n (by rw[e];exact hR2in))).trans mK3;have hO23:=hO2'.at_block (fun b hb=>ho3 b (hO2'.blk_le b hb).2 (fun e=>hdis2 b hb (by rw[e];exact hR2in)))
  clear hs3 hS q1 q2 kf' ho3 hW2 hM2 N0' mK2 mK3 hO2' kq2 hBd f2;generalize (wn2.setCell ⟨R2,qb*2,none⟩ (.int .i64 0)).setCell ⟨R2,qb*2+1,none⟩ (.int .i64 0)=W3 at *;have hx2:=set_at hx { x.heap tM1 to1 with regs:=(x.heap tM1 to1).regs.set qb nilV };have h82:((x.heap tM1 to1).regs.set qb nilV).length=8:=by rw[List.length_set];exact h8
  obtain⟨R3,fe,re,rc3,hfe,hre,hra3,k43,kq3,kf3,hRl3,_,hrc3⟩:=hW3.regAt HAV.out hx2 h82;clear hrc3;have hR3in:R3∈wdFoot Bw av pv fl2 rs2:=List.mem_append_right _ (mem_actsFoot hfe hre (List.mem_append_right _ (List.mem_append_left _ (by rw[mem_vB,hra3];rfl))));obtain⟨z3,hz3⟩:=at_some (l:=(x.heap tM1 to1).regs.set qb nilV) (i:=qa) (by rw[h82];omega);obtain⟨q1,q2⟩:=kq3 qa _ hz3;have f1:W3.cell? ⟨w.heap.size,1,none⟩=some (.int .i64 qa):=cell_blk N03 1
  have cb:=hW3.bw.1;rw[HAV.out] at cb
  go_upto_region 11 with fail
  have hSo3:∀ w',Below W3.heap.size W3 w'->(w'.cell? ⟨w.heap.size,1,none⟩=some (.int .i64 qa)/\w'.cell? ⟨g,who*8+4,none⟩=some (.slice (some ⟨R3,0,none⟩) 8 rc3)/\w'.cell? ⟨Bw,0,none⟩=some (.slice (some ⟨g,0,none⟩) VL c)):=fun w' hb=>⟨Keeps.below hb _ _ f1,Keeps.below hb _ _ k43,Keeps.below hb _ _ cb⟩
  have hBd:Below W3.heap.size W3 W3.drew:=(Below.refl _ _).drew;refine wp_region_need (fun j=>j != 13) (fun w'=>w'.cell? ⟨w.heap.size,1,none⟩=some (.int .i64 qa)/\w'.cell? ⟨g,who*8+4,none⟩=some (.slice (some ⟨R3,0,none⟩) 8 rc3)/\w'.cell? ⟨Bw,0,none⟩=some (.slice (some ⟨g,0,none⟩) VL c)) (by kernel_rfl) (hSo3 _ hBd) (fun hS=>?_);generalize W3.drew=wn3 at hS hBd ⊢;refine tkN 0 hS ?_;refine tkN 1 hS ?_
  refine tkN 2 hS ?_;refine tkN 3 hS ?_;refine tkN 4 hS ?_;refine tkN 5 hS ?_;refine tkN 6 hS ?_;refine tkN 7 hS ?_;refine tkN 8 hS ?_;refine tkN 9 hS ?_;refine tkN 10 hS ?_;refine stN 11 (fun K hK=>?_);go_simp;refine(num_any VL wn3).mono ?_;rintro e w5 ⟨rfl,hb5⟩;have hB5:Below W3.heap.size W3 w5:=hBd.trans (hb5.mono hBd.size);refine otN hK (hSo3 _ hB5) ?_;clear hK;replace hS:=hSo3 _ hB5;refine tkN 12 hS ?_
  replace q1:=Keeps.below hB5 _ _ q1;replace q2:=Keeps.below hB5 _ _ q2;have kf':∀ i,w5.frozen? ⟨R3,i,none⟩=false:=fun i=>(hB5.frozen hRl3).trans (kf3 i)
  refine stN 13 (fun K hK=>?_);go_simp;refine laN hK ?_;clear hK;have hs4:=(hW3.below hB5).setReg hfe hre hx2 hra3 (q:=qa) (by show qa<((x.heap tM1 to1).regs.set qb nilV).length;rw[h82];omega) (numV VL);have hW4:WdOwn ((w5.setCell ⟨R3,qa*2,none⟩ (.int .i64 1)).setCell ⟨R3,qa*2+1,none⟩ (.int .i64 VL)) base Bw _ av pv fl2 rs2:=hs4.1;have hM4:Moved w ((w5.setCell ⟨R3,qa*2,none⟩ (.int .i64 1)).setCell ⟨R3,qa*2+1,none⟩ (.int .i64 VL)) (wdFoot Bw av pv fl rs) (wdFoot Bw av pv fl2 rs2):=(hM3.trans (Moved.of_below hB5)).trans hs4.2
  simp only[List.set_set] at hW4;have ho4:∀ b,b<W3.heap.size->b≠R3->((w5.setCell ⟨R3,qa*2,none⟩ (.int .i64 1)).setCell ⟨R3,qa*2+1,none⟩ (.int .i64 VL)).heap[b]?=W3.heap[b]?:=fun b hb hne=>(two_other _ _ _ _ hne).trans (hB5.block b hb)
  have N04:=(ho4 w.heap.size (Array.getElem?_eq_some_iff.1 N03).1 (fun e=>hI2 (by rw[e];exact hR3in))).trans N03;have mK24:=(ho4 G2 (Array.getElem?_eq_some_iff.1 mK23).1 (fun e=>hG2n (by rw[e];exact hR3in))).trans mK23;have mK34:=(ho4 G3 (Array.getElem?_eq_some_iff.1 mK33).1 (fun e=>hG3n (by rw[e];exact hR3in))).trans mK33;have hO24:=hO23.at_block (fun b hb=>ho4 b (hO23.blk_le b hb).2 (fun e=>hdis2 b hb (by rw[e];exact hR3in)))
  clear hs4 hS q1 q2 kf' ho4 hW3 hM3 N03 mK23 mK33 hO23 kq3 hBd f1 hSo3 cb hb5 hB5;generalize (w5.setCell ⟨R3,qa*2,none⟩ (.int .i64 1)).setCell ⟨R3,qa*2+1,none⟩ (.int .i64 VL)=W4 at *
  go_upto_region 12 with fail
  have cb:=hW4.bw.1;rw[HAV.out] at cb;have hSo4:∀ w',Below W4.heap.size W4 w'->(w'.cell? ⟨Bw,0,none⟩=some (.slice (some ⟨g,0,none⟩) VL c)/\w'.cell? ⟨w.heap.size,3,none⟩=some (.int .i64 n)/\w'.cell? ⟨G2,0,none⟩=some (.int .i64 tM2)/\w'.cell? ⟨G2,1,none⟩=some (.slice ta1 to2.length tc1)/\w'.cell? ⟨G3,0,none⟩=some (.int .i64 tk)/\w'.cell? ⟨G3,1,none⟩=some (.int .i64 tn)):=fun w' hb=>⟨Keeps.below hb _ _ cb,Keeps.below hb _ _ (cell_blk N04 3),Keeps.below hb _ _ (cell_blk mK24 0),Keeps.below hb _ _ (cell_blk mK24 1),Keeps.below hb _ _ (cell_blk mK34 0),Keeps.below hb _ _ (cell_blk mK34 1)⟩
  have hBd:Below W4.heap.size W4 W4.drew:=(Below.refl _ _).drew;refine wp_region_need (fun j=>j != 15) (fun w'=>w'.cell? ⟨Bw,0,none⟩=some (.slice (some ⟨g,0,none⟩) VL c)/\w'.cell? ⟨w.heap.size,3,none⟩=some (.int .i64 n)/\w'.cell? ⟨G2,0,none⟩=some (.int .i64 tM2)/\w'.cell? ⟨G2,1,none⟩=some (.slice ta1 to2.length tc1)/\w'.cell? ⟨G3,0,none⟩=some (.int .i64 tk)/\w'.cell? ⟨G3,1,none⟩=some (.int .i64 tn)) (by kernel_rfl) (hSo4 _ hBd) (fun hS=>?_)
  generalize W4.drew=wn4 at hS hBd ⊢;refine tkN 0 hS ?_;refine tkN 1 hS ?_;refine tkN 2 hS ?_;refine tkN 3 hS ?_;refine tkN 4 hS ?_;refine tkN 5 hS ?_;refine tkN 6 hS ?_;refine tkN 7 hS ?_;refine tkN 8 hS ?_;refine tkN 9 hS ?_;refine stN 10 (fun K hK=>?_);go_simp;refine(abeginning_any n who tM2 ta1 to2.length tc1 tk tn wn4).mono ?_;rintro e w6 ⟨RB,rfl,hb6,hRB,mRB⟩;have hB6:Below W4.heap.size W4 w6:=hBd.trans (hb6.mono hBd.size)
  refine otN hK (hSo4 _ hB6) ?_;clear hK;replace hS:=hSo4 _ hB6;refine stN 11 (fun K hK=>?_);go_simp;have hBe:Below W4.heap.size W4 (w6.alloc (.cells #[.int .i64 n,.int .i64 who,.int .i64 tM2,.slice ta1 to2.length tc1,.slice (some ⟨RB,0,none⟩) 8 8,.int .i64 (-1),.slice none 0 0,.int .i64 0] 50)):=hB6.alloc hB6.size _;have NB:=Deep.blk_alloc_new w6 (.cells #[.int .i64 n,.int .i64 who,.int .i64 tM2,.slice ta1 to2.length tc1,.slice (some ⟨RB,0,none⟩) 8 8,.int .i64 (-1),.slice none 0 0,.int .i64 0] 50)
  have mRB2:=(Deep.blk_alloc_lt w6 (.cells #[.int .i64 n,.int .i64 who,.int .i64 tM2,.slice ta1 to2.length tc1,.slice (some ⟨RB,0,none⟩) 8 8,.int .i64 (-1),.slice none 0 0,.int .i64 0] 50) RB (Array.getElem?_eq_some_iff.1 mRB).1).trans mRB;have sE:(w6.alloc (.cells #[.int .i64 n,.int .i64 who,.int .i64 tM2,.slice ta1 to2.length tc1,.slice (some ⟨RB,0,none⟩) 8 8,.int .i64 (-1),.slice none 0 0,.int .i64 0] 50)).heap.size=w6.heap.size+1:=by simp
  have sRB:=(Array.getElem?_eq_some_iff.1 mRB).1;have hRB4:W4.heap.size<=RB:=Nat.le_trans hBd.size hRB;refine otN hK (hSo4 _ hBe) ?_;clear hK;replace hS:=hSo4 _ hBe;generalize w6.alloc (.cells #[.int .i64 n,.int .i64 who,.int .i64 tM2,.slice ta1 to2.length tc1,.slice (some ⟨RB,0,none⟩) 8 8,.int .i64 (-1),.slice none 0 0,.int .i64 0] 50)=we at *;generalize hNN:w6.heap.size=NN at *;have hWe:=hW4.below hBe
  have hfl:fl2.length=VL:=by rw[hW4.flen];simp[HVL.out]
  have HFL:Aside (fl2.length=VL):=hfl;clear hfl;have hac:=hWe.acts;rw[HAV.out] at hac;refine wpAnyN_one (i:=12) (by kernel_rfl) rfl (fun K hK=>?_);refine step_seq Tryz.rowAc (by rfl) _ _ (by rfl) (v:=.slice (some ⟨g,0,none⟩) VL c) (by rfl) hac (Nat.le_trans (hW4.base_le HAV.out) hBe.size) [(⟨n,who,tM2,ta1,to2.length,tc1,some ⟨RB,0,none⟩,8,8,-1,none,0,0,0⟩:Fa)] (some ⟨NN,0,none⟩) 1 (by rfl) ?_ (by simp) (by simp[HFL.out];omega) (by simp[HFL.out,maxLen];omega) ?_
  ·intro i v hi
   have e:i=0:=by
    have:=(List.getElem?_eq_some_iff.1 hi).1
    simpa using this
   subst e;simp at hi;subst hi;refine⟨NN,0,rfl,fun k u hk=>?_⟩
   match k,hk with
   | 0,hk=>cases hk;exact cell_blk NB 0
   | 1,hk=>cases hk;exact cell_blk NB 1
   | 2,hk=>cases hk;exact cell_blk NB 2
   | 3,hk=>cases hk;exact cell_blk NB 3
   | 4,hk=>cases hk;exact cell_blk NB 4
   | 5,hk=>cases hk;exact cell_blk NB 5
   | 6,hk=>cases hk;exact cell_blk NB 6
   | 7,hk=>cases hk;exact cell_blk NB 7
  intro B cap w7 hO7 hg7 _ hB7;have hoff:∀ k,k<we.heap.size->k≠g->w7.heap[k]?=we.heap[k]?:=fun k hk hk'=>hg7.block k hk (fun e=>hk' (by simpa[Value.ownBlock] using e))
  have hgw2:g∈wdFoot Bw av pv fl2 rs2:=List.mem_append_left _ (by simp[mem_vB,HAV.out,Value.ownBlock]);have hBwin:Bw∈wdFoot Bw av pv fl2 rs2:=List.mem_append_left _ (by simp);have hBg:Bw≠g:=fun e=>by
   have:=(List.nodup_cons.1 hW4.apart0).1;exact this (by rw[e];simp[mem_vB,HAV.out,Value.ownBlock])
  have sw4:=hBe.size;have hBwl:=hW4.blk_lt Bw hBwin;have hIl:=(Array.getElem?_eq_some_iff.1 N04).1;have hG2l:=(Array.getElem?_eq_some_iff.1 mK24).1;have hG3l:=(Array.getElem?_eq_some_iff.1 mK34).1;have hgI:w.heap.size≠g:=fun e=>hI2 (by rw[e];exact hgw2)
  have hgG2:G2≠g:=fun e=>hG2n (by rw[e];exact hgw2)
  have hgG3:G3≠g:=fun e=>hG3n (by rw[e];exact hgw2)
  have hS7:w7.cell? ⟨Bw,0,none⟩=some (.slice (some ⟨g,0,none⟩) VL c)/\w7.cell? ⟨w.heap.size,3,none⟩=some (.int .i64 n)/\w7.cell? ⟨G2,0,none⟩=some (.int .i64 tM2)/\w7.cell? ⟨G2,1,none⟩=some (.slice ta1 to2.length tc1)/\w7.cell? ⟨G3,0,none⟩=some (.int .i64 tk)/\w7.cell? ⟨G3,1,none⟩=some (.int .i64 tn):=by
   obtain⟨q1,q2,q3,q4,q5,q6⟩:=hSo4 _ hBe;exact⟨(World.cell?_of_block (a:=⟨Bw,0,none⟩) (hoff Bw (by omega) hBg)).trans q1,(World.cell?_of_block (a:=⟨w.heap.size,3,none⟩) (hoff w.heap.size (by omega) hgI)).trans q2,(World.cell?_of_block (a:=⟨G2,0,none⟩) (hoff G2 (by omega) hgG2)).trans q3,(World.cell?_of_block (a:=⟨G2,1,none⟩) (hoff G2 (by omega) hgG2)).trans q4,(World.cell?_of_block (a:=⟨G3,0,none⟩) (hoff G3 (by omega) hgG3)).trans q5,(World.cell?_of_block (a:=⟨G3,1,none⟩) (hoff G3 (by omega) hgG3)).trans q6⟩
  refine otN hK hS7 ?_;clear hK hS;have hS:=hS7;refine tkN 13 hS ?_;refine tkN 14 hS ?_;have hfz7:∀ i,w7.frozen? ⟨Bw,i,none⟩=false:=fun i=>by
   have e:=hoff Bw (by omega) hBg;have:=hWe.bw.2.2 i;simp only[World.frozen?,e] at this ⊢
   exact this
  have hg7c:=hS7.1;refine stN 15 (fun K hK=>?_);go_simp;refine laN hK ?_;clear hK;have hBcase:B=g\/B=we.heap.size:=by
   rcases hB7 with q | q
   ·exact .inl (by simpa[Value.ownBlock] using q.symm)
   ·exact .inr q
  have hvB:∀ k∈vB (.slice (some ⟨B,0,none⟩) (fl2.length+1) cap),k=B:=fun k hk=>by
   rw[mem_vB] at hk;exact(by simpa[Value.ownBlock] using hk.symm)
  have hgav:g∈vB av:=by simp[mem_vB,HAV.out,Value.ownBlock]
  have hH4:=hO24.blk_le;have hHe:=(hO24.below hBe).at_block (w':=w7) (fun b hb=>hoff b (by have:=(hH4 b hb).2;omega) (fun e=>hdis2 b hb (by rw[e];exact hgw2)));have hfoot:acFoot (⟨n,who,tM2,ta1,to2.length,tc1,some ⟨RB,0,none⟩,8,8,-1,none,0,0,0⟩:Fa) rows2=(vB (.slice ta1 to2.length tc1)++rowsB rows2)++[RB]:=by simp[acFoot,vB,Value.ownBlock]
  have hz:=hWe.push (w2:=w7) (av2:=.slice (some ⟨B,0,none⟩) (fl2.length+1) cap) (fb:=⟨n,who,tM2,ta1,to2.length,tc1,some ⟨RB,0,none⟩,8,8,-1,none,0,0,0⟩) (s:=rows2) (y:=beginS n who tM2 to2 ⟨tk,tn⟩)
   (fun k hk hk'=>hoff k (hWe.blk_lt k hk) (fun e=>hk' (by rw[e];exact hgav))) hO7 (fun k hk=>by
    have e:=hvB k hk;subst e
    rcases hBcase with q | q
    ·exact .inl (by rw[q];exact hgav)
    ·exact .inr (fun hk2=>by have:=hWe.blk_lt _ hk2;omega))
   ⟨rfl,rfl,rfl,rfl,rfl,rfl,rfl,rfl,hr2,hHe.base hbase,regs_new (by have:=hW4.base_le HAV.out;omega) ((hoff RB (by omega) (by have:=hW4.blk_lt g hgw2;omega)).trans mRB2),World.ownsRow_nil _ _ _ _⟩
   (by rw[hfoot];exact List.nodup_append.2 ⟨hHe.nodup,by simp,fun a ha b hb e=>by simp only[List.mem_singleton] at hb;have:=(hH4 a ha).2;omega⟩)
   (fun k hk=>by
    rw[hfoot] at hk
    rcases List.mem_append.1 hk with hk | hk
    ·refine⟨hdis2 k hk,fun hk2=>?_⟩
     have e:=hvB k hk2
     rcases hBcase with q | q
     ·exact hdis2 k hk (by rw[e,q];exact hgw2)
     ·have:=(hH4 k hk).2;omega
    ·simp only[List.mem_singleton] at hk
     subst hk;refine⟨fun hk2=>by have:=hW4.blk_lt _ hk2;omega,fun hk2=>?_⟩;have e:=hvB _ hk2
     rcases hBcase with q | q
     ·have:=hW4.blk_lt g hgw2;omega
     ·omega)
  have hMe:=hM4.trans (Moved.of_below hBe);have hBwF:Bw∈wdFoot Bw av pv fl rs:=List.mem_append_left _ (by simp);have hgF:g∈wdFoot Bw av pv fl rs:=List.mem_append_left _ (by simp[mem_vB,HAV.out,Value.ownBlock]);have sww:w.heap.size<=W4.heap.size:=hM4.size;have hlen:fl2.length=rs2.length:=hW4.flen.trans hW4.rlen.symm;have hzM:Moved w (w7.setCell ⟨Bw,0,none⟩ (.slice (some ⟨B,0,none⟩) (fl2.length+1) cap)) (wdFoot Bw av pv fl rs) (wdFoot Bw (.slice (some ⟨B,0,none⟩) (fl2.length+1) cap) pv (fl2++[⟨n,who,tM2,ta1,to2.length,tc1,some ⟨RB,0,none⟩,8,8,-1,none,0,0,0⟩]) (rs2++[rows2])) :=
   ⟨hg7.os.trans hMe.os,hg7.tape.trans hMe.tape,hg7.output.trans hMe.output,by simp[World.setCell];exact Nat.le_trans hMe.size hg7.size,fun k hk hk'=>((Deep.blk_setCell_other _ ⟨Bw,0,none⟩ _ _ (fun e=>hk' (by have e':k=Bw:=e;rw[e'];exact hBwF))).trans (hoff k (by have:=hMe.size;omega) (fun e=>hk' (by rw[e];exact hgF)))).trans (hMe.keep k hk hk'),fun k hk=>by
    rcases List.mem_append.1 hk with hk | hk
    ·simp only[List.mem_cons,List.mem_append] at hk
     rcases hk with rfl | hk | hk
     ·exact .inl hBwF
     ·have e:=hvB k hk
      rcases hBcase with q | q
      ·exact .inl (by rw[e,q];exact hgF)
      ·exact .inr (by omega)
     ·exact .inl (List.mem_append_left _ (by simp[hk]))
    ·unfold actsFoot at hk
     rw[List.zip_append hlen,List.flatMap_append] at hk
     rcases List.mem_append.1 hk with hk | hk
     ·exact hMe.sub k (List.mem_append_right _ hk)
     ·simp only[List.zip_cons_cons,List.zip_nil_right,List.flatMap_cons,List.flatMap_nil,List.append_nil] at hk
      rw[hfoot] at hk
      rcases List.mem_append.1 hk with hk | hk
      ·exact .inr (by have:=(hH4 k hk).1;omega)
      ·simp only[List.mem_singleton] at hk
       exact .inr (by omega)⟩
  have HZ:Aside (∃ av' pv' fl' rs',WdOwn (w7.setCell ⟨Bw,0,none⟩ (.slice (some ⟨B,0,none⟩) (fl2.length+1) cap)) base Bw RS.1 av' pv' fl' rs'/\Moved w (w7.setCell ⟨Bw,0,none⟩ (.slice (some ⟨B,0,none⟩) (fl2.length+1) cap)) (wdFoot Bw av pv fl rs) (wdFoot Bw av' pv' fl' rs')):=by
   refine⟨_,_,_,_,?_,hzM⟩;rw[HR4.out];exact hz
  have H0:Aside (RS.2=0):=by show RS.2=0;rw[HR4.out]
  clear hz hzM hHe hO7 hO24 hWe hlen;go_wp2
  go_ret
  exact⟨by rw[H0.out];rfl,HZ.out⟩
end Go.Proofs.YtepifccbbmdfcaaGreatDoor
