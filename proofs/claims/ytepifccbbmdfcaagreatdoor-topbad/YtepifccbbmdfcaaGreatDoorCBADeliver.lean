/- ADeliver. -/
import Derived.Test.YtepifccbbmdfcaaGreatDoorCBWOwn7
namespace Go.Proofs.YtepifccbbmdfcaaGreatDoor
set_option maxRecDepth 100000
set_option maxHeartbeats 8000000
open Go.RowKit
def DelMid (w wd:World) (base Bw:Nat) (av pv:Value) (F:List Nat) (who tq:Nat) (RD:Wd) (G1 G2 G3:Nat) (e:Int):Prop :=
 ∃ (VV:Wd) (fl1:List Fa) (rs1:List (List (Value × Ob))) (T:TrR) (x1 y1:Ac) (fa:Option Addr) (fc:Nat) (ta:Option Addr) (tc:Nat) (rows1 rows2:List (Value × Ob)) (BB:Nat),e=T.e/\RD=arriveS VV who tq T/\Shp VV/\VV.acts[who]?=some x1/\VV.acts[tq]?=some y1/\WdOwn wd base Bw VV av pv fl1 rs1/\Moved w wd F (wdFoot Bw av pv fl1 rs1) /\
  (∀ b∈wdFoot Bw av pv fl1 rs1,b<BB/\b≠G3)/\w.heap.size<=BB/\wd.heap[G1]?=some (.cells #[.int .i64 T.M1,.slice fa T.o1.length fc] 47 (0,0))/\wd.heap[G2]?=some (.cells #[.int .i64 T.M2,.slice ta T.o2.length tc] 47 (0,0))/\wd.heap[G3]?=some (.cells #[.int .i64 T.v.k,.int .i64 T.v.n] 66 (0,0)) /\
  rows1.map (·.2)=T.o1/\rows2.map (·.2)=T.o2/\HeapOwn wd BB (.slice fa T.o1.length fc) rows1/\HeapOwn wd BB (.slice ta T.o2.length tc) rows2/\HeapsApart (.slice fa T.o1.length fc) rows1 (.slice ta T.o2.length tc) rows2/\(∀ b∈vB (.slice fa T.o1.length fc)++rowsB rows1,b≠G3)/\(∀ b∈vB (.slice ta T.o2.length tc)++rowsB rows2,b≠G3)
theorem deliver_any (who tq:Nat) (q:Nat) (mv:Bool) (w:World) {base Bw:Nat} {V:Wd} {av pv:Value} {fl:List Fa} {rs:List (List (Value × Ob))} (h:WdOwn w base Bw V av pv fl rs) (hsh:Shp V) {x y:Ac} (hx:V.acts[who]?=some x) (hy:V.acts[tq]?=some y) {g nn c:Nat} (hav:av=.slice (some ⟨g,0,none⟩) nn c) (hq:q<8) :
  Calls Tryz.prog 155 #[.pointer (some ⟨g,who*8,none⟩),.int .i64 q,.pointer (some ⟨g,tq*8,none⟩),.bool mv] w fun e w'=>e=.returned (.tuple #[])/\∃ fl' rs',WdOwn w' base Bw (deliverS V who q tq mv) av pv fl' rs'/\Moved w w' (wdFoot Bw av pv fl rs) (wdFoot Bw av pv fl' rs'):=by
 obtain⟨h8,h6⟩:=hsh who x hx;obtain⟨R,fa,r,rc,hfa,hr,hra,k4,kq,kf,hRl,_⟩:=h.regAt hav hx h8;obtain⟨v,hv⟩:=at_some (l:=x.regs) (i:=q) (by omega);obtain⟨ra1,ra2⟩:=kq q _ hv;obtain⟨vk,vn⟩:=v;obtain⟨oa,oc,_,_,_,_,_,k2,k3,hO⟩:=h.heapAt hav hx;obtain⟨pa,pc,_,_,_,_,_,m2,m3,hP⟩:=h.heapAt hav hy;have hqz:(q:Int)<8:=by omega
 simp only at ra1 ra2;have hSof:∀ w',Below w.heap.size w w'->(w'.cell? ⟨g,who*8+2,none⟩=some (.int .i64 x.M)/\w'.cell? ⟨g,who*8+3,none⟩=some (.slice oa x.obs.length oc)/\w'.cell? ⟨g,who*8+4,none⟩=some (.slice (some ⟨R,0,none⟩) 8 rc)/\w'.cell? ⟨R,q*2,none⟩=some (.int .i64 vk)/\w'.cell? ⟨R,q*2+1,none⟩=some (.int .i64 vn)/\w'.cell? ⟨g,tq*8+2,none⟩=some (.int .i64 y.M)/\w'.cell? ⟨g,tq*8+3,none⟩=some (.slice pa y.obs.length pc)):=fun w' hb'=>⟨Keeps.below hb' _ _ k2,Keeps.below hb' _ _ k3,Keeps.below hb' _ _ k4,Keeps.below hb' _ _ ra1,Keeps.below hb' _ _ ra2,Keeps.below hb' _ _ m2,Keeps.below hb' _ _ m3⟩
 have htr:∀ w',Below w.heap.size w w'->Calls Tryz.prog 156 #[.agg #[.int .i64 x.M,.slice oa x.obs.length oc],.agg #[.int .i64 vk,.int .i64 vn],.agg #[.int .i64 y.M,.slice pa y.obs.length pc],.bool mv] w' _:=fun w' hb=>transfer_any2 x.M oa oc x.obs vk vn y.M pa pc y.obs mv w' (hO.keeps (Keeps.below hb)) (hP.keeps (Keeps.below hb))
 have ereg:x.reg q=⟨vk,vn⟩:=by
  unfold Ac.reg
  rw[Int.toNat_natCast,hv]
  rfl
 have HD:Aside (deliverS V who q tq mv=if (transferS x.M x.obs ⟨vk,vn⟩ y.M y.obs mv).e=7 then arriveS { V with acts:=V.acts.set tq (clearS y) } who tq (trW { V with acts:=V.acts.set tq (clearS y) } who q tq mv) else arriveS V who tq (transferS x.M x.obs ⟨vk,vn⟩ y.M y.obs mv)):=by
  show deliverS V who q tq mv=_
  unfold deliverS
  have e1:trW V who q tq mv=transferS x.M x.obs ⟨vk,vn⟩ y.M y.obs mv:=by
   unfold trW
   rw[at_of hx,at_of hy,ereg]
  rw[e1,at_of hy]
  rfl
 generalize deliverS V who q tq mv=RD at *;generalize hTE:transferS x.M x.obs ⟨vk,vn⟩ y.M y.obs mv=T at *;clear hTE;obtain⟨tM1,to1,tM2,to2,⟨tk,tn⟩,te⟩:=T;simp only at htr HD;have HW:Aside (WdOwn w base Bw V av pv fl rs):=h;have HAV:Aside (av=.slice (some ⟨g,0,none⟩) nn c):=hav;have hgl:g<w.heap.size:=(World.ownsRow.lt h.acts g (by rw[hav];rfl)).2;have HSH:Aside (Shp V):=hsh;generalize x.M=xM at *;generalize x.obs.length=xL at *
 generalize y.M=yM at *;generalize y.obs.length=yL at *;clear h hav hsh hO hP kq ereg hfa hr hra kf k2 k3 k4 m2 m3 ra1 ra2 hv
 go_enter Tryz.func155,Tryz.ntmps155
 go_upto_region 0 with fail
 go_cut [8,9,10,11] (fun s8 s9 s10 s11 wc=>∃ G1 G2 G3 fa1 fc1 ta1 tc1 BB rows1 rows2,s8=.pointer (some ⟨G1,0,none⟩)/\s9=.pointer (some ⟨G2,0,none⟩)/\s10=.pointer (some ⟨G3,0,none⟩)/\s11=.int .i64 te/\Below w.heap.size w wc/\w.heap.size<=G1/\w.heap.size<=G2/\w.heap.size<=G3/\G1≠G2/\G1≠G3/\G2≠G3/\wc.heap[G1]?=some (.cells #[.int .i64 tM1,.slice fa1 to1.length fc1] 47 (0,0))/\wc.heap[G2]?=some (.cells #[.int .i64 tM2,.slice ta1 to2.length tc1] 47 (0,0))/\wc.heap[G3]?=some (.cells #[.int .i64 tk,.int .i64 tn] 66 (0,0))/\w.heap.size<=BB/\rows1.map (·.2)=to1/\rows2.map (·.2)=to2/\HeapOwn wc BB (.slice fa1 to1.length fc1) rows1/\HeapOwn wc BB (.slice ta1 to2.length tc1) rows2/\HeapsApart (.slice fa1 to1.length fc1) rows1 (.slice ta1 to2.length tc1) rows2/\(∀ b∈vB (.slice fa1 to1.length fc1)++rowsB rows1,b≠G3)/\(∀ b∈vB (.slice ta1 to2.length tc1)++rowsB rows2,b≠G3))
 case first =>
  have hB:Below w.heap.size w w.drew:=(Below.refl _ _).drew;refine wp_region_need (fun _=>true) (fun w'=>w'.cell? ⟨g,who*8+2,none⟩=some (.int .i64 xM)/\w'.cell? ⟨g,who*8+3,none⟩=some (.slice oa xL oc)/\w'.cell? ⟨g,who*8+4,none⟩=some (.slice (some ⟨R,0,none⟩) 8 rc)/\w'.cell? ⟨R,q*2,none⟩=some (.int .i64 vk)/\w'.cell? ⟨R,q*2+1,none⟩=some (.int .i64 vn)/\w'.cell? ⟨g,tq*8+2,none⟩=some (.int .i64 yM)/\w'.cell? ⟨g,tq*8+3,none⟩=some (.slice pa yL pc)) (by kernel_rfl) (hSof _ hB) (fun hS=>?_)
  generalize w.drew=wc0 at hS hB  ⊢;refine tkN 0 hS ?_;refine tkN 1 hS ?_;refine tkN 2 hS ?_;refine tkN 3 hS ?_;refine tkN 4 hS ?_;refine tkN 5 hS ?_;refine tkN 6 hS ?_;refine tkN 7 hS ?_;refine tkN 8 hS ?_;refine tkN 9 hS ?_;refine tkN 10 hS ?_;refine tkN 11 hS ?_;refine tkN 12 hS ?_;refine tkN 13 hS ?_;refine tkN 14 hS ?_;refine tkN 15 hS ?_;have hF:Tx w wc0 (Obj.cells #[.int .i64 0,.slice none 0 0] 47) (Obj.cells #[.int .i64 0,.slice none 0 0] 47) (Obj.cells #[.int .i64 0,.int .i64 0] 66) none none none none:=Tx.start hB
  clear hS hB;refine jnN 4 [16,17,18,19,20,21,22,23,24] (fun vs wc=>∃ G1 G2 G3 BB TT fa1 fc1 ta1 tc1 rows1 rows2,vs=[(29,.tuple #[.agg #[.int .i64 tM1,.slice fa1 to1.length fc1],.agg #[.int .i64 tM2,.slice ta1 to2.length tc1],.agg #[.int .i64 tk,.int .i64 tn],.int .i64 te]),(12,.tuple #[.agg #[.int .i64 tM1,.slice fa1 to1.length fc1],.agg #[.int .i64 tM2,.slice ta1 to2.length tc1],.agg #[.int .i64 tk,.int .i64 tn],.int .i64 te]),(30,.agg #[.int .i64 tM1,.slice fa1 to1.length fc1]),(31,.agg #[.int .i64 tM2,.slice ta1 to2.length tc1]),(32,.agg #[.int .i64 tk,.int .i64 tn]),(33,.int .i64 te),(8,.pointer (some ⟨G1,0,none⟩)),(9,.pointer (some ⟨G2,0,none⟩)),(10,.pointer (some ⟨G3,0,none⟩))]/\Tx w wc (Obj.cells #[.int .i64 0,.slice none 0 0] 47) (Obj.cells #[.int .i64 0,.slice none 0 0] 47) (Obj.cells #[.int .i64 0,.int .i64 0] 66) (some G1) (some G2) (some G3) (some (BB,TT,((.slice fa1 to1.length fc1),rows1),((.slice ta1 to2.length tc1),rows2)))/\rows1.map (·.2)=to1/\rows2.map (·.2)=to2/\HeapsApart (.slice fa1 to1.length fc1) rows1 (.slice ta1 to2.length tc1) rows2) ?_ (fun hJ=>?_)
  ·clear hF
   rintro _ wc0 ⟨G1,G2,G3,BB,TT,fa1,fc1,ta1,tc1,rows1,rows2,rfl,hF,hr1,hr2,hap⟩;obtain⟨hB,⟨xG1,mG1,qG1⟩,⟨xG2,mG2,qG2⟩,⟨xG3,mG3,qG3⟩,⟨nG1G2,nG1G3,nG2G3⟩,sB,hO1,hO2,thO1,thO2⟩:=hF.out;clear hF;have hS:=hSof _ hB;simp only[puts,Act.put,List.setIfInBounds_toArray,List.set_cons_zero,List.set_cons_succ];refine stN 25 (fun K hK=>?_);have c0:=cellBlk mG1 0;have c1:=cellBlk mG1 1;have cf:∀ j,wc0.frozen? ⟨G1,j,none⟩=false:=fun j=>by simp[World.frozen?,mG1]
   simp at c0 c1;go_simp;have hBn:=two_below hB xG1 0 1 (.int .i64 tM1) (.slice fa1 to1.length fc1);replace mG1:=two_blk mG1 0 1 (.int .i64 tM1) (.slice fa1 to1.length fc1)
   try replace mG2:=(two_other 0 1 (.int .i64 tM1) (.slice fa1 to1.length fc1) (show G2≠G1 by omega)).trans mG2
   try replace mG3:=(two_other 0 1 (.int .i64 tM1) (.slice fa1 to1.length fc1) (show G3≠G1 by omega)).trans mG3
   replace hO1:=hO1.at_block (fun b hb=>two_other 0 1 (.int .i64 tM1) (.slice fa1 to1.length fc1) (show b≠G1 by have hq1:=thO1 b hb;have hq2:=(hO1.blk_le b hb).1;omega));replace hO2:=hO2.at_block (fun b hb=>two_other 0 1 (.int .i64 tM1) (.slice fa1 to1.length fc1) (show b≠G1 by have hq1:=thO2 b hb;have hq2:=(hO2.blk_le b hb).1;omega));clear c0 c1 cf;generalize (wc0.setCell ⟨G1,0,none⟩ (.int .i64 tM1)).setCell ⟨G1,1,none⟩ (.slice fa1 to1.length fc1)=wc1 at *
   refine otN hK (hSof _ hBn) ?_;replace hS:=hSof _ hBn;clear hK;replace hB:=hBn;clear hBn;refine stN 26 (fun K hK=>?_);have c0:=cellBlk mG2 0;have c1:=cellBlk mG2 1;have cf:∀ j,wc1.frozen? ⟨G2,j,none⟩=false:=fun j=>by simp[World.frozen?,mG2]
   simp at c0 c1;go_simp;have hBn:=two_below hB xG2 0 1 (.int .i64 tM2) (.slice ta1 to2.length tc1);replace mG2:=two_blk mG2 0 1 (.int .i64 tM2) (.slice ta1 to2.length tc1)
   try replace mG1:=(two_other 0 1 (.int .i64 tM2) (.slice ta1 to2.length tc1) (show G1≠G2 by omega)).trans mG1
   try replace mG3:=(two_other 0 1 (.int .i64 tM2) (.slice ta1 to2.length tc1) (show G3≠G2 by omega)).trans mG3
   replace hO1:=hO1.at_block (fun b hb=>two_other 0 1 (.int .i64 tM2) (.slice ta1 to2.length tc1) (show b≠G2 by have hq1:=thO1 b hb;have hq2:=(hO1.blk_le b hb).1;omega));replace hO2:=hO2.at_block (fun b hb=>two_other 0 1 (.int .i64 tM2) (.slice ta1 to2.length tc1) (show b≠G2 by have hq1:=thO2 b hb;have hq2:=(hO2.blk_le b hb).1;omega));clear c0 c1 cf;generalize (wc1.setCell ⟨G2,0,none⟩ (.int .i64 tM2)).setCell ⟨G2,1,none⟩ (.slice ta1 to2.length tc1)=wc2 at *
   refine otN hK (hSof _ hBn) ?_;replace hS:=hSof _ hBn;clear hK;replace hB:=hBn;clear hBn;refine stN 27 (fun K hK=>?_);have c0:=cellBlk mG3 0;have c1:=cellBlk mG3 1;have cf:∀ j,wc2.frozen? ⟨G3,j,none⟩=false:=fun j=>by simp[World.frozen?,mG3]
   simp at c0 c1;go_simp;have hBn:=two_below hB xG3 0 1 (.int .i64 tk) (.int .i64 tn);replace mG3:=two_blk mG3 0 1 (.int .i64 tk) (.int .i64 tn)
   try replace mG1:=(two_other 0 1 (.int .i64 tk) (.int .i64 tn) (show G1≠G3 by omega)).trans mG1
   try replace mG2:=(two_other 0 1 (.int .i64 tk) (.int .i64 tn) (show G2≠G3 by omega)).trans mG2
   replace hO1:=hO1.at_block (fun b hb=>two_other 0 1 (.int .i64 tk) (.int .i64 tn) (show b≠G3 by have hq1:=thO1 b hb;have hq2:=(hO1.blk_le b hb).1;omega));replace hO2:=hO2.at_block (fun b hb=>two_other 0 1 (.int .i64 tk) (.int .i64 tn) (show b≠G3 by have hq1:=thO2 b hb;have hq2:=(hO2.blk_le b hb).1;omega));clear c0 c1 cf;generalize (wc2.setCell ⟨G3,0,none⟩ (.int .i64 tk)).setCell ⟨G3,1,none⟩ (.int .i64 tn)=wc3 at *
   refine otN hK (hSof _ hBn) ?_;replace hS:=hSof _ hBn;clear hK;replace hB:=hBn;clear hBn;refine tkN 28 hS ?_;refine dnN ?_
   go_wp2_with fail
   go_meet
   case rel=>exact⟨G1,G2,G3,fa1,fc1,ta1,tc1,BB,rows1,rows2,rfl,rfl,rfl,rfl,hB,xG1,xG2,xG3,by omega,by omega,by omega,mG1,mG2,mG3,sB,hr1,hr2,hO1,hO2,hap,fun b hb=>by have hq1:=thO1 b hb;have hq2:=(hO1.blk_le b hb).1;omega,fun b hb=>by have hq1:=thO2 b hb;have hq2:=(hO2.blk_le b hb).1;omega⟩
  refine foN 16 22 23 24 (fun K hK=>?_) (fun K hK=>?_) (fun K hK=>?_) (fun K hK=>?_)
  ·have hB:=hF.below
   go_simp;refine(htr wc0 hB).mono ?_;rintro e wc1 ⟨fa1,fc1,ta1,tc1,rows1,rows2,rfl,hbn,hr1,hr2,hO1,hO2,hap⟩;obtain⟨BB,TT,hF⟩:=hF.call hbn hO1 hO2;clear hB hbn hO1 hO2;refine otN hK (hSof _ hF.below) ?_;clear hK;have hS:=hSof _ hF.below;refine tkN 17 hS ?_;refine tkN 18 hS ?_;refine tkN 19 hS ?_;refine tkN 20 hS ?_;refine tkN 21 hS ?_;clear hS;refine thN 22 23 24 (fun K hK=>?_) (fun K hK=>?_) (fun K hK=>?_)
   ·go_simp
    obtain⟨wc2,G1,e1,e2,hF⟩:=hF.al1;rw[e1,e2];clear e1 e2;refine otN hK (hSof _ hF.below) ?_;clear hK;refine twN 23 24 (fun K hK=>?_) (fun K hK=>?_)
    ·go_simp
     obtain⟨wc3,G2,e1,e2,hF⟩:=hF.al2;rw[e1,e2];clear e1 e2;refine otN hK (hSof _ hF.below) ?_;clear hK;refine stN 24 (fun K hK=>?_);go_simp;obtain⟨wc4,G3,e1,e2,hF⟩:=hF.al3;rw[e1,e2];clear e1 e2;refine otN hK (hSof _ hF.below) ?_;clear hK;exact jmN hJ ⟨G1,G2,G3,BB,TT,fa1,fc1,ta1,tc1,rows1,rows2,rfl,hF,hr1,hr2,hap⟩
    ·go_simp
     obtain⟨wc3,G3,e1,e2,hF⟩:=hF.al3;rw[e1,e2];clear e1 e2;refine otN hK (hSof _ hF.below) ?_;clear hK;refine stN 23 (fun K hK=>?_);go_simp;obtain⟨wc4,G2,e1,e2,hF⟩:=hF.al2;rw[e1,e2];clear e1 e2;refine otN hK (hSof _ hF.below) ?_;clear hK;exact jmN hJ ⟨G1,G2,G3,BB,TT,fa1,fc1,ta1,tc1,rows1,rows2,rfl,hF,hr1,hr2,hap⟩
   ·go_simp
    obtain⟨wc2,G2,e1,e2,hF⟩:=hF.al2;rw[e1,e2];clear e1 e2;refine otN hK (hSof _ hF.below) ?_;clear hK;refine twN 22 24 (fun K hK=>?_) (fun K hK=>?_)
    ·go_simp
     obtain⟨wc3,G1,e1,e2,hF⟩:=hF.al1;rw[e1,e2];clear e1 e2;refine otN hK (hSof _ hF.below) ?_;clear hK;refine stN 24 (fun K hK=>?_);go_simp;obtain⟨wc4,G3,e1,e2,hF⟩:=hF.al3;rw[e1,e2];clear e1 e2;refine otN hK (hSof _ hF.below) ?_;clear hK;exact jmN hJ ⟨G1,G2,G3,BB,TT,fa1,fc1,ta1,tc1,rows1,rows2,rfl,hF,hr1,hr2,hap⟩
    ·go_simp
     obtain⟨wc3,G3,e1,e2,hF⟩:=hF.al3;rw[e1,e2];clear e1 e2;refine otN hK (hSof _ hF.below) ?_;clear hK;refine stN 22 (fun K hK=>?_);go_simp;obtain⟨wc4,G1,e1,e2,hF⟩:=hF.al1;rw[e1,e2];clear e1 e2;refine otN hK (hSof _ hF.below) ?_;clear hK;exact jmN hJ ⟨G1,G2,G3,BB,TT,fa1,fc1,ta1,tc1,rows1,rows2,rfl,hF,hr1,hr2,hap⟩
   ·go_simp
    obtain⟨wc2,G3,e1,e2,hF⟩:=hF.al3;rw[e1,e2];clear e1 e2;refine otN hK (hSof _ hF.below) ?_;clear hK;refine twN 22 23 (fun K hK=>?_) (fun K hK=>?_)
    ·go_simp
     obtain⟨wc3,G1,e1,e2,hF⟩:=hF.al1;rw[e1,e2];clear e1 e2;refine otN hK (hSof _ hF.below) ?_;clear hK;refine stN 23 (fun K hK=>?_);go_simp;obtain⟨wc4,G2,e1,e2,hF⟩:=hF.al2;rw[e1,e2];clear e1 e2;refine otN hK (hSof _ hF.below) ?_;clear hK;exact jmN hJ ⟨G1,G2,G3,BB,TT,fa1,fc1,ta1,tc1,rows1,rows2,rfl,hF,hr1,hr2,hap⟩
    ·go_simp
     obtain⟨wc3,G2,e1,e2,hF⟩:=hF.al2;rw[e1,e2];clear e1 e2;refine otN hK (hSof _ hF.below) ?_;clear hK;refine stN 22 (fun K hK=>?_);go_simp;obtain⟨wc4,G1,e1,e2,hF⟩:=hF.al1;rw[e1,e2];clear e1 e2;refine otN hK (hSof _ hF.below) ?_;clear hK;exact jmN hJ ⟨G1,G2,G3,BB,TT,fa1,fc1,ta1,tc1,rows1,rows2,rfl,hF,hr1,hr2,hap⟩
  ·go_simp
   obtain⟨wc1,G1,e1,e2,hF⟩:=hF.al1;rw[e1,e2];clear e1 e2;refine otN hK (hSof _ hF.below) ?_;clear hK;refine thN 16 23 24 (fun K hK=>?_) (fun K hK=>?_) (fun K hK=>?_)
   ·have hB:=hF.below
    go_simp;refine(htr wc1 hB).mono ?_;rintro e wc2 ⟨fa1,fc1,ta1,tc1,rows1,rows2,rfl,hbn,hr1,hr2,hO1,hO2,hap⟩;obtain⟨BB,TT,hF⟩:=hF.call hbn hO1 hO2;clear hB hbn hO1 hO2;refine otN hK (hSof _ hF.below) ?_;clear hK;have hS:=hSof _ hF.below;refine tkN 17 hS ?_;refine tkN 18 hS ?_;refine tkN 19 hS ?_;refine tkN 20 hS ?_;refine tkN 21 hS ?_;clear hS;refine twN 23 24 (fun K hK=>?_) (fun K hK=>?_)
    ·go_simp
     obtain⟨wc3,G2,e1,e2,hF⟩:=hF.al2;rw[e1,e2];clear e1 e2;refine otN hK (hSof _ hF.below) ?_;clear hK;refine stN 24 (fun K hK=>?_);go_simp;obtain⟨wc4,G3,e1,e2,hF⟩:=hF.al3;rw[e1,e2];clear e1 e2;refine otN hK (hSof _ hF.below) ?_;clear hK;exact jmN hJ ⟨G1,G2,G3,BB,TT,fa1,fc1,ta1,tc1,rows1,rows2,rfl,hF,hr1,hr2,hap⟩
    ·go_simp
     obtain⟨wc3,G3,e1,e2,hF⟩:=hF.al3;rw[e1,e2];clear e1 e2;refine otN hK (hSof _ hF.below) ?_;clear hK;refine stN 23 (fun K hK=>?_);go_simp;obtain⟨wc4,G2,e1,e2,hF⟩:=hF.al2;rw[e1,e2];clear e1 e2;refine otN hK (hSof _ hF.below) ?_;clear hK;exact jmN hJ ⟨G1,G2,G3,BB,TT,fa1,fc1,ta1,tc1,rows1,rows2,rfl,hF,hr1,hr2,hap⟩
   ·go_simp
    obtain⟨wc2,G2,e1,e2,hF⟩:=hF.al2;rw[e1,e2];clear e1 e2;refine otN hK (hSof _ hF.below) ?_;clear hK;refine twN 16 24 (fun K hK=>?_) (fun K hK=>?_)
    ·have hB:=hF.below
     go_simp;refine(htr wc2 hB).mono ?_;rintro e wc3 ⟨fa1,fc1,ta1,tc1,rows1,rows2,rfl,hbn,hr1,hr2,hO1,hO2,hap⟩;obtain⟨BB,TT,hF⟩:=hF.call hbn hO1 hO2;clear hB hbn hO1 hO2;refine otN hK (hSof _ hF.below) ?_;clear hK;have hS:=hSof _ hF.below;refine tkN 17 hS ?_;refine tkN 18 hS ?_;refine tkN 19 hS ?_;refine tkN 20 hS ?_;refine tkN 21 hS ?_;clear hS;refine stN 24 (fun K hK=>?_);go_simp;obtain⟨wc4,G3,e1,e2,hF⟩:=hF.al3
     rw[e1,e2];clear e1 e2;refine otN hK (hSof _ hF.below) ?_;clear hK;exact jmN hJ ⟨G1,G2,G3,BB,TT,fa1,fc1,ta1,tc1,rows1,rows2,rfl,hF,hr1,hr2,hap⟩
    ·go_simp
     obtain⟨wc3,G3,e1,e2,hF⟩:=hF.al3;rw[e1,e2];clear e1 e2;refine otN hK (hSof _ hF.below) ?_;clear hK;refine stN 16 (fun K hK=>?_);have hB:=hF.below;go_simp;refine(htr wc3 hB).mono ?_;rintro e wc4 ⟨fa1,fc1,ta1,tc1,rows1,rows2,rfl,hbn,hr1,hr2,hO1,hO2,hap⟩;obtain⟨BB,TT,hF⟩:=hF.call hbn hO1 hO2;clear hB hbn hO1 hO2;refine otN hK (hSof _ hF.below) ?_;clear hK;have hS:=hSof _ hF.below;refine tkN 17 hS ?_
     refine tkN 18 hS ?_;refine tkN 19 hS ?_;refine tkN 20 hS ?_;refine tkN 21 hS ?_;clear hS;exact jmN hJ ⟨G1,G2,G3,BB,TT,fa1,fc1,ta1,tc1,rows1,rows2,rfl,hF,hr1,hr2,hap⟩
   ·go_simp
    obtain⟨wc2,G3,e1,e2,hF⟩:=hF.al3;rw[e1,e2];clear e1 e2;refine otN hK (hSof _ hF.below) ?_;clear hK;refine twN 16 23 (fun K hK=>?_) (fun K hK=>?_)
    ·have hB:=hF.below
     go_simp;refine(htr wc2 hB).mono ?_;rintro e wc3 ⟨fa1,fc1,ta1,tc1,rows1,rows2,rfl,hbn,hr1,hr2,hO1,hO2,hap⟩;obtain⟨BB,TT,hF⟩:=hF.call hbn hO1 hO2;clear hB hbn hO1 hO2;refine otN hK (hSof _ hF.below) ?_;clear hK;have hS:=hSof _ hF.below;refine tkN 17 hS ?_;refine tkN 18 hS ?_;refine tkN 19 hS ?_;refine tkN 20 hS ?_;refine tkN 21 hS ?_;clear hS;refine stN 23 (fun K hK=>?_);go_simp;obtain⟨wc4,G2,e1,e2,hF⟩:=hF.al2
     rw[e1,e2];clear e1 e2;refine otN hK (hSof _ hF.below) ?_;clear hK;exact jmN hJ ⟨G1,G2,G3,BB,TT,fa1,fc1,ta1,tc1,rows1,rows2,rfl,hF,hr1,hr2,hap⟩
    ·go_simp
     obtain⟨wc3,G2,e1,e2,hF⟩:=hF.al2;rw[e1,e2];clear e1 e2;refine otN hK (hSof _ hF.below) ?_;clear hK;refine stN 16 (fun K hK=>?_);have hB:=hF.below;go_simp;refine(htr wc3 hB).mono ?_;rintro e wc4 ⟨fa1,fc1,ta1,tc1,rows1,rows2,rfl,hbn,hr1,hr2,hO1,hO2,hap⟩;obtain⟨BB,TT,hF⟩:=hF.call hbn hO1 hO2;clear hB hbn hO1 hO2;refine otN hK (hSof _ hF.below) ?_;clear hK;have hS:=hSof _ hF.below;refine tkN 17 hS ?_
     refine tkN 18 hS ?_;refine tkN 19 hS ?_;refine tkN 20 hS ?_;refine tkN 21 hS ?_;clear hS;exact jmN hJ ⟨G1,G2,G3,BB,TT,fa1,fc1,ta1,tc1,rows1,rows2,rfl,hF,hr1,hr2,hap⟩
  ·go_simp
   obtain⟨wc1,G2,e1,e2,hF⟩:=hF.al2;rw[e1,e2];clear e1 e2;refine otN hK (hSof _ hF.below) ?_;clear hK;refine thN 16 22 24 (fun K hK=>?_) (fun K hK=>?_) (fun K hK=>?_)
   ·have hB:=hF.below
    go_simp;refine(htr wc1 hB).mono ?_;rintro e wc2 ⟨fa1,fc1,ta1,tc1,rows1,rows2,rfl,hbn,hr1,hr2,hO1,hO2,hap⟩;obtain⟨BB,TT,hF⟩:=hF.call hbn hO1 hO2;clear hB hbn hO1 hO2;refine otN hK (hSof _ hF.below) ?_;clear hK;have hS:=hSof _ hF.below;refine tkN 17 hS ?_;refine tkN 18 hS ?_;refine tkN 19 hS ?_;refine tkN 20 hS ?_;refine tkN 21 hS ?_;clear hS;refine twN 22 24 (fun K hK=>?_) (fun K hK=>?_)
    ·go_simp
     obtain⟨wc3,G1,e1,e2,hF⟩:=hF.al1;rw[e1,e2];clear e1 e2;refine otN hK (hSof _ hF.below) ?_;clear hK;refine stN 24 (fun K hK=>?_);go_simp;obtain⟨wc4,G3,e1,e2,hF⟩:=hF.al3;rw[e1,e2];clear e1 e2;refine otN hK (hSof _ hF.below) ?_;clear hK;exact jmN hJ ⟨G1,G2,G3,BB,TT,fa1,fc1,ta1,tc1,rows1,rows2,rfl,hF,hr1,hr2,hap⟩
    ·go_simp
     obtain⟨wc3,G3,e1,e2,hF⟩:=hF.al3;rw[e1,e2];clear e1 e2;refine otN hK (hSof _ hF.below) ?_;clear hK;refine stN 22 (fun K hK=>?_);go_simp;obtain⟨wc4,G1,e1,e2,hF⟩:=hF.al1;rw[e1,e2];clear e1 e2;refine otN hK (hSof _ hF.below) ?_;clear hK;exact jmN hJ ⟨G1,G2,G3,BB,TT,fa1,fc1,ta1,tc1,rows1,rows2,rfl,hF,hr1,hr2,hap⟩
   ·go_simp
    obtain⟨wc2,G1,e1,e2,hF⟩:=hF.al1;rw[e1,e2];clear e1 e2;refine otN hK (hSof _ hF.below) ?_;clear hK;refine twN 16 24 (fun K hK=>?_) (fun K hK=>?_)
    ·have hB:=hF.below
     go_simp;refine(htr wc2 hB).mono ?_;rintro e wc3 ⟨fa1,fc1,ta1,tc1,rows1,rows2,rfl,hbn,hr1,hr2,hO1,hO2,hap⟩;obtain⟨BB,TT,hF⟩:=hF.call hbn hO1 hO2;clear hB hbn hO1 hO2;refine otN hK (hSof _ hF.below) ?_;clear hK;have hS:=hSof _ hF.below;refine tkN 17 hS ?_;refine tkN 18 hS ?_;refine tkN 19 hS ?_;refine tkN 20 hS ?_;refine tkN 21 hS ?_;clear hS;refine stN 24 (fun K hK=>?_);go_simp;obtain⟨wc4,G3,e1,e2,hF⟩:=hF.al3
     rw[e1,e2];clear e1 e2;refine otN hK (hSof _ hF.below) ?_;clear hK;exact jmN hJ ⟨G1,G2,G3,BB,TT,fa1,fc1,ta1,tc1,rows1,rows2,rfl,hF,hr1,hr2,hap⟩
    ·go_simp
     obtain⟨wc3,G3,e1,e2,hF⟩:=hF.al3;rw[e1,e2];clear e1 e2;refine otN hK (hSof _ hF.below) ?_;clear hK;refine stN 16 (fun K hK=>?_);have hB:=hF.below;go_simp;refine(htr wc3 hB).mono ?_;rintro e wc4 ⟨fa1,fc1,ta1,tc1,rows1,rows2,rfl,hbn,hr1,hr2,hO1,hO2,hap⟩;obtain⟨BB,TT,hF⟩:=hF.call hbn hO1 hO2;clear hB hbn hO1 hO2;refine otN hK (hSof _ hF.below) ?_;clear hK;have hS:=hSof _ hF.below;refine tkN 17 hS ?_
     refine tkN 18 hS ?_;refine tkN 19 hS ?_;refine tkN 20 hS ?_;refine tkN 21 hS ?_;clear hS;exact jmN hJ ⟨G1,G2,G3,BB,TT,fa1,fc1,ta1,tc1,rows1,rows2,rfl,hF,hr1,hr2,hap⟩
   ·go_simp
    obtain⟨wc2,G3,e1,e2,hF⟩:=hF.al3;rw[e1,e2];clear e1 e2;refine otN hK (hSof _ hF.below) ?_;clear hK;refine twN 16 22 (fun K hK=>?_) (fun K hK=>?_)
    ·have hB:=hF.below
     go_simp;refine(htr wc2 hB).mono ?_;rintro e wc3 ⟨fa1,fc1,ta1,tc1,rows1,rows2,rfl,hbn,hr1,hr2,hO1,hO2,hap⟩;obtain⟨BB,TT,hF⟩:=hF.call hbn hO1 hO2;clear hB hbn hO1 hO2;refine otN hK (hSof _ hF.below) ?_;clear hK;have hS:=hSof _ hF.below;refine tkN 17 hS ?_;refine tkN 18 hS ?_;refine tkN 19 hS ?_;refine tkN 20 hS ?_;refine tkN 21 hS ?_;clear hS;refine stN 22 (fun K hK=>?_);go_simp;obtain⟨wc4,G1,e1,e2,hF⟩:=hF.al1
     rw[e1,e2];clear e1 e2;refine otN hK (hSof _ hF.below) ?_;clear hK;exact jmN hJ ⟨G1,G2,G3,BB,TT,fa1,fc1,ta1,tc1,rows1,rows2,rfl,hF,hr1,hr2,hap⟩
    ·go_simp
     obtain⟨wc3,G1,e1,e2,hF⟩:=hF.al1;rw[e1,e2];clear e1 e2;refine otN hK (hSof _ hF.below) ?_;clear hK;refine stN 16 (fun K hK=>?_);have hB:=hF.below;go_simp;refine(htr wc3 hB).mono ?_;rintro e wc4 ⟨fa1,fc1,ta1,tc1,rows1,rows2,rfl,hbn,hr1,hr2,hO1,hO2,hap⟩;obtain⟨BB,TT,hF⟩:=hF.call hbn hO1 hO2;clear hB hbn hO1 hO2;refine otN hK (hSof _ hF.below) ?_;clear hK;have hS:=hSof _ hF.below;refine tkN 17 hS ?_
     refine tkN 18 hS ?_;refine tkN 19 hS ?_;refine tkN 20 hS ?_;refine tkN 21 hS ?_;clear hS;exact jmN hJ ⟨G1,G2,G3,BB,TT,fa1,fc1,ta1,tc1,rows1,rows2,rfl,hF,hr1,hr2,hap⟩
  ·go_simp
   obtain⟨wc1,G3,e1,e2,hF⟩:=hF.al3;rw[e1,e2];clear e1 e2;refine otN hK (hSof _ hF.below) ?_;clear hK;refine thN 16 22 23 (fun K hK=>?_) (fun K hK=>?_) (fun K hK=>?_)
   ·have hB:=hF.below
    go_simp;refine(htr wc1 hB).mono ?_;rintro e wc2 ⟨fa1,fc1,ta1,tc1,rows1,rows2,rfl,hbn,hr1,hr2,hO1,hO2,hap⟩;obtain⟨BB,TT,hF⟩:=hF.call hbn hO1 hO2;clear hB hbn hO1 hO2;refine otN hK (hSof _ hF.below) ?_;clear hK;have hS:=hSof _ hF.below;refine tkN 17 hS ?_;refine tkN 18 hS ?_;refine tkN 19 hS ?_;refine tkN 20 hS ?_;refine tkN 21 hS ?_;clear hS;refine twN 22 23 (fun K hK=>?_) (fun K hK=>?_)
    ·go_simp
     obtain⟨wc3,G1,e1,e2,hF⟩:=hF.al1;rw[e1,e2];clear e1 e2;refine otN hK (hSof _ hF.below) ?_;clear hK;refine stN 23 (fun K hK=>?_);go_simp;obtain⟨wc4,G2,e1,e2,hF⟩:=hF.al2;rw[e1,e2];clear e1 e2;refine otN hK (hSof _ hF.below) ?_;clear hK;exact jmN hJ ⟨G1,G2,G3,BB,TT,fa1,fc1,ta1,tc1,rows1,rows2,rfl,hF,hr1,hr2,hap⟩
    ·go_simp
     obtain⟨wc3,G2,e1,e2,hF⟩:=hF.al2;rw[e1,e2];clear e1 e2;refine otN hK (hSof _ hF.below) ?_;clear hK;refine stN 22 (fun K hK=>?_);go_simp;obtain⟨wc4,G1,e1,e2,hF⟩:=hF.al1;rw[e1,e2];clear e1 e2;refine otN hK (hSof _ hF.below) ?_;clear hK;exact jmN hJ ⟨G1,G2,G3,BB,TT,fa1,fc1,ta1,tc1,rows1,rows2,rfl,hF,hr1,hr2,hap⟩
   ·go_simp
    obtain⟨wc2,G1,e1,e2,hF⟩:=hF.al1;rw[e1,e2];clear e1 e2;refine otN hK (hSof _ hF.below) ?_;clear hK;refine twN 16 23 (fun K hK=>?_) (fun K hK=>?_)
    ·have hB:=hF.below
     go_simp;refine(htr wc2 hB).mono ?_;rintro e wc3 ⟨fa1,fc1,ta1,tc1,rows1,rows2,rfl,hbn,hr1,hr2,hO1,hO2,hap⟩;obtain⟨BB,TT,hF⟩:=hF.call hbn hO1 hO2;clear hB hbn hO1 hO2;refine otN hK (hSof _ hF.below) ?_;clear hK;have hS:=hSof _ hF.below;refine tkN 17 hS ?_;refine tkN 18 hS ?_;refine tkN 19 hS ?_;refine tkN 20 hS ?_;refine tkN 21 hS ?_;clear hS;refine stN 23 (fun K hK=>?_);go_simp;obtain⟨wc4,G2,e1,e2,hF⟩:=hF.al2
     rw[e1,e2];clear e1 e2;refine otN hK (hSof _ hF.below) ?_;clear hK;exact jmN hJ ⟨G1,G2,G3,BB,TT,fa1,fc1,ta1,tc1,rows1,rows2,rfl,hF,hr1,hr2,hap⟩
    ·go_simp
     obtain⟨wc3,G2,e1,e2,hF⟩:=hF.al2;rw[e1,e2];clear e1 e2;refine otN hK (hSof _ hF.below) ?_;clear hK;refine stN 16 (fun K hK=>?_);have hB:=hF.below;go_simp;refine(htr wc3 hB).mono ?_;rintro e wc4 ⟨fa1,fc1,ta1,tc1,rows1,rows2,rfl,hbn,hr1,hr2,hO1,hO2,hap⟩;obtain⟨BB,TT,hF⟩:=hF.call hbn hO1 hO2;clear hB hbn hO1 hO2;refine otN hK (hSof _ hF.below) ?_;clear hK;have hS:=hSof _ hF.below;refine tkN 17 hS ?_
     refine tkN 18 hS ?_;refine tkN 19 hS ?_;refine tkN 20 hS ?_;refine tkN 21 hS ?_;clear hS;exact jmN hJ ⟨G1,G2,G3,BB,TT,fa1,fc1,ta1,tc1,rows1,rows2,rfl,hF,hr1,hr2,hap⟩
   ·go_simp
    obtain⟨wc2,G2,e1,e2,hF⟩:=hF.al2;rw[e1,e2];clear e1 e2;refine otN hK (hSof _ hF.below) ?_;clear hK;refine twN 16 22 (fun K hK=>?_) (fun K hK=>?_)
    ·have hB:=hF.below
     go_simp;refine(htr wc2 hB).mono ?_;rintro e wc3 ⟨fa1,fc1,ta1,tc1,rows1,rows2,rfl,hbn,hr1,hr2,hO1,hO2,hap⟩;obtain⟨BB,TT,hF⟩:=hF.call hbn hO1 hO2;clear hB hbn hO1 hO2;refine otN hK (hSof _ hF.below) ?_;clear hK;have hS:=hSof _ hF.below;refine tkN 17 hS ?_;refine tkN 18 hS ?_;refine tkN 19 hS ?_;refine tkN 20 hS ?_;refine tkN 21 hS ?_;clear hS;refine stN 22 (fun K hK=>?_);go_simp;obtain⟨wc4,G1,e1,e2,hF⟩:=hF.al1
     rw[e1,e2];clear e1 e2;refine otN hK (hSof _ hF.below) ?_;clear hK;exact jmN hJ ⟨G1,G2,G3,BB,TT,fa1,fc1,ta1,tc1,rows1,rows2,rfl,hF,hr1,hr2,hap⟩
    ·go_simp
     obtain⟨wc3,G1,e1,e2,hF⟩:=hF.al1;rw[e1,e2];clear e1 e2;refine otN hK (hSof _ hF.below) ?_;clear hK;refine stN 16 (fun K hK=>?_);have hB:=hF.below;go_simp;refine(htr wc3 hB).mono ?_;rintro e wc4 ⟨fa1,fc1,ta1,tc1,rows1,rows2,rfl,hbn,hr1,hr2,hO1,hO2,hap⟩;obtain⟨BB,TT,hF⟩:=hF.call hbn hO1 hO2;clear hB hbn hO1 hO2;refine otN hK (hSof _ hF.below) ?_;clear hK;have hS:=hSof _ hF.below;refine tkN 17 hS ?_
     refine tkN 18 hS ?_;refine tkN 19 hS ?_;refine tkN 20 hS ?_;refine tkN 21 hS ?_;clear hS;exact jmN hJ ⟨G1,G2,G3,BB,TT,fa1,fc1,ta1,tc1,rows1,rows2,rfl,hF,hr1,hr2,hap⟩
 case rest =>
  obtain⟨G1,G2,G3,fa1,fc1,ta1,tc1,BB,rows1,rows2,rfl,rfl,rfl,rfl,hB,xG1,xG2,xG3,n12,n13,n23,mG1,mG2,mG3,sB,hr1,hr2,hO1,hO2,hap,e13,e23⟩:=hcut;have hlt:∀ b∈wdFoot Bw av pv fl rs,b<w.heap.size:=fun b hb=>HW.out.blk_lt b hb
  go_upto_if 35 with fail
  go_cut [11] (fun s11 wd=>∃ e:Int,s11=.int .i64 e/\DelMid w wd base Bw av pv (wdFoot Bw av pv fl rs) who tq RD G1 G2 G3 e)
  case first =>
   by_cases hte:te=7
   rotate_left
   ·have q7:(te == 7)=false:=by simp[hte]
    have hRD:RD=arriveS V who tq ⟨tM1,to1,tM2,to2,⟨tk,tn⟩,te⟩:=by rw[HD.out,if_neg hte]
    have HZ:Aside (DelMid w wc base Bw av pv (wdFoot Bw av pv fl rs) who tq RD G1 G2 G3 te):=⟨V,fl,rs,⟨tM1,to1,tM2,to2,⟨tk,tn⟩,te⟩,x,y,fa1,fc1,ta1,tc1,rows1,rows2,BB,rfl,hRD,HSH.out,hx,hy,HW.out.below hB,Moved.of_below hB,fun b hb=>by have:=hlt b hb;exact⟨by omega,by omega⟩,sB,mG1,mG2,mG3,hr1,hr2,hO1,hO2,hap,e13,e23⟩;clear hO1 hO2 hap hr1 hr2 e13 e23;go_wp2
    go_meet
    case rel=>exact⟨te,rfl,HZ.out⟩
   subst hte;obtain⟨y8,y6⟩:=HSH.out tq y hy;have hcl:=clearUp_any wc (HW.out.below hB) hy HAV.out y8 y6;have g1l:=(Array.getElem?_eq_some_iff.1 mG1).1;have g2l:=(Array.getElem?_eq_some_iff.1 mG2).1;have g3l:=(Array.getElem?_eq_some_iff.1 mG3).1;have nf1:G1∉wdFoot Bw av pv fl rs:=fun hb=>by have:=hlt _ hb;omega
   have nf2:G2∉wdFoot Bw av pv fl rs:=fun hb=>by have:=hlt _ hb;omega
   have nf3:G3∉wdFoot Bw av pv fl rs:=fun hb=>by have:=hlt _ hb;omega
   clear hO1 hO2 hap hr1 hr2 e13 e23
   go_wp2_with fail
   refine hcl.mono ?_;rintro e W3 ⟨rfl,fl1,rs1,hW3,hM3⟩;clear hcl;have hM3w:=(Moved.of_below (F:=wdFoot Bw av pv fl rs) hB).trans hM3;have sW3:=hM3.size;have mf1:G1∉wdFoot Bw av pv fl1 rs1:=fun hb=>by rcases hM3.sub _ hb with k | k;exact nf1 k;omega
   have mf2:G2∉wdFoot Bw av pv fl1 rs1:=fun hb=>by rcases hM3.sub _ hb with k | k;exact nf2 k;omega
   have mf3:G3∉wdFoot Bw av pv fl1 rs1:=fun hb=>by rcases hM3.sub _ hb with k | k;exact nf3 k;omega
   replace mG1:=(hM3.keep G1 g1l nf1).trans mG1;replace mG2:=(hM3.keep G2 g2l nf2).trans mG2;replace mG3:=(hM3.keep G3 g3l nf3).trans mG3;replace g1l:=Nat.lt_of_lt_of_le g1l sW3;replace g2l:=Nat.lt_of_lt_of_le g2l sW3;replace g3l:=Nat.lt_of_lt_of_le g3l sW3;have hy1:=set_at hy (clearS y);have hS3:Shp { V with acts:=V.acts.set tq (clearS y) }:=HSH.out.set (clearS_regs.trans y8) (by rw[clearS_box];exact y6)
   obtain⟨x1,hx1⟩:=at_some (l:=V.acts.set tq (clearS y)) (i:=who) (by rw[List.length_set];exact(List.getElem?_eq_some_iff.1 hx).1);have z8:=(hS3 who x1 hx1).1;obtain⟨R1,fc3,r3,rc1,hfc3,hr3,hra1,k4,kq,_,hRl1,_⟩:=hW3.regAt HAV.out hx1 z8;obtain⟨s,hs⟩:=at_some (l:=x1.regs) (i:=q) (by omega);obtain⟨ra1,ra2⟩:=kq q _ hs;obtain⟨sk,sn⟩:=s;obtain⟨oa1,oc1,_,_,_,_,_,k2,k3,hO⟩:=hW3.heapAt HAV.out hx1;obtain⟨pa1,pc1,_,_,_,_,_,m2,m3,hP⟩:=hW3.heapAt HAV.out hy1
   simp only at ra1 ra2;have htr1:∀ w',Below W3.heap.size W3 w'->Calls Tryz.prog 156 #[.agg #[.int .i64 x1.M,.slice oa1 x1.obs.length oc1],.agg #[.int .i64 sk,.int .i64 sn],.agg #[.int .i64 (clearS y).M,.slice pa1 (clearS y).obs.length pc1],.bool mv] w' _:=fun w' hb=>transfer_any2 x1.M oa1 oc1 x1.obs sk sn (clearS y).M pa1 pc1 (clearS y).obs mv w' (hO.keeps (Keeps.below hb)) (hP.keeps (Keeps.below hb))
   have HD2:Aside (RD=arriveS { V with acts:=V.acts.set tq (clearS y) } who tq (transferS x1.M x1.obs ⟨sk,sn⟩ (clearS y).M (clearS y).obs mv)):=by
    show RD=_
    rw[HD.out];simp only[if_true];have ereg:x1.reg q=⟨sk,sn⟩:=by
     unfold Ac.reg
     rw[Int.toNat_natCast,hs]
     rfl
    unfold trW
    rw[at_of (V:={ V with acts:=V.acts.set tq (clearS y) }) hx1,at_of (V:={ V with acts:=V.acts.set tq (clearS y) }) hy1,ereg]
   generalize hT1:transferS x1.M x1.obs ⟨sk,sn⟩ (clearS y).M (clearS y).obs mv=T1 at *;clear hT1;obtain⟨sM1,so1,sM2,so2,⟨uk,un⟩,se⟩:=T1;simp only at htr1;generalize x1.M=x1M at *;generalize x1.obs.length=x1L at *;generalize (clearS y).M=y1M at *;generalize (clearS y).obs.length=y1L at *;have hRne:R1∈wdFoot Bw av pv fl1 rs1:=List.mem_append_right _ (mem_actsFoot hfc3 hr3 (List.mem_append_right _ (List.mem_append_left _ (by rw[mem_vB,hra1];rfl))))
   have hgl3:g<W3.heap.size:=by have:=hB.size;omega
   have nR1:R1≠G1:=fun e=>mf1 (by rw[<- e];exact hRne)
   have nR2:R1≠G2:=fun e=>mf2 (by rw[<- e];exact hRne)
   have nR3:R1≠G3:=fun e=>mf3 (by rw[<- e];exact hRne)
   have hSof2:∀ w':World,(∀ b,b<W3.heap.size->b≠G1->b≠G2->b≠G3->w'.heap[b]?=W3.heap[b]?)->(w'.cell? ⟨g,who*8+2,none⟩=some (.int .i64 x1M)/\w'.cell? ⟨g,who*8+3,none⟩=some (.slice oa1 x1L oc1)/\w'.cell? ⟨g,who*8+4,none⟩=some (.slice (some ⟨R1,0,none⟩) 8 rc1)/\w'.cell? ⟨R1,q*2,none⟩=some (.int .i64 sk)/\w'.cell? ⟨R1,q*2+1,none⟩=some (.int .i64 sn)/\w'.cell? ⟨g,tq*8+2,none⟩=some (.int .i64 y1M)/\w'.cell? ⟨g,tq*8+3,none⟩=some (.slice pa1 y1L pc1)):=fun w' hk=>by
    have hg:=hk g hgl3 (by omega) (by omega) (by omega);have hR:=hk R1 hRl1 nR1 nR2 nR3;exact⟨(World.cell?_of_block (a:=⟨g,who*8+2,none⟩) hg).trans k2,(World.cell?_of_block (a:=⟨g,who*8+3,none⟩) hg).trans k3,(World.cell?_of_block (a:=⟨g,who*8+4,none⟩) hg).trans k4,(World.cell?_of_block (a:=⟨R1,q*2,none⟩) hR).trans ra1,(World.cell?_of_block (a:=⟨R1,q*2+1,none⟩) hR).trans ra2,(World.cell?_of_block (a:=⟨g,tq*8+2,none⟩) hg).trans m2,(World.cell?_of_block (a:=⟨g,tq*8+3,none⟩) hg).trans m3⟩
   go_upto_region 3 with fail
   have hBd:Below W3.heap.size W3 W3.drew:=(Below.refl _ _).drew;refine wp_region_need (fun _=>true) (fun w'=>w'.cell? ⟨g,who*8+2,none⟩=some (.int .i64 x1M)/\w'.cell? ⟨g,who*8+3,none⟩=some (.slice oa1 x1L oc1)/\w'.cell? ⟨g,who*8+4,none⟩=some (.slice (some ⟨R1,0,none⟩) 8 rc1)/\w'.cell? ⟨R1,q*2,none⟩=some (.int .i64 sk)/\w'.cell? ⟨R1,q*2+1,none⟩=some (.int .i64 sn)/\w'.cell? ⟨g,tq*8+2,none⟩=some (.int .i64 y1M)/\w'.cell? ⟨g,tq*8+3,none⟩=some (.slice pa1 y1L pc1)) (by kernel_rfl) (hSof2 _ (fun b hb _ _ _=>hBd.block b hb)) (fun hS=>?_)
   generalize W3.drew=wn at hS hBd ⊢;refine tkN 0 hS ?_;refine tkN 1 hS ?_;refine tkN 2 hS ?_;refine tkN 3 hS ?_;refine tkN 4 hS ?_;refine tkN 5 hS ?_;refine tkN 6 hS ?_;refine tkN 7 hS ?_;refine tkN 8 hS ?_;refine tkN 9 hS ?_;refine tkN 10 hS ?_;refine tkN 11 hS ?_;refine tkN 12 hS ?_;refine tkN 13 hS ?_;refine tkN 14 hS ?_;refine tkN 15 hS ?_;refine stN 16 (fun K hK=>?_);go_simp;refine(htr1 wn hBd).mono ?_
   rintro e W4 ⟨fa3,fc3,ta3,tc3,rw1,rw2,rfl,hb4,hq1,hq2,hO1,hO2,hap⟩;have hB4:Below W3.heap.size W3 W4:=hBd.trans (hb4.mono hBd.size);have hS4:=hSof2 W4 (fun b hb _ _ _=>hB4.block b hb);refine otN hK (hS4) ?_;clear hK;replace hS:=hS4;refine tkN 17 hS ?_;refine tkN 18 hS ?_;refine tkN 19 hS ?_;refine tkN 20 hS ?_;refine tkN 21 hS ?_;have l1:=hBd.size;have hM4:=hM3w.trans (Moved.of_below hB4);replace mG1:=(hB4.block G1 g1l).trans mG1
   replace mG2:=(hB4.block G2 g2l).trans mG2;replace mG3:=(hB4.block G3 g3l).trans mG3;have b1:∀ b∈vB (.slice fa3 so1.length fc3)++rowsB rw1,W3.heap.size<=b:=fun b hb=>Nat.le_trans l1 (hO1.blk_le b hb).1
   have b2:∀ b∈vB (.slice ta3 so2.length tc3)++rowsB rw2,W3.heap.size<=b:=fun b hb=>Nat.le_trans l1 (hO2.blk_le b hb).1
   have a1:W4.cell? ⟨G1,0,none⟩=some (.int .i64 tM1):=cell_blk mG1 0;have a2:W4.cell? ⟨G1,1,none⟩=some (.slice fa1 to1.length fc1):=cell_blk mG1 1;have f1:∀ i,W4.frozen? ⟨G1,i,none⟩=false:=fun i=>fz_blk mG1 i
   refine stN 22 (fun K hK=>?_);go_simp;have o5:∀ b,b≠G1->((W4.setCell ⟨G1,0,none⟩ (.int .i64 sM1)).setCell ⟨G1,1,none⟩ (.slice fa3 so1.length fc3)).heap[b]?=W4.heap[b]?:=fun b hb=>two_other 0 1 _ _ hb
   replace hM4:=(hM4.setNew xG1 0 (.int .i64 sM1)).setNew xG1 1 (.slice fa3 so1.length fc3);have p5:=two_blk mG1 0 1 (.int .i64 sM1) (.slice fa3 so1.length fc3);have hS5:=hSof2 ((W4.setCell ⟨G1,0,none⟩ (.int .i64 sM1)).setCell ⟨G1,1,none⟩ (.slice fa3 so1.length fc3)) (fun b hb h1 _ _=>(o5 b h1).trans (hB4.block b hb));refine otN hK (hS5) ?_;clear hK;replace hS:=hS5;clear a1 a2 f1;generalize (W4.setCell ⟨G1,0,none⟩ (.int .i64 sM1)).setCell ⟨G1,1,none⟩ (.slice fa3 so1.length fc3)=W5 at *
   replace mG2:=(o5 G2 (Ne.symm n12)).trans mG2;replace mG3:=(o5 G3 (Ne.symm n13)).trans mG3;have a1:W5.cell? ⟨G2,0,none⟩=some (.int .i64 tM2):=cell_blk mG2 0;have a2:W5.cell? ⟨G2,1,none⟩=some (.slice ta1 to2.length tc1):=cell_blk mG2 1;have f1:∀ i,W5.frozen? ⟨G2,i,none⟩=false:=fun i=>fz_blk mG2 i
   refine stN 23 (fun K hK=>?_);go_simp;have o6:∀ b,b≠G2->((W5.setCell ⟨G2,0,none⟩ (.int .i64 sM2)).setCell ⟨G2,1,none⟩ (.slice ta3 so2.length tc3)).heap[b]?=W5.heap[b]?:=fun b hb=>two_other 0 1 _ _ hb
   replace hM4:=(hM4.setNew xG2 0 (.int .i64 sM2)).setNew xG2 1 (.slice ta3 so2.length tc3);have p6:=two_blk mG2 0 1 (.int .i64 sM2) (.slice ta3 so2.length tc3);have hS6:=hSof2 ((W5.setCell ⟨G2,0,none⟩ (.int .i64 sM2)).setCell ⟨G2,1,none⟩ (.slice ta3 so2.length tc3)) (fun b hb h1 h2 _=>(o6 b h2).trans ((o5 b h1).trans (hB4.block b hb)));refine otN hK (hS6) ?_;clear hK;replace hS:=hS6;clear a1 a2 f1
   generalize (W5.setCell ⟨G2,0,none⟩ (.int .i64 sM2)).setCell ⟨G2,1,none⟩ (.slice ta3 so2.length tc3)=W6 at *;replace p5:=(o6 G1 n12).trans p5;replace mG3:=(o6 G3 (Ne.symm n23)).trans mG3;have a1:W6.cell? ⟨G3,0,none⟩=some (.int .i64 tk):=cell_blk mG3 0;have a2:W6.cell? ⟨G3,1,none⟩=some (.int .i64 tn):=cell_blk mG3 1;have f1:∀ i,W6.frozen? ⟨G3,i,none⟩=false:=fun i=>fz_blk mG3 i
   refine stN 24 (fun K hK=>?_);go_simp;have o7:∀ b,b≠G3->((W6.setCell ⟨G3,0,none⟩ (.int .i64 uk)).setCell ⟨G3,1,none⟩ (.int .i64 un)).heap[b]?=W6.heap[b]?:=fun b hb=>two_other 0 1 _ _ hb
   replace hM4:=(hM4.setNew xG3 0 (.int .i64 uk)).setNew xG3 1 (.int .i64 un);have p7:=two_blk mG3 0 1 (.int .i64 uk) (.int .i64 un);have hS7:=hSof2 ((W6.setCell ⟨G3,0,none⟩ (.int .i64 uk)).setCell ⟨G3,1,none⟩ (.int .i64 un)) (fun b hb h1 h2 h3=>(o7 b h3).trans ((o6 b h2).trans ((o5 b h1).trans (hB4.block b hb))));refine otN hK (hS7) ?_;clear hK;replace hS:=hS7;clear a1 a2 f1;generalize (W6.setCell ⟨G3,0,none⟩ (.int .i64 uk)).setCell ⟨G3,1,none⟩ (.int .i64 un)=W7 at *
   replace p5:=(o7 G1 n13).trans p5;replace p6:=(o7 G2 n23).trans p6;have hoth:∀ b,b≠G1->b≠G2->b≠G3->W7.heap[b]?=W4.heap[b]?:=fun b h1 h2 h3=>(o7 b h3).trans ((o6 b h2).trans (o5 b h1))
   refine tkN 25 hS ?_;refine dnN ?_;have hW7:WdOwn W7 base Bw _ av pv fl1 rs1:=(hW3.below hB4).at_block (fun b hb=>hoth b (fun e=>mf1 (by rw[<- e];exact hb)) (fun e=>mf2 (by rw[<- e];exact hb)) (fun e=>mf3 (by rw[<- e];exact hb)));have HZ:Aside (DelMid w W7 base Bw av pv (wdFoot Bw av pv fl rs) who tq RD G1 G2 G3 se):=by
    exact⟨_,fl1,rs1,⟨sM1,so1,sM2,so2,⟨uk,un⟩,se⟩,x1,clearS y,fa3,fc3,ta3,tc3,rw1,rw2,W3.heap.size,rfl,HD2.out,hS3,hx1,hy1,hW7,hM4,fun b hb=>⟨hW3.blk_lt b hb,fun e=>mf3 (by rw[<- e];exact hb)⟩,by have:=hM3w.size;omega,p5,p6,p7,hq1,hq2,(hO1.at_block (fun b hb=>hoth b (by have:=b1 b hb;omega) (by have:=b1 b hb;omega) (by have:=b1 b hb;omega))).base l1,(hO2.at_block (fun b hb=>hoth b (by have:=b2 b hb;omega) (by have:=b2 b hb;omega) (by have:=b2 b hb;omega))).base l1,hap,fun b hb=>by have:=b1 b hb;omega,fun b hb=>by have:=b2 b hb;omega⟩
   clear hW7 hO1 hO2 hap hq1 hq2
   go_wp2_with fail
   go_meet
   case rel=>exact⟨se,rfl,HZ.out⟩
  case rest =>
   obtain⟨e,rfl,VV,fl1,rs1,T,x1,y1,fa2,fc2,ta2,tc2,rw1,rw2,B2,rfl,hRD,hS1,hx1,hy1,hW1,hM1,hf1,hB2,mH1,mH2,mH3,hq1,hq2,hP1,hP2,hap2,e1,e2⟩:=hcut;clear mG1 mG2 mG3 hO1 hO2 hap e13 e23 hr1 hr2 sB HD hB;obtain⟨M1,o1,M2,o2,⟨zk,zn⟩,te2⟩:=T;simp only at mH1 mH2 mH3 hq1 hq2 hP1 hP2 hap2 e1 e2;have HRD:Aside (RD=arriveS VV who tq ⟨M1,o1,M2,o2,⟨zk,zn⟩,te2⟩):=hRD;clear hRD;have hgw:g∈wdFoot Bw av pv fl1 rs1:=List.mem_append_left _ (by simp[mem_vB,HAV.out,Value.ownBlock])
   have n1:g≠G1:=by omega
   have n2:g≠G2:=by omega
   have n3:g≠G3:=by omega
   by_cases hte:te2=0
   rotate_left
   ·have q0:(te2 != 0)=true:=by simp[hte]
    have hRD:RD=VV:=by
     rw[HRD.out]
     unfold arriveS
     rw[if_pos hte]
    have HZ:Aside (∃ fl' rs',WdOwn wc base Bw RD av pv fl' rs'/\Moved w wc (wdFoot Bw av pv fl rs) (wdFoot Bw av pv fl' rs')):=⟨fl1,rs1,by rw[hRD];exact hW1,hM1⟩;clear hRD hW1 hM1 hP1 hP2;go_wp2
    exact bodyPost_ret (v:=.tuple #[]) (by simp[results,Tryz.results155,go_sem]) rfl ⟨rfl,HZ.out⟩
   subst hte;have hbase:base<=B2:=by
    have:=(World.ownsRow.lt hW1.acts g (by rw[HAV.out];rfl)).1;have:=(hf1 g hgw).1;omega
   have hdis1:∀ b∈vB (.slice fa2 o1.length fc2)++rowsB rw1,b∉wdFoot Bw av pv fl1 rs1:=fun b hb hb'=>by
    have:=(hf1 b hb').1;have:=(hP1.blk_le b hb).1;omega
   have hap3:=heaps_apart hap2 hP1 hP2;obtain⟨fl2,rs2,hW2,hM2,hf2⟩:=hW1.newHeap3 hx1 HAV.out (M:=M1) hq1 rfl hP1 hbase hdis1 hM1 hB2;have hoth2:∀ b,b≠g->((wc.setCell ⟨g,who*8+2,none⟩ (.int .i64 M1)).setCell ⟨g,who*8+3,none⟩ (.slice fa2 o1.length fc2)).heap[b]?=wc.heap[b]?:=fun b hb=>two_other _ _ _ _ hb
   have hP2':=hP2.at_block (fun b hb=>hoth2 b (fun e=>by have h1:=(hf1 g hgw).1;have h2:=(hP2.blk_le b hb).1;omega));have mK2:=(hoth2 G2 (Ne.symm n2)).trans mH2;have mK3:=(hoth2 G3 (Ne.symm n3)).trans mH3;have hdis2:∀ b∈vB (.slice ta2 o2.length tc2)++rowsB rw2,b∉wdFoot Bw av pv fl2 rs2:=fun b hb hb'=>by
    rcases hf2 b hb' with h1 | h1
    ·have:=(hf1 b h1).1
     have:=(hP2.blk_le b hb).1;omega
    ·exact hap3 b h1 hb
   have hg32:G3∉wdFoot Bw av pv fl2 rs2:=fun hb=>by
    rcases hf2 _ hb with h1 | h1
    ·exact(hf1 _ h1).2 rfl
    ·exact e1 _ h1 rfl
   have c1:wc.cell? ⟨G1,0,none⟩=some (.int .i64 M1):=cell_blk mH1 0;have c2:wc.cell? ⟨G1,1,none⟩=some (.slice fa2 o1.length fc2):=cell_blk mH1 1;obtain⟨_,_,_,_,_,_,_,p2,p3,_,_,_,_⟩:=hW1.cellsAt HAV.out hx1;have pf:=hW1.fz HAV.out;have hS2:Shp { VV with acts:=VV.acts.set who (x1.heap M1 o1) }:=hS1.set (hS1 who x1 hx1).1 (hS1 who x1 hx1).2;obtain⟨y2,hy2⟩:=at_some (l:=VV.acts.set who (x1.heap M1 o1)) (i:=tq) (by rw[List.length_set];exact(List.getElem?_eq_some_iff.1 hy1).1)
   have HR2:Aside (RD={ VV with acts:=(VV.acts.set who (x1.heap M1 o1)).set tq ((y2.heap M2 o2).push ⟨zk,zn⟩) }):=by
    show RD=_
    rw[HRD.out]
    unfold arriveS
    rw[if_neg (by simp),at_of hx1];have e:(VV.put who (x1.heap M1 o1)).at tq=y2:=at_of (V:={ VV with acts:=VV.acts.set who (x1.heap M1 o1) }) hy2;simp only[e]
    rfl
   clear HRD
   go_upto_region 6 with fail
   clear hoth2 hW1 hM1 hP1 hP2 p2 p3 pf c1 c2 mH1 mH2 mH3 hdis1;generalize (wc.setCell ⟨g,who*8+2,none⟩ (.int .i64 M1)).setCell ⟨g,who*8+3,none⟩ (.slice fa2 o1.length fc2)=W2 at *;obtain⟨fl3,rs3,hW3,hM3,hf3⟩:=hW2.newHeap3 hy2 HAV.out (M:=M2) hq2 rfl hP2' hbase hdis2 hM2 hB2;have mK4:=(two_other (w:=W2) (tq*8+2) (tq*8+3) (.int .i64 M2) (.slice ta2 o2.length tc2) (show G3≠g from Ne.symm n3)).trans mK3
   have hg33:G3∉wdFoot Bw av pv fl3 rs3:=fun hb=>by
    rcases hf3 _ hb with h1 | h1
    ·exact hg32 h1
    ·exact e2 _ h1 rfl
   have c1:W2.cell? ⟨G2,0,none⟩=some (.int .i64 M2):=cell_blk mK2 0;have c2:W2.cell? ⟨G2,1,none⟩=some (.slice ta2 o2.length tc2):=cell_blk mK2 1;obtain⟨_,_,_,_,_,_,_,p2,p3,_,_,_,_⟩:=hW2.cellsAt HAV.out hy2;have pf:=hW2.fz HAV.out
   go_upto_region 7 with fail
   clear hW2 hM2 hP2' p2 p3 pf c1 c2 mK2 mK3 hdis2;generalize (W2.setCell ⟨g,tq*8+2,none⟩ (.int .i64 M2)).setCell ⟨g,tq*8+3,none⟩ (.slice ta2 o2.length tc2)=W5 at *;have hy3:=set_at hy2 (y2.heap M2 o2);have h26:y2.box.length<=6:=(hS2 tq y2 hy2).2;obtain⟨fd,rd,hfd,hrd,hA5,u0,u1,u2,u3,u4,u5,k6,u7⟩:=hW3.cellsAt HAV.out hy3;clear u0 u1 u2 u3 u4 u5 u7;have hgn:g∉vB (.slice fd.ba fd.bn fd.bc):=fun hb=>(hW3.apart1 tq fd rd hfd hrd).2 g (List.mem_append_right _ (List.mem_append_right _ hb)) (by simp[mem_vB,HAV.out,Value.ownBlock])
   have hGb:G3∉vB (.slice fd.ba fd.bn fd.bc):=fun hb=>hg33 (List.mem_append_right _ (mem_actsFoot hfd hrd (List.mem_append_right _ (List.mem_append_right _ hb))))
   have hgw5:g<W5.heap.size:=hW3.blk_lt g (List.mem_append_left _ (by simp[mem_vB,HAV.out,Value.ownBlock]));have hGw:=(Array.getElem?_eq_some_iff.1 mK4).1;have hfz:=hW3.fz HAV.out;have hbn:fd.bn=y2.box.length:=hA5.bn;have HBN:Aside (fd.bn=y2.box.length):=hbn;clear hbn hA5;have hBd:Below W5.heap.size W5 W5.drew:=(Below.refl _ _).drew;have hSof:∀ w',Below W5.heap.size W5 w'->(w'.cell? ⟨g,tq*8+6,none⟩=some (.slice fd.ba y2.box.length fd.bc)/\w'.cell? ⟨G3,0,none⟩=some (.int .i64 zk)/\w'.cell? ⟨G3,1,none⟩=some (.int .i64 zn)):=fun w' hb=>⟨Keeps.below hb _ _ k6,Keeps.below hb _ _ (cell_blk mK4 0),Keeps.below hb _ _ (cell_blk mK4 1)⟩
   refine wp_region_need (fun j=>j != 10) (fun w'=>w'.cell? ⟨g,tq*8+6,none⟩=some (.slice fd.ba y2.box.length fd.bc)/\w'.cell? ⟨G3,0,none⟩=some (.int .i64 zk)/\w'.cell? ⟨G3,1,none⟩=some (.int .i64 zn)) (by kernel_rfl) (hSof _ hBd) (fun hS=>?_);generalize W5.drew=wn at hS hBd ⊢;refine tkN 0 hS ?_;refine tkN 1 hS ?_;refine tkN 2 hS ?_;refine tkN 3 hS ?_;refine tkN 4 hS ?_;refine tkN 5 hS ?_;refine stN 6 (fun K hK=>?_)
   go_simp;have hBe:Below W5.heap.size W5 (wn.alloc (.cells #[.int .i64 zk,.int .i64 zn] 66)):=hBd.alloc hBd.size _;have NB:=Deep.blk_alloc_new wn (.cells #[.int .i64 zk,.int .i64 zn] 66);refine otN hK (hSof _ hBe) ?_;clear hK;replace hS:=hSof _ hBe;generalize wn.alloc (.cells #[.int .i64 zk,.int .i64 zn] 66)=we at *;generalize wn.heap.size=NN at *;have hbx:SeqOwn fVl 2 66 we base (.slice fd.ba y2.box.length fd.bc) y2.box:=by
    have h1:=((hW3.below hBe).each tq fd rd _ hfd hrd hy3).box;rw[HBN.out] at h1;exact h1
   refine wpAnyN_one (i:=7) (by kernel_rfl) rfl (fun K hK=>?_);refine step_seq Tryz.rowVl (by rfl) _ _ (by rfl) (v:=.slice fd.ba y2.box.length fd.bc) (by rfl) hbx (Nat.le_trans (hW3.base_le HAV.out) hBe.size) [⟨zk,zn⟩] (some ⟨NN,0,none⟩) 1 (by rfl) (seqVl_of ?_) (by simp) (by simp;omega) (by simp[maxLen];omega) ?_
   ·intro i v hi
    have e:i=0:=by
     have:=(List.getElem?_eq_some_iff.1 hi).1
     simpa using this
    subst e;simp at hi;subst hi;exact⟨NN,0,rfl,cell_blk NB 0,cell_blk NB 1⟩
   intro B cap w6 hO6 hg6 _ hB6;have hkeep:∀ b,b<W5.heap.size->b∉vB (.slice fd.ba fd.bn fd.bc)->w6.heap[b]?=we.heap[b]?:=fun b hb hb'=>hg6.block b (Nat.lt_of_lt_of_le hb hBe.size) (fun e=>hb' (by rw[HBN.out];exact mem_vB.2 e.symm))
   have hS6:w6.cell? ⟨g,tq*8+6,none⟩=some (.slice fd.ba y2.box.length fd.bc)/\w6.cell? ⟨G3,0,none⟩=some (.int .i64 zk)/\w6.cell? ⟨G3,1,none⟩=some (.int .i64 zn):=by
    have c1:=hSof _ hBe;exact⟨(World.cell?_of_block (a:=⟨g,tq*8+6,none⟩) (hkeep g hgw5 hgn)).trans c1.1,(World.cell?_of_block (a:=⟨G3,0,none⟩) (hkeep G3 hGw hGb)).trans c1.2.1,(World.cell?_of_block (a:=⟨G3,1,none⟩) (hkeep G3 hGw hGb)).trans c1.2.2⟩
   refine otN hK hS6 ?_;clear hK hS;have hS:=hS6;refine tkN 8 hS ?_;refine tkN 9 hS ?_;have hfz6:∀ i,w6.frozen? ⟨g,i,none⟩=false:=fun i=>by
    have e:w6.heap[g]?=W5.heap[g]?:=(hkeep g hgw5 hgn).trans (hBe.block g hgw5);have:=hfz i;simp only[World.frozen?,e] at this ⊢
    exact this
   have hg6c:=hS6.1;refine stN 10 (fun K hK=>?_);go_simp;refine laN hK ?_;clear hK;have hz:=(hW3.below hBe).pushBox hfd hrd hy3 HAV.out (by rw[HBN.out];exact hg6) hO6 (by simp) (by rw[HBN.out];exact hB6);have hzM:=(hM3.trans (Moved.of_below hBe)).trans hz.2;replace hz:=hz.1;simp only[List.set_set] at hz;have HZ:Aside (∃ fl' rs',WdOwn (w6.setCell ⟨g,tq*8+6,none⟩ (.slice (some ⟨B,0,none⟩) (y2.box.length+[(⟨zk,zn⟩:Vl)].length) cap)) base Bw RD av pv fl' rs'/\Moved w (w6.setCell ⟨g,tq*8+6,none⟩ (.slice (some ⟨B,0,none⟩) (y2.box.length+[(⟨zk,zn⟩:Vl)].length) cap)) (wdFoot Bw av pv fl rs) (wdFoot Bw av pv fl' rs')):=by
    refine⟨_,_,?_,hzM⟩;rw[HR2.out];exact hz
   clear hz hzM;go_wp2
   go_end0
   exact⟨rfl,HZ.out⟩
end Go.Proofs.YtepifccbbmdfcaaGreatDoor
