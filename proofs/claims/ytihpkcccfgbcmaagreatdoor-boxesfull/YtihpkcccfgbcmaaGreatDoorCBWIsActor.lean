/- WIsActor. -/
import Derived.Test.YtihpkcccfgbcmaaGreatDoorCBHSet
namespace Go.Proofs.YtihpkcccfgbcmaaGreatDoor
set_option maxRecDepth 100000
set_option maxHeartbeats 8000000
section
open Go.RowKit
theorem aput_any (op a b n kind:Int) (w:World) {base Bw:Nat} {V:Wd} {av pv:Value} {fl:List Fa} {rs:List (List (Value × Ob))} (h:WdOwn w base Bw V av pv fl rs) {j:Nat} {x:Ac} (hx:V.acts[j]?=some x) {g nn c:Nat} (hav:av=.slice (some ⟨g,0,none⟩) nn c) (h8:x.regs.length=8) (ha:0<=a/\a<=7) (hb:0<=b/\b<=7) :
  Calls Tryz.prog 133 #[.pointer (some ⟨g,j*8,none⟩),.agg #[.int .i64 op,.int .i64 a,.int .i64 b,.int .i64 n],.int .i64 kind] w fun e w'=>e=.returned (.int .i64 (putsS x ⟨op,a,b,n⟩ kind).2)/\∃ fl' rs',WdOwn w' base Bw { V with acts:=V.acts.set j (putsS x ⟨op,a,b,n⟩ kind).1 } av pv fl' rs'/\Moved w w' (wdFoot Bw av pv fl rs) (wdFoot Bw av pv fl' rs'):=by
 obtain⟨qa,va,rfl,hqa,hva,era⟩:=reg_of ha h8;obtain⟨qb,vb,rfl,hqb,hvb,erb⟩:=reg_of hb h8;obtain⟨N0,k1,b1,s1⟩:=boxes1 w (.cells #[.int .i64 op,.int .i64 qa,.int .i64 qb,.int .i64 n] 49);have h1:=h.below b1;obtain⟨R,fa,r,rc,hfa,hr,hra,k4,kq,kf,hRl,_⟩:=h1.regAt hav hx h8;obtain⟨oa,oc,_,_,_,_,_,k2,k3,hO⟩:=h1.heapAt hav hx;obtain⟨ra1,ra2⟩:=kq qa _ hva;obtain⟨rb1,rb2⟩:=kq qb _ hvb;have kfg:=h1.fz hav;have HRK:Aside (putsS x ⟨op,qa,qb,n⟩ kind=if (setS x.M x.obs va n vb).2.2≠0 then (x,faultS (setS x.M x.obs va n vb).2.2) else if vb.k≠kind then (x,8) else (x.heap (setS x.M x.obs va n vb).1 (setS x.M x.obs va n vb).2.1,0)):=by
  show putsS x ⟨op,qa,qb,n⟩ kind=_
  simp only[putsS,era,erb]
 generalize putsS x ⟨op,qa,qb,n⟩ kind=RK at *;have hza:(qa:Int)<8:=by omega
 have hzb:(qb:Int)<8:=by omega
 have HW:Aside (WdOwn w base Bw V av pv fl rs):=h;have HAV:Aside (av=.slice (some ⟨g,0,none⟩) nn c):=hav;have hgl:g<w.heap.size:=(World.ownsRow.lt h.acts g (by rw[hav];rfl)).2;have HM:Aside (∀ w',Below w.heap.size w w'->Moved w w' (wdFoot Bw av pv fl rs) (wdFoot Bw av pv fl rs)):=fun w' hb'=>Moved.of_below hb'
 go_enter Tryz.func133,Tryz.ntmps133
 go_upto_region 1 with fail
 generalize w.alloc (.cells #[.int .i64 op,.int .i64 qa,.int .i64 qb,.int .i64 n] 49)=W at *;have e1:W.cell? ⟨w.heap.size,1,none⟩=some (.int .i64 qa):=cell_blk N0 1;have e2:W.cell? ⟨w.heap.size,2,none⟩=some (.int .i64 qb):=cell_blk N0 2;have e3:W.cell? ⟨w.heap.size,3,none⟩=some (.int .i64 n):=cell_blk N0 3;obtain⟨yk,yn⟩:=vb;obtain⟨xk,xn⟩:=va;simp only at ra1 ra2 rb1 rb2 HRK;clear h h1 N0 hav kq;obtain⟨GR,hGR⟩:∃ GR,GR=setS x.M x.obs ⟨xk,xn⟩ n ⟨yk,yn⟩:=⟨_,rfl⟩
 rw[<- hGR] at HRK;have hset:=fun w' (hb:Below W.heap.size W w')=>set_any x.M oa oc x.obs xk xn n yk yn w' (hO.keeps (Keeps.below hb))
 rw[<- hGR] at hset;clear hGR;generalize x.M=XM at *;generalize x.obs.length=XL at *;obtain⟨gM,gl,ge⟩:=GR;simp only at hset HRK;have hSof:∀ w',Below W.heap.size W w'->(w'.cell? ⟨w.heap.size,2,none⟩=some (.int .i64 qb)/\w'.cell? ⟨g,j*8+4,none⟩=some (.slice (some ⟨R,0,none⟩) 8 rc)/\w'.cell? ⟨R,qb*2,none⟩=some (.int .i64 yk)/\w'.cell? ⟨R,qb*2+1,none⟩=some (.int .i64 yn)):=fun w' hb'=>⟨Keeps.below hb' _ _ e2,Keeps.below hb' _ _ k4,Keeps.below hb' _ _ rb1,Keeps.below hb' _ _ rb2⟩
 go_cut [7] (fun s7 wc=>∃ Q:Nat,s7=.pointer (some ⟨Q,0,none⟩)/\Below W.heap.size W wc/\W.heap.size<=Q/\wc.heap[Q]?=some (.cells #[.int .i64 yk,.int .i64 yn] 66 (0,0)))
 case first =>
  have hB:Below W.heap.size W W.drew:=(Below.refl _ _).drew;refine wp_region_need (fun _=>true) (fun w'=>w'.cell? ⟨w.heap.size,2,none⟩=some (.int .i64 qb)/\w'.cell? ⟨g,j*8+4,none⟩=some (.slice (some ⟨R,0,none⟩) 8 rc)/\w'.cell? ⟨R,qb*2,none⟩=some (.int .i64 yk)/\w'.cell? ⟨R,qb*2+1,none⟩=some (.int .i64 yn)) (by kernel_rfl) (hSof _ hB) (fun hS=>?_);generalize W.drew=wc0 at hS hB  ⊢;refine tkN 0 hS ?_
  refine tkN 1 hS ?_;refine tkN 2 hS ?_;refine tkN 3 hS ?_;refine tkN 4 hS ?_;refine tkN 5 hS ?_;refine tkN 6 hS ?_;refine tkN 7 hS ?_;refine stN 8 (fun K hK=>?_);go_simp;have hbn:=below_box wc0 (Obj.cells #[.int .i64 0,.int .i64 0] 66);have mQ:=Deep.blk_alloc_new wc0 (Obj.cells #[.int .i64 0,.int .i64 0] 66);have xQ:W.heap.size<=wc0.heap.size:=hB.size
  try have daQ:TT<=wc0.heap.size:=sT
  generalize wc0.alloc (Obj.cells #[.int .i64 0,.int .i64 0] 66)=wc1 at hbn mQ ⊢;obtain⟨Q,hG⟩:∃ Q,Q=wc0.heap.size:=⟨_,rfl⟩;rw[<- hG] at mQ xQ ⊢
  try rw[<- hG] at daQ
  clear hG;have hBn:Below W.heap.size W wc1:=hB.trans (hbn.mono hB.size);refine otN hK (hSof _ hBn) ?_;replace hS:=hSof _ hBn;clear hK;replace hB:=hBn;clear hBn hbn;refine stN 9 (fun K hK=>?_);have c0:=cellBlk mQ 0;have c1:=cellBlk mQ 1;have cf:∀ j,wc1.frozen? ⟨Q,j,none⟩=false:=fun j=>by simp[World.frozen?,mQ]
  simp at c0 c1;go_simp;have hBn:=two_below hB xQ 0 1 (.int .i64 yk) (.int .i64 yn);replace mQ:=two_blk mQ 0 1 (.int .i64 yk) (.int .i64 yn);clear c0 c1 cf;generalize (wc1.setCell ⟨Q,0,none⟩ (.int .i64 yk)).setCell ⟨Q,1,none⟩ (.int .i64 yn)=wc2 at *;refine otN hK (hSof _ hBn) ?_;replace hS:=hSof _ hBn;clear hK;replace hB:=hBn;clear hBn;refine dnN ?_
  go_wp2_with fail
  go_meet
  case rel=>exact⟨Q,rfl,hB,xQ,mQ⟩
 case rest =>
  obtain⟨Q,rfl,hBc,xQ,mQ⟩:=hcut;replace hset:=fun w' (hb:Below wc.heap.size wc w')=>hset w' (hBc.trans (hb.mono hBc.size))
  have HB:Aside (Below w.heap.size w wc):=b1.trans (hBc.mono b1.size);have hgl2:=Nat.lt_of_lt_of_le hgl (b1.trans (hBc.mono b1.size)).size;have sWc:=(b1.trans (hBc.mono b1.size)).size;replace e1:=Keeps.below hBc _ _ e1;replace e3:=Keeps.below hBc _ _ e3;replace k2:=Keeps.below hBc _ _ k2;replace k3:=Keeps.below hBc _ _ k3;replace k4:=Keeps.below hBc _ _ k4;replace ra1:=Keeps.below hBc _ _ ra1;replace ra2:=Keeps.below hBc _ _ ra2
  replace kfg:∀ i,wc.frozen? ⟨g,i,none⟩=false:=fun i=>(hBc.frozen (by have:=b1.size;simp;omega)).trans (kfg i)
  have g0:wc.cell? ⟨Q,0,none⟩=some (.int .i64 yk):=cell_blk mQ 0;have g1:wc.cell? ⟨Q,1,none⟩=some (.int .i64 yn):=cell_blk mQ 1;clear hSof hBc hO e2 rb1 rb2 mQ kf b1 k1 s1
  go_upto_region 2 with fail
  have hSof:∀ w',Below wc.heap.size wc w'->(w'.cell? ⟨w.heap.size,1,none⟩=some (.int .i64 qa)/\w'.cell? ⟨w.heap.size,3,none⟩=some (.int .i64 n)/\w'.cell? ⟨g,j*8+2,none⟩=some (.int .i64 XM)/\w'.cell? ⟨g,j*8+3,none⟩=some (.slice oa XL oc)/\w'.cell? ⟨g,j*8+4,none⟩=some (.slice (some ⟨R,0,none⟩) 8 rc)/\w'.cell? ⟨R,qa*2,none⟩=some (.int .i64 xk)/\w'.cell? ⟨R,qa*2+1,none⟩=some (.int .i64 xn)/\w'.cell? ⟨Q,0,none⟩=some (.int .i64 yk)/\w'.cell? ⟨Q,1,none⟩=some (.int .i64 yn)):=fun w' hb'=>⟨Keeps.below hb' _ _ e1,Keeps.below hb' _ _ e3,Keeps.below hb' _ _ k2,Keeps.below hb' _ _ k3,Keeps.below hb' _ _ k4,Keeps.below hb' _ _ ra1,Keeps.below hb' _ _ ra2,Keeps.below hb' _ _ g0,Keeps.below hb' _ _ g1⟩
  generalize hWc:wc=W2 at *;clear hWc
  go_cut [8,9] (fun s8 s9 wc=>∃ G va vc BB rows,s8=.pointer (some ⟨G,0,none⟩)/\s9=.int .i64 ge/\Below W2.heap.size W2 wc/\W2.heap.size<=G/\wc.heap[G]?=some (.cells #[.int .i64 gM,.slice va gl.length vc] 53 (0,0))/\W2.heap.size<=BB/\rows.map (·.2)=gl/\HeapOwn wc BB (.slice va gl.length vc) rows)
  case first =>
   have hB:Below W2.heap.size W2 W2.drew:=(Below.refl _ _).drew;refine wp_region_need (fun _=>true) (fun w'=>w'.cell? ⟨w.heap.size,1,none⟩=some (.int .i64 qa)/\w'.cell? ⟨w.heap.size,3,none⟩=some (.int .i64 n)/\w'.cell? ⟨g,j*8+2,none⟩=some (.int .i64 XM)/\w'.cell? ⟨g,j*8+3,none⟩=some (.slice oa XL oc)/\w'.cell? ⟨g,j*8+4,none⟩=some (.slice (some ⟨R,0,none⟩) 8 rc)/\w'.cell? ⟨R,qa*2,none⟩=some (.int .i64 xk)/\w'.cell? ⟨R,qa*2+1,none⟩=some (.int .i64 xn)/\w'.cell? ⟨Q,0,none⟩=some (.int .i64 yk)/\w'.cell? ⟨Q,1,none⟩=some (.int .i64 yn)) (by kernel_rfl) (hSof _ hB) (fun hS=>?_)
   generalize W2.drew=wc0 at hS hB  ⊢;refine tkN 0 hS ?_;refine tkN 1 hS ?_;refine tkN 2 hS ?_;refine tkN 3 hS ?_;refine tkN 4 hS ?_;refine tkN 5 hS ?_;refine tkN 6 hS ?_;refine tkN 7 hS ?_;refine tkN 8 hS ?_;refine tkN 9 hS ?_;refine tkN 10 hS ?_;refine tkN 11 hS ?_;refine tkN 12 hS ?_;refine tkN 13 hS ?_;refine tkN 14 hS ?_;refine twN 15 19 (fun K hK=>?_) (fun K hK=>?_)
   ·go_simp
    refine(hset wc0 hB).mono ?_;rintro e wc1 ⟨va,vc,rfl,hbn,rows,hrows,hO⟩;obtain⟨BB,hBB⟩:∃ BB,BB=wc0.heap.size:=⟨_,rfl⟩
    try have dcG:G<wc0.heap.size:=(Array.getElem?_eq_some_iff.1 mG).1
    try rw[<- hBB] at dcG
    rw[<- hBB] at hO;have sB:W2.heap.size<=BB:=by rw[hBB];exact hB.size
    clear hBB;obtain⟨TT,hTT⟩:∃ TT,TT=wc1.heap.size:=⟨_,rfl⟩;have thO:=fun b hb=>(hO.blk_le b hb).2
    rw[<- hTT] at thO;have sT:TT<=wc1.heap.size:=Nat.le_of_eq hTT;clear hTT;have hBn:Below W2.heap.size W2 wc1:=hB.trans (hbn.mono hB.size);refine otN hK (hSof _ hBn) ?_;replace hS:=hSof _ hBn;clear hK;replace hB:=hBn;clear hBn hbn;refine tkN 16 hS ?_;refine tkN 17 hS ?_;refine tkN 18 hS ?_;refine stN 19 (fun K hK=>?_);go_simp;have hbn:=below_box wc1 (Obj.cells #[.int .i64 0,.slice none 0 0] 53);have mG:=Deep.blk_alloc_new wc1 (Obj.cells #[.int .i64 0,.slice none 0 0] 53)
    have xG:W2.heap.size<=wc1.heap.size:=hB.size
    try have daG:TT<=wc1.heap.size:=sT
    generalize wc1.alloc (Obj.cells #[.int .i64 0,.slice none 0 0] 53)=wc2 at hbn mG ⊢;obtain⟨G,hG⟩:∃ G,G=wc1.heap.size:=⟨_,rfl⟩;rw[<- hG] at mG xG ⊢
    try rw[<- hG] at daG
    clear hG;have hBn:Below W2.heap.size W2 wc2:=hB.trans (hbn.mono hB.size);refine otN hK (hSof _ hBn) ?_;replace hS:=hSof _ hBn;clear hK;replace hO:=hO.below hbn;replace sT:=Nat.le_trans sT hbn.size;replace hB:=hBn;clear hBn hbn;refine stN 20 (fun K hK=>?_);have c0:=cellBlk mG 0;have c1:=cellBlk mG 1;have cf:∀ j,wc2.frozen? ⟨G,j,none⟩=false:=fun j=>by simp[World.frozen?,mG]
    simp at c0 c1;go_simp;have hBn:=two_below hB xG 0 1 (.int .i64 gM) (.slice va gl.length vc);replace mG:=two_blk mG 0 1 (.int .i64 gM) (.slice va gl.length vc);replace hO:=hO.at_block (fun b hb=>two_other 0 1 (.int .i64 gM) (.slice va gl.length vc) (show b≠G by have hq1:=thO b hb;have hq2:=(hO.blk_le b hb).1;omega));clear c0 c1 cf;generalize (wc2.setCell ⟨G,0,none⟩ (.int .i64 gM)).setCell ⟨G,1,none⟩ (.slice va gl.length vc)=wc3 at *
    refine otN hK (hSof _ hBn) ?_;replace hS:=hSof _ hBn;clear hK;replace hB:=hBn;clear hBn;refine tkN 21 hS ?_;refine dnN ?_
    go_wp2_with fail
    go_meet
    case rel=>exact⟨G,va,vc,BB,rows,rfl,rfl,hB,xG,mG,sB,hrows,hO⟩
   ·go_simp
    have hbn:=below_box wc0 (Obj.cells #[.int .i64 0,.slice none 0 0] 53);have mG:=Deep.blk_alloc_new wc0 (Obj.cells #[.int .i64 0,.slice none 0 0] 53);have xG:W2.heap.size<=wc0.heap.size:=hB.size
    try have daG:TT<=wc0.heap.size:=sT
    generalize wc0.alloc (Obj.cells #[.int .i64 0,.slice none 0 0] 53)=wc1 at hbn mG ⊢;obtain⟨G,hG⟩:∃ G,G=wc0.heap.size:=⟨_,rfl⟩;rw[<- hG] at mG xG ⊢
    try rw[<- hG] at daG
    clear hG;have hBn:Below W2.heap.size W2 wc1:=hB.trans (hbn.mono hB.size);refine otN hK (hSof _ hBn) ?_;replace hS:=hSof _ hBn;clear hK;replace hB:=hBn;clear hBn hbn;refine stN 15 (fun K hK=>?_);go_simp;refine(hset wc1 hB).mono ?_;rintro e wc2 ⟨va,vc,rfl,hbn,rows,hrows,hO⟩;obtain⟨BB,hBB⟩:∃ BB,BB=wc1.heap.size:=⟨_,rfl⟩
    try have dcG:G<wc1.heap.size:=(Array.getElem?_eq_some_iff.1 mG).1
    try rw[<- hBB] at dcG
    rw[<- hBB] at hO;have sB:W2.heap.size<=BB:=by rw[hBB];exact hB.size
    clear hBB;obtain⟨TT,hTT⟩:∃ TT,TT=wc2.heap.size:=⟨_,rfl⟩;have thO:=fun b hb=>(hO.blk_le b hb).2
    rw[<- hTT] at thO;have sT:TT<=wc2.heap.size:=Nat.le_of_eq hTT;clear hTT;have hBn:Below W2.heap.size W2 wc2:=hB.trans (hbn.mono hB.size);refine otN hK (hSof _ hBn) ?_;replace hS:=hSof _ hBn;clear hK;replace mG:=(hbn.block _ (Array.getElem?_eq_some_iff.1 mG).1).trans mG;replace hB:=hBn;clear hBn hbn;refine tkN 16 hS ?_;refine tkN 17 hS ?_;refine tkN 18 hS ?_;refine stN 20 (fun K hK=>?_);have c0:=cellBlk mG 0
    have c1:=cellBlk mG 1;have cf:∀ j,wc2.frozen? ⟨G,j,none⟩=false:=fun j=>by simp[World.frozen?,mG]
    simp at c0 c1;go_simp;have hBn:=two_below hB xG 0 1 (.int .i64 gM) (.slice va gl.length vc);replace mG:=two_blk mG 0 1 (.int .i64 gM) (.slice va gl.length vc);replace hO:=hO.at_block (fun b hb=>two_other 0 1 (.int .i64 gM) (.slice va gl.length vc) (show b≠G by have hq1:=thO b hb;have hq2:=(hO.blk_le b hb).1;omega));clear c0 c1 cf;generalize (wc2.setCell ⟨G,0,none⟩ (.int .i64 gM)).setCell ⟨G,1,none⟩ (.slice va gl.length vc)=wc3 at *
    refine otN hK (hSof _ hBn) ?_;replace hS:=hSof _ hBn;clear hK;replace hB:=hBn;clear hBn;refine tkN 21 hS ?_;refine dnN ?_
    go_wp2_with fail
    go_meet
    case rel=>exact⟨G,va,vc,BB,rows,rfl,rfl,hB,xG,mG,sB,hrows,hO⟩
  case rest =>
   obtain⟨G,va,vc,BB,rows,rfl,rfl,hBc,xG,mG,sB,hrows,hO⟩:=hcut;replace HB:Aside (Below w.heap.size w wc):=HB.out.trans (hBc.mono HB.out.size);replace k2:=Keeps.below hBc _ _ k2;replace k3:=Keeps.below hBc _ _ k3;replace g0:=Keeps.below hBc _ _ g0;replace g1:=Keeps.below hBc _ _ g1;replace kfg:∀ i,wc.frozen? ⟨g,i,none⟩=false:=fun i=>(hBc.frozen (by simpa using hgl2)).trans (kfg i)
   have G0:wc.cell? ⟨G,0,none⟩=some (.int .i64 gM):=cell_blk mG 0;have G1:wc.cell? ⟨G,1,none⟩=some (.slice va gl.length vc):=cell_blk mG 1;clear hSof e1 e3 k4 ra1 ra2 hset mG hBc
   by_cases hge:ge=0
   rotate_left
   ·have q0:(ge != 0)=true:=by simp[hge]
    have hRK:RK=(x,faultS ge):=by rw[HRK.out,if_pos hge]
    subst hRK;have HF:Aside ((if ge=2 then (4:Int) else 8)=faultS ge):=rfl
    go_wp2_with (go_at_call 169;refine(fault_any _ _).mono ?_;rintro e w' ⟨rfl,hw'⟩;replace hw':=hw'.symm;subst hw';rw[HF.out])
    go_ret
    exact⟨rfl,_,_,HW.out.same hx HB.out,HM.out _ HB.out⟩
   subst hge
   by_cases hgk:yk=kind
   rotate_left
   ·have q0:(yk != kind)=true:=by simp[hgk]
    have hRK:RK=(x,8):=by rw[HRK.out,if_neg (by simp),if_pos hgk]
    subst hRK;go_wp2
    go_ret
    exact⟨rfl,_,_,HW.out.same hx HB.out,HM.out _ HB.out⟩
   subst hgk;have hRK:RK=(x.heap gM gl,0):=by rw[HRK.out,if_neg (by simp),if_neg (by simp)]
   subst hRK;have hz:=HW.out.newHeap HB.out hfa hr hx HAV.out (M:=gM) hrows rfl hO (by have:=HB.out.size;omega);have HZ:Aside (∃ fl' rs',WdOwn ((wc.setCell ⟨g,j*8+2,none⟩ (.int .i64 gM)).setCell ⟨g,j*8+3,none⟩ (.slice va gl.length vc)) base Bw { V with acts:=V.acts.set j (x.heap gM gl) } av pv fl' rs'/\Moved w ((wc.setCell ⟨g,j*8+2,none⟩ (.int .i64 gM)).setCell ⟨g,j*8+3,none⟩ (.slice va gl.length vc)) (wdFoot Bw av pv fl rs) (wdFoot Bw av pv fl' rs')):=⟨_,_,hz.1,hz.2⟩
   clear hz hO hrows;go_wp2
   go_ret
   exact⟨rfl,HZ.out⟩
end
section
open Go.RowKit
def RowAt (w:World) (ao:Option Addr) (n:Nat) (x:Nat->Nat->Int):Prop :=
 ∀ i,i<n->∃ b o,ao=some ⟨b,o,none⟩/\∀ f,f<4->w.cell? ⟨b,o+i*4+f,none⟩=some (.int .i64 (x i f))
theorem RowAt.keeps {w w':World} {ao:Option Addr} {n:Nat} {x:Nat->Nat->Int} (h:RowAt w ao n x) (k:Keeps w w'):RowAt w' ao n x:=fun i hi=>by
 obtain⟨b,o,e,hc⟩:=h i hi;exact⟨b,o,e,fun f hf=>k _ _ (hc f hf)⟩
structure ProgAt (w:World) (ao:Option Addr) (G:Nat) (A:Nat->Option Addr) (L C:Nat->Nat) (X:Nat->Nat->Nat->Int):Prop where
 outer:∀ r,r<G->∃ b o,ao=some ⟨b,o,none⟩/\w.cell? ⟨b,o+r,none⟩=some (.slice (A r) (L r) (C r))
 rows:∀ r,r<G->RowAt w (A r) (L r) (X r)
 many:24*G<=281474976710656
 long:∀ r,r<G->32*L r<=281474976710656
 fits:∀ r,r<G->∀ i,i<L r->∀ f,f<4->-9223372036854775808<=X r i f/\X r i f<=9223372036854775807
theorem ProgAt.keeps {w w':World} {ao:Option Addr} {G:Nat} {A:Nat->Option Addr} {L C:Nat->Nat} {X:Nat->Nat->Nat->Int} (h:ProgAt w ao G A L C X) (k:Keeps w w'):ProgAt w' ao G A L C X :=
 ⟨fun r hr=>by obtain⟨b,o,e,hc⟩:=h.outer r hr;exact⟨b,o,e,k _ _ hc⟩,fun r hr=>(h.rows r hr).keeps k,h.many,h.long,h.fits⟩
end
section
open Go.RowKit
theorem roots_any (kind par M pc fin:Int) (oa ra ba:Option Addr) (O oc rc bc:Nat) (regs box:List Vl) (w:World) (hr:ValsAt w ra regs) (hb:ValsAt w ba box) (hrl:16*regs.length<=140737488351232) (hbl:box.length<=6) :
  Calls Tryz.prog 93 #[.agg #[.int .i64 kind,.int .i64 par,.int .i64 M,.slice oa O oc,.slice ra regs.length rc,.int .i64 pc,.slice ba box.length bc,.int .i64 fin]] w fun e w'=>∃ va vc,e=.returned (.slice va (regs.length+box.length) vc)/\ValsAt w' va (regs++box)/\Below w.heap.size w w':=by
 obtain⟨N0,N1,k1,b1,s1⟩:=boxes2 w (.cells #[.int .i64 kind,.int .i64 par,.int .i64 M,.slice oa O oc,.slice ra regs.length rc,.int .i64 pc,.slice ba box.length bc,.int .i64 fin] 56) (.cells #[.slice ra regs.length rc,.slice ba box.length bc] 54);have c0:=cell_blk N1 0;have c1:=cell_blk N1 1;have hC:=concat_any (w.heap.size+1) ra ba rc bc regs box _ c0 c1 (hr.keeps k1) (hb.keeps k1) hrl hbl;have HC:Aside (Calls Tryz.prog 83 #[.slice (some ⟨w.heap.size+1,0,none⟩) 2 2] _ _):=hC
 clear hC c0 c1 N0 N1 k1 hr hb;generalize regs.length=R at *;generalize box.length=X at *
 go_enter Tryz.func93,Tryz.ntmps93
 go_wp2_with fail
 refine Calls.mono HC.out ?_;rintro e w' ⟨va,vc,rfl,hv,hb'⟩;go_wp2
 go_ret
 exact⟨va,vc,rfl,hv,b1.trans (hb'.mono b1.size)⟩
theorem isEmptied_any (kind par M pc fin:Int) (oa ra ba:Option Addr) (O R X oc rc bc:Nat) (w:World) :
  Calls Tryz.prog 126 #[.agg #[.int .i64 kind,.int .i64 par,.int .i64 M,.slice oa O oc,.slice ra R rc,.int .i64 pc,.slice ba X bc,.int .i64 fin]] w fun e w'=>e=.returned (.bool (decide (X=0) && (decide (O=0) && decide (pc=-1))))/\Below w.heap.size w w':=by
 by_cases hX:X=0
 ·by_cases hO:O=0
  ·by_cases hp:pc=-1
   ·subst hX hO hp
    go_enter Tryz.func126,Tryz.ntmps126
    go_wp2
    go_ret
    exact⟨ret_bool (by simp),below_box _ _⟩
   ·subst hX hO
    have hpb:(pc == -1)=false:=by simp[hp]
    go_enter Tryz.func126,Tryz.ntmps126
    go_wp2
    go_ret
    exact⟨ret_bool (by simp[hp]),below_box _ _⟩
  ·subst hX
   have hob:((O:Int) == 0)=false:=by simp[hO]
   go_enter Tryz.func126,Tryz.ntmps126
   go_wp2
   go_ret
   exact⟨ret_bool (by simp[hO]),below_box _ _⟩
 ·have hxb:((X:Int) == 0)=false:=by simp[hX]
  go_enter Tryz.func126,Tryz.ntmps126
  go_wp2
  go_ret
  exact⟨ret_bool (by simp[hX]),below_box _ _⟩
theorem noObj_false {l:List Vl}:noObj l=false↔l.all (fun v=>decide (v.k=2))=true:=by
 induction l with
 | nil=>simp[noObj]
 | cons a l ih =>
  have e1:noObj (a :: l)=((a.k != 2) || noObj l):=rfl;rw[e1,List.all_cons,Bool.or_eq_false_iff,ih,Bool.and_eq_true];simp
theorem acMay_true {G:Nat} {L:Nat->Nat} {a:Ac} {num:Nat}:acMay G L a num=true↔(0<=a.kind/\a.kind<G)/\(-1<=a.par/\a.par<num)/\(-1<=a.pc/\a.pc<L a.kind.toNat)/\(0<=a.fin/\a.fin<=8)/\(a.regs.length=8/\a.box.length<=6)/\noObj a.box=false/\hMay a.M a.obs a.roots=true /\
  (a.fin=0\/(a.box.length=0/\a.obs.length=0/\a.pc=-1)):=by
 rw[noObj_false]
 unfold acMay
 simp only[Bool.and_eq_true,Bool.or_eq_true,decide_eq_true_eq]
 constructor
 ·rintro⟨⟨⟨⟨⟨⟨h1,h2⟩,h3⟩,h4⟩,h5⟩,h6⟩,h7,h8⟩
  exact⟨h1,h2,h3,h4,h5,h6,h7,h8⟩
 ·rintro⟨h1,h2,h3,h4,h5,h6,h7,h8⟩
  exact⟨⟨⟨⟨⟨⟨h1,h2⟩,h3⟩,h4⟩,h5⟩,h6⟩,h7,h8⟩
theorem isActor_any (ao:Option Addr) (G cap:Nat) (A:Nat->Option Addr) (L C:Nat->Nat) (X:Nat->Nat->Nat->Int) (kind par M pc fin:Int) (oa ra ba:Option Addr) (oc rc bc:Nat) (obs:List Ob) (regs box:List Vl) (num:Nat) (w:World)
  (hP:ProgAt w ao G A L C X) (ho:ObsAt w oa obs) (hr:ValsAt w ra regs) (hb:ValsAt w ba box) (hrl:16*regs.length<=140737488351232) (hbl:16*box.length<=140737488351232) :
  Calls Tryz.prog 86 #[.agg #[.slice ao G cap],.agg #[.int .i64 kind,.int .i64 par,.int .i64 M,.slice oa obs.length oc,.slice ra regs.length rc,.int .i64 pc,.slice ba box.length bc,.int .i64 fin],.int .i64 num] w fun e w'=>e=.returned (.bool (acMay G L ⟨kind,par,M,obs,regs,pc,box,fin⟩ num))/\Below w.heap.size w w':=by
 obtain⟨N0,N1,k1,b1,s1⟩:=boxes2 w (.cells #[.slice ao G cap] 24) (.cells #[.int .i64 kind,.int .i64 par,.int .i64 M,.slice oa obs.length oc,.slice ra regs.length rc,.int .i64 pc,.slice ba box.length bc,.int .i64 fin] 56);replace hP:=hP.keeps k1;replace ho:=ho.keeps k1;replace hr:=hr.keeps k1;replace hb:=hb.keeps k1;have hG:=hP.many;have HV:Aside (∀ b,b=acMay G L ⟨kind,par,M,obs,regs,pc,box,fin⟩ num->b=acMay G L ⟨kind,par,M,obs,regs,pc,box,fin⟩ num):=fun b h=>h
 obtain⟨RES,hRES⟩:∃ RES,RES=acMay G L ⟨kind,par,M,obs,regs,pc,box,fin⟩ num:=⟨_,rfl⟩;have HR:Aside (RES=acMay G L ⟨kind,par,M,obs,regs,pc,box,fin⟩ num):=hRES;rw[<- hRES];clear hRES HV;obtain⟨OL,hOL⟩:∃ n,n=obs.length:=⟨_,rfl⟩;obtain⟨RL,hRL⟩:∃ n,n=regs.length:=⟨_,rfl⟩;obtain⟨XL,hXL⟩:∃ n,n=box.length:=⟨_,rfl⟩;have HL:Aside (OL=obs.length/\RL=regs.length/\XL=box.length):=⟨hOL,hRL,hXL⟩;rw[<- hOL,<- hRL,<- hXL] at N0 N1 k1 b1 s1 hP ho hr hb
 rw[<- hRL] at hrl;rw[<- hXL] at hbl;rw[<- hOL,<- hRL,<- hXL];clear hOL hRL hXL
 go_enter Tryz.func86,Tryz.ntmps86
 by_cases h1:kind<0
 ·have HF:Aside (RES=false):=by
   show RES=false
   rw[HR.out];refine Bool.eq_false_iff.2 (fun h=>?_);obtain⟨q1,q2,q3,q4,q5,q6,q7,q8⟩:=acMay_true.1 h;simp only at q1 q2 q3 q4 q5 q6 q7 q8;omega
  go_wp2
  go_ret
  exact⟨ret_bool HF.out.symm,b1⟩
 by_cases h2:(G:Int)<=kind
 ·have HF:Aside (RES=false):=by
   show RES=false
   rw[HR.out];refine Bool.eq_false_iff.2 (fun h=>?_);obtain⟨q1,q2,q3,q4,q5,q6,q7,q8⟩:=acMay_true.1 h;simp only at q1 q2 q3 q4 q5 q6 q7 q8;omega
  go_wp2
  go_ret
  exact⟨ret_bool HF.out.symm,b1⟩
 by_cases h3:par < -1
 ·have HF:Aside (RES=false):=by
   show RES=false
   rw[HR.out];refine Bool.eq_false_iff.2 (fun h=>?_);obtain⟨q1,q2,q3,q4,q5,q6,q7,q8⟩:=acMay_true.1 h;simp only at q1 q2 q3 q4 q5 q6 q7 q8;omega
  go_wp2
  go_ret
  exact⟨ret_bool HF.out.symm,b1⟩
 by_cases h4:(num:Int)<=par
 ·have HF:Aside (RES=false):=by
   show RES=false
   rw[HR.out];refine Bool.eq_false_iff.2 (fun h=>?_);obtain⟨q1,q2,q3,q4,q5,q6,q7,q8⟩:=acMay_true.1 h;simp only at q1 q2 q3 q4 q5 q6 q7 q8;omega
  go_wp2
  go_ret
  exact⟨ret_bool HF.out.symm,b1⟩
 obtain⟨kn,rfl⟩:=Int.eq_ofNat_of_zero_le (Int.not_lt.1 h1);have hkG:kn<G:=by omega
 obtain⟨bo,oo,hao,hca⟩:=hP.outer kn hkG;subst hao;have hkz:(kn:Int)<(G:Int):=by omega
 have hLk:=hP.long kn hkG;have HQ:Aside (par<(num:Int)/\-1<=par):=by constructor <;> omega
 go_upto_region 3 with fail
 clear h1 h2 h3 h4;generalize (w.alloc (.cells #[.slice (some ⟨bo,oo,none⟩) G cap] 24)).alloc (.cells #[.int .i64 kn,.int .i64 par,.int .i64 M,.slice oa OL oc,.slice ra RL rc,.int .i64 pc,.slice ba XL bc,.int .i64 fin] 56)=W at *;have p0:W.cell? ⟨w.heap.size,0,none⟩=some (.slice (some ⟨bo,oo,none⟩) G cap):=cell_blk N0 0;have a0:W.cell? ⟨w.heap.size+1,0,none⟩=some (.int .i64 kn):=cell_blk N1 0;have a1:W.cell? ⟨w.heap.size+1,1,none⟩=some (.int .i64 par):=cell_blk N1 1
 have a2:W.cell? ⟨w.heap.size+1,2,none⟩=some (.int .i64 M):=cell_blk N1 2;have a3:W.cell? ⟨w.heap.size+1,3,none⟩=some (.slice oa OL oc):=cell_blk N1 3;have a4:W.cell? ⟨w.heap.size+1,4,none⟩=some (.slice ra RL rc):=cell_blk N1 4;have a5:W.cell? ⟨w.heap.size+1,5,none⟩=some (.int .i64 pc):=cell_blk N1 5;have a6:W.cell? ⟨w.heap.size+1,6,none⟩=some (.slice ba XL bc):=cell_blk N1 6;have a7:W.cell? ⟨w.heap.size+1,7,none⟩=some (.int .i64 fin):=cell_blk N1 7
 obtain⟨LK,hLK⟩:∃ LK,LK=L kn:=⟨_,rfl⟩;have HLK:Aside (LK=L kn):=hLK;rw[<- hLK] at hca hLk;clear hLK
 by_cases h5:pc < -1
 ·have HF:Aside (RES=false):=by
   show RES=false
   rw[HR.out];refine Bool.eq_false_iff.2 (fun h=>?_);obtain⟨q1,q2,q3,q4,q5,q6,q7,q8⟩:=acMay_true.1 h;simp only at q1 q2 q3 q4 q5 q6 q7 q8;omega
  go_quiet (fail)
  go_wp2
  go_ret
  exact⟨ret_bool HF.out.symm,below_drewN b1 _⟩
 by_cases h6:(LK:Int)<=pc
 ·have HF:Aside (RES=false):=by
   show RES=false
   rw[HR.out];refine Bool.eq_false_iff.2 (fun h=>?_);obtain⟨q1,q2,q3,q4,q5,q6,q7,q8⟩:=acMay_true.1 h;simp only at q1 q2 q3 q4 q5 q6 q7 q8;have:=HLK.out;simp only[Int.toNat_natCast] at q3;omega
  go_quiet (fail)
  go_wp2
  go_ret
  exact⟨ret_bool HF.out.symm,below_drewN b1 _⟩
 by_cases h7:fin<0
 ·have HF:Aside (RES=false):=by
   show RES=false
   rw[HR.out];refine Bool.eq_false_iff.2 (fun h=>?_);obtain⟨q1,q2,q3,q4,q5,q6,q7,q8⟩:=acMay_true.1 h;simp only at q1 q2 q3 q4 q5 q6 q7 q8;omega
  go_quiet (fail)
  go_wp2
  go_ret
  exact⟨ret_bool HF.out.symm,below_drewN b1 _⟩
 by_cases h8:8<fin
 ·have HF:Aside (RES=false):=by
   show RES=false
   rw[HR.out];refine Bool.eq_false_iff.2 (fun h=>?_);obtain⟨q1,q2,q3,q4,q5,q6,q7,q8⟩:=acMay_true.1 h;simp only at q1 q2 q3 q4 q5 q6 q7 q8;omega
  go_quiet (fail)
  go_wp2
  go_ret
  exact⟨ret_bool HF.out.symm,below_drewN b1 _⟩
 go_quiet (fail)
 have kq:=Keeps.drewN W nq;have bq:=below_drewN b1 nq;replace a0:=kq _ _ a0;replace a1:=kq _ _ a1;replace a2:=kq _ _ a2;replace a3:=kq _ _ a3;replace a4:=kq _ _ a4;replace a5:=kq _ _ a5;replace a6:=kq _ _ a6;replace a7:=kq _ _ a7;replace ho:=ho.keeps kq;replace hr:=hr.keeps kq;replace hb:=hb.keeps kq;clear kq b1 k1 N0 N1 s1 p0 hca hP;generalize W.drewN nq=Wq at *;have HQ2:Aside (-1<=pc/\pc<(LK:Int)/\0<=fin/\fin<=8):=by refine⟨?_,?_,?_,?_⟩ <;> omega
 clear h5 h6 h7 h8;have hsq:=bq.size
 by_cases h9:RL=8
 rotate_left
 ·have HF:Aside (RES=false):=by
   show RES=false
   rw[HR.out];refine Bool.eq_false_iff.2 (fun h=>?_);obtain⟨q1,q2,q3,q4,q5,q6,q7,q8⟩:=acMay_true.1 h;simp only at q1 q2 q3 q4 q5 q6 q7 q8;have:=HL.out;omega
  have h9b:((RL:Int) != 8)=true:=by simp;omega
  go_wp2
  go_ret
  exact⟨ret_bool HF.out.symm,bq⟩
 subst h9
 by_cases h10:6<XL
 ·have HF:Aside (RES=false):=by
   show RES=false
   rw[HR.out];refine Bool.eq_false_iff.2 (fun h=>?_);obtain⟨q1,q2,q3,q4,q5,q6,q7,q8⟩:=acMay_true.1 h;simp only at q1 q2 q3 q4 q5 q6 q7 q8;have:=HL.out;omega
  have h10b:(6:Int)<(XL:Int):=by omega
  go_wp2
  go_ret
  exact⟨ret_bool HF.out.symm,bq⟩
 have h10b:¬ (6:Int)<(XL:Int):=by omega
 have hCF:=containsFunc_any ba bc box Wq hb (by rw[<- HL.out.2.2];exact hbl);rw[<- HL.out.2.2] at hCF;have HCF:Aside (Calls Tryz.prog 124 #[.slice ba XL bc,.func (.func 125) #[] #[]] Wq _):=hCF;clear hCF
 go_upto_region 5 with fail
 go_wp2_with fail
 refine Calls.mono HCF.out ?_;rintro e w2 ⟨rfl,hb2⟩;have k2:=Keeps.below hb2;have b2:=bq.trans (hb2.mono hsq);replace a0:=k2 _ _ a0;replace a1:=k2 _ _ a1;replace a2:=k2 _ _ a2;replace a3:=k2 _ _ a3;replace a4:=k2 _ _ a4;replace a5:=k2 _ _ a5;replace a6:=k2 _ _ a6;replace a7:=k2 _ _ a7;replace ho:=ho.keeps k2;replace hr:=hr.keeps k2;replace hb:=hb.keeps k2;clear k2 hb2 bq hsq HCF
 by_cases h11:noObj box=true
 ·have HF:Aside (RES=false):=by
   show RES=false
   rw[HR.out];refine Bool.eq_false_iff.2 (fun h=>?_);obtain⟨q1,q2,q3,q4,q5,q6,q7,q8⟩:=acMay_true.1 h;simp only at q1 q2 q3 q4 q5 q6 q7 q8;rw[h11] at q6;cases q6
  rw[h11];go_wp2
  go_ret
  exact⟨ret_bool HF.out.symm,b2⟩
 have h11f:noObj box=false:=by simpa using h11
 have HNO:Aside (noObj box=false):=h11f;rw[h11f];clear h11 h11f;have hSof:∀ w',Below w2.heap.size w2 w'->(w'.cell? ⟨w.heap.size+1,0,none⟩=some (.int .i64 kn)/\w'.cell? ⟨w.heap.size+1,1,none⟩=some (.int .i64 par)/\w'.cell? ⟨w.heap.size+1,2,none⟩=some (.int .i64 M)/\w'.cell? ⟨w.heap.size+1,3,none⟩=some (.slice oa OL oc)/\w'.cell? ⟨w.heap.size+1,4,none⟩=some (.slice ra 8 rc)/\w'.cell? ⟨w.heap.size+1,5,none⟩=some (.int .i64 pc)/\w'.cell? ⟨w.heap.size+1,6,none⟩=some (.slice ba XL bc)/\w'.cell? ⟨w.heap.size+1,7,none⟩=some (.int .i64 fin)):=fun w' hb'=>⟨Keeps.below hb' _ _ a0,Keeps.below hb' _ _ a1,Keeps.below hb' _ _ a2,Keeps.below hb' _ _ a3,Keeps.below hb' _ _ a4,Keeps.below hb' _ _ a5,Keeps.below hb' _ _ a6,Keeps.below hb' _ _ a7⟩
 go_upto_region 7 with fail
 have hBd:Below w2.heap.size w2 w2.drew:=(Below.refl _ _).drew;refine wp_region_need (fun j=>j != 5) (fun w'=>w'.cell? ⟨w.heap.size+1,0,none⟩=some (.int .i64 kn)/\w'.cell? ⟨w.heap.size+1,1,none⟩=some (.int .i64 par)/\w'.cell? ⟨w.heap.size+1,2,none⟩=some (.int .i64 M)/\w'.cell? ⟨w.heap.size+1,3,none⟩=some (.slice oa OL oc)/\w'.cell? ⟨w.heap.size+1,4,none⟩=some (.slice ra 8 rc)/\w'.cell? ⟨w.heap.size+1,5,none⟩=some (.int .i64 pc)/\w'.cell? ⟨w.heap.size+1,6,none⟩=some (.slice ba XL bc)/\w'.cell? ⟨w.heap.size+1,7,none⟩=some (.int .i64 fin)) (by kernel_rfl) (hSof _ hBd) (fun hS=>?_)
 generalize w2.drew=wc0 at hS hBd ⊢;refine tkN 0 hS ?_;refine tkN 1 hS ?_;refine tkN 2 hS ?_;refine stN 3 (fun K hK=>?_);go_simp;have hRo:=roots_any kn par M pc fin oa ra ba OL oc rc bc regs box wc0 (hr.keeps (Keeps.below hBd)) (hb.keeps (Keeps.below hBd)) (by rw[<- HL.out.2.1];omega) (by rw[<- HL.out.2.2];omega);rw[<- HL.out.2.1,<- HL.out.2.2] at hRo;refine hRo.mono ?_;clear hRo;rintro e wc1 ⟨va,vc,rfl,hVa,hbn⟩
 have hB1:=hBd.trans (hbn.mono hBd.size);clear hbn hBd;refine otN hK (hSof _ hB1) ?_;clear hK;replace hS:=hSof _ hB1;refine stN 4 (fun K hK=>?_);go_simp;have hrl2:(regs++box).length=8+XL:=by rw[List.length_append,<- HL.out.2.1,<- HL.out.2.2]
 have hCk:=check_any M oa oc obs va vc (regs++box) wc1 (ho.keeps (Keeps.below hB1)) hVa (by rw[hrl2];omega);rw[hrl2,<- HL.out.1] at hCk;refine hCk.mono ?_;clear hCk hVa;rintro e wc2 ⟨rfl,hbn⟩;have hB2:=hB1.trans (hbn.mono hB1.size);clear hbn hB1;refine otN hK (hSof _ hB2) ?_;clear hK;replace hS:=hSof _ hB2;have k3:=Keeps.below hB2;have b3:=b2.trans (hB2.mono b2.size);replace a0:=k3 _ _ a0;replace a1:=k3 _ _ a1
 replace a2:=k3 _ _ a2;replace a3:=k3 _ _ a3;replace a4:=k3 _ _ a4;replace a5:=k3 _ _ a5;replace a6:=k3 _ _ a6;replace a7:=k3 _ _ a7
 by_cases h12:hMay M obs (regs++box)=true
 rotate_left
 ·have HF:Aside (RES=false):=by
   show RES=false
   rw[HR.out];refine Bool.eq_false_iff.2 (fun h=>?_);obtain⟨q1,q2,q3,q4,q5,q6,q7,q8⟩:=acMay_true.1 h;simp only at q1 q2 q3 q4 q5 q6 q7 q8;exact h12 q7
  have h12f:hMay M obs (regs++box)=false:=by simpa using h12
  rw[h12f,erS_false];refine stN 5 (fun K hK=>?_);go_simp;refine laN hK ?_;clear hK;go_wp2
  go_ret
  exact⟨ret_bool HF.out.symm,b3⟩
 have HM:Aside (hMay M obs (regs++box)=true):=h12;rw[h12,erS_true];refine stN 5 (fun K hK=>?_);go_simp;refine laN hK ?_;clear hK;clear h12 hrl2 hSof hS k3 hB2;have HA:Aside ((fin=0\/(XL=0/\OL=0/\pc=-1))->RES=true):=fun h=>by
  rw[HR.out];refine acMay_true.2 ⟨⟨by simp,by simpa using hkG⟩,⟨HQ.out.2,HQ.out.1⟩,⟨HQ2.out.1,by simp only[Int.toNat_natCast];rw[<- HLK.out];exact HQ2.out.2.1⟩,HQ2.out.2.2,⟨HL.out.2.1.symm,by simp only;rw[<- HL.out.2.2];omega⟩,HNO.out,HM.out,?_⟩;simp only;rw[<- HL.out.2.2,<- HL.out.1];exact h
 have HB:Aside (¬ (fin=0\/(XL=0/\OL=0/\pc=-1))->RES=false):=fun h=>by
  rw[HR.out];refine Bool.eq_false_iff.2 (fun h'=>h ?_);have:=(acMay_true.1 h').2.2.2.2.2.2.2;simp only at this
  rw[<- HL.out.2.2,<- HL.out.1] at this
  exact this
 by_cases h13:fin=0
 ·have HT:Aside (RES=true):=HA.out (Or.inl h13)
  subst h13;go_wp2
  go_ret
  exact⟨ret_bool HT.out.symm,b3⟩
 ·have h13b:(fin == 0)=false:=by simp[h13]
  have HT:Aside (RES=(decide (XL=0) && (decide (OL=0) && decide (pc=-1)))):=by
   show RES=_
   by_cases hh:XL=0/\OL=0/\pc=-1
   ·rw[HA.out (Or.inr hh)];simp[hh.1,hh.2.1,hh.2.2]
   ·rw[HB.out (fun h=>h.elim h13 hh)]
    symm
    rw[Bool.eq_false_iff];intro hc;simp only[Bool.and_eq_true,decide_eq_true_eq] at hc;exact hh hc
  go_wp2_with fail
  refine(isEmptied_any kn par M pc fin oa ra ba OL 8 XL oc rc bc _).mono ?_;rintro e w9 ⟨rfl,hb9⟩;have b9:=b3.trans (hb9.mono b3.size);rw[<- HT.out];go_wp2
  go_ret
  exact⟨rfl,b9⟩
end
end Go.Proofs.YtihpkcccfgbcmaaGreatDoor
