/- HClone. -/
import Derived.Test.YtihpkcccfgbcmaaGreatDoorCBAReckon
import Derived.Test.YtihpkcccfgbcmaaGreatDoorCBHGot
namespace Go.Proofs.YtihpkcccfgbcmaaGreatDoor
set_option maxRecDepth 100000
set_option maxHeartbeats 8000000
section
open Go.RowKit
theorem WdOwn.heapAt {w:World} {base Bw:Nat} {V:Wd} {av pv:Value} {fl:List Fa} {rs:List (List (Value × Ob))} (h:WdOwn w base Bw V av pv fl rs) {g nn c:Nat} (hav:av=.slice (some ⟨g,0,none⟩) nn c) {j:Nat} {x:Ac} (hx:V.acts[j]?=some x) :
  ∃ oa oc fa r,fl[j]?=some fa/\rs[j]?=some r/\fa.oa=oa/\w.cell? ⟨g,j*8+2,none⟩=some (.int .i64 x.M)/\w.cell? ⟨g,j*8+3,none⟩=some (.slice oa x.obs.length oc)/\ObsAt w oa x.obs:=by
 obtain⟨fa,r,g',c',R,hfa,hr,hA,hav2,_,_,_,k2,k3,_,_,_,_⟩:=h.cells hx;rw[hav] at hav2;simp only[Value.slice.injEq,Option.some.injEq,Addr.mk.injEq,and_true] at hav2;obtain⟨rfl,_,_⟩:=hav2;have hH:=hA.heap.obs.2;rw[hA.obs] at hH;exact⟨fa.oa,fa.oc,fa,r,hfa,hr,rfl,k2,k3,hH⟩
theorem aget_any (op a b n kind way:Int) (w:World) {base Bw:Nat} {V:Wd} {av pv:Value} {fl:List Fa} {rs:List (List (Value × Ob))} (h:WdOwn w base Bw V av pv fl rs) {j:Nat} {x:Ac} (hx:V.acts[j]?=some x) {g nn c:Nat} (hav:av=.slice (some ⟨g,0,none⟩) nn c) (h8:x.regs.length=8) (ha:0<=a/\a<=7) (hb:0<=b/\b<=7) :
  Calls Tryz.prog 132 #[.pointer (some ⟨g,j*8,none⟩),.agg #[.int .i64 op,.int .i64 a,.int .i64 b,.int .i64 n],.int .i64 kind,.int .i64 way] w fun e w'=>e=.returned (.int .i64 (getsS x ⟨op,a,b,n⟩ kind way).2)/\WdOwn w' base Bw { V with acts:=V.acts.set j (getsS x ⟨op,a,b,n⟩ kind way).1 } av pv fl rs/\Moved w w' (wdFoot Bw av pv fl rs) (wdFoot Bw av pv fl rs):=by
 obtain⟨qa,va,rfl,hqa,hva,era⟩:=reg_of ha h8;obtain⟨qb,vb,rfl,hqb,hvb,erb⟩:=reg_of hb h8;obtain⟨N0,k1,b1,s1⟩:=boxes1 w (.cells #[.int .i64 op,.int .i64 qa,.int .i64 qb,.int .i64 n] 49);have h1:=h.below b1;obtain⟨R,fa,r,rc,hfa,hr,hra,k4,kq,kf,hRl,_⟩:=h1.regAt hav hx h8;obtain⟨oa,oc,_,_,_,_,_,k2,k3,hO⟩:=h1.heapAt hav hx;obtain⟨ra1,ra2⟩:=kq qa _ hva;obtain⟨rb1,rb2⟩:=kq qb _ hvb;have HRK:Aside (getsS x ⟨op,qa,qb,n⟩ kind way=if (getS x.M x.obs vb n).2≠0 then (x,faultS (getS x.M x.obs vb n).2) else if (getS x.M x.obs vb n).1.k≠kind then (x,way) else (x.put qa (getS x.M x.obs vb n).1,0)):=by
  show getsS x ⟨op,qa,qb,n⟩ kind way=_
  simp only[getsS,erb]
 generalize getsS x ⟨op,qa,qb,n⟩ kind way=RK at *;have hza:(qa:Int)<8:=by omega
 have hzb:(qb:Int)<8:=by omega
 have HW:Aside (WdOwn w base Bw V av pv fl rs):=h;have HAV:Aside (av=.slice (some ⟨g,0,none⟩) nn c):=hav;have HM:Aside (∀ w',Below w.heap.size w w'->Moved w w' (wdFoot Bw av pv fl rs) (wdFoot Bw av pv fl rs)):=fun w' hb'=>Moved.of_below hb'
 go_enter Tryz.func132,Tryz.ntmps132
 go_upto_region 1 with fail
 generalize w.alloc (.cells #[.int .i64 op,.int .i64 qa,.int .i64 qb,.int .i64 n] 49)=W at *;have e1:W.cell? ⟨w.heap.size,1,none⟩=some (.int .i64 qa):=cell_blk N0 1;have e2:W.cell? ⟨w.heap.size,2,none⟩=some (.int .i64 qb):=cell_blk N0 2;have e3:W.cell? ⟨w.heap.size,3,none⟩=some (.int .i64 n):=cell_blk N0 3;obtain⟨yk,yn⟩:=vb;obtain⟨xk,xn⟩:=va;simp only at ra1 ra2 rb1 rb2;clear h h1 N0 hav kq;obtain⟨GR,hGR⟩:∃ GR,GR=getS x.M x.obs ⟨yk,yn⟩ n:=⟨_,rfl⟩
 have HG:Aside (GR=getS x.M x.obs ⟨yk,yn⟩ n):=hGR;rw[<- hGR] at HRK;have hget:=fun w' (hb:Below W.heap.size W w')=>get_any x.M oa oc x.obs yk yn n w' (hO.keeps (Keeps.below hb))
 rw[<- hGR] at hget;clear hGR;generalize x.M=XM at *;generalize x.obs.length=XL at *;obtain⟨⟨gk,gn⟩,ge⟩:=GR;simp only at hget HRK;have hSof:∀ w',Below W.heap.size W w'->(w'.cell? ⟨w.heap.size,2,none⟩=some (.int .i64 qb)/\w'.cell? ⟨w.heap.size,3,none⟩=some (.int .i64 n)/\w'.cell? ⟨g,j*8+2,none⟩=some (.int .i64 XM)/\w'.cell? ⟨g,j*8+3,none⟩=some (.slice oa XL oc)/\w'.cell? ⟨g,j*8+4,none⟩=some (.slice (some ⟨R,0,none⟩) 8 rc)/\w'.cell? ⟨R,qb*2,none⟩=some (.int .i64 yk)/\w'.cell? ⟨R,qb*2+1,none⟩=some (.int .i64 yn)):=fun w' hb'=>⟨Keeps.below hb' _ _ e2,Keeps.below hb' _ _ e3,Keeps.below hb' _ _ k2,Keeps.below hb' _ _ k3,Keeps.below hb' _ _ k4,Keeps.below hb' _ _ rb1,Keeps.below hb' _ _ rb2⟩
 go_cut [9,10] (fun s9 s10 wc=>∃ G:Nat,s9=.pointer (some ⟨G,0,none⟩)/\s10=.int .i64 ge/\Below W.heap.size W wc/\W.heap.size<=G/\wc.heap[G]?=some (.cells #[.int .i64 gk,.int .i64 gn] 66 (0,0)))
 case first =>
  have hB:Below W.heap.size W W.drew:=(Below.refl _ _).drew;refine wp_region_need (fun _=>true) (fun w'=>w'.cell? ⟨w.heap.size,2,none⟩=some (.int .i64 qb)/\w'.cell? ⟨w.heap.size,3,none⟩=some (.int .i64 n)/\w'.cell? ⟨g,j*8+2,none⟩=some (.int .i64 XM)/\w'.cell? ⟨g,j*8+3,none⟩=some (.slice oa XL oc)/\w'.cell? ⟨g,j*8+4,none⟩=some (.slice (some ⟨R,0,none⟩) 8 rc)/\w'.cell? ⟨R,qb*2,none⟩=some (.int .i64 yk)/\w'.cell? ⟨R,qb*2+1,none⟩=some (.int .i64 yn)) (by kernel_rfl) (hSof _ hB) (fun hS=>?_)
  generalize W.drew=wc0 at hS hB  ⊢;refine tkN 0 hS ?_;refine tkN 1 hS ?_;refine tkN 2 hS ?_;refine tkN 3 hS ?_;refine tkN 4 hS ?_;refine tkN 5 hS ?_;refine tkN 6 hS ?_;refine tkN 7 hS ?_;refine tkN 8 hS ?_;refine tkN 9 hS ?_;refine tkN 10 hS ?_;refine tkN 11 hS ?_;refine tkN 12 hS ?_;refine tkN 13 hS ?_;refine twN 14 18 (fun K hK=>?_) (fun K hK=>?_)
  ·go_simp
   refine(hget wc0 hB).mono ?_;rintro e wc1 ⟨rfl,hbn⟩;have hBn:Below W.heap.size W wc1:=hB.trans (hbn.mono hB.size);refine otN hK (hSof _ hBn) ?_;replace hS:=hSof _ hBn;clear hK;replace hB:=hBn;clear hBn hbn;refine tkN 15 hS ?_;refine tkN 16 hS ?_;refine tkN 17 hS ?_;refine stN 18 (fun K hK=>?_);go_simp;have hbn:=below_box wc1 (Obj.cells #[.int .i64 0,.int .i64 0] 66);have mG:=Deep.blk_alloc_new wc1 (Obj.cells #[.int .i64 0,.int .i64 0] 66)
   have xG:W.heap.size<=wc1.heap.size:=hB.size
   try have daG:TT<=wc1.heap.size:=sT
   generalize wc1.alloc (Obj.cells #[.int .i64 0,.int .i64 0] 66)=wc2 at hbn mG ⊢;obtain⟨G,hG⟩:∃ G,G=wc1.heap.size:=⟨_,rfl⟩;rw[<- hG] at mG xG ⊢
   try rw[<- hG] at daG
   clear hG;have hBn:Below W.heap.size W wc2:=hB.trans (hbn.mono hB.size);refine otN hK (hSof _ hBn) ?_;replace hS:=hSof _ hBn;clear hK;replace hB:=hBn;clear hBn hbn;refine stN 19 (fun K hK=>?_);have c0:=cellBlk mG 0;have c1:=cellBlk mG 1;have cf:∀ j,wc2.frozen? ⟨G,j,none⟩=false:=fun j=>by simp[World.frozen?,mG]
   simp at c0 c1;go_simp;have hBn:=two_below hB xG 0 1 (.int .i64 gk) (.int .i64 gn);replace mG:=two_blk mG 0 1 (.int .i64 gk) (.int .i64 gn);clear c0 c1 cf;generalize (wc2.setCell ⟨G,0,none⟩ (.int .i64 gk)).setCell ⟨G,1,none⟩ (.int .i64 gn)=wc3 at *;refine otN hK (hSof _ hBn) ?_;replace hS:=hSof _ hBn;clear hK;replace hB:=hBn;clear hBn;refine tkN 20 hS ?_;refine dnN ?_
   go_wp2_with fail
   go_meet
   case rel=>exact⟨G,rfl,rfl,hB,xG,mG⟩
  ·go_simp
   have hbn:=below_box wc0 (Obj.cells #[.int .i64 0,.int .i64 0] 66);have mG:=Deep.blk_alloc_new wc0 (Obj.cells #[.int .i64 0,.int .i64 0] 66);have xG:W.heap.size<=wc0.heap.size:=hB.size
   try have daG:TT<=wc0.heap.size:=sT
   generalize wc0.alloc (Obj.cells #[.int .i64 0,.int .i64 0] 66)=wc1 at hbn mG ⊢;obtain⟨G,hG⟩:∃ G,G=wc0.heap.size:=⟨_,rfl⟩;rw[<- hG] at mG xG ⊢
   try rw[<- hG] at daG
   clear hG;have hBn:Below W.heap.size W wc1:=hB.trans (hbn.mono hB.size);refine otN hK (hSof _ hBn) ?_;replace hS:=hSof _ hBn;clear hK;replace hB:=hBn;clear hBn hbn;refine stN 14 (fun K hK=>?_);go_simp;refine(hget wc1 hB).mono ?_;rintro e wc2 ⟨rfl,hbn⟩;have hBn:Below W.heap.size W wc2:=hB.trans (hbn.mono hB.size);refine otN hK (hSof _ hBn) ?_;replace hS:=hSof _ hBn;clear hK;replace mG:=(hbn.block _ (Array.getElem?_eq_some_iff.1 mG).1).trans mG
   replace hB:=hBn;clear hBn hbn;refine tkN 15 hS ?_;refine tkN 16 hS ?_;refine tkN 17 hS ?_;refine stN 19 (fun K hK=>?_);have c0:=cellBlk mG 0;have c1:=cellBlk mG 1;have cf:∀ j,wc2.frozen? ⟨G,j,none⟩=false:=fun j=>by simp[World.frozen?,mG]
   simp at c0 c1;go_simp;have hBn:=two_below hB xG 0 1 (.int .i64 gk) (.int .i64 gn);replace mG:=two_blk mG 0 1 (.int .i64 gk) (.int .i64 gn);clear c0 c1 cf;generalize (wc2.setCell ⟨G,0,none⟩ (.int .i64 gk)).setCell ⟨G,1,none⟩ (.int .i64 gn)=wc3 at *;refine otN hK (hSof _ hBn) ?_;replace hS:=hSof _ hBn;clear hK;replace hB:=hBn;clear hBn;refine tkN 20 hS ?_;refine dnN ?_
   go_wp2_with fail
   go_meet
   case rel=>exact⟨G,rfl,rfl,hB,xG,mG⟩
 case rest =>
  obtain⟨G,rfl,rfl,hBc,xG,mG⟩:=hcut;have HB:Aside (Below w.heap.size w wc):=b1.trans (hBc.mono b1.size);have f1:=Keeps.below hBc _ _ e1;have g0:wc.cell? ⟨G,0,none⟩=some (.int .i64 gk):=cell_blk mG 0;have g1:wc.cell? ⟨G,1,none⟩=some (.int .i64 gn):=cell_blk mG 1;clear e1 e2 e3 ra1 ra2 rb1 rb2 k2 k3 k4 kf hBc mG hSof hO hget
  by_cases hge:ge=0
  rotate_left
  ·have q0:(ge != 0)=true:=by simp[hge]
   have hRK:RK=(x,faultS ge):=by rw[HRK.out,if_pos hge]
   subst hRK;have HF:Aside ((if ge=2 then (4:Int) else 8)=faultS ge):=rfl
   go_wp2_with (go_at_call 169;refine(fault_any _ _).mono ?_;rintro e w' ⟨rfl,hw'⟩;replace hw':=hw'.symm;subst hw';rw[HF.out])
   go_ret
   exact⟨rfl,HW.out.same hx HB.out,HM.out _ HB.out⟩
  subst hge
  by_cases hgk:gk=kind
  rotate_left
  ·have q0:(gk != kind)=true:=by simp[hgk]
   have hRK:RK=(x,way):=by rw[HRK.out,if_neg (by simp),if_pos hgk]
   subst hRK;go_wp2
   go_ret
   exact⟨rfl,HW.out.same hx HB.out,HM.out _ HB.out⟩
  subst hgk;have hRK:RK=(x.put qa ⟨gk,gn⟩,0):=by rw[HRK.out,if_neg (by simp),if_neg (by simp)]
  subst hRK
  go_upto_region 6 with fail
  obtain⟨R,fb,rb,rc,hfb,hrb,hra,k4,kq,kf,hRl,_⟩:=(HW.out.below HB.out).regAt HAV.out hx h8;obtain⟨q1,q2⟩:=kq qa _ hva;have hSof:∀ w2,Below wc.heap.size wc w2->(w2.cell? ⟨w.heap.size,1,none⟩=some (.int .i64 qa)/\w2.cell? ⟨g,j*8+4,none⟩=some (.slice (some ⟨R,0,none⟩) 8 rc)/\w2.cell? ⟨G,0,none⟩=some (.int .i64 gk)/\w2.cell? ⟨G,1,none⟩=some (.int .i64 gn)):=fun w2 hb'=>⟨Keeps.below hb' _ _ f1,Keeps.below hb' _ _ k4,Keeps.below hb' _ _ g0,Keeps.below hb' _ _ g1⟩
  have hBd:Below wc.heap.size wc wc.drew:=(Below.refl _ _).drew;refine wp_region_need (fun j=>j != 8) (fun w2=>w2.cell? ⟨w.heap.size,1,none⟩=some (.int .i64 qa)/\w2.cell? ⟨g,j*8+4,none⟩=some (.slice (some ⟨R,0,none⟩) 8 rc)/\w2.cell? ⟨G,0,none⟩=some (.int .i64 gk)/\w2.cell? ⟨G,1,none⟩=some (.int .i64 gn)) (by kernel_rfl) (hSof _ hBd) (fun hS=>?_);generalize wc.drew=wn at hS hBd ⊢;replace q1:=Keeps.below hBd _ _ q1
  replace q2:=Keeps.below hBd _ _ q2;have kf':∀ i,wn.frozen? ⟨R,i,none⟩=false:=fun i=>(hBd.frozen hRl).trans (kf i)
  refine tkN 0 hS ?_;refine tkN 1 hS ?_;refine tkN 2 hS ?_;refine tkN 3 hS ?_;refine tkN 4 hS ?_;refine tkN 5 hS ?_;refine tkN 6 hS ?_;refine tkN 7 hS ?_;refine stN 8 (fun K hK=>?_);go_simp;refine laN hK ?_;clear hK;have hBz:=HB.out.trans (hBd.mono HB.out.size);have hS1:=(HW.out.below hBz).setReg hfb hrb hx hra (q:=qa) (by omega) ⟨gk,gn⟩;have hM1:=(HM.out _ hBz).trans hS1.2;have HZ:Aside (WdOwn ((wn.setCell ⟨R,qa*2,none⟩ (.int .i64 gk)).setCell ⟨R,qa*2+1,none⟩ (.int .i64 gn)) base Bw { V with acts:=V.acts.set j (x.put qa ⟨gk,gn⟩) } av pv fl rs/\Moved w ((wn.setCell ⟨R,qa*2,none⟩ (.int .i64 gk)).setCell ⟨R,qa*2+1,none⟩ (.int .i64 gn)) (wdFoot Bw av pv fl rs) (wdFoot Bw av pv fl rs)):=⟨hS1.1,hM1⟩
  clear hS1 hM1 hS hSof q1 q2 kf' kq;generalize (wn.setCell ⟨R,qa*2,none⟩ (.int .i64 gk)).setCell ⟨R,qa*2+1,none⟩ (.int .i64 gn)=wz at HZ ⊢;go_wp2
  go_ret
  exact⟨rfl,HZ.out.1,HZ.out.2⟩
end
section
open Go.RowKit
structure CloneMid (w wr:World) (M:Int) (sv:Value) (L:Nat) (l:List Ob) (i:Nat):Prop where
 below:Below w.heap.size w wr
 box:wr.heap[w.heap.size]?=some (.cells #[.int .i64 M,sv] 53 (0,0))
 res:wr.heap[w.heap.size+1]?=some (.cells #[.int .i64 0,.slice none 0 0] 53 (0,0))
 own:∃ rows,HeapOwn wr (w.heap.size+1+1) (.slice (some ⟨w.heap.size+1+1,0,none⟩) L L) rows/\rows.length=L/\∀ j,j<i->(rows[j]?).map (·.2)=l[j]?
theorem cloneMid_start (w:World) (M:Int) (sv:Value) (L:Nat) (l:List Ob) (hL:32*L<=140737488351232) :
  CloneMid w (((w.alloc (Obj.cells #[Value.int IntKind.i64 M,sv] 53)).alloc (Obj.cells #[Value.int IntKind.i64 0,Value.slice none 0 0] 53)).alloc (Obj.cells (madeCells #[Value.slice none 0 0,Value.bool false] (L*2)) 91)) M sv L l 0:=by
 refine⟨((((Below.refl _ _).alloc (Nat.le_refl _) _).alloc (by simp) _).alloc (by simp;omega) _),?_,?_,⟨List.replicate L (.slice none 0 0,⟨[],false⟩),?_,List.length_replicate,fun j hj=>absurd hj (Nat.not_lt_zero _)⟩⟩
 ·rw[Deep.blk_alloc_lt _ _ _ (by simp;omega),Deep.blk_alloc_lt _ _ _ (by simp)]
  exact Deep.blk_alloc_new w _
 ·rw[Deep.blk_alloc_lt _ _ _ (by simp)]
  have:=Deep.blk_alloc_new (w.alloc (Obj.cells #[Value.int IntKind.i64 M,sv] 53)) (Obj.cells #[Value.int IntKind.i64 0,Value.slice none 0 0] 53)
  simpa using this
 ·have:=heap_made ((w.alloc (Obj.cells #[Value.int IntKind.i64 M,sv] 53)).alloc (Obj.cells #[Value.int IntKind.i64 0,Value.slice none 0 0] 53)) (w.heap.size+1+1) L (by simp) hL
  simpa using this
theorem CloneMid.slot {w wr:World} {M:Int} {sv:Value} {L:Nat} {l:List Ob} {i:Nat} (h:CloneMid w wr M sv L l i) (hi:i<L) :
  ∃ (va:Option Addr) (vb vc:Nat) (d:Bool),(∀ o,(wr.alloc o).cell? ⟨w.heap.size+1+1,i*2,none⟩=some (.slice va vb vc))/\(∀ o,(wr.alloc o).cell? ⟨w.heap.size+1+1,i*2+1,none⟩=some (.bool d)) /\
   (∀ o o',((wr.alloc o).alloc o').cell? ⟨w.heap.size+1+1,i*2,none⟩=some (.slice va vb vc))/\(∀ o o',((wr.alloc o).alloc o').cell? ⟨w.heap.size+1+1,i*2+1,none⟩=some (.bool d)) /\
   (∀ o j,(wr.alloc o).frozen? ⟨w.heap.size+1+1,j,none⟩=false)/\(∀ o o' j,((wr.alloc o).alloc o').frozen? ⟨w.heap.size+1+1,j,none⟩=false):=by
 obtain⟨rows,hO,hl,_⟩:=h.own;obtain⟨⟨rv,ob⟩,hp⟩:=at_some (l:=rows) (i:=i) (by omega);obtain⟨fa,fc,hf⟩:=(hO.row i _ hp).1.form;simp only at hf;subst hf;refine⟨fa,ob.fs.length,fc,ob.dead,fun o=>?_,fun o=>?_,fun o o'=>?_,fun o o'=>?_,fun o j=>?_,fun o o' j=>?_⟩
 ·exact ownsRow_cell (hO.alloc o).top rfl (by simp[obCells,pairs_fst,hp,obPair])
 ·exact ownsRow_cell (hO.alloc o).top rfl (by simp[obCells,pairs_snd,hp,obPair])
 ·exact ownsRow_cell ((hO.alloc o).alloc o').top rfl (by simp[obCells,pairs_fst,hp,obPair])
 ·exact ownsRow_cell ((hO.alloc o).alloc o').top rfl (by simp[obCells,pairs_snd,hp,obPair])
 ·exact ownsRow_frozen (hO.alloc o).top rfl j
 ·exact ownsRow_frozen ((hO.alloc o).alloc o').top rfl j
def cloneW (w wr:World) (i:Nat) (fa:Option Addr) (F fc:Nat) (dead:Bool):World :=
 ((((wr.alloc (Obj.cells #[Value.slice fa F fc,Value.bool dead] 91)).alloc (Obj.cells (madeCells #[Value.int IntKind.i64 0,Value.int IntKind.i64 0] (F*2)) 66)).setCell
  ⟨w.heap.size+1+1,i*2,none⟩ (Value.slice (some ⟨wr.heap.size+1,0,none⟩) F F)).setCell ⟨w.heap.size+1+1,i*2+1,none⟩ (Value.bool dead)).drew
theorem CloneMid.step {w wr:World} {M:Int} {sv:Value} {L:Nat} {l:List Ob} {i:Nat} (h:CloneMid w wr M sv L l i) (hi:i<L) {fs:List Vl} {dead:Bool} (hv:l[i]?=some ⟨fs,dead⟩) {fa:Option Addr} (fc:Nat) (hfs:ValsAt w fa fs)
  (hfl:16*fs.length<=140737488351232) :
  (cloneW w wr i fa fs.length fc dead).cell? ⟨w.heap.size+1+1,i*2,none⟩=some (.slice (some ⟨wr.heap.size+1,0,none⟩) fs.length fs.length) /\
  (cloneW w wr i fa fs.length fc dead).cell? ⟨wr.heap.size,0,none⟩=some (.slice fa fs.length fc) /\
  (∃ w',(Builtin.copy_ #[54,54] 3 #[.slice (some ⟨wr.heap.size+1,0,none⟩) fs.length fs.length,.slice fa fs.length fc]).run Tryz.prog (cloneW w wr i fa fs.length fc dead).drew=.ok (goInt fs.length) w'/\CloneMid w w' M sv L l (i+1)):=by
 obtain⟨rows,hO,hl,hd⟩:=h.own;have hb:=h.below;have hs:w.heap.size+1+1<=w.heap.size+1+1/\w.heap.size+1+1<wr.heap.size:=hO.top.lt _ rfl;have hO2:=(hO.alloc (Obj.cells #[Value.slice fa fs.length fc,Value.bool dead] 91)).alloc (Obj.cells (madeCells #[Value.int IntKind.i64 0,Value.int IntKind.i64 0] (fs.length*2)) 66);have hvals:=vals_made (wr.alloc (Obj.cells #[Value.slice fa fs.length fc,Value.bool dead] 91)) (w.heap.size+1+1) fs.length (by simp;omega) (by unfold maxLen;omega)
 simp only[Deep.nblk_alloc] at hvals;have hO3:=hO2.store (i:=i) (by omega) (.slice (some ⟨wr.heap.size+1,0,none⟩) fs.length fs.length) ⟨zeroVals fs.length,dead⟩ hvals (by simpa[zeroVals] using hfl) (fun j q hq hj=>Or.inr (fun e=>by
  have h1:=((hO.row j q hq).1.lt _ e.symm).2;have h2:wr.heap.size+1<wr.heap.size:=h1;omega))
 have hO4:HeapOwn (cloneW w wr i fa fs.length fc dead) (w.heap.size+1+1) (.slice (some ⟨w.heap.size+1+1,0,none⟩) L L) (rows.set i (.slice (some ⟨wr.heap.size+1,0,none⟩) fs.length fs.length,⟨zeroVals fs.length,dead⟩)):=hO3.below (Below.refl _ _).drew;have hgt:(rows.set i (Value.slice (some ⟨wr.heap.size+1,0,none⟩) fs.length fs.length,(⟨zeroVals fs.length,dead⟩:Ob)))[i]?=some (Value.slice (some ⟨wr.heap.size+1,0,none⟩) fs.length fs.length,⟨zeroVals fs.length,dead⟩):=by
  rw[List.getElem?_set,if_pos rfl,if_pos (by omega)]
 have old:∀ k,k<wr.heap.size+1->k≠w.heap.size+1+1->(cloneW w wr i fa fs.length fc dead).heap[k]?=(wr.alloc (Obj.cells #[Value.slice fa fs.length fc,Value.bool dead] 91)).heap[k]?:=fun k hk hne=>by
  show((((wr.alloc (Obj.cells #[Value.slice fa fs.length fc,Value.bool dead] 91)).alloc _).setCell _ _).setCell _ _).heap[k]?=_
  rw[Deep.blk_setCell_other _ _ _ _ hne,Deep.blk_setCell_other _ _ _ _ hne,Deep.blk_alloc_lt _ _ _ (by simp;omega)]
 have hbel:Below w.heap.size w (cloneW w wr i fa fs.length fc dead) :=
  ((((hb.alloc hb.size _).alloc (by simp;omega) _).setCell (by show w.heap.size<=w.heap.size+1+1;omega) _).setCell (by show w.heap.size<=w.heap.size+1+1;omega) _).drew
 have bwr:Below wr.heap.size wr (wr.alloc (Obj.cells #[Value.slice fa fs.length fc,Value.bool dead] 91)):=below_box _ _;have hfs':ValsAt (cloneW w wr i fa fs.length fc dead).drew fa fs:=hfs.keeps (Keeps.below hbel.drew);refine⟨?_,?_,?_⟩
 ·exact ownsRow_cell hO4.top rfl (by simp[obCells,pairs_fst,obPair,hl,hi])
 ·have e1:=old wr.heap.size (by omega) (by omega)
  rw[Deep.blk_alloc_new] at e1;simp[World.cell?,e1]
 ·refine⟨_,run_copy_full 2 _ 54 54 3 66 Tryz.underlying54 Tryz.sizeV (wr.heap.size+1) fs.length fs.length fa fc (madeCells #[Value.int IntKind.i64 0,Value.int IntKind.i64 0] (fs.length*2)) 66 ?_ (valCells fs) (valCells_length _) (by rw[valCells_length,size_madeCells]) (fun hn=>vals_src hfs' hn) (valCells_one _),?_⟩
  ·show((((wr.alloc (Obj.cells #[Value.slice fa fs.length fc,Value.bool dead] 91)).alloc _).setCell _ _).setCell _ _).heap[wr.heap.size+1]?=_
   rw[Deep.blk_setCell_other _ _ _ _ (by show wr.heap.size+1≠w.heap.size+1+1;omega),Deep.blk_setCell_other _ _ _ _ (by show wr.heap.size+1≠w.heap.size+1+1;omega)];have:=Deep.blk_alloc_new (wr.alloc (Obj.cells #[Value.slice fa fs.length fc,Value.bool dead] 91)) (Obj.cells (madeCells #[Value.int IntKind.i64 0,Value.int IntKind.i64 0] (fs.length*2)) 66)
   simpa using this
  ·have hO5:=(hO4.below (Below.refl _ _).drew).fill hgt fs (by simp[zeroVals])
   refine⟨below_setRow hbel.drew (by omega) _,?_,?_,⟨_,hO5,by rw[List.length_set,List.length_set];exact hl,fun j hj=>?_⟩⟩
   ·rw[setRow_other _ _ _ _ (by omega)]
    exact(old _ (by omega) (by omega)).trans ((bwr.block _ (by omega)).trans h.box)
   ·rw[setRow_other _ _ _ _ (by omega)]
    exact(old _ (by omega) (by omega)).trans ((bwr.block _ (by omega)).trans h.res)
   ·by_cases e:j=i
    ·subst e
     rw[List.getElem?_set,if_pos rfl,if_pos (by simp;omega),hv]
     rfl
    ·rw[List.getElem?_set,if_neg (Ne.symm e),List.getElem?_set,if_neg (Ne.symm e)]
     exact hd j (by omega)
theorem clone_any (M:Int) (ao:Option Addr) (cap:Nat) (l:List Ob) (w:World) (h:ObsAt w ao l) :
  Calls Tryz.prog 60 #[.agg #[.int .i64 M,.slice ao l.length cap]] w fun e w'=>∃ g rows,e=.returned (.agg #[.int .i64 M,.slice (some ⟨g,0,none⟩) l.length l.length])/\rows.map (·.2)=l/\HeapOwn w' w.heap.size (.slice (some ⟨g,0,none⟩) l.length l.length) rows/\Below w.heap.size w w':=by
 have hm:=h.many;obtain⟨L,hL⟩:∃ L,L=l.length:=⟨_,rfl⟩;have HL:Aside (L=l.length):=hL;rw[<- hL] at hm ⊢;clear hL;have hmk:=run_make_rowk (P:=Tryz.prog) 2 51 91 _ 32 Tryz.underlying51 Tryz.infoO .i64 .i64 L (by omega) (by omega)
 go_enter Tryz.func60,Tryz.ntmps60
 go_wp2
 clear hmk;have hstart:Aside (CloneMid w (((w.alloc (Obj.cells #[Value.int IntKind.i64 M,Value.slice ao L cap] 53)).alloc (Obj.cells #[Value.int IntKind.i64 0,Value.slice none 0 0] 53)).alloc (Obj.cells (madeCells #[Value.slice none 0 0,Value.bool false] (L*2)) 91)) M (.slice ao L cap) L l 0):=cloneMid_start w M _ L l hm
 go_loopg [13,4,5] L (fun g s13 s4 s5 wr=>∃ i:Nat,i<=L/\g=L-i/\s13=.int .i64 i/\CloneMid w wr M (.slice ao L cap) L l i)
 case atStart=>exact⟨0,Nat.zero_le _,rfl,rfl,hstart.out⟩
 case round =>
  obtain⟨i,hi,rfl,rfl,hmid⟩:=hrel;clear hstart
  by_cases hiL:i<L
  ·have hiz:(i:Int)<(L:Int):=by omega
   obtain⟨⟨fs,dead⟩,hv⟩:=at_some (l:=l) (i:=i) (by rw[<- HL.out];exact hiL);obtain⟨b,o,fa,fc,rfl,c1,c2,hfs,hfl⟩:=h.cell i _ hv;have hb:=hmid.below;replace c1:=Keeps.below hb _ _ c1;replace c2:=Keeps.below hb _ _ c2;simp only at c1 c2 hfs hfl;have HV:Aside (l[i]?=some ⟨fs,dead⟩):=hv;clear hv;obtain⟨F,hF⟩:∃ F,F=fs.length:=⟨_,rfl⟩;have HF:Aside (F=fs.length):=hF;rw[<- hF] at c1 hfl;clear hF;have hmk:=run_make_rowk (P:=Tryz.prog) 2 54 66 _ 16 Tryz.underlying54 Tryz.infoV .i64 .i64 F (by omega) (by omega)
   obtain⟨va,vb,vc,vd,s1,s2,s3,s4,s5,s6⟩:=hmid.slot hiL;have hstep:=hmid.step hiL HV.out fc hfs (by rw[<- HF.out];exact hfl);rw[<- HF.out] at hstep;have HST:Aside (((cloneW w wr i fa F fc dead).cell? ⟨w.heap.size+1+1,i*2,none⟩=some (.slice (some ⟨wr.heap.size+1,0,none⟩) F F) /\
  (cloneW w wr i fa F fc dead).cell? ⟨wr.heap.size,0,none⟩=some (.slice fa F fc) /\
  (∃ w',(Builtin.copy_ #[54,54] 3 #[.slice (some ⟨wr.heap.size+1,0,none⟩) F F,.slice fa F fc]).run Tryz.prog (cloneW w wr i fa F fc dead).drew=.ok (goInt F) w'/\CloneMid w w' M (.slice (some ⟨b,o,none⟩) L cap) L l (i+1)))):=hstep
   clear hstep;go_wp2
   go_region
   clear s1 s2 s3 s4 s5 s6 hmk hmid hfs c1 c2
   change Exit.then _ _ _ _ (cloneW w wr i fa F fc dead)
   obtain⟨t1,t2,w',hrun,hmid2⟩:=HST.out;clear HST;generalize cloneW w wr i fa F fc dead=W5 at *;have HRUN:Aside ((Builtin.copy_ #[54,54] 3 #[.slice (some ⟨wr.heap.size+1,0,none⟩) F F,.slice fa F fc]).run Tryz.prog W5.drew=.ok (goInt F) w'):=hrun;clear hrun;go_wp2
   go_region_law (refine step_copy rfl (.tmp 32) (.tmp 34) 54 54 rfl (.slice (some ⟨wr.heap.size+1,0,none⟩) F F) (.slice fa F fc) (by simp[Act.eval]) (by simp[Act.eval]) _ _ HRUN.out ?_)
   all_goals
    clear HRUN t1 t2;go_wp2
    go_roundg (L-(i+1))
    case measure=>go_light;omega
    case rel=>go_light;exact⟨i+1,by omega,rfl,by go_num,hmid2⟩
  ·obtain rfl:i=L:=by omega
   have c1:wr.cell? ⟨w.heap.size,0,none⟩=some (.int .i64 M):=by simp[World.cell?,hmid.box]
   have r1:wr.cell? ⟨w.heap.size+1,0,none⟩=some (.int .i64 0):=by simp[World.cell?,hmid.res]
   have r2:wr.cell? ⟨w.heap.size+1,1,none⟩=some (.slice none 0 0):=by simp[World.cell?,hmid.res]
   have r3:∀ j,wr.frozen? ⟨w.heap.size+1,j,none⟩=false:=fun j=>by simp[World.frozen?,hmid.res]
   go_wp2
   obtain⟨rows,hO,hl,hd⟩:=hmid.own;have m1:=setCell_blk (setCell_blk hmid.res 0 (.int .i64 M)) 1 (.slice (some ⟨w.heap.size+1+1,0,none⟩) i i);have m2:((wr.setCell ⟨w.heap.size+1,0,none⟩ (.int .i64 M)).setCell ⟨w.heap.size+1,1,none⟩ (.slice (some ⟨w.heap.size+1+1,0,none⟩) i i)).cell? ⟨w.heap.size+1,0,none⟩=some (.int .i64 M):=by simp[World.cell?,m1]
   have m3:((wr.setCell ⟨w.heap.size+1,0,none⟩ (.int .i64 M)).setCell ⟨w.heap.size+1,1,none⟩ (.slice (some ⟨w.heap.size+1+1,0,none⟩) i i)).cell? ⟨w.heap.size+1,1,none⟩=some (.slice (some ⟨w.heap.size+1+1,0,none⟩) i i):=by simp[World.cell?,m1]
   refine bodyPost_ret (v:=.agg #[.int .i64 M,.slice (some ⟨w.heap.size+1+1,0,none⟩) i i]) (by simp[results,Tryz.results60,go_sem,m2,m3]) rfl ⟨_,rows,rfl,?_,?_,?_⟩
   ·refine List.ext_getElem? fun j=>?_
    rw[List.getElem?_map]
    by_cases hj:j<i
    ·exact hd j hj
    ·rw[List.getElem?_eq_none (by omega),List.getElem?_eq_none (by rw[<- HL.out];omega)]
     rfl
   ·refine(HeapOwn.le ?_ (by omega:w.heap.size<=w.heap.size+1+1))
    exact(hO.setLow (by show w.heap.size+1<w.heap.size+1+1;omega) _).setLow (by show w.heap.size+1<w.heap.size+1+1;omega) _
   ·exact(hmid.below.setCell (by show w.heap.size<=w.heap.size+1;omega) _).setCell (by show w.heap.size<=w.heap.size+1;omega) _
end
end Go.Proofs.YtihpkcccfgbcmaaGreatDoor
