/- HGet. -/
import Derived.BigRegion
import Derived.Deep.DeepCutAuto
import Derived.BigQuiet
import Derived.Deep.QuietTactic
import Derived.Test.YtepifccbbmdfcaaGreatDoorCBHHeld
namespace Go.Proofs.YtepifccbbmdfcaaGreatDoor
set_option maxRecDepth 100000
set_option maxHeartbeats 8000000
section
open Go.RowKit
theorem reg_of {x:Ac} {a:Int} (h:0<=a/\a<=7) (h8:x.regs.length=8):∃ (q:Nat) (v:Vl),a=(q:Int)/\q<8/\x.regs[q]?=some v/\x.reg a=v:=by
 obtain⟨q,rfl⟩:=Int.eq_ofNat_of_zero_le h.1;obtain⟨v,hv⟩:=at_some (l:=x.regs) (i:=q) (by omega);exact⟨q,v,rfl,by omega,hv,by simp[Ac.reg,hv]⟩
theorem WdOwn.regAt {w:World} {base Bw:Nat} {V:Wd} {av pv:Value} {fl:List Fa} {rs:List (List (Value × Ob))} (h:WdOwn w base Bw V av pv fl rs) {g nn c:Nat} (hav:av=.slice (some ⟨g,0,none⟩) nn c) {j:Nat} {x:Ac} (hx:V.acts[j]?=some x) (h8:x.regs.length=8) :
  ∃ R fa r rc,fl[j]?=some fa/\rs[j]?=some r/\fa.ra=some ⟨R,0,none⟩/\w.cell? ⟨g,j*8+4,none⟩=some (.slice (some ⟨R,0,none⟩) 8 rc)/\(∀ q v,x.regs[q]?=some v->w.cell? ⟨R,q*2,none⟩=some (.int .i64 v.k)/\w.cell? ⟨R,q*2+1,none⟩=some (.int .i64 v.n))/\(∀ i,w.frozen? ⟨R,i,none⟩=false)/\R<w.heap.size/\8<=rc/\rc=fa.rc:=by
 obtain⟨fa,r,g',c',R,hfa,hr,hA,hav2,hR,_,_,_,_,k4,_,_,_⟩:=h.cells hx;rw[hav] at hav2;simp only[Value.slice.injEq,Option.some.injEq,Addr.mk.injEq,and_true] at hav2;obtain⟨rfl,_,_⟩:=hav2;have hR':=hR (by omega);rw[hR',h8] at k4;obtain⟨v0,hv0⟩:=at_some (l:=x.regs) (i:=0) (by omega);obtain⟨R0,e0,_,_,hf⟩:=hA.reg hv0;rw[hR'] at e0;simp only[Option.some.injEq,Addr.mk.injEq,and_true] at e0;subst e0;refine⟨R,fa,r,fa.rc,hfa,hr,hR',k4,fun q v hv=>?_,hf,ownsRow_blk_lt hA.regs R (by rw[mem_vB,hR'];rfl),?_,rfl⟩
 rotate_left
 ·rcases hA.regs.2 with⟨hv,_⟩ | ⟨g2,cap,cur,hv,_,_,h1,_⟩
  ·rw[hR'] at hv;simp at hv
  ·simp only[Value.slice.injEq] at hv
   rw[hv.2.2];omega
 obtain⟨R1,e1,h1,h2,_⟩:=hA.reg hv;rw[hR'] at e1;simp only[Option.some.injEq,Addr.mk.injEq,and_true] at e1;subst e1;exact⟨h1,h2⟩
theorem WdOwn.same {w w':World} {base Bw:Nat} {V:Wd} {av pv:Value} {fl:List Fa} {rs:List (List (Value × Ob))} (h:WdOwn w base Bw V av pv fl rs) {j:Nat} {x:Ac} (hx:V.acts[j]?=some x) (hb:Below w.heap.size w w'):WdOwn w' base Bw { V with acts:=V.acts.set j x } av pv fl rs:=by
 rw[set_same hx];exact h.below hb
theorem isW_le {n:Int} (h:isW n=true):-1099511627776<=n/\n<=1099511627776:=by
 simpa[isW] using h
theorem reckon_any (op a b n:Int) (w:World) {base Bw:Nat} {V:Wd} {av pv:Value} {fl:List Fa} {rs:List (List (Value × Ob))} (h:WdOwn w base Bw V av pv fl rs) {j:Nat} {x:Ac} (hx:V.acts[j]?=some x) {g nn c:Nat} (hav:av=.slice (some ⟨g,0,none⟩) nn c) (h8:x.regs.length=8) (ha:0<=a/\a<=7) (hb:0<=b/\b<=7)
  (hw:∀ v∈x.regs,v.k=1->isW v.n=true) :
  Calls Tryz.prog 108 #[.pointer (some ⟨g,j*8,none⟩),.agg #[.int .i64 op,.int .i64 a,.int .i64 b,.int .i64 n]] w fun e w'=>e=.returned (.int .i64 (reckonS x ⟨op,a,b,n⟩).2)/\WdOwn w' base Bw { V with acts:=V.acts.set j (reckonS x ⟨op,a,b,n⟩).1 } av pv fl rs/\Moved w w' (wdFoot Bw av pv fl rs) (wdFoot Bw av pv fl rs):=by
 obtain⟨qa,va,rfl,hqa,hva,era⟩:=reg_of ha h8;obtain⟨qb,vb,rfl,hqb,hvb,erb⟩:=reg_of hb h8;obtain⟨N0,k1,b1,s1⟩:=boxes1 w (.cells #[.int .i64 op,.int .i64 qa,.int .i64 qb,.int .i64 n] 43);have h1:=h.below b1;obtain⟨fa,r,g',c',R,hfa,hr,hA,hav2,_,_,_,_,_,k4,_,_,_⟩:=h1.cells hx;rw[hav] at hav2;simp only[Value.slice.injEq,Option.some.injEq,Addr.mk.injEq,and_true] at hav2;obtain⟨rfl,_,_⟩:=hav2;have HAV:Aside (av=.slice (some ⟨g,0,none⟩) nn c):=hav
 clear hav;obtain⟨R1,hR1,ra1,ra2,hfz⟩:=hA.reg hva;obtain⟨R2,hR2,rb1,rb2,_⟩:=hA.reg hvb;rw[hR1] at hR2;simp only[Option.some.injEq,Addr.mk.injEq,and_true] at hR2;subst hR2;rw[hR1,h8] at k4;have HRK:Aside (reckonS x ⟨op,qa,qb,n⟩=if va.k≠1\/vb.k≠1 then (x,8) else if isW (resultS op va.n vb.n)=false then (x,7) else (x.put qa (numV (resultS op va.n vb.n)),0)):=by
  show reckonS x ⟨op,qa,qb,n⟩=_
  simp only[reckonS,era,erb]
 have hwa:=hw va (List.mem_of_getElem? hva);have hwb:=hw vb (List.mem_of_getElem? hvb);generalize reckonS x ⟨op,qa,qb,n⟩=RK at *;have hza:(qa:Int)<8:=by omega
 have hzb:(qb:Int)<8:=by omega
 have HW:Aside (WdOwn w base Bw V av pv fl rs):=h;have HM:Aside (∀ w',Below w.heap.size w w'->Moved w w' (wdFoot Bw av pv fl rs) (wdFoot Bw av pv fl rs)):=fun w' hb'=>Moved.of_below hb'
 go_enter Tryz.func108,Tryz.ntmps108
 go_upto_region 1 with fail
 generalize w.alloc (.cells #[.int .i64 op,.int .i64 qa,.int .i64 qb,.int .i64 n] 43)=W at *;have e0:W.cell? ⟨w.heap.size,0,none⟩=some (.int .i64 op):=cell_blk N0 0;have e1:W.cell? ⟨w.heap.size,1,none⟩=some (.int .i64 qa):=cell_blk N0 1;have e2:W.cell? ⟨w.heap.size,2,none⟩=some (.int .i64 qb):=cell_blk N0 2;obtain⟨xk,xn⟩:=va;obtain⟨yk,yn⟩:=vb;simp only at ra1 ra2 rb1 rb2 hwa hwb HRK;have hWs:Aside (WdOwn W base Bw V av pv fl rs):=h1
 clear h h1 hA N0;have hSof:∀ w',Below W.heap.size W w'->(w'.cell? ⟨w.heap.size,1,none⟩=some (.int .i64 qa)/\w'.cell? ⟨w.heap.size,2,none⟩=some (.int .i64 qb)/\w'.cell? ⟨g,j*8+4,none⟩=some (.slice (some ⟨R1,0,none⟩) 8 fa.rc)/\w'.cell? ⟨R1,qa*2,none⟩=some (.int .i64 xk)/\w'.cell? ⟨R1,qa*2+1,none⟩=some (.int .i64 xn)/\w'.cell? ⟨R1,qb*2,none⟩=some (.int .i64 yk)/\w'.cell? ⟨R1,qb*2+1,none⟩=some (.int .i64 yn)):=fun w' hb'=>⟨Keeps.below hb' _ _ e1,Keeps.below hb' _ _ e2,Keeps.below hb' _ _ k4,Keeps.below hb' _ _ ra1,Keeps.below hb' _ _ ra2,Keeps.below hb' _ _ rb1,Keeps.below hb' _ _ rb2⟩
 go_cut [5,6] (fun s5 s6 wc=>∃ G1 G2:Nat,s5=.pointer (some ⟨G1,0,none⟩)/\s6=.pointer (some ⟨G2,0,none⟩)/\Below W.heap.size W wc/\W.heap.size<=G1/\W.heap.size<=G2/\G1≠G2/\wc.heap[G1]?=some (.cells #[.int .i64 xk,.int .i64 xn] 66 (0,0))/\wc.heap[G2]?=some (.cells #[.int .i64 yk,.int .i64 yn] 66 (0,0)))
 case first =>
  have hB:Below W.heap.size W W.drew:=(Below.refl _ _).drew;refine wp_region_need (fun _=>true) (fun w'=>w'.cell? ⟨w.heap.size,1,none⟩=some (.int .i64 qa)/\w'.cell? ⟨w.heap.size,2,none⟩=some (.int .i64 qb)/\w'.cell? ⟨g,j*8+4,none⟩=some (.slice (some ⟨R1,0,none⟩) 8 fa.rc)/\w'.cell? ⟨R1,qa*2,none⟩=some (.int .i64 xk)/\w'.cell? ⟨R1,qa*2+1,none⟩=some (.int .i64 xn)/\w'.cell? ⟨R1,qb*2,none⟩=some (.int .i64 yk)/\w'.cell? ⟨R1,qb*2+1,none⟩=some (.int .i64 yn)) (by kernel_rfl) (hSof _ hB) (fun hS=>?_)
  generalize W.drew=wc0 at hS hB ⊢;refine tkN 0 hS ?_;refine tkN 1 hS ?_;refine tkN 2 hS ?_;refine tkN 3 hS ?_;refine tkN 4 hS ?_;refine tkN 5 hS ?_;refine tkN 6 hS ?_;refine tkN 7 hS ?_;refine tkN 8 hS ?_;refine tkN 9 hS ?_;refine tkN 10 hS ?_;refine tkN 11 hS ?_;refine tkN 12 hS ?_;refine tkN 13 hS ?_;refine tkN 14 hS ?_;refine tkN 15 hS ?_;refine twN 16 17 (fun K hK=>?_) (fun K hK=>?_)
  ·go_simp
   have hbn:=below_box wc0 (Obj.cells #[.int .i64 0,.int .i64 0] 66);have m1:=Deep.blk_alloc_new wc0 (Obj.cells #[.int .i64 0,.int .i64 0] 66);have x1:W.heap.size<=wc0.heap.size:=hB.size
   try have hlt:G2<wc0.heap.size:=(Array.getElem?_eq_some_iff.1 m2).1
   generalize wc0.alloc (Obj.cells #[.int .i64 0,.int .i64 0] 66)=wc1 at hbn m1 ⊢;obtain⟨G1,hG⟩:∃ G1,G1=wc0.heap.size:=⟨_,rfl⟩;rw[<- hG] at m1 x1 ⊢
   try rw[<- hG] at hlt
   clear hG;have hBn:Below W.heap.size W wc1:=hB.trans (hbn.mono hB.size);refine otN hK (hSof _ hBn) ?_;replace hS:=hSof _ hBn;clear hK;replace hB:=hBn;clear hBn hbn;refine stN 17 (fun K hK=>?_);go_simp;have hbn:=below_box wc1 (Obj.cells #[.int .i64 0,.int .i64 0] 66);have m2:=Deep.blk_alloc_new wc1 (Obj.cells #[.int .i64 0,.int .i64 0] 66);have x2:W.heap.size<=wc1.heap.size:=hB.size
   try have hlt:G1<wc1.heap.size:=(Array.getElem?_eq_some_iff.1 m1).1
   generalize wc1.alloc (Obj.cells #[.int .i64 0,.int .i64 0] 66)=wc2 at hbn m2 ⊢;obtain⟨G2,hG⟩:∃ G2,G2=wc1.heap.size:=⟨_,rfl⟩;rw[<- hG] at m2 x2 ⊢
   try rw[<- hG] at hlt
   clear hG;have hBn:Below W.heap.size W wc2:=hB.trans (hbn.mono hB.size);refine otN hK (hSof _ hBn) ?_;replace hS:=hSof _ hBn;clear hK;replace m1:=(hbn.block _ (Array.getElem?_eq_some_iff.1 m1).1).trans m1;replace hB:=hBn;clear hBn hbn;refine stN 18 (fun K hK=>?_);have c0:=cellBlk m1 0;have c1:=cellBlk m1 1;have cf:∀ j,wc2.frozen? ⟨G1,j,none⟩=false:=fun j=>by simp[World.frozen?,m1]
   simp at c0 c1;go_simp;have hBn:=two_below hB x1 0 1 (.int .i64 xk) (.int .i64 xn);replace m1:=two_blk m1 0 1 (.int .i64 xk) (.int .i64 xn)
   try replace m2:=(two_other 0 1 (.int .i64 xk) (.int .i64 xn) (show G2≠G1 by omega)).trans m2
   clear c0 c1 cf;generalize (wc2.setCell ⟨G1,0,none⟩ (.int .i64 xk)).setCell ⟨G1,1,none⟩ (.int .i64 xn)=wc3 at *;refine otN hK (hSof _ hBn) ?_;replace hS:=hSof _ hBn;clear hK;replace hB:=hBn;clear hBn;refine stN 19 (fun K hK=>?_);have c0:=cellBlk m2 0;have c1:=cellBlk m2 1;have cf:∀ j,wc3.frozen? ⟨G2,j,none⟩=false:=fun j=>by simp[World.frozen?,m2]
   simp at c0 c1;go_simp;have hBn:=two_below hB x2 0 1 (.int .i64 yk) (.int .i64 yn);replace m2:=two_blk m2 0 1 (.int .i64 yk) (.int .i64 yn)
   try replace m1:=(two_other 0 1 (.int .i64 yk) (.int .i64 yn) (show G1≠G2 by omega)).trans m1
   clear c0 c1 cf;generalize (wc3.setCell ⟨G2,0,none⟩ (.int .i64 yk)).setCell ⟨G2,1,none⟩ (.int .i64 yn)=wc4 at *;refine otN hK (hSof _ hBn) ?_;replace hS:=hSof _ hBn;clear hK;replace hB:=hBn;clear hBn;refine dnN ?_
   go_wp2_with fail
   go_meet
   case rel=>exact⟨G1,G2,rfl,rfl,hB,x1,x2,by omega,m1,m2⟩
  ·go_simp
   have hbn:=below_box wc0 (Obj.cells #[.int .i64 0,.int .i64 0] 66);have m2:=Deep.blk_alloc_new wc0 (Obj.cells #[.int .i64 0,.int .i64 0] 66);have x2:W.heap.size<=wc0.heap.size:=hB.size
   try have hlt:G1<wc0.heap.size:=(Array.getElem?_eq_some_iff.1 m1).1
   generalize wc0.alloc (Obj.cells #[.int .i64 0,.int .i64 0] 66)=wc1 at hbn m2 ⊢;obtain⟨G2,hG⟩:∃ G2,G2=wc0.heap.size:=⟨_,rfl⟩;rw[<- hG] at m2 x2 ⊢
   try rw[<- hG] at hlt
   clear hG;have hBn:Below W.heap.size W wc1:=hB.trans (hbn.mono hB.size);refine otN hK (hSof _ hBn) ?_;replace hS:=hSof _ hBn;clear hK;replace hB:=hBn;clear hBn hbn;refine stN 16 (fun K hK=>?_);go_simp;have hbn:=below_box wc1 (Obj.cells #[.int .i64 0,.int .i64 0] 66);have m1:=Deep.blk_alloc_new wc1 (Obj.cells #[.int .i64 0,.int .i64 0] 66);have x1:W.heap.size<=wc1.heap.size:=hB.size
   try have hlt:G2<wc1.heap.size:=(Array.getElem?_eq_some_iff.1 m2).1
   generalize wc1.alloc (Obj.cells #[.int .i64 0,.int .i64 0] 66)=wc2 at hbn m1 ⊢;obtain⟨G1,hG⟩:∃ G1,G1=wc1.heap.size:=⟨_,rfl⟩;rw[<- hG] at m1 x1 ⊢
   try rw[<- hG] at hlt
   clear hG;have hBn:Below W.heap.size W wc2:=hB.trans (hbn.mono hB.size);refine otN hK (hSof _ hBn) ?_;replace hS:=hSof _ hBn;clear hK;replace m2:=(hbn.block _ (Array.getElem?_eq_some_iff.1 m2).1).trans m2;replace hB:=hBn;clear hBn hbn;refine stN 18 (fun K hK=>?_);have c0:=cellBlk m1 0;have c1:=cellBlk m1 1;have cf:∀ j,wc2.frozen? ⟨G1,j,none⟩=false:=fun j=>by simp[World.frozen?,m1]
   simp at c0 c1;go_simp;have hBn:=two_below hB x1 0 1 (.int .i64 xk) (.int .i64 xn);replace m1:=two_blk m1 0 1 (.int .i64 xk) (.int .i64 xn)
   try replace m2:=(two_other 0 1 (.int .i64 xk) (.int .i64 xn) (show G2≠G1 by omega)).trans m2
   clear c0 c1 cf;generalize (wc2.setCell ⟨G1,0,none⟩ (.int .i64 xk)).setCell ⟨G1,1,none⟩ (.int .i64 xn)=wc3 at *;refine otN hK (hSof _ hBn) ?_;replace hS:=hSof _ hBn;clear hK;replace hB:=hBn;clear hBn;refine stN 19 (fun K hK=>?_);have c0:=cellBlk m2 0;have c1:=cellBlk m2 1;have cf:∀ j,wc3.frozen? ⟨G2,j,none⟩=false:=fun j=>by simp[World.frozen?,m2]
   simp at c0 c1;go_simp;have hBn:=two_below hB x2 0 1 (.int .i64 yk) (.int .i64 yn);replace m2:=two_blk m2 0 1 (.int .i64 yk) (.int .i64 yn)
   try replace m1:=(two_other 0 1 (.int .i64 yk) (.int .i64 yn) (show G1≠G2 by omega)).trans m1
   clear c0 c1 cf;generalize (wc3.setCell ⟨G2,0,none⟩ (.int .i64 yk)).setCell ⟨G2,1,none⟩ (.int .i64 yn)=wc4 at *;refine otN hK (hSof _ hBn) ?_;replace hS:=hSof _ hBn;clear hK;replace hB:=hBn;clear hBn;refine dnN ?_
   go_wp2_with fail
   go_meet
   case rel=>exact⟨G1,G2,rfl,rfl,hB,x1,x2,by omega,m1,m2⟩
 case rest =>
  obtain⟨G1,G2,rfl,rfl,hBc,x1,x2,hne,m1,m2⟩:=hcut;have hBw:=b1.trans (hBc.mono b1.size);have HB:Aside (Below w.heap.size w wc):=hBw;have f0:=Keeps.below hBc _ _ e0;have f1:=Keeps.below hBc _ _ e1;have g0:wc.cell? ⟨G1,0,none⟩=some (.int .i64 xk):=cell_blk m1 0;have g1:wc.cell? ⟨G1,1,none⟩=some (.int .i64 xn):=cell_blk m1 1;have i0:wc.cell? ⟨G2,0,none⟩=some (.int .i64 yk):=cell_blk m2 0;have i1:wc.cell? ⟨G2,1,none⟩=some (.int .i64 yn):=cell_blk m2 1
  clear e0 e1 e2 ra1 ra2 rb1 rb2 k4 hfz hBc m1 m2 hSof hWs hBw
  by_cases hxk:xk=1
  rotate_left
  ·have q0:(xk != 1)=true:=by simp[hxk]
   have hRK:RK=(x,8):=by rw[HRK.out,if_pos (.inl hxk)]
   subst hRK
   go_wp2_with (go_at_call 148;refine(isNoNumber_any _ _ _).mono ?_;rintro e w' ⟨rfl,hb⟩;replace HB:Aside _:=HB.out.trans (hb.mono HB.out.size);clear hb)
   go_ret
   exact⟨rfl,HW.out.same hx HB.out,HM.out _ HB.out⟩
  by_cases hyk:yk=1
  rotate_left
  ·have q0:(xk != 1)=false:=by simp[hxk]
   have q1:(yk != 1)=true:=by simp[hyk]
   have hRK:RK=(x,8):=by rw[HRK.out,if_pos (.inr hyk)]
   subst hRK
   go_wp2_with (go_at_call 148;refine(isNoNumber_any _ _ _).mono ?_;rintro e w' ⟨rfl,hb⟩;replace HB:Aside _:=HB.out.trans (hb.mono HB.out.size);try replace i0:=Keeps.below hb _ _ i0;try replace i1:=Keeps.below hb _ _ i1;clear hb)
   go_ret
   exact⟨rfl,HW.out.same hx HB.out,HM.out _ HB.out⟩
  subst hxk hyk;have hax:=isW_le (hwa rfl);have hay:=isW_le (hwb rfl)
  go_wp2_with (go_at_call 148;refine(isNoNumber_any _ _ _).mono ?_;rintro e w' ⟨rfl,hb⟩;replace HB:Aside _:=HB.out.trans (hb.mono HB.out.size);replace f0:=Keeps.below hb _ _ f0;replace f1:=Keeps.below hb _ _ f1;replace g0:=Keeps.below hb _ _ g0;replace g1:=Keeps.below hb _ _ g1;replace i0:=Keeps.below hb _ _ i0;replace i1:=Keeps.below hb _ _ i1;clear hb)
  have hrs:=result_any op xn yn w' hax hay;have HRK2:Aside (RK=if isW (resultS op xn yn)=false then (x,7) else (x.put qa (numV (resultS op xn yn)),0)):=by
   show RK=_
   rw[HRK.out];simp
  clear HRK;generalize resultS op xn yn=RN at *;refine hrs.mono ?_;rintro e w'' ⟨rfl,hw''⟩;replace hw'':=hw''.symm;subst hw'';clear hrs
  cases hq:isW RN with
  | false =>
   have hRK:RK=(x,7):=by rw[HRK2.out,hq];rfl
   subst hRK
   go_wp2_with (go_at_call 48;refine(isWord_any _ _).mono ?_;rw[hq];rintro e w'' ⟨rfl,hw''⟩;replace hw'':=hw''.symm;subst hw'')
   go_ret
   exact⟨rfl,HW.out.same hx HB.out,HM.out _ HB.out⟩
  | true =>
   have hRK:RK=(x.put qa (numV RN),0):=by rw[HRK2.out,hq];rfl
   subst hRK
   go_upto_region 7 with(go_at_call 48;refine(isWord_any _ _).mono ?_;rw[hq];rintro e w'' ⟨rfl,hw''⟩;replace hw'':=hw''.symm;subst hw'')
   obtain⟨R,fb,rb,rc,hfb,hrb,hra,k4,kq,kf,hRl,_⟩:=(HW.out.below HB.out).regAt HAV.out hx h8;obtain⟨q1,q2⟩:=kq qa _ hva;have hSof:∀ w2,Below w'.heap.size w' w2->(w2.cell? ⟨w.heap.size,1,none⟩=some (.int .i64 qa)/\w2.cell? ⟨g,j*8+4,none⟩=some (.slice (some ⟨R,0,none⟩) 8 rc)):=fun w2 hb'=>⟨Keeps.below hb' _ _ f1,Keeps.below hb' _ _ k4⟩
   have hBd:Below w'.heap.size w' w'.drew:=(Below.refl _ _).drew;refine wp_region_need (fun j=>j != 9) (fun w2=>w2.cell? ⟨w.heap.size,1,none⟩=some (.int .i64 qa)/\w2.cell? ⟨g,j*8+4,none⟩=some (.slice (some ⟨R,0,none⟩) 8 rc)) (by kernel_rfl) (hSof _ hBd) (fun hS=>?_);generalize w'.drew=wc0 at hS hBd ⊢;refine tkN 0 hS ?_;refine tkN 1 hS ?_;refine tkN 2 hS ?_;refine tkN 3 hS ?_;refine tkN 4 hS ?_;refine tkN 5 hS ?_
   refine tkN 6 hS ?_;refine stN 7 (fun K hK=>?_);go_simp;refine(num_any _ _).mono ?_;rintro e wn ⟨rfl,hbn⟩;have hBn:=hBd.trans (hbn.mono hBd.size);refine otN hK ((hSof _ hBn)) ?_;clear hK;replace hS:=(hSof _ hBn);replace q1:=Keeps.below hBn _ _ q1;replace q2:=Keeps.below hBn _ _ q2;have kf':∀ i,wn.frozen? ⟨R,i,none⟩=false:=fun i=>(hBn.frozen hRl).trans (kf i)
   refine tkN 8 hS ?_;refine stN 9 (fun K hK=>?_);go_simp;refine laN hK ?_;clear hK;have hBz:=HB.out.trans (hBn.mono HB.out.size);have hS1:=(HW.out.below hBz).setReg hfb hrb hx hra (q:=qa) (by omega) (numV RN);have hM1:=(HM.out _ hBz).trans hS1.2;have HZ:Aside (WdOwn ((wn.setCell ⟨R,qa*2,none⟩ (.int .i64 1)).setCell ⟨R,qa*2+1,none⟩ (.int .i64 RN)) base Bw { V with acts:=V.acts.set j (x.put qa (numV RN)) } av pv fl rs/\Moved w ((wn.setCell ⟨R,qa*2,none⟩ (.int .i64 1)).setCell ⟨R,qa*2+1,none⟩ (.int .i64 RN)) (wdFoot Bw av pv fl rs) (wdFoot Bw av pv fl rs)):=⟨hS1.1,hM1⟩
   clear hS1 hM1 hS hSof q1 q2 kf' kq;generalize (wn.setCell ⟨R,qa*2,none⟩ (.int .i64 1)).setCell ⟨R,qa*2+1,none⟩ (.int .i64 RN)=wz at HZ ⊢;go_wp2
   go_ret
   exact⟨rfl,HZ.out.1,HZ.out.2⟩
end
section
open Go.RowKit
theorem beq_dec (a b:Int):(a == b)=decide (a=b):=by by_cases h:a=b <;> simp[h]
theorem in_any (n lo hi:Int) (w:World) :
  Calls Tryz.prog 58 #[.int .i64 n,.int .i64 lo,.int .i64 hi] w fun e w'=>e=.returned (.bool (decide (lo<=n) && decide (n<=hi)))/\w=w':=by
 go_enter Tryz.func58,Tryz.ntmps58
 go_wp2
 all_goals
  go_ret
  refine⟨ret_bool ?_,rfl⟩
  go_light
  simp[*] <;> omega
theorem isMost_any (n:Int) (w:World) :
  Calls Tryz.prog 101 #[.int .i64 n] w fun e w'=>e=.returned (.bool (decide (0<=n) && decide (n<=60)))/\w=w':=by
 go_enter Tryz.func101,Tryz.ntmps101
 go_wp2
 all_goals
  go_ret
  refine⟨ret_bool ?_,rfl⟩
  go_light
  simp[*] <;> omega
theorem isFieldCount_any (n:Int) (w:World) :
  Calls Tryz.prog 146 #[.int .i64 n] w fun e w'=>e=.returned (.bool (decide (1<=n) && decide (n<=4)))/\w=w':=by
 go_enter Tryz.func146,Tryz.ntmps146
 go_wp2
 all_goals
  go_ret
  refine⟨ret_bool ?_,rfl⟩
  go_light
  simp[*] <;> omega
theorem isValue_any (k n m:Int) (w:World) :
  Calls Tryz.prog 147 #[.agg #[.int .i64 k,.int .i64 n],.int .i64 m] w fun e w'=>e=.returned (.bool (vMay m ⟨k,n⟩))/\Below w.heap.size w w':=by
 by_cases h0:k=0
 ·subst h0
  go_enter Tryz.func147,Tryz.ntmps147
  go_wp2
  go_ret
  refine⟨ret_bool ?_,below_box _ _⟩
  go_light
  simp[vMay,beq_dec]
 ·by_cases h1:k=1
  ·subst h1
   clear h0
   go_enter Tryz.func147,Tryz.ntmps147
   go_wp2
   all_goals
    go_ret
    refine⟨ret_bool ?_,below_box _ _⟩
    go_light
    simp[vMay, *] <;> omega
  ·by_cases h2:k=2
   ·subst h2
    clear h0 h1
    go_enter Tryz.func147,Tryz.ntmps147
    go_wp2
    all_goals
     go_ret
     refine⟨ret_bool ?_,below_box _ _⟩
     go_light
     simp[vMay, *] <;> omega
   ·have e0:(k == 0)=false:=by simp[h0]
    have e1:(k == 1)=false:=by simp[h1]
    have e2:(k == 2)=false:=by simp[h2]
    have HE:Aside (vMay m ⟨k,n⟩=false):=by show vMay m ⟨k,n⟩=false;simp[vMay,h0,h1,h2]
    clear h0 h1 h2
    go_enter Tryz.func147,Tryz.ntmps147
    go_wp2
    go_ret
    exact⟨ret_bool HE.out.symm,below_box _ _⟩
theorem areValues_any (ao:Option Addr) (cap:Nat) (l:List Vl) (m:Int) (w:World) (h:ValsAt w ao l) (hl:16*l.length<=140737488351232) :
  Calls Tryz.prog 103 #[.slice ao l.length cap,.int .i64 m] w fun e w'=>e=.returned (.bool (l.all (vMay m)))/\Below w.heap.size w w':=by
 obtain⟨L,hL⟩:∃ L,L=l.length:=⟨_,rfl⟩;have HL:Aside (L=l.length):=hL;rw[<- hL] at hl ⊢;clear hL
 go_enter Tryz.func103,Tryz.ntmps103
 go_wp2
 go_loopg [9,6] L (fun g s9 s6 wr=>∃ i:Nat,i<=L/\g=L-i/\s9=.int .i64 i/\Below w.heap.size w wr/\Aside (l.all (vMay m)=(l.drop i).all (vMay m)))
 case atStart=>exact⟨0,Nat.zero_le _,rfl,rfl,Below.refl _ _,rfl⟩
 case round =>
  obtain⟨i,hi,rfl,rfl,hb,hA⟩:=hrel
  by_cases hiL:i<L
  ·have hiz:(i:Int)<(L:Int):=by omega
   obtain⟨⟨k,n⟩,hv⟩:=at_some (l:=l) (i:=i) (by rw[<- HL.out];exact hiL);have HS:Aside ((l.drop i).all (vMay m)=(vMay m ⟨k,n⟩ && (l.drop (i+1)).all (vMay m))):=all_from _ _ hv;obtain⟨b,o,rfl,c1,c2⟩:=h i _ hv;have c1:=Keeps.below hb _ _ c1;have c2:=Keeps.below hb _ _ c2;have hs:=hb.size;clear hv
   cases hq:vMay m ⟨k,n⟩ with
   | false =>
    have HN:Aside (l.all (vMay m)=false):=by show l.all (vMay m)=false;rw[hA.out,HS.out,hq];rfl
    clear HS hA
    go_wp2_with (go_at_call 147;refine(isValue_any k n m _).mono ?_;rintro e w' ⟨rfl,hb'⟩;rw[hq])
    go_ret
    exact⟨ret_bool HN.out.symm,(hb.alloc hs _).trans (hb'.mono (by simp;omega))⟩
   | true =>
    have HN:Aside (l.all (vMay m)=(l.drop (i+1)).all (vMay m)):=by show l.all (vMay m)=_;rw[hA.out,HS.out,hq];rfl
    clear HS hA
    go_wp2_with (go_at_call 147;refine(isValue_any k n m _).mono ?_;rintro e w' ⟨rfl,hb'⟩;rw[hq])
    have hb2:=(hb.alloc hs (Obj.cells #[Value.int IntKind.i64 k,Value.int IntKind.i64 n] 66)).trans (hb'.mono (by simp;omega));clear hb hb'
    go_roundg (L-(i+1))
    case measure=>go_light;omega
    case rel=>go_light;exact⟨i+1,by omega,rfl,by go_num,hb2,HN⟩
  ·have HN:Aside (l.all (vMay m)=true):=by show l.all (vMay m)=true;rw[hA.out,List.drop_eq_nil_of_le (by rw[<- HL.out];omega)];rfl
   go_wp2
   go_ret
   exact⟨ret_bool HN.out.symm,hb⟩
end
section
open Go.RowKit
theorem isObject_any (fa:Option Addr) (fc:Nat) (fs:List Vl) (dead:Bool) (m:Int) (w:World) (h:ValsAt w fa fs) (hl:16*fs.length<=140737488351232) :
  Calls Tryz.prog 102 #[.agg #[.slice fa fs.length fc,.bool dead],.int .i64 m] w fun e w'=>e=.returned (.bool (oMay m ⟨fs,dead⟩))/\Below w.heap.size w w':=by
 cases dead with
 | true =>
  go_enter Tryz.func102,Tryz.ntmps102
  go_wp2
  all_goals
   go_ret
   refine⟨ret_bool ?_,below_box _ _⟩
   go_light
   simp[oMay,beq_dec]
 | false =>
  cases hq:(decide (1<=(fs.length:Int)) && decide ((fs.length:Int)<=4)) with
  | false =>
   have HN:Aside (oMay m ⟨fs,false⟩=false):=by
    show oMay m ⟨fs,false⟩=false
    have:(decide (1<=fs.length) && decide (fs.length<=4))=false:=by rw[<- hq];congr 1 <;> simp <;> omega
    simp[oMay] at this ⊢
    intro h1 h2;have:=this h1;omega
   go_enter Tryz.func102,Tryz.ntmps102
   go_wp2_with (go_at_call 146;refine(isFieldCount_any _ _).mono ?_;rintro e w' ⟨rfl,rfl⟩;rw[hq])
   go_ret
   exact⟨ret_bool HN.out.symm,below_box _ _⟩
  | true =>
   have HN:Aside (oMay m ⟨fs,false⟩=fs.all (vMay m)):=by
    show oMay m ⟨fs,false⟩=_
    simp at hq;simp only[oMay];have:(decide (1<=fs.length) && decide (fs.length<=4))=true:=by simp;omega
    rw[this];rfl
   go_enter Tryz.func102,Tryz.ntmps102
   go_wp2_with (first | (go_at_call 146;refine(isFieldCount_any _ _).mono ?_;rintro e w' ⟨rfl,rfl⟩;rw[hq]) | (go_at_call 103;refine(areValues_any fa fc fs m _ (h.keeps (Keeps.alloc _ _)) hl).mono ?_;rintro e w' ⟨rfl,hb'⟩))
   go_ret
   exact⟨ret_bool HN.out.symm,(below_box _ _).trans (hb'.mono (by simp))⟩
theorem check_any (M:Int) (ao:Option Addr) (cap:Nat) (l:List Ob) (ra:Option Addr) (rc:Nat) (roots:List Vl) (w:World) (h:ObsAt w ao l) (hr:ValsAt w ra roots) (hrl:16*roots.length<=140737488351232) :
  Calls Tryz.prog 68 #[.agg #[.int .i64 M,.slice ao l.length cap],.slice ra roots.length rc] w fun e w'=>e=.returned (.int .i64 (erS (hMay M l roots)))/\Below w.heap.size w w':=by
 have hm:=h.many;obtain⟨L,hL⟩:∃ L,L=l.length:=⟨_,rfl⟩;have HL:Aside (L=l.length):=hL;have HM:Aside (hMay M l roots=(mMay M L && l.all (oMay L) && roots.all (vMay L))):=by show hMay M l roots=_;rw[hL];rfl
 rw[<- hL] at hm ⊢;clear hL
 cases hq:(decide (0<=M) && decide (M<=60)) with
 | false =>
  have HN:Aside (erS (hMay M l roots)=8):=by show erS (hMay M l roots)=8;rw[HM.out,mMay,hq];rfl
  clear HM
  go_enter Tryz.func68,Tryz.ntmps68
  go_wp2_with (go_at_call 101;refine(isMost_any _ _).mono ?_;rintro e w' ⟨rfl,rfl⟩;rw[hq])
  go_ret
  exact⟨ret_num HN.out.symm,below_box _ _⟩
 | true =>
  by_cases hLM:(M:Int)<(L:Int)
  ·have HN:Aside (erS (hMay M l roots)=8):=by
    show erS (hMay M l roots)=8
    have:decide ((L:Int)<=M)=false:=by simp;omega
    rw[HM.out,mMay,this];simp[erS]
   clear HM
   go_enter Tryz.func68,Tryz.ntmps68
   go_wp2_with (go_at_call 101;refine(isMost_any _ _).mono ?_;rintro e w' ⟨rfl,rfl⟩;rw[hq])
   go_ret
   exact⟨ret_num HN.out.symm,below_box _ _⟩
  ·have hLM':decide (M<(L:Int))=false:=by simp;omega
   have HM2:Aside (hMay M l roots=(l.all (oMay L) && roots.all (vMay L))):=by
    show hMay M l roots=_
    have:decide ((L:Int)<=M)=true:=by simp;omega
    rw[HM.out,mMay,this,hq];rfl
   clear HM
   go_enter Tryz.func68,Tryz.ntmps68
   go_wp2_with (go_at_call 101;refine(isMost_any _ _).mono ?_;rintro e w' ⟨rfl,rfl⟩;rw[hq])
   clear hq hLM hLM';have cbox:(w.alloc (Obj.cells #[Value.int IntKind.i64 M,Value.slice ao L cap] 47)).cell? ⟨w.heap.size,1,none⟩=some (.slice ao L cap):=by simp
   have hbox:Aside (Below w.heap.size w (w.alloc (Obj.cells #[Value.int IntKind.i64 M,Value.slice ao L cap] 47))):=below_box _ _
   go_loopg [22,6] L (fun g s22 s6 wr=>∃ i:Nat,i<=L/\g=L-i/\s22=.int .i64 i/\Below w.heap.size w wr/\Aside (wr.cell? ⟨w.heap.size,1,none⟩=some (.slice ao L cap))/\Aside (hMay M l roots=((l.drop i).all (oMay L) && roots.all (vMay L))))
   case atStart=>exact⟨0,Nat.zero_le _,rfl,rfl,hbox.out,cbox,HM2.out⟩
   case round =>
    obtain⟨i,hi,rfl,rfl,hb,hc,hA⟩:=hrel;clear cbox hbox HM2;have hcx:=hc.out;have hcy:∀ o,(wr.alloc o).cell? ⟨w.heap.size,1,none⟩=some (.slice ao L cap):=fun o=>Keeps.alloc wr o _ _ hcx
    have hs:=hb.size
    by_cases hiL:i<L
    ·have hiz:(i:Int)<(L:Int):=by omega
     obtain⟨⟨fs,dead⟩,hv⟩:=at_some (l:=l) (i:=i) (by rw[<- HL.out];exact hiL);have HS:Aside ((l.drop i).all (oMay L)=(oMay L ⟨fs,dead⟩ && (l.drop (i+1)).all (oMay L))):=all_from _ _ hv;obtain⟨b,o,fa,fc,rfl,c1,c2,hfs,hfl⟩:=h.cell i _ hv;replace c1:=Keeps.below hb _ _ c1;replace c2:=Keeps.below hb _ _ c2;replace hfs:=hfs.keeps (Keeps.below hb);clear hv hc;simp only at c1 c2 hfs hfl
     cases hq:oMay L ⟨fs,dead⟩ with
     | false =>
      have HN:Aside (erS (hMay M l roots)=8):=by show erS (hMay M l roots)=8;rw[hA.out,HS.out,hq];rfl
      clear HS hA
      go_wp2_with (go_at_call 102;refine(isObject_any fa fc fs dead L _ (hfs.keeps (Keeps.alloc _ _)) hfl).mono ?_;rintro e w' ⟨rfl,hb'⟩;rw[hq])
      go_ret
      exact⟨ret_num HN.out.symm,(hb.alloc hs _).trans (hb'.mono (by simp;omega))⟩
     | true =>
      have HN:Aside (hMay M l roots=((l.drop (i+1)).all (oMay L) && roots.all (vMay L))):=by show hMay M l roots=_;rw[hA.out,HS.out,hq];rfl
      clear HS hA
      go_wp2_with (go_at_call 102;refine(isObject_any fa fc fs dead L _ (hfs.keeps (Keeps.alloc _ _)) hfl).mono ?_;rintro e w' ⟨rfl,hb'⟩;rw[hq])
      have hb2:=(hb.alloc hs (Obj.cells #[Value.slice fa fs.length fc,Value.bool dead] 92)).trans (hb'.mono (by simp;omega));have hc2:Aside (w'.cell? ⟨w.heap.size,1,none⟩=some (.slice (some ⟨b,o,none⟩) L cap)):=Keeps.below hb' _ _ (Keeps.alloc _ _ _ _ hcx);clear hb hb' hfs c1 c2
      go_roundg (L-(i+1))
      case measure=>go_light;omega
      case rel=>go_light;exact⟨i+1,by omega,rfl,by go_num,hb2,hc2,HN⟩
    ·have HN:Aside (hMay M l roots=roots.all (vMay L)):=by show hMay M l roots=_;rw[hA.out,List.drop_eq_nil_of_le (by rw[<- HL.out];omega)];rfl
     have hr':=hr.keeps (Keeps.below hb);clear hA
     cases hq:roots.all (vMay L) with
     | false =>
      go_wp2_with (go_at_call 103;refine(areValues_any ra rc roots L _ hr' hrl).mono ?_;rintro e w' ⟨rfl,hb'⟩;rw[hq])
      go_ret
      exact⟨ret_num (by rw[HN.out,hq];rfl),hb.trans (hb'.mono hs)⟩
     | true =>
      go_wp2_with (go_at_call 103;refine(areValues_any ra rc roots L _ hr' hrl).mono ?_;rintro e w' ⟨rfl,hb'⟩;rw[hq])
      go_ret
      exact⟨ret_num (by rw[HN.out,hq];rfl),hb.trans (hb'.mono hs)⟩
end
section
open Go.RowKit
theorem checkField_any (M:Int) (ao:Option Addr) (cap:Nat) (l:List Ob) (k n f:Int) (w:World) (h:ObsAt w ao l) (hv:vMay l.length ⟨k,n⟩=true) :
  Calls Tryz.prog 161 #[.agg #[.int .i64 M,.slice ao l.length cap],.agg #[.int .i64 k,.int .i64 n],.int .i64 f] w fun e w'=>e=.returned (.int .i64 (fieldErr l ⟨k,n⟩ f))/\Below w.heap.size w w':=by
 by_cases hk:k=2
 ·subst hk
  obtain⟨p,ob,hp,hlt,hob⟩:=ref_place hv rfl;simp only at hp;subst hp;obtain⟨fs,dead⟩:=ob;obtain⟨b,o,fa,fc,rfl,c1,c2,hfs,hfl⟩:=h.cell p _ hob;simp only at c1 c2 hfs hfl;have hE:fieldErr l ⟨2,p⟩ f=if dead then 10 else if f<0\/(fs.length:Int)<=f then 2 else 0:=by simp[fieldErr,hob]
  rw[hE];clear hE hv hob;have hpz:(p:Int)<(l.length:Int):=by omega
  have C1:∀ x y,((w.alloc x).alloc y).cell? ⟨b,o+p*2,none⟩=some (.slice fa fs.length fc):=fun x y=>Keeps.alloc _ y _ _ (Keeps.alloc _ x _ _ c1)
  have C2:∀ x y,((w.alloc x).alloc y).cell? ⟨b,o+p*2+1,none⟩=some (.bool dead):=fun x y=>Keeps.alloc _ y _ _ (Keeps.alloc _ x _ _ c2)
  have bb:∀ x y z,Below w.heap.size w (((w.alloc x).alloc y).alloc z):=fun x y z=>(((Below.refl _ _).alloc (Nat.le_refl _) _).alloc (by simp) _).alloc (by simp;omega) _
  have BB:Aside (∀ x y z,Below w.heap.size w (((w.alloc x).alloc y).alloc z)):=bb;clear bb c1 c2 hfs
  cases dead with
  | true =>
   go_enter Tryz.func161,Tryz.ntmps161
   go_wp2
   go_ret
   exact⟨rfl,BB.out _ _ _⟩
  | false =>
   by_cases hf0:f<0
   ·go_enter Tryz.func161,Tryz.ntmps161
    go_wp2
    go_ret
    exact⟨ret_num (by simp),BB.out _ _ _⟩
   ·have hd0:decide (f<0)=false:=by simp;omega
    by_cases hf1:(fs.length:Int)<=f
    ·have hR:(if false=true then 10 else if f<0\/(fs.length:Int)<=f then 2 else 0:Int)=2:=by simp[hf1]
     rw[hR]
     go_enter Tryz.func161,Tryz.ntmps161
     go_wp2
     go_ret
     exact⟨rfl,BB.out _ _ _⟩
    ·have hd1:decide ((fs.length:Int)<=f)=false:=by simp;omega
     have hR:(if false=true then 10 else if f<0\/(fs.length:Int)<=f then 2 else 0:Int)=0:=by simp[hf1,hf0]
     rw[hR]
     go_enter Tryz.func161,Tryz.ntmps161
     go_wp2
     go_ret
     exact⟨rfl,BB.out _ _ _⟩
 ·have hE:fieldErr l ⟨k,n⟩ f=9:=by simp[fieldErr,hk]
  rw[hE];have hkb:(k != 2)=true:=by simp[hk]
  clear hE hv hk
  go_enter Tryz.func161,Tryz.ntmps161
  go_wp2
  go_ret
  exact⟨rfl,((Below.refl _ _).alloc (Nat.le_refl _) _).alloc (by simp) _⟩
end
end Go.Proofs.YtepifccbbmdfcaaGreatDoor
