/- VBehind. -/
import Derived.Test.YtepifccbbmdfcaaGreatDoorCBHLaws3
namespace Go.Proofs.YtepifccbbmdfcaaGreatDoor
set_option maxRecDepth 100000
set_option maxHeartbeats 8000000
section
open Go.RowKit
theorem report_any (who:Nat) (op a b n:Int) (w:World) {base Bw:Nat} {V:Wd} {av pv:Value} {fl:List Fa} {rs:List (List (Value × Ob))} (h:WdOwn w base Bw V av pv fl rs) {x:Ac} (hx:V.acts[who]?=some x) (h8:x.regs.length=8) (ha:0<=a/\a<=7) (hpl:V.prints.length<=500) :
  Calls Tryz.prog 114 #[.pointer (some ⟨Bw,0,none⟩),.int .i64 who,.agg #[.int .i64 op,.int .i64 a,.int .i64 b,.int .i64 n]] w fun e w'=>e=.returned (.int .i64 (reportS V who ⟨op,a,b,n⟩).2)/\∃ av' pv' fl' rs',WdOwn w' base Bw (reportS V who ⟨op,a,b,n⟩).1 av' pv' fl' rs'/\Moved w w' (wdFoot Bw av pv fl rs) (wdFoot Bw av' pv' fl' rs'):=by
 obtain⟨qa,va,rfl,hqa,hva,era⟩:=reg_of ha h8;obtain⟨N0,_,b1,s1⟩:=boxes1 w (.cells #[.int .i64 op,.int .i64 qa,.int .i64 b,.int .i64 n] 43);have h1:=h.below b1;obtain⟨fa,r,g,c,hfa,hr,hA,hav⟩:=h1.at hx;have HAV:Aside (av=.slice (some ⟨g,0,none⟩) V.acts.length c):=hav;have hwl:=(List.getElem?_eq_some_iff.1 hx).1;have hwz:(who:Int)<(V.acts.length:Int):=by omega
 obtain⟨R,_,_,rc,_,_,_,k4,kq,_,_,_,_⟩:=h1.regAt hav hx h8;obtain⟨ra1,ra2⟩:=kq qa _ hva;obtain⟨pa,pc,hpv⟩:=h1.prints.form;have HPV:Aside (pv=.slice pa V.prints.length pc):=hpv;have c0:=h1.bw.1;have c1:=h1.bw.2.1;rw[hav] at c0;rw[hpv] at c1;have HR:Aside (reportS V who ⟨op,qa,b,n⟩=if va.k≠1 then (V,8) else if V.prints.length<500 then ({ V with prints:=V.prints++[((who:Int),va.n)] },0) else (V,0)):=by
  show reportS V who ⟨op,qa,b,n⟩=_
  unfold reportS
  rw[at_of hx,era]
 generalize reportS V who ⟨op,qa,b,n⟩=RR at *;obtain⟨vk,vn⟩:=va;simp only at ra1 ra2 HR;have HW:Aside (WdOwn w base Bw V av pv fl rs):=h;have hza:(qa:Int)<8:=by omega
 have hbwl:Bw<w.heap.size:=(Array.getElem?_eq_some_iff.1 h.box).1;clear h h1 hA hfa hr hav hpv kq era;generalize V.acts.length=VL at *;generalize hPL:V.prints.length=PL at *;have HPL:Aside (V.prints.length=PL):=hPL;clear hPL
 go_enter Tryz.func114,Tryz.ntmps114
 go_upto_region 1 with fail
 generalize w.alloc (.cells #[.int .i64 op,.int .i64 qa,.int .i64 b,.int .i64 n] 43)=W at *;have e1:W.cell? ⟨w.heap.size,1,none⟩=some (.int .i64 qa):=cell_blk N0 1;have hSof:∀ w',Below W.heap.size W w'->(w'.cell? ⟨w.heap.size,1,none⟩=some (.int .i64 qa)/\w'.cell? ⟨Bw,0,none⟩=some (.slice (some ⟨g,0,none⟩) VL c)/\w'.cell? ⟨g,who*8+4,none⟩=some (.slice (some ⟨R,0,none⟩) 8 rc)/\w'.cell? ⟨R,qa*2,none⟩=some (.int .i64 vk)/\w'.cell? ⟨R,qa*2+1,none⟩=some (.int .i64 vn)):=fun w' hb'=>⟨Keeps.below hb' _ _ e1,Keeps.below hb' _ _ c0,Keeps.below hb' _ _ k4,Keeps.below hb' _ _ ra1,Keeps.below hb' _ _ ra2⟩
 go_cut [7] (fun s7 wc=>∃ Q:Nat,s7=.pointer (some ⟨Q,0,none⟩)/\Below W.heap.size W wc/\W.heap.size<=Q/\wc.heap[Q]?=some (.cells #[.int .i64 vk,.int .i64 vn] 66 (0,0)))
 case first =>
  have hB:Below W.heap.size W W.drew:=(Below.refl _ _).drew;refine wp_region_need (fun _=>true) (fun w'=>w'.cell? ⟨w.heap.size,1,none⟩=some (.int .i64 qa)/\w'.cell? ⟨Bw,0,none⟩=some (.slice (some ⟨g,0,none⟩) VL c)/\w'.cell? ⟨g,who*8+4,none⟩=some (.slice (some ⟨R,0,none⟩) 8 rc)/\w'.cell? ⟨R,qa*2,none⟩=some (.int .i64 vk)/\w'.cell? ⟨R,qa*2+1,none⟩=some (.int .i64 vn)) (by kernel_rfl) (hSof _ hB) (fun hS=>?_)
  generalize W.drew=wc0 at hS hB  ⊢;refine tkN 0 hS ?_;refine tkN 1 hS ?_;refine tkN 2 hS ?_;refine tkN 3 hS ?_;refine tkN 4 hS ?_;refine tkN 5 hS ?_;refine tkN 6 hS ?_;refine tkN 7 hS ?_;refine tkN 8 hS ?_;refine tkN 9 hS ?_;refine tkN 10 hS ?_;refine tkN 11 hS ?_;refine stN 12 (fun K hK=>?_);go_simp;have hbn:=below_box wc0 (Obj.cells #[.int .i64 0,.int .i64 0] 66);have mQ:=Deep.blk_alloc_new wc0 (Obj.cells #[.int .i64 0,.int .i64 0] 66)
  have xQ:W.heap.size<=wc0.heap.size:=hB.size
  try have daQ:TT<=wc0.heap.size:=sT
  generalize wc0.alloc (Obj.cells #[.int .i64 0,.int .i64 0] 66)=wc1 at hbn mQ ⊢;obtain⟨Q,hG⟩:∃ Q,Q=wc0.heap.size:=⟨_,rfl⟩;rw[<- hG] at mQ xQ ⊢
  try rw[<- hG] at daQ
  clear hG;have hBn:Below W.heap.size W wc1:=hB.trans (hbn.mono hB.size);refine otN hK (hSof _ hBn) ?_;replace hS:=hSof _ hBn;clear hK;replace hB:=hBn;clear hBn hbn;refine stN 13 (fun K hK=>?_);have c0:=cellBlk mQ 0;have c1:=cellBlk mQ 1;have cf:∀ j,wc1.frozen? ⟨Q,j,none⟩=false:=fun j=>by simp[World.frozen?,mQ]
  simp at c0 c1;go_simp;have hBn:=two_below hB xQ 0 1 (.int .i64 vk) (.int .i64 vn);replace mQ:=two_blk mQ 0 1 (.int .i64 vk) (.int .i64 vn);clear c0 c1 cf;generalize (wc1.setCell ⟨Q,0,none⟩ (.int .i64 vk)).setCell ⟨Q,1,none⟩ (.int .i64 vn)=wc2 at *;refine otN hK (hSof _ hBn) ?_;replace hS:=hSof _ hBn;clear hK;replace hB:=hBn;clear hBn;refine dnN ?_
  go_wp2_with fail
  go_meet
  case rel=>exact⟨Q,rfl,hB,xQ,mQ⟩
 case rest =>
  obtain⟨Q,rfl,hBc,xQ,mQ⟩:=hcut;have hB:Below w.heap.size w wc:=b1.trans (hBc.mono b1.size);have q0:wc.cell? ⟨Q,0,none⟩=some (.int .i64 vk):=cell_blk mQ 0;have q1:wc.cell? ⟨Q,1,none⟩=some (.int .i64 vn):=cell_blk mQ 1;replace c1:=Keeps.below hBc _ _ c1;have hQl:=(Array.getElem?_eq_some_iff.1 mQ).1;clear hSof e1 ra1 ra2 k4 c0 hBc N0
  by_cases hvk:vk=1
  rotate_left
  ·have qq:(vk != 1)=true:=by simp[hvk]
   have hRR:RR=(V,8):=by rw[HR.out,if_pos hvk]
   subst hRR;have HB:Aside (Below w.heap.size w wc):=hB;clear hB
   go_wp2_with (go_at_call 148;refine(isNoNumber_any _ _ _).mono ?_;rw[qq];rintro e w' ⟨rfl,hb⟩;have HB2:Aside _:=hb;clear hb)
   go_ret
   exact⟨rfl,_,_,_,_,HW.out.below (HB.out.trans (HB2.out.mono HB.out.size)),Moved.of_below (HB.out.trans (HB2.out.mono HB.out.size))⟩
  subst hvk
  go_upto_region 4 with(go_at_call 148;refine(isNoNumber_any _ _ _).mono ?_;rintro e w' ⟨rfl,hb⟩)
  replace c1:=Keeps.below hb _ _ c1;replace q1:=Keeps.below hb _ _ q1;have hBw:Below w.heap.size w w':=hB.trans (hb.mono hB.size);replace hQl:=Nat.lt_of_lt_of_le hQl hb.size;have hQw:w.heap.size<=Q:=by have:=b1.size;omega
  have hbw':=Nat.lt_of_lt_of_le hbwl hBw.size;clear hb hB q0 mQ
  by_cases hp:PL<500
  rotate_left
  ·have hpz:¬ (PL:Int)<500:=by omega
   have hRR:RR=(V,0):=by rw[HR.out,if_neg (by simp),if_neg hp]
   subst hRR;have HB:Aside (Below w.heap.size w w'):=hBw;clear hBw;go_wp2
   go_ret
   exact⟨rfl,_,_,_,_,HW.out.below HB.out,Moved.of_below HB.out⟩
  have hpz:(PL:Int)<500:=by omega
  have hRR:RR=({ V with prints:=V.prints++[((who:Int),vn)] },0):=by rw[HR.out,if_neg (by simp),if_pos hp]
  subst hRR;have hW':=HW.out.below hBw
  go_upto_region 5 with fail
  have hSof:∀ w2,Below w'.heap.size w' w2->(w2.cell? ⟨Bw,1,none⟩=some (.slice pa PL pc)/\w2.cell? ⟨Q,1,none⟩=some (.int .i64 vn)):=fun w2 hb'=>⟨Keeps.below hb' _ _ c1,Keeps.below hb' _ _ q1⟩
  have hBd:Below w'.heap.size w' w'.drew:=(Below.refl _ _).drew;refine wp_region_need (fun j=>j != 13) (fun w2=>w2.cell? ⟨Bw,1,none⟩=some (.slice pa PL pc)/\w2.cell? ⟨Q,1,none⟩=some (.int .i64 vn)) (by kernel_rfl) (hSof _ hBd) (fun hS=>?_);generalize w'.drew=wn at hS hBd ⊢;refine tkN 0 hS ?_;refine tkN 1 hS ?_;refine tkN 2 hS ?_;refine tkN 3 hS ?_;refine tkN 4 hS ?_;refine tkN 5 hS ?_;refine tkN 6 hS ?_
  refine tkN 7 hS ?_;refine tkN 8 hS ?_;refine stN 9 (fun K hK=>?_);go_simp;have hBe:Below w'.heap.size w' (wn.alloc (.cells #[.int .i64 who,.int .i64 vn] 29)):=hBd.alloc hBd.size _;have NB:=Deep.blk_alloc_new wn (.cells #[.int .i64 who,.int .i64 vn] 29);refine otN hK (hSof _ hBe) ?_;clear hK;replace hS:=hSof _ hBe;generalize wn.alloc (.cells #[.int .i64 who,.int .i64 vn] 29)=we at *;generalize wn.heap.size=NN at *
  have hWe:=hW'.below hBe;have hpr:=hWe.prints;rw[HPV.out] at hpr;have hn0:=List.nodup_cons.1 hWe.apart0;have hn00:=List.nodup_append.1 hn0.2;refine wpAnyN_one (i:=10) (by kernel_rfl) rfl (fun K hK=>?_);refine step_seq Tryz.rowTl (by rfl) _ _ (by rfl) (v:=.slice pa PL pc) (by rfl) hpr (Nat.le_trans (hW'.base_le HAV.out) hBe.size) [((who:Int),vn)] (some ⟨NN,0,none⟩) 1 (by rfl) ?_ (by simp) (by simp[HPL.out];omega) (by simp[HPL.out,maxLen];omega) ?_
  ·intro i v hi
   have e:i=0:=by
    have:=(List.getElem?_eq_some_iff.1 hi).1
    simpa using this
   subst e;simp at hi;subst hi;refine⟨NN,0,rfl,fun k u hk=>?_⟩
   match k,hk with
   | 0,hk=>cases hk;exact cell_blk NB 0
   | 1,hk=>cases hk;exact cell_blk NB 1
  intro B cap w6 hO6 hg6 _ hB6;have hoff:∀ k,k<we.heap.size->k∉vB pv->w6.heap[k]?=we.heap[k]?:=fun k hk hk'=>hg6.block k hk (fun e=>hk' (by rw[mem_vB,HPV.out];exact e.symm))
  have hBpv:Bw∉vB pv:=fun hb=>hn0.1 (by simp[hb])
  have hS6:w6.cell? ⟨Bw,1,none⟩=some (.slice pa PL pc):=(World.cell?_of_block (a:=⟨Bw,1,none⟩) (hoff Bw (Nat.lt_of_lt_of_le hbw' hBe.size) hBpv)).trans (hSof _ hBe).1;have hQpv:Q∉vB pv:=fun hb=>by have:=HW.out.blk_lt Q (List.mem_append_left _ (by simp[hb]));omega
  have hS7:w6.cell? ⟨Q,1,none⟩=some (.int .i64 vn):=(World.cell?_of_block (a:=⟨Q,1,none⟩) (hoff Q (Nat.lt_of_lt_of_le hQl hBe.size) hQpv)).trans (hSof _ hBe).2;refine otN hK (⟨hS6,hS7⟩) ?_;clear hK hS;have hS:=And.intro hS6 hS7;refine tkN 11 hS ?_;refine tkN 12 hS ?_;have hfz6:∀ i,w6.frozen? ⟨Bw,i,none⟩=false:=fun i=>by
   have e:=hoff Bw (Nat.lt_of_lt_of_le hbw' hBe.size) hBpv;have:=hWe.bw.2.2 i;simp only[World.frozen?,e] at this ⊢
   exact this
  refine stN 13 (fun K hK=>?_);go_simp;refine laN hK ?_;clear hK;have hBfoot:∀ k∈vB (.slice (some ⟨B,0,none⟩) (V.prints.length+[((who:Int),vn)].length) cap),k∈vB pv\/k=we.heap.size:=fun k hk=>by
   rw[mem_vB] at hk;have e:B=k:=by simpa[Value.ownBlock] using hk
   subst e
   rcases hB6 with q | q
   ·exact .inl (by rw[mem_vB,HPV.out];exact q)
   ·exact .inr q
  have hz:=hWe.setPrints (w2:=w6) (fun k hk hk'=>hoff k (hWe.blk_lt k hk) hk') hO6 (fun k hk=>by
   rcases hBfoot k hk with q | q
   ·exact .inl q
   ·exact .inr (fun hk2=>by have:=hWe.blk_lt k hk2;omega))
  have hBwf:Bw∈wdFoot Bw av pv fl rs:=List.mem_append_left _ (by simp);have hzM:Moved we (w6.setCell ⟨Bw,1,none⟩ (.slice (some ⟨B,0,none⟩) (V.prints.length+[((who:Int),vn)].length) cap)) (wdFoot Bw av pv fl rs) (wdFoot Bw av (.slice (some ⟨B,0,none⟩) (V.prints.length+[((who:Int),vn)].length) cap) fl rs) :=
   ⟨hg6.os,hg6.tape,hg6.output,by simp[World.setCell];exact hg6.size,fun k hk hk'=>(Deep.blk_setCell_other _ ⟨Bw,1,none⟩ _ _ (fun e=>hk' (by have e':k=Bw:=e;rw[e'];exact hBwf))).trans (hoff k hk (fun hk2=>hk' (List.mem_append_left _ (by simp[hk2])))),fun k hk=>by
    rcases List.mem_append.1 hk with hk | hk
    ·simp only[List.mem_cons,List.mem_append] at hk
     rcases hk with rfl | hk | hk
     ·exact .inl hBwf
     ·exact .inl (List.mem_append_left _ (by simp[hk]))
     ·rcases hBfoot k hk with q | q
      ·exact .inl (List.mem_append_left _ (by simp[q]))
      ·exact .inr (Nat.le_of_eq q.symm)
    ·exact .inl (List.mem_append_right _ hk)⟩
  have HZ:Aside (∃ av' pv' fl' rs',WdOwn (w6.setCell ⟨Bw,1,none⟩ (.slice (some ⟨B,0,none⟩) (V.prints.length+[((who:Int),vn)].length) cap)) base Bw { V with prints:=V.prints++[((who:Int),vn)] } av' pv' fl' rs'/\Moved w (w6.setCell ⟨Bw,1,none⟩ (.slice (some ⟨B,0,none⟩) (V.prints.length+[((who:Int),vn)].length) cap)) (wdFoot Bw av pv fl rs) (wdFoot Bw av' pv' fl' rs')):=⟨_,_,_,_,hz,((Moved.of_below hBw).trans (Moved.of_below hBe)).trans hzM⟩
  clear hz hzM;go_wp2
  go_ret
  exact⟨rfl,HZ.out⟩
end
section
open Go.RowKit
theorem vObj_eq (t:Int):vObj t=(t == 2 || t == 3):=by
 unfold vObj
 by_cases h2:t=2
 ·subst h2;rfl
 ·by_cases h3:t=3
  ·subst h3;rfl
  ·have e2:(t == 2)=false:=by simp[h2]
   have e3:(t == 3)=false:=by simp[h3]
   rw[e2,e3];have:¬ (2<=t/\t<=3):=by omega
   simp;omega
theorem vIsObject_any (t:Int) (w:World):Calls Tryz.prog 72 #[.int .i64 t] w fun e w'=>e=.returned (.bool (vObj t))/\w'=w:=by
 rw[vObj_eq]
 cases h2:(t == 2) with
 | true =>
  go_enter Tryz.func72,Tryz.ntmps72
  go_wp2
  go_ret
  exact⟨rfl,rfl⟩
 | false =>
  go_enter Tryz.func72,Tryz.ntmps72
  go_wp2
  go_ret
  exact⟨by simp,rfl⟩
theorem join_any (a b:Int) (w:World):Calls Tryz.prog 145 #[.int .i64 a,.int .i64 b] w fun e w'=>e=.returned (.int .i64 (vJoin a b))/\w'=w:=by
 cases h:(a == b) with
 | true =>
  have e:vJoin a b=a:=by simp at h;simp[vJoin,h]
  rw[e];clear e
  go_enter Tryz.func145,Tryz.ntmps145
  go_wp2
  go_ret
  exact⟨rfl,rfl⟩
 | false =>
  cases ha:vObj a with
  | false =>
   have e:vJoin a b=0:=by simp at h;simp[vJoin,h,ha]
   rw[e];clear e
   go_enter Tryz.func145,Tryz.ntmps145
   go_wp2_with (go_at_call 72;refine(vIsObject_any _ _).mono ?_;rintro e w' ⟨rfl,rfl⟩;(try rw[ha]))
   go_ret
   exact⟨rfl,rfl⟩
  | true =>
   cases hb:vObj b with
   | false =>
    have e:vJoin a b=0:=by simp at h;simp[vJoin,h,hb]
    rw[e];clear e
    go_enter Tryz.func145,Tryz.ntmps145
    go_wp2_with (go_at_call 72;refine(vIsObject_any _ _).mono ?_;rintro e w' ⟨rfl,rfl⟩;(first | rw[ha] | rw[hb]))
    go_ret
    exact⟨rfl,rfl⟩
   | true =>
    have e:vJoin a b=2:=by simp at h;simp[vJoin,h,ha,hb]
    rw[e];clear e
    go_enter Tryz.func145,Tryz.ntmps145
    go_wp2_with (go_at_call 72;refine(vIsObject_any _ _).mono ?_;rintro e w' ⟨rfl,rfl⟩;(first | rw[ha] | rw[hb]))
    go_ret
    exact⟨rfl,rfl⟩
end
section
open Go.RowKit
theorem vCell_blk {w:World} {k:Nat} {c:Array Value} {t':TypeId} (h:w.heap[k]?=some (.cells c t' (0,0))) (j:Nat):w.cell? ⟨k,j,none⟩=c[j]?:=by simp[World.cell?,h]
theorem cells4 {w:World} {k:Nat} {x0 x1 x2 x3:Value} {t':TypeId} (h:w.heap[k]?=some (.cells #[x0,x1,x2,x3] t' (0,0))):w.cell? ⟨k,0,none⟩=some x0/\w.cell? ⟨k,1,none⟩=some x1/\w.cell? ⟨k,2,none⟩=some x2/\w.cell? ⟨k,3,none⟩=some x3 :=
 ⟨vCell_blk h 0,vCell_blk h 1,vCell_blk h 2,vCell_blk h 3⟩
theorem cells8 {w:World} {k:Nat} {x0 x1 x2 x3 x4 x5 x6 x7:Value} {t':TypeId} (h:w.heap[k]?=some (.cells #[x0,x1,x2,x3,x4,x5,x6,x7] t' (0,0))):w.cell? ⟨k,0,none⟩=some x0/\w.cell? ⟨k,1,none⟩=some x1/\w.cell? ⟨k,2,none⟩=some x2/\w.cell? ⟨k,3,none⟩=some x3/\w.cell? ⟨k,4,none⟩=some x4/\w.cell? ⟨k,5,none⟩=some x5/\w.cell? ⟨k,6,none⟩=some x6/\w.cell? ⟨k,7,none⟩=some x7 :=
 ⟨vCell_blk h 0,vCell_blk h 1,vCell_blk h 2,vCell_blk h 3,vCell_blk h 4,vCell_blk h 5,vCell_blk h 6,vCell_blk h 7⟩
abbrev insV (op a b n:Int):Value:=.agg #[.int .i64 op,.int .i64 a,.int .i64 b,.int .i64 n]
abbrev regV (k:List Int):Value:=.agg #[.int .i64 (vAt k 0),.int .i64 (vAt k 1),.int .i64 (vAt k 2),.int .i64 (vAt k 3),.int .i64 (vAt k 4),.int .i64 (vAt k 5),.int .i64 (vAt k 6),.int .i64 (vAt k 7)]
def VInts (w:World) (ao:Option Addr) (l:List Int):Prop:=∀ (i:Nat) z,l[i]?=some z->∃ b o,ao=some ⟨b,o,none⟩/\w.cell? ⟨b,o+i,none⟩=some (.int .i64 z)
theorem vInts1 (w:World) (x:Int) (t:TypeId) (B:Nat) (hB:w.heap.size=B):VInts (w.alloc (.cells #[.int .i64 x] t)) (some ⟨B,0,none⟩) [x]:=fun i z hz=>by
 subst hB
 match i,hz with
 | 0,hz=>simp at hz;subst hz;exact⟨_,_,rfl,by simp⟩
 | i+1,hz=>simp at hz
theorem vInts2 (w:World) (x y:Int) (t:TypeId) (B:Nat) (hB:w.heap.size=B):VInts (w.alloc (.cells #[.int .i64 x,.int .i64 y] t)) (some ⟨B,0,none⟩) [x,y]:=fun i z hz=>by
 subst hB
 match i,hz with
 | 0,hz=>simp at hz;subst hz;exact⟨_,_,rfl,by simp⟩
 | 1,hz=>simp at hz;subst hz;exact⟨_,_,rfl,by simp⟩
 | i+2,hz=>simp at hz
abbrev regA (k:List Int):Array Value:=#[.int .i64 (vAt k 0),.int .i64 (vAt k 1),.int .i64 (vAt k 2),.int .i64 (vAt k 3),.int .i64 (vAt k 4),.int .i64 (vAt k 5),.int .i64 (vAt k 6),.int .i64 (vAt k 7)]
theorem reg_at {w:World} {B:Nat} {k:List Int} {t:TypeId} (h:w.heap[B]?=some (.cells (regA k) t (0,0))) {a:Nat} (ha:a<8):w.cell? ⟨B,a,none⟩=some (.int .i64 (vAt k a)):=by
 rw[vCell_blk h]
 match a,ha with
 | 0,_=>rfl
 | 1,_=>rfl
 | 2,_=>rfl
 | 3,_=>rfl
 | 4,_=>rfl
 | 5,_=>rfl
 | 6,_=>rfl
 | 7,_=>rfl
 | a+8,h=>omega
theorem regs_at {w:World} {B:Nat} {k:List Int} {t:TypeId} (h:w.heap[B]?=some (.cells (regA k) t (0,0))):w.cell? ⟨B,0,none⟩=some (.int .i64 (vAt k 0))/\w.cell? ⟨B,1,none⟩=some (.int .i64 (vAt k 1))/\w.cell? ⟨B,2,none⟩=some (.int .i64 (vAt k 2))/\w.cell? ⟨B,3,none⟩=some (.int .i64 (vAt k 3))/\w.cell? ⟨B,4,none⟩=some (.int .i64 (vAt k 4))/\w.cell? ⟨B,5,none⟩=some (.int .i64 (vAt k 5))/\w.cell? ⟨B,6,none⟩=some (.int .i64 (vAt k 6))/\w.cell? ⟨B,7,none⟩=some (.int .i64 (vAt k 7)) :=
 ⟨reg_at h (by omega),reg_at h (by omega),reg_at h (by omega),reg_at h (by omega),reg_at h (by omega),reg_at h (by omega),reg_at h (by omega),reg_at h (by omega)⟩
theorem vAt_put {k:List Int} (hk:k.length=8) {a:Nat} (ha:a<8) (x:Int) (i:Nat):vAt (vPut k a x) i=if i=a then x else vAt k i:=by
 unfold vAt vPut
 simp only[Int.toNat_natCast,List.getElem?_set]
 by_cases h:i=a
 ·subst h
  rw[if_pos rfl,if_pos rfl,if_pos (by omega)]
  rfl
 ·rw[if_neg h,if_neg (fun e=>h e.symm)]
theorem reg_set {w:World} {B:Nat} {k:List Int} {t:TypeId} (h:w.heap[B]?=some (.cells (regA k) t (0,0))) (hk:k.length=8) {a:Nat} (ha:a<8) (x:Int):(w.setCell ⟨B,a,none⟩ (.int .i64 x)).heap[B]?=some (.cells (regA (vPut k a x)) t (0,0)):=by
 have e:(w.setCell ⟨B,a,none⟩ (.int .i64 x)).heap[B]?=some (.cells ((regA k).setIfInBounds a (.int .i64 x)) t (0,0)):=by
  simp only[World.setCell,Array.getElem?_modify,h];simp
 rw[e];have p0:vAt (vPut k a x) 0=if 0=a then x else vAt k 0:=vAt_put hk ha x 0
 have p1:vAt (vPut k a x) 1=if 1=a then x else vAt k 1:=vAt_put hk ha x 1
 have p2:vAt (vPut k a x) 2=if 2=a then x else vAt k 2:=vAt_put hk ha x 2
 have p3:vAt (vPut k a x) 3=if 3=a then x else vAt k 3:=vAt_put hk ha x 3
 have p4:vAt (vPut k a x) 4=if 4=a then x else vAt k 4:=vAt_put hk ha x 4
 have p5:vAt (vPut k a x) 5=if 5=a then x else vAt k 5:=vAt_put hk ha x 5
 have p6:vAt (vPut k a x) 6=if 6=a then x else vAt k 6:=vAt_put hk ha x 6
 have p7:vAt (vPut k a x) 7=if 7=a then x else vAt k 7:=vAt_put hk ha x 7
 rw[regA,regA,p0,p1,p2,p3,p4,p5,p6,p7]
 match a,ha with
 | 0,_=>rfl
 | 1,_=>rfl
 | 2,_=>rfl
 | 3,_=>rfl
 | 4,_=>rfl
 | 5,_=>rfl
 | 6,_=>rfl
 | 7,_=>rfl
 | a+8,h=>omega
end
section
open Go.RowKit
theorem vBoxes3 (w:World) (o0 o1 o2:Obj):(((w.alloc o0).alloc o1).alloc o2).heap[w.heap.size]?=some o0/\(((w.alloc o0).alloc o1).alloc o2).heap[w.heap.size+1]?=some o1/\(((w.alloc o0).alloc o1).alloc o2).heap[w.heap.size+1+1]?=some o2/\Below w.heap.size w (((w.alloc o0).alloc o1).alloc o2)/\w.heap.size+1+1+1<=(((w.alloc o0).alloc o1).alloc o2).heap.size:=by
 have s1:(w.alloc o0).heap.size=w.heap.size+1:=by simp
 have s2:((w.alloc o0).alloc o1).heap.size=w.heap.size+1+1:=by simp
 refine⟨(Deep.blk_alloc_lt _ _ _ (by omega)).trans ((Deep.blk_alloc_lt _ _ _ (by omega)).trans (Deep.blk_alloc_new w o0)),(Deep.blk_alloc_lt _ _ _ (by omega)).trans (by rw[<- s1];exact Deep.blk_alloc_new _ o1),by rw[<- s2];exact Deep.blk_alloc_new _ o2,((below_box w o0).alloc (by omega) _).alloc (by omega) _,by simp⟩
def putReg (w:World) (A:Nat) (k:List Int):World:=(((((((w.setCell ⟨A,0,none⟩ (.int .i64 (vAt k 0))).setCell ⟨A,1,none⟩ (.int .i64 (vAt k 1))).setCell ⟨A,2,none⟩ (.int .i64 (vAt k 2))).setCell ⟨A,3,none⟩ (.int .i64 (vAt k 3))).setCell ⟨A,4,none⟩ (.int .i64 (vAt k 4))).setCell ⟨A,5,none⟩ (.int .i64 (vAt k 5))).setCell ⟨A,6,none⟩ (.int .i64 (vAt k 6))).setCell ⟨A,7,none⟩ (.int .i64 (vAt k 7))
theorem vSet_blk {w:World} {g:Nat} {cur:Array Value} {t:TypeId} {fr:Nat × Nat} (h:w.heap[g]?=some (.cells cur t fr)) (j:Nat) (u:Value):(w.setCell ⟨g,j,none⟩ u).heap[g]?=some (.cells (cur.setIfInBounds j u) t fr):=by
 simp only[World.setCell,Array.getElem?_modify,h];simp
theorem set8_blk {w:World} {A:Nat} {c0 c1 c2 c3 c4 c5 c6 c7:Value} {t:TypeId} (h:w.heap[A]?=some (.cells #[c0,c1,c2,c3,c4,c5,c6,c7] t (0,0))) (x0 x1 x2 x3 x4 x5 x6 x7:Value) :
  ((((((((w.setCell ⟨A,0,none⟩ x0).setCell ⟨A,1,none⟩ x1).setCell ⟨A,2,none⟩ x2).setCell ⟨A,3,none⟩ x3).setCell ⟨A,4,none⟩ x4).setCell ⟨A,5,none⟩ x5).setCell ⟨A,6,none⟩ x6).setCell ⟨A,7,none⟩ x7).heap[A]?=some (.cells #[x0,x1,x2,x3,x4,x5,x6,x7] t (0,0)):=by
 have h1:(w.setCell ⟨A,0,none⟩ x0).heap[A]?=some (.cells #[x0,c1,c2,c3,c4,c5,c6,c7] t (0,0)):=by rw[vSet_blk h];rfl
 have h2:((w.setCell ⟨A,0,none⟩ x0).setCell ⟨A,1,none⟩ x1).heap[A]?=some (.cells #[x0,x1,c2,c3,c4,c5,c6,c7] t (0,0)):=by rw[vSet_blk h1];rfl
 have h3:(((w.setCell ⟨A,0,none⟩ x0).setCell ⟨A,1,none⟩ x1).setCell ⟨A,2,none⟩ x2).heap[A]?=some (.cells #[x0,x1,x2,c3,c4,c5,c6,c7] t (0,0)):=by rw[vSet_blk h2];rfl
 have h4:((((w.setCell ⟨A,0,none⟩ x0).setCell ⟨A,1,none⟩ x1).setCell ⟨A,2,none⟩ x2).setCell ⟨A,3,none⟩ x3).heap[A]?=some (.cells #[x0,x1,x2,x3,c4,c5,c6,c7] t (0,0)):=by rw[vSet_blk h3];rfl
 have h5:(((((w.setCell ⟨A,0,none⟩ x0).setCell ⟨A,1,none⟩ x1).setCell ⟨A,2,none⟩ x2).setCell ⟨A,3,none⟩ x3).setCell ⟨A,4,none⟩ x4).heap[A]?=some (.cells #[x0,x1,x2,x3,x4,c5,c6,c7] t (0,0)):=by rw[vSet_blk h4];rfl
 have h6:((((((w.setCell ⟨A,0,none⟩ x0).setCell ⟨A,1,none⟩ x1).setCell ⟨A,2,none⟩ x2).setCell ⟨A,3,none⟩ x3).setCell ⟨A,4,none⟩ x4).setCell ⟨A,5,none⟩ x5).heap[A]?=some (.cells #[x0,x1,x2,x3,x4,x5,c6,c7] t (0,0)):=by rw[vSet_blk h5];rfl
 have h7:(((((((w.setCell ⟨A,0,none⟩ x0).setCell ⟨A,1,none⟩ x1).setCell ⟨A,2,none⟩ x2).setCell ⟨A,3,none⟩ x3).setCell ⟨A,4,none⟩ x4).setCell ⟨A,5,none⟩ x5).setCell ⟨A,6,none⟩ x6).heap[A]?=some (.cells #[x0,x1,x2,x3,x4,x5,x6,c7] t (0,0)):=by rw[vSet_blk h6];rfl
 have h8:((((((((w.setCell ⟨A,0,none⟩ x0).setCell ⟨A,1,none⟩ x1).setCell ⟨A,2,none⟩ x2).setCell ⟨A,3,none⟩ x3).setCell ⟨A,4,none⟩ x4).setCell ⟨A,5,none⟩ x5).setCell ⟨A,6,none⟩ x6).setCell ⟨A,7,none⟩ x7).heap[A]?=some (.cells #[x0,x1,x2,x3,x4,x5,x6,x7] t (0,0)):=by rw[vSet_blk h7];rfl
 exact h8
theorem putReg_blk {w:World} {A:Nat} {c0 c1 c2 c3 c4 c5 c6 c7:Value} {t:TypeId} (h:w.heap[A]?=some (.cells #[c0,c1,c2,c3,c4,c5,c6,c7] t (0,0))) (k:List Int):(putReg w A k).heap[A]?=some (.cells (regA k) t (0,0)) :=
 set8_blk h _ _ _ _ _ _ _ _
theorem putReg_below {B:Nat} {w0 w:World} (h:Below B w0 w) {A:Nat} (hA:B<=A) (k:List Int):Below B w0 (putReg w A k) :=
 (((((((h.setCell hA _).setCell hA _).setCell hA _).setCell hA _).setCell hA _).setCell hA _).setCell hA _).setCell hA _
theorem behindPutRef_any (op n:Int) (a b:Nat) (k:List Int) (w:World) (hk:k.length=8) (ha:a<8) (hb:b<8) :
  Calls Tryz.prog 143 #[insV op a b n,regV k] w fun e w'=>e=.returned (regV (if (a:Int)=b\/vAt k b=2 then vPut k a 2 else vPut k b 0))/\Below w.heap.size w w':=by
 obtain⟨r,hr⟩:∃ r,r=if (a:Int)=b\/vAt k b=2 then vPut k a 2 else vPut k b 0:=⟨_,rfl⟩
 have HR:Aside (r=if (a:Int)=b\/vAt k b=2 then vPut k a 2 else vPut k b 0):=hr;rw[<- hr];clear hr;have haz:(a:Int)<8:=by omega
 have hbz:(b:Int)<8:=by omega
 go_enter Tryz.func143,Tryz.ntmps143
 go_upto_region 1 with fail
 obtain⟨N0,N1,N2,b1,hs⟩:=vBoxes3 w (Obj.cells #[.int .i64 op,.int .i64 a,.int .i64 b,.int .i64 n] 43) (Obj.cells (regA k) 99) (Obj.cells #[.int .i64 0,.int .i64 0,.int .i64 0,.int .i64 0,.int .i64 0,.int .i64 0,.int .i64 0,.int .i64 0] 99);generalize ((w.alloc (Obj.cells #[.int .i64 op,.int .i64 a,.int .i64 b,.int .i64 n] 43)).alloc (Obj.cells (regA k) 99)).alloc (Obj.cells #[.int .i64 0,.int .i64 0,.int .i64 0,.int .i64 0,.int .i64 0,.int .i64 0,.int .i64 0,.int .i64 0] 99)=W at *
 have i1:=vCell_blk N0 1;have i2:=vCell_blk N0 2;have ra:=reg_at N1 ha;have rb:=reg_at N1 hb;have fz:∀ j,W.frozen? ⟨w.heap.size+1,j,none⟩=false:=fun j=>by simp[World.frozen?,N1]
 simp at i1 i2
 by_cases hab:(a:Int)=b
 ·have e1:((a:Int) == (b:Int))=true:=by simp[hab]
  have HRR:Aside (r=vPut k a 2):=by show r=_;rw[HR.out,if_pos (Or.inl hab)]
  clear hab
  go_upto_region 4 with fail
  have M1:=reg_set N1 hk ha 2;rw[<- HRR.out] at M1;have M2:=(Deep.blk_setCell_other W ⟨w.heap.size+1,a,none⟩ (.int .i64 2) (w.heap.size+1+1) (by show w.heap.size+1+1≠w.heap.size+1;omega)).trans N2;have bx:Below w.heap.size w (W.setCell ⟨w.heap.size+1,a,none⟩ (.int .i64 2)):=b1.setCell (by show w.heap.size<=w.heap.size+1;omega) _;clear N0 N1 N2 b1 i1 i2 ra rb fz HR e1;generalize W.setCell ⟨w.heap.size+1,a,none⟩ (.int .i64 2)=wx at *
  obtain⟨g0,g1,g2,g3,g4,g5,g6,g7⟩:=regs_at M1;obtain⟨z0,z1,z2,z3,z4,z5,z6,z7⟩:=cells8 M2;have fr:∀ j,wx.frozen? ⟨w.heap.size+1+1,j,none⟩=false:=fun j=>by simp[World.frozen?,M2]
  have P:=putReg_blk M2 r;have bp:=putReg_below bx (A:=w.heap.size+1+1) (by omega) r;clear M1 M2;go_wp2
  change bodyPost _ _ _ _ _ (putReg wx (w.heap.size+1+1) r)
  clear g0 g1 g2 g3 g4 g5 g6 g7 z0 z1 z2 z3 z4 z5 z6 z7 fr;generalize putReg wx (w.heap.size+1+1) r=wy at *;obtain⟨y0,y1,y2,y3,y4,y5,y6,y7⟩:=regs_at P;exact bodyPost_ret (v:=regV r) (by simp[results,Tryz.results143,go_sem,y0,y1,y2,y3,y4,y5,y6,y7]) rfl ⟨rfl,bp⟩
 ·have e1:((a:Int) == (b:Int))=false:=by simp only[beq_eq_false_iff_ne];exact hab
  by_cases h2:vAt k b=2
  ·have e2:(vAt k b == 2)=true:=by simp[h2]
   have HRR:Aside (r=vPut k a 2):=by show r=_;rw[HR.out,if_pos (Or.inr h2)]
   clear hab h2
   go_upto_region 4 with fail
   have M1:=reg_set N1 hk ha 2;rw[<- HRR.out] at M1;have M2:=(Deep.blk_setCell_other W ⟨w.heap.size+1,a,none⟩ (.int .i64 2) (w.heap.size+1+1) (by show w.heap.size+1+1≠w.heap.size+1;omega)).trans N2;have bx:Below w.heap.size w (W.setCell ⟨w.heap.size+1,a,none⟩ (.int .i64 2)):=b1.setCell (by show w.heap.size<=w.heap.size+1;omega) _;clear N0 N1 N2 b1 i1 i2 ra rb fz HR e1 e2;generalize W.setCell ⟨w.heap.size+1,a,none⟩ (.int .i64 2)=wx at *
   obtain⟨g0,g1,g2,g3,g4,g5,g6,g7⟩:=regs_at M1;obtain⟨z0,z1,z2,z3,z4,z5,z6,z7⟩:=cells8 M2;have fr:∀ j,wx.frozen? ⟨w.heap.size+1+1,j,none⟩=false:=fun j=>by simp[World.frozen?,M2]
   have P:=putReg_blk M2 r;have bp:=putReg_below bx (A:=w.heap.size+1+1) (by omega) r;clear M1 M2;go_wp2
   change bodyPost _ _ _ _ _ (putReg wx (w.heap.size+1+1) r)
   clear g0 g1 g2 g3 g4 g5 g6 g7 z0 z1 z2 z3 z4 z5 z6 z7 fr;generalize putReg wx (w.heap.size+1+1) r=wy at *;obtain⟨y0,y1,y2,y3,y4,y5,y6,y7⟩:=regs_at P;exact bodyPost_ret (v:=regV r) (by simp[results,Tryz.results143,go_sem,y0,y1,y2,y3,y4,y5,y6,y7]) rfl ⟨rfl,bp⟩
  ·have e2:(vAt k b == 2)=false:=by simp[h2]
   have HRR:Aside (r=vPut k b 0):=by show r=_;rw[HR.out,if_neg (fun x=>x.elim hab h2)]
   clear hab h2
   go_upto_region 4 with fail
   have M1:=reg_set N1 hk hb 0;rw[<- HRR.out] at M1;have M2:=(Deep.blk_setCell_other W ⟨w.heap.size+1,b,none⟩ (.int .i64 0) (w.heap.size+1+1) (by show w.heap.size+1+1≠w.heap.size+1;omega)).trans N2;have bx:Below w.heap.size w (W.setCell ⟨w.heap.size+1,b,none⟩ (.int .i64 0)):=b1.setCell (by show w.heap.size<=w.heap.size+1;omega) _;clear N0 N1 N2 b1 i1 i2 ra rb fz HR e1 e2;generalize W.setCell ⟨w.heap.size+1,b,none⟩ (.int .i64 0)=wx at *
   obtain⟨g0,g1,g2,g3,g4,g5,g6,g7⟩:=regs_at M1;obtain⟨z0,z1,z2,z3,z4,z5,z6,z7⟩:=cells8 M2;have fr:∀ j,wx.frozen? ⟨w.heap.size+1+1,j,none⟩=false:=fun j=>by simp[World.frozen?,M2]
   have P:=putReg_blk M2 r;have bp:=putReg_below bx (A:=w.heap.size+1+1) (by omega) r;clear M1 M2;go_wp2
   change bodyPost _ _ _ _ _ (putReg wx (w.heap.size+1+1) r)
   clear g0 g1 g2 g3 g4 g5 g6 g7 z0 z1 z2 z3 z4 z5 z6 z7 fr;generalize putReg wx (w.heap.size+1+1) r=wy at *;obtain⟨y0,y1,y2,y3,y4,y5,y6,y7⟩:=regs_at P;exact bodyPost_ret (v:=regV r) (by simp[results,Tryz.results143,go_sem,y0,y1,y2,y3,y4,y5,y6,y7]) rfl ⟨rfl,bp⟩
theorem vPut_len8 {k:List Int} (hk:k.length=8) (a:Int) (x:Int):(vPut k a x).length=8:=by rw[vPut_length];exact hk
theorem behindMove_any (op n:Int) (a b:Nat) (k:List Int) (w:World) (hk:k.length=8) (ha:a<8) (hb:b<8) :
  Calls Tryz.prog 144 #[insV op a b n,regV k] w fun e w'=>e=.returned (regV (vPut (if vAt k b=3 then vPut k b 0 else k) a (vAt k b)))/\Below w.heap.size w w':=by
 obtain⟨r,hr⟩:∃ r,r=vPut (if vAt k b=3 then vPut k b 0 else k) a (vAt k b):=⟨_,rfl⟩;have HR:Aside (r=vPut (if vAt k b=3 then vPut k b 0 else k) a (vAt k b)):=hr;rw[<- hr];clear hr;have haz:(a:Int)<8:=by omega
 have hbz:(b:Int)<8:=by omega
 go_enter Tryz.func144,Tryz.ntmps144
 go_upto_region 1 with fail
 obtain⟨N0,N1,N2,b1,hs⟩:=vBoxes3 w (Obj.cells #[.int .i64 op,.int .i64 a,.int .i64 b,.int .i64 n] 43) (Obj.cells (regA k) 99) (Obj.cells #[.int .i64 0,.int .i64 0,.int .i64 0,.int .i64 0,.int .i64 0,.int .i64 0,.int .i64 0,.int .i64 0] 99);generalize ((w.alloc (Obj.cells #[.int .i64 op,.int .i64 a,.int .i64 b,.int .i64 n] 43)).alloc (Obj.cells (regA k) 99)).alloc (Obj.cells #[.int .i64 0,.int .i64 0,.int .i64 0,.int .i64 0,.int .i64 0,.int .i64 0,.int .i64 0,.int .i64 0] 99)=W at *
 obtain⟨i0,i1,i2,i3⟩:=cells4 N0;have ra:=reg_at N1 ha;have rb:=reg_at N1 hb;have fz:∀ j,W.frozen? ⟨w.heap.size+1,j,none⟩=false:=fun j=>by simp[World.frozen?,N1]
 by_cases h3:vAt k b=3
 ·have e3:(vAt k b == 3)=true:=by simp[h3]
  have HRR:Aside (r=vPut (vPut k b 0) a (vAt k b)):=by show r=_;rw[HR.out,if_pos h3]
  clear h3
  go_upto_region 4 with fail
  have M1:=reg_set N1 hk hb 0;have M2:=(Deep.blk_setCell_other W ⟨w.heap.size+1,b,none⟩ (.int .i64 0) (w.heap.size+1+1) (by show w.heap.size+1+1≠w.heap.size+1;omega)).trans N2;have M0:=(Deep.blk_setCell_other W ⟨w.heap.size+1,b,none⟩ (.int .i64 0) w.heap.size (by show w.heap.size≠w.heap.size+1;omega)).trans N0;have bx:Below w.heap.size w (W.setCell ⟨w.heap.size+1,b,none⟩ (.int .i64 0)):=b1.setCell (by show w.heap.size<=w.heap.size+1;omega) _
  clear i0 i1 i2 i3 ra rb fz HR N0 N1 N2 b1;generalize W.setCell ⟨w.heap.size+1,b,none⟩ (.int .i64 0)=wv at *;have i1:=vCell_blk M0 1;simp at i1;have ra:=reg_at M1 ha;have fz:∀ j,wv.frozen? ⟨w.heap.size+1,j,none⟩=false:=fun j=>by simp[World.frozen?,M1]
  have O1:=M1;have O2:=M2;have ob:=bx;clear M1 M2 bx
  go_upto_region 5 with fail
  have M1:=reg_set O1 (vPut_len8 hk b 0) ha (vAt k b);rw[<- HRR.out] at M1;have M2:=(Deep.blk_setCell_other wv ⟨w.heap.size+1,a,none⟩ (.int .i64 (vAt k b)) (w.heap.size+1+1) (by show w.heap.size+1+1≠w.heap.size+1;omega)).trans O2;have bx:Below w.heap.size w (wv.setCell ⟨w.heap.size+1,a,none⟩ (.int .i64 (vAt k b))):=ob.setCell (by show w.heap.size<=w.heap.size+1;omega) _;clear O1 O2 ob M0 i1 ra fz e3
  generalize wv.setCell ⟨w.heap.size+1,a,none⟩ (.int .i64 (vAt k b))=wx at *;obtain⟨g0,g1,g2,g3,g4,g5,g6,g7⟩:=regs_at M1;obtain⟨z0,z1,z2,z3,z4,z5,z6,z7⟩:=cells8 M2;have fr:∀ j,wx.frozen? ⟨w.heap.size+1+1,j,none⟩=false:=fun j=>by simp[World.frozen?,M2]
  have P:=putReg_blk M2 r;have bp:=putReg_below bx (A:=w.heap.size+1+1) (by omega) r;clear M1 M2;go_wp2
  change bodyPost _ _ _ _ _ (putReg wx (w.heap.size+1+1) r)
  clear g0 g1 g2 g3 g4 g5 g6 g7 z0 z1 z2 z3 z4 z5 z6 z7 fr;generalize putReg wx (w.heap.size+1+1) r=wy at *;obtain⟨y0,y1,y2,y3,y4,y5,y6,y7⟩:=regs_at P;exact bodyPost_ret (v:=regV r) (by simp[results,Tryz.results144,go_sem,y0,y1,y2,y3,y4,y5,y6,y7]) rfl ⟨rfl,bp⟩
 ·have e3:(vAt k b == 3)=false:=by simp[h3]
  have HRR:Aside (r=vPut k a (vAt k b)):=by show r=_;rw[HR.out,if_neg h3]
  clear h3
  go_upto_region 5 with fail
  have M1:=reg_set N1 hk ha (vAt k b);rw[<- HRR.out] at M1;have M2:=(Deep.blk_setCell_other W ⟨w.heap.size+1,a,none⟩ (.int .i64 (vAt k b)) (w.heap.size+1+1) (by show w.heap.size+1+1≠w.heap.size+1;omega)).trans N2;have bx:Below w.heap.size w (W.setCell ⟨w.heap.size+1,a,none⟩ (.int .i64 (vAt k b))):=b1.setCell (by show w.heap.size<=w.heap.size+1;omega) _;clear N0 N1 N2 b1 i0 i1 i2 i3 ra rb fz HR e3;generalize W.setCell ⟨w.heap.size+1,a,none⟩ (.int .i64 (vAt k b))=wx at *
  obtain⟨g0,g1,g2,g3,g4,g5,g6,g7⟩:=regs_at M1;obtain⟨z0,z1,z2,z3,z4,z5,z6,z7⟩:=cells8 M2;have fr:∀ j,wx.frozen? ⟨w.heap.size+1+1,j,none⟩=false:=fun j=>by simp[World.frozen?,M2]
  have P:=putReg_blk M2 r;have bp:=putReg_below bx (A:=w.heap.size+1+1) (by omega) r;clear M1 M2;go_wp2
  change bodyPost _ _ _ _ _ (putReg wx (w.heap.size+1+1) r)
  clear g0 g1 g2 g3 g4 g5 g6 g7 z0 z1 z2 z3 z4 z5 z6 z7 fr;generalize putReg wx (w.heap.size+1+1) r=wy at *;obtain⟨y0,y1,y2,y3,y4,y5,y6,y7⟩:=regs_at P;exact bodyPost_ret (v:=regV r) (by simp[results,Tryz.results144,go_sem,y0,y1,y2,y3,y4,y5,y6,y7]) rfl ⟨rfl,bp⟩
end
end Go.Proofs.YtepifccbbmdfcaaGreatDoor
