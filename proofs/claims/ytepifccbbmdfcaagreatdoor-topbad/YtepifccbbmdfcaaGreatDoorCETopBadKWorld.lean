/- KWorld. -/
import Derived.Test.YtepifccbbmdfcaaGreatDoorCETopBadKBeh
namespace Go.Proofs.YtepifccbbmdfcaaGreatDoor
set_option maxRecDepth 100000
set_option maxHeartbeats 8000000
section
open Go.RowKit
def fRaw (x:Rw):List Value:=[.int .i64 x.k,.int .i64 x.a,.int .i64 x.b,.int .i64 x.c]
theorem Tryz.rowRaw:RowT Tryz.prog fRaw 4 57 94 32:=⟨fun _=>rfl,fun x v hv=>by simp[fRaw] at hv;rcases hv with h | h | h | h <;> rw[h] <;> rfl,by decide,Tryz.underlying57,_,(show(Tryz.prog.info? 94).map (fun i=>(i.zero,i.size,i.bytes))=some (some (.agg #[.int .i64 0,.int .i64 0,.int .i64 0,.int .i64 0]),4,32) by kernel_rfl),rfl⟩
def fSl (x:Option Addr × Nat × Nat):List Value:=[.slice x.1 x.2.1 x.2.2]
theorem Tryz.rowSl:RowT Tryz.prog fSl 1 36 44 24:=⟨fun _=>rfl,fun x v hv=>by simp[fSl] at hv;subst hv;rfl,by decide,Tryz.underlying36,_,(show(Tryz.prog.info? 44).map (fun i=>(i.zero,i.size,i.bytes))=some (some (.slice none 0 0),1,24) by kernel_rfl),rfl⟩
theorem seqRaw_new (w:World) (x:Rw) (t:TypeId) (B:Nat) (hB:B=w.heap.size):SeqAt fRaw 4 (w.alloc (.cells #[.int .i64 x.k,.int .i64 x.a,.int .i64 x.b,.int .i64 x.c] t)) (some ⟨B,0,none⟩) [x]:=fun i y hy=>by
 match i,hy with
 | 0,hy =>
  simp at hy;subst hy;refine⟨B,0,rfl,fun j u hu=>?_⟩;rw[cellBlk (by rw[hB];exact Deep.blk_alloc_new w _)]
  simpa[fRaw] using hu
 | i+1,hy=>simp at hy
theorem seqSl_new (w:World) (ao:Option Addr) (n c:Nat) (t:TypeId) (B:Nat) (hB:B=w.heap.size):SeqAt fSl 1 (w.alloc (.cells #[.slice ao n c] t)) (some ⟨B,0,none⟩) [(ao,n,c)]:=fun i y hy=>by
 match i,hy with
 | 0,hy =>
  simp at hy;subst hy;refine⟨B,0,rfl,fun j u hu=>?_⟩;rw[cellBlk (by rw[hB];exact Deep.blk_alloc_new w _)]
  simpa[fSl] using hu
 | i+1,hy=>simp at hy
def rwFit (r:Rw):Prop:=fit64 r.k/\fit64 r.a/\fit64 r.b/\fit64 r.c
theorem raws_of {w:World} {ao:Option Addr} {l:List Rw} (h:SeqAt fRaw 4 w ao l) (hf:∀ r∈l,rwFit r):RawsAt w ao l:=fun i r hi=>by
 obtain⟨b,o,e,hc⟩:=h i r hi;have c0:=hc 0 (.int .i64 r.k) rfl;have c1:=hc 1 (.int .i64 r.a) rfl;have c2:=hc 2 (.int .i64 r.b) rfl;have c3:=hc 3 (.int .i64 r.c) rfl;exact⟨b,o,e,World.block_lt_of_cell? _ _ c0,c0,c1,c2,c3,hf r (List.mem_of_getElem? hi)⟩
structure RowsOwn (w:World) (base:Nat) (v:Value) (vs:List (Option Addr × Nat × Nat)) (rows:List (List Ins)):Prop where
 outer:SeqOwn fSl 1 44 w base v vs
 len:vs.length=rows.length
 inner:∀ (r:Nat) x l,vs[r]?=some x->rows[r]?=some l->x.2.1=l.length/\SeqOwn fIns 4 43 w base (.slice x.1 x.2.1 x.2.2) l
theorem RowsOwn.below {w w':World} {base:Nat} {v:Value} {vs:List (Option Addr × Nat × Nat)} {rows:List (List Ins)} (h:RowsOwn w base v vs rows) (hb:Below w.heap.size w w'):RowsOwn w' base v vs rows :=
 ⟨h.outer.below hb,h.len,fun r x l hx hl=>⟨(h.inner r x l hx hl).1,(h.inner r x l hx hl).2.below hb⟩⟩
theorem RowsOwn.kinds {w:World} {base n c:Nat} {ao:Option Addr} {vs:List (Option Addr × Nat × Nat)} {rows:List (List Ins)} (h:RowsOwn w base (.slice ao n c) vs rows):KindsAt w ao rows:=fun r l hl=>by
 have hr:r<vs.length:=by rw[h.len];exact(List.getElem?_eq_some_iff.1 hl).1
 have hx:=List.getElem?_eq_getElem hr;obtain⟨e,ho⟩:=h.inner r _ l hx hl;obtain⟨b,o,e1,hc⟩:=(h.outer.at Tryz.rowSl.len) r _ hx;refine⟨b,o,vs[r].1,vs[r].2.2,e1,?_,ho.at Tryz.rowIns.len⟩;have:=hc 0 (.slice vs[r].1 vs[r].2.1 vs[r].2.2) rfl;rw[e] at this
 simpa using this
theorem RowsOwn.snoc {w w':World} {base g cap:Nat} {v:Value} {vs:List (Option Addr × Nat × Nat)} {rows:List (List Ins)} {x:Option Addr × Nat × Nat} {l:List Ins} (h:RowsOwn w base v vs rows) (hg:w.grownBy w' v.ownBlock) (hn:SeqOwn fSl 1 44 w' base (.slice (some ⟨g,0,none⟩) (vs.length+1) cap) (vs++[x])) (hx:x.2.1=l.length) (hl:SeqOwn fIns 4 43 w base (.slice x.1 x.2.1 x.2.2) l):RowsOwn w' base (.slice (some ⟨g,0,none⟩) (vs.length+1) cap) (vs++[x]) (rows++[l]):=by
 refine⟨hn,by simp[h.len],fun r y m hy hm=>?_⟩
 by_cases hr:r<vs.length
 ·rw[List.getElem?_append_left hr] at hy
  rw[List.getElem?_append_left (by rw[<- h.len];exact hr)] at hm;obtain⟨e1,e2⟩:=h.inner r y m hy hm;exact⟨e1,e2.grown hg (owns_other e2 h.outer (by decide))⟩
 ·have hr2:r=vs.length:=by
   have:=(List.getElem?_eq_some_iff.1 hy).1;simp at this
   omega
  subst hr2;simp at hy;rw[h.len] at hm;simp at hm;subst hy hm;exact⟨hx,hl.grown hg (owns_other hl h.outer (by decide))⟩
theorem kowns_set {w:World} {base:Nat} {e:TypeId} {size:Nat} {v:Value} {n:Nat} {xs:List Value} (h:w.ownsRow base e size v n xs) {B:Nat} {c:Array Value} {t':TypeId} (hB:w.heap[B]?=some (.cells c t' (0,0))) (hne:t'≠e) (j:Nat) (u:Value):(w.setCell ⟨B,j,none⟩ u).ownsRow base e size v n xs:=by
 refine World.ownsRow.kept h (row:=some B) ⟨rfl,rfl,rfl,by simp[World.setCell],fun k _ hk=>Below.heap_setCell _ _ _ _ (fun e=>hk (by rw[e]))⟩ ?_
 rcases h.2 with⟨rfl,_⟩ | ⟨g,cap,cur,rfl,_,hg,_⟩
 ·exact Or.inl rfl
 ·right
  simp only[Value.ownBlock];intro e1;simp only[Option.some.injEq] at e1;subst e1;rw[hB] at hg;simp only[Option.some.injEq,Obj.cells.injEq] at hg;exact hne hg.2.1
theorem RowsOwn.set {w:World} {base:Nat} {v:Value} {vs:List (Option Addr × Nat × Nat)} {rows:List (List Ins)} (h:RowsOwn w base v vs rows) {B:Nat} {c:Array Value} (hB:w.heap[B]?=some (.cells c 38 (0,0))) (j:Nat) (u:Value):RowsOwn (w.setCell ⟨B,j,none⟩ u) base v vs rows :=
 ⟨kowns_set h.outer hB (by decide) j u,h.len,fun r x l hx hl=>⟨(h.inner r x l hx hl).1,kowns_set (h.inner r x l hx hl).2 hB (by decide) j u⟩⟩
theorem thirds_none {l:List Rw} {i:Nat} (h:l[i]?=none):∀ n,thirds l n i=[]
 | 0=>rfl
 | n+1=>by simp[thirds,h]
theorem thirds_some {l:List Rw} {i:Nat} {r:Rw} (h:l[i]?=some r) (n:Nat):thirds l (n+1) i=r :: thirds l n (i+3):=by simp[thirds,h]
theorem programS_take (l:List Rw) (most:Nat):∀ k,k<3->(programS l most).take (k+1)=(programS l most).take k++[behS most (third l k)]
 | 0,_=>rfl
 | 1,_=>rfl
 | 2,_=>rfl
 | k+3,h=>by omega
theorem kprogram_any (l:List Rw) (ra:Option Addr) (rc:Nat) (most:Nat) (w:World) (h:RawsAt w ra l) (hl:32*l.length<=140737488355328) (hm:most<=900) (hT:TabAt 0 w) :
  Calls Tryz.prog 22 #[.slice ra l.length rc,.int .i64 most] w fun e w'=>∃ ao cap,e=.returned (.agg #[.slice ao 3 cap])/\Below w.heap.size w w'/\KindsAt w' ao (programS l most):=by
 obtain⟨R,hR⟩:∃ R,R=programS l most:=⟨_,rfl⟩;have HR:Aside (R=programS l most):=hR;rw[<- hR];clear hR;have hmx:maxLen=9223372036854775807:=rfl
 go_enter Tryz.func22,Tryz.ntmps22
 go_wp2_with fail
 obtain⟨N0,N1,k1,b1,s1⟩:=boxes2 w (Obj.cells #[.slice none 0 0] 38) (Obj.cells #[.slice none 0 0] 38);generalize (w.alloc (Obj.cells #[.slice none 0 0] 38)).alloc (Obj.cells #[.slice none 0 0] 38)=W0 at *
 go_loopg [10] 3 (fun gg s10 wr=>∃ (k:Nat) (ka:Option Addr) (kc:Nat) (vs:List (Option Addr × Nat × Nat)),k<=3/\gg=3-k/\s10=.int .i64 k/\wr.heap[w.heap.size]?=some (.cells #[.slice none 0 0] 38 (0,0))/\wr.heap[w.heap.size+1]?=some (.cells #[.slice ka vs.length kc] 38 (0,0))/\RowsOwn wr (w.heap.size+1+1) (.slice ka vs.length kc) vs ((programS l most).take k)/\Below w.heap.size w wr)
 case atStart=>exact⟨0,none,0,[],by omega,rfl,rfl,N0,N1,⟨seqOwn_nil _ _,by simp,fun r x l hx=>by simp at hx⟩,b1⟩
 case round =>
  clear N0 N1 k1 b1 s1;obtain⟨k,ka,kc,vs,hk,rfl,rfl,N0,N1,hRO,hb⟩:=hrel
  by_cases hk3:k<3
  ·have hkz:(k:Int)<3:=by omega
   have hvl:vs.length<=3:=by rw[hRO.len];simp;omega
   obtain⟨W,hWe⟩:∃ W,W=wr:=⟨_,rfl⟩;subst hWe;have hsz:w.heap.size+1+1<=W.heap.size:=by have:=(Array.getElem?_eq_some_iff.1 N1).1;omega
   have hraw:=h.keeps (Keeps.below hb)
   go_wp2_with fail
   go_loopg [7,8] (l.length+3-k) (fun gg s7 s8 wq=>∃ (i n:Nat) (own:List Rw) (oa:Option Addr) (oc:Nat),i<=l.length+3/\gg=l.length+3-i/\s7=.slice oa own.length oc/\s8=.int .i64 i/\own.length<=i/\l.length<=n+i/\SeqOwn fRaw 4 94 wq W.heap.size (.slice oa own.length oc) own/\Below W.heap.size W wq/\(∀ x∈own,rwFit x)/\own.length<=l.length/\Aside (third l k=own++thirds l n i))
   case atStart=>exact⟨k,l.length,[],none,0,by omega,rfl,rfl,rfl,by simp,by omega,seqOwn_nil _ _,Below.refl _ _,by simp,by simp,rfl⟩
   case round =>
    obtain⟨i,n,own,oa,oc,hi,rfl,rfl,rfl,hoi,hni,hO,hbq,hof,hol,hA⟩:=hrel
    cases hr:l[i]? with
    | some r =>
     have hlt:=(List.getElem?_eq_some_iff.1 hr).1;have hltz:(i:Int)<(l.length:Int):=by omega
     obtain⟨n,rfl⟩:∃ m,n=m+1:=⟨n-1,by omega⟩;obtain⟨RB,RO,hra,_,i0,i1,i2,i3,hfit⟩:=(hraw.keeps (Keeps.below hbq)) i r hr;subst hra;have hoz:own.length+1<=l.length:=by omega
     go_wp2_with (first | (at_builtin;refine wpList_seq Tryz.rowRaw rfl _ _ (by rfl) (v:=.slice oa own.length oc) (by simp[Act.eval]) (hO.below (below_box wr (Obj.cells #[.int .i64 r.k,.int .i64 r.a,.int .i64 r.b,.int .i64 r.c] 94))) (by have:=hbq.size;simp;omega) [r] (some ⟨wr.heap.size,0,none⟩) 1 (by simp[Act.eval]) (seqRaw_new wr r 94 wr.heap.size rfl) (by simp) (by simp;omega) (by simp;omega) ?_;rintro g cap w3 hO3 _ hb3 _) | fail)
     have hbF:=(hbq.trans ((below_box wr (Obj.cells #[.int .i64 r.k,.int .i64 r.a,.int .i64 r.b,.int .i64 r.c] 94)).mono hbq.size)).trans hb3
     go_roundg (l.length+3-(i+3))
     case measure=>go_light;omega
     case rel =>
      go_light
      refine⟨i+3,n,own++[r],some ⟨g,0,none⟩,cap,by omega,rfl,by simp,by simp,by simp;omega,by omega,by simpa using hO3,hbF,fun x hx=>?_,by simp;omega,?_⟩
      ·simp at hx
       rcases hx with hx | rfl
       ·exact hof x hx
       ·exact hfit
      ·show third l k=_
       rw[hA.out,thirds_some hr];simp
    | none =>
     have hge:=List.getElem?_eq_none_iff.1 hr;have hgez:¬ (i:Int)<(l.length:Int):=by omega
     have HTH:Aside (third l k=own):=by show third l k=_;rw[hA.out,thirds_none hr];simp
     have hbA:=hb.trans (hbq.mono hb.size);have hRO2:=(hRO.below hbq);have M0:=(hbq.block _ (by omega:w.heap.size<W.heap.size)).trans N0;have M1:=(hbq.block _ (by omega:w.heap.size+1<W.heap.size)).trans N1;have hRaws:RawsAt wr oa own:=raws_of (hO.at Tryz.rowRaw.len) hof;have hTq:=hT.keeps (Keeps.below hbA);have m1:=vCell_blk M1 0;simp at m1;have hszq:=hbq.size;clear hO hRO N0 N1 hA hraw hbq hb;have hSof:∀ w',Below wr.heap.size wr w'->w'.cell? ⟨w.heap.size+1,0,none⟩=some (.slice ka vs.length kc):=fun w' hb'=>Keeps.below hb' _ _ m1
     go_upto_region 10 with fail
     have hBd:Below wr.heap.size wr wr.drew:=(Below.refl _ _).drew;refine wp_region_need (fun j=>j != 8) (fun w'=>w'.cell? ⟨w.heap.size+1,0,none⟩=some (.slice ka vs.length kc)) (by kernel_rfl) (hSof _ hBd) (fun hS=>?_);have hRwd:=hRaws.keeps (Keeps.below hBd);have hTqd:=hTq.keeps (Keeps.below hBd);generalize wr.drew=wc0 at hS hBd hRwd hTqd ⊢;refine tkN 0 hS ?_;refine tkN 1 hS ?_;refine tkN 2 hS ?_
     refine tkN 3 hS ?_;refine stN 4 (fun K hK=>?_);go_simp;refine(kbehavior_any own oa oc most wc0 hRwd (by omega) hm hTqd).mono ?_;rintro e wc1 ⟨g,gc,rfl,hbn,hO1⟩;have HBH:Aside ((programS l most).take (k+1)=(programS l most).take k++[behS most own]):=by show _=_;rw[programS_take l most k hk3,HTH.out]
     generalize behS most own=BH at *;have hRO1:=(hRO2.below hBd).below hbn;have hB1:=hBd.trans (hbn.mono hBd.size);have hO2:=hO1.le (by have:=hBd.size;omega:w.heap.size+1+1<=wc0.heap.size);clear hRO2 hbn hBd hO1 hRwd hTqd;refine otN hK (hSof _ hB1) ?_;clear hK;replace hS:=hSof _ hB1;refine stN 5 (fun K hK=>?_);go_simp;have hD3:=seqSl_new wc1 (some ⟨g,0,none⟩) BH.length gc 44 wc1.heap.size rfl;have hbn:=below_box wc1 (Obj.cells #[.slice (some ⟨g,0,none⟩) BH.length gc] 44)
     generalize wc1.alloc (Obj.cells #[.slice (some ⟨g,0,none⟩) BH.length gc] 44)=wc3 at hD3 hbn ⊢;have hRO3:=hRO1.below hbn;have hB3:=hB1.trans (hbn.mono hB1.size);have hO3:=hO2.below hbn;clear hRO1 hbn hB1 hO2;generalize wc1.heap.size=GB at hD3 ⊢;refine otN hK (hSof _ hB3) ?_;clear hK;replace hS:=hSof _ hB3;refine wpAnyN_one (i:=6) (by kernel_rfl) rfl (fun K hK=>?_);refine step_seq Tryz.rowSl (by rfl) _ _ (by rfl) (v:=.slice ka vs.length kc) (by rfl) hRO3.outer (by have:=hB3.size;omega) [(some ⟨g,0,none⟩,BH.length,gc)] (some ⟨GB,0,none⟩) 1 (by rfl) hD3 (by simp) (by simp;omega) (by simp;omega) ?_
     rintro g4 cap4 wc4 hO4 hgr hbn _;have hRO4:=hRO3.snoc hgr hO4 rfl hO3;have P0:=owns_blk hRO3.outer hgr ((hB3.block _ (by omega:w.heap.size<wr.heap.size)).trans M0) (by decide);have P1:=owns_blk hRO3.outer hgr ((hB3.block _ (by omega:w.heap.size+1<wr.heap.size)).trans M1) (by decide);have hB4:Below w.heap.size w wc4:=(hbA.trans (hB3.mono hbA.size)).trans (hbn.mono (by omega));have p1:=vCell_blk P1 0
     simp at p1;have pf:∀ j,wc4.frozen? ⟨w.heap.size+1,j,none⟩=false:=fun j=>by simp[World.frozen?,P1]
     clear hRO3 hO3 hD3 hbn hB3 hO4 hgr M0 M1 m1 hSof;refine otN hK (p1) ?_;clear hK;replace hS:=p1;refine tkN 7 hS ?_;refine stN 8 (fun K hK=>?_);go_simp;refine laN hK ?_;clear hK;have Q0:=(Deep.blk_setCell_other wc4 ⟨w.heap.size+1,0,none⟩ (.slice (some ⟨g4,0,none⟩) (vs.length+1) cap4) w.heap.size (by show w.heap.size≠w.heap.size+1;omega)).trans P0;have Q1:(wc4.setCell ⟨w.heap.size+1,0,none⟩ (.slice (some ⟨g4,0,none⟩) (vs.length+1) cap4)).heap[w.heap.size+1]?=some (.cells #[(.slice (some ⟨g4,0,none⟩) (vs.length+1) cap4)] 38 (0,0)):=putAt_whole P1 [(.slice (some ⟨g4,0,none⟩) (vs.length+1) cap4)] rfl
     have hRO5:=hRO4.set P1 0 (.slice (some ⟨g4,0,none⟩) (vs.length+1) cap4);have hB5:=hB4.setCell (p:=⟨w.heap.size+1,0,none⟩) (by show w.heap.size<=w.heap.size+1;omega) (.slice (some ⟨g4,0,none⟩) (vs.length+1) cap4);clear hRO4 hB4 P0 P1 p1 pf hS;generalize wc4.setCell ⟨w.heap.size+1,0,none⟩ (.slice (some ⟨g4,0,none⟩) (vs.length+1) cap4)=W6 at *;go_wp2
     go_roundg (3-(k+1))
     case measure=>go_light;omega
     case rel =>
      go_light
      refine⟨k+1,some ⟨g4,0,none⟩,cap4,vs++[(some ⟨g,0,none⟩,BH.length,gc)],by omega,rfl,by simp,Q0,by simpa using Q1,?_,hB5⟩;rw[HBH.out]
      simpa using hRO5
  ·have hk3':k=3:=by omega
   subst hk3';have e3:(programS l most).take 3=R:=by rw[HR.out];rfl
   rw[e3] at hRO;have hv3:vs.length=3:=by rw[hRO.len,HR.out];rfl
   rw[hv3] at N1 hRO;have hK:=hRO.kinds;have n1:=vCell_blk N1 0;have n0:=vCell_blk N0 0;simp at n0 n1;have f0:∀ j,wr.frozen? ⟨w.heap.size,j,none⟩=false:=fun j=>by simp[World.frozen?,N0]
   have e0:(wr.setCell ⟨w.heap.size,0,none⟩ (.slice ka 3 kc)).heap[w.heap.size]?=some (.cells #[.slice ka 3 kc] 38 (0,0)):=putAt_whole N0 [.slice ka 3 kc] rfl;have hR2:=(hRO.set N0 0 (.slice ka 3 kc)).kinds;have hB2:=hb.setCell (p:=⟨w.heap.size,0,none⟩) (Nat.le_refl _) (.slice ka 3 kc);have c0:=vCell_blk e0 0;simp at c0
   go_wp2_with fail
   exact bodyPost_ret (v:=.agg #[.slice ka 3 kc]) (by simp[results,Tryz.results22,go_sem,c0]) rfl ⟨ka,kc,rfl,hB2,hR2⟩
end
section
open Go.RowKit
theorem programS_fits (l:List Rw) (most:Nat) (hm:most<=900):∀ x∈programS l most,x.length<=1000000/\∀ y∈x,insFit y:=fun x hx=>by
 have key:∀ k,(behS most (third l k)).length<=1000000/\∀ y∈behS most (third l k),insFit y:=fun k=>by
  refine⟨?_,fun y hy=>?_⟩
  ·have:=(code_inv most (third l k)).2
   simp[behS];omega
  ·simp only[behS,List.mem_append,List.mem_singleton] at hy
   rcases hy with hy | rfl
   ·exact insFit_of (code_bd _ _ y hy)
   ·exact insFit_of done_bd
 simp only[programS,List.mem_cons,List.not_mem_nil,or_false] at hx
 rcases hx with rfl | rfl | rfl
 ·exact key 0
 ·exact key 1
 ·exact key 2
theorem program_prog {w:World} {ao:Option Addr} {l:List Rw} {most:Nat} (hm:most<=900) (h:KindsAt w ao (programS l most)):∃ A C,ProgAt w ao 3 A (lenOf (programS l most)) C (xOf (programS l most))/\(ckS 3 (lenOf (programS l most)) (xOf (programS l most)))=(0,0,0)/\progFault 3 (lenOf (programS l most)) (xOf (programS l most))=0:=by
 obtain⟨A,C,hP⟩:=prog_of h (by simp[programS]) (programS_fits l most hm);have hc:ckS 3 (lenOf (programS l most)) (xOf (programS l most))=(0,0,0):=program_ok l most;exact⟨A,C,hP,hc,(ver_of (by rw[hc])).1⟩
end
section
open Go.RowKit
def fAx (x:Ax):List Value:=[.int .i64 x.kind,.int .i64 x.who,.int .i64 x.n,.int .i64 x.m]
theorem Tryz.rowAx:RowT Tryz.prog fAx 4 23 27 32:=⟨fun _=>rfl,fun x v hv=>by simp[fAx] at hv;rcases hv with h | h | h | h <;> rw[h] <;> rfl,by decide,Tryz.underlying23,_,(show(Tryz.prog.info? 27).map (fun i=>(i.zero,i.size,i.bytes))=some (some (.agg #[.int .i64 0,.int .i64 0,.int .i64 0,.int .i64 0]),4,32) by kernel_rfl),rfl⟩
theorem seqAx_to {w:World} {ao:Option Addr} {l:List Ax} (h:SeqAt fAx 4 w ao l):AxsAt w ao l:=fun i a hi=>by
 obtain⟨b,o,e,hc⟩:=h i a hi;exact⟨b,o,e,hc 0 _ rfl,hc 1 _ rfl,hc 2 _ rfl,hc 3 _ rfl⟩
theorem seqAx_new (w:World) (x:Ax) (t:TypeId) (B:Nat) (hB:B=w.heap.size):SeqAt fAx 4 (w.alloc (.cells #[.int .i64 x.kind,.int .i64 x.who,.int .i64 x.n,.int .i64 x.m] t)) (some ⟨B,0,none⟩) [x]:=fun i y hy=>by
 match i,hy with
 | 0,hy =>
  simp at hy;subst hy;refine⟨B,0,rfl,fun j u hu=>?_⟩;rw[cellBlk (by rw[hB];exact Deep.blk_alloc_new w _)]
  simpa[fAx] using hu
 | i+1,hy=>simp at hy
end
section
open Go.RowKit
theorem kPicked_any (n many:Int) (w:World) (h:fit64 n) (hm:0<many) (hm':many<=1000000):Calls Tryz.prog 23 #[.int .i64 n,.int .i64 many] w fun e w'=>e=.returned (.int .i64 (pick n many))/\Below w.heap.size w w':=by
 go_enter Tryz.func23,Tryz.ntmps23
 go_wp2_with fail
 refine(picked_any n many w h.1 h.2 hm hm').mono ?_;rintro e w' ⟨rfl,rfl⟩;go_wp2
 go_ret
 exact⟨rfl,Below.refl _ _⟩
end
section
def oddR (j:Nat):Ins:=[⟨15,0,0,0⟩,⟨13,0,1,0⟩,⟨2,6,7,0⟩,⟨17,2,7,0⟩].getD j noIns
theorem first_noughts {f:Nat->Int}:∀ (n i:Nat),(∀ j,i<=j->j<i+n->f j=0)->first f n i=0
 | 0,_,_=>rfl
 | n+1,i,h=>by
  rw[first,if_neg (by simp[h i (Nat.le_refl _) (by omega)])];exact first_noughts n (i+1) fun j h1 h2=>h j (by omega) (by omega)
theorem odd_parts:∀ j,j<4->partsFault (oddR j).op (oddR j).a (oddR j).b (oddR j).n=0/\((oddR j).op≠5/\(oddR j).op≠6)/\(oddR j).n=0:=by decide
theorem odd_ins {j:Nat} (hj:j<4) {G L:Nat} (hG:0<G) (hL:1<=L):insFault G ((L+1:Nat):Int) ((0:Nat):Int) (oddR j).op (oddR j).a (oddR j).b (oddR j).n=0:=by
 obtain⟨h1,h2,h3⟩:=odd_parts j hj;refine ins_inner h1 ?_ (by rw[h3];omega) (by omega)
 unfold beside
 simp[h2.1,h2.2]
theorem later_ins {G many place op a b n:Int} (h:insFault G many place op a b n=0) (_:0<=place):insFault G (many+1) (place+1) op a b n=0:=by
 have hp:partsFault op a b n=0:=by
  by_cases hp:partsFault op a b n=0
  ·exact hp
  ·rw[ins_parts hp] at h;exact h
 have hb:beside op n place many=false:=by
  cases hb:beside op n place many with
  | false=>rfl
  | true=>rw[ins_beside hp hb] at h;omega
 have hs:¬ (op=17/\G<=n):=fun hs=>by rw[ins_spawn hp hs.1 hs.2] at h;omega
 rw[ins_rest hp hb hs] at h;have hb2:beside op n (place+1) (many+1)=false:=by
  unfold beside at hb ⊢
  cases e:(op == 5 || op == 6) with
  | false=>rfl
  | true =>
   rw[e] at hb;simp at hb ⊢;omega
 rw[ins_rest hp hb2 hs]
 split
 ·rename_i hl
  rw[if_pos ⟨by omega,hl.2⟩] at h;exact h
 ·rfl
def badOf (rows:List (List Ins)) (j:Nat):List (List Ins):=match rows with
 | []=>[]
 | r :: t=>(oddR j :: r) :: t
theorem odd_bad {k:List Int} (hk:∀ r:Nat,r<8->vAt k r=vAt kBegin r\/vAt k r=0\/(vAt k r=2/\vAt kBegin r=3)):∀ j,j<4->vMayDo (oddR j).op (oddR j).a (oddR j).b k=false:=fun j hj=>by
 have b0:vAt kBegin ((0:Nat):Int)=3:=rfl;have b1:vAt kBegin ((1:Nat):Int)=3:=rfl;have b7:vAt kBegin ((7:Nat):Int)=0:=rfl;have h0:=hk 0 (by omega);have h1:=hk 1 (by omega);have h7:=hk 7 (by omega);rw[b0] at h0;rw[b1] at h1;rw[b7] at h7;have e0:vAt k 0≠1:=by
  have:vAt k ((0:Nat):Int)≠1:=by omega
  exact this
 have e1:vAt k 1≠1:=by
  have:vAt k ((1:Nat):Int)≠1:=by omega
  exact this
 have e7:vAt k 7=0:=by
  have:vAt k ((7:Nat):Int)=0:=by omega
  exact this
 match j,hj with
 | 0,_=>simp[oddR,vMayDo,e0]
 | 1,_=>simp[oddR,vMayDo,e1]
 | 2,_=>simp[oddR,vMayDo,e7]
 | 3,_=>simp[oddR,vMayDo,e7]
theorem bad_ck {r0 r1 r2:List Ins} (h:progFault 3 (lenOf [r0,r1,r2]) (xOf [r0,r1,r2])=0) (hl:r0.length<=59) {j:Nat} (hj:j<4):ckS 3 (lenOf (badOf [r0,r1,r2] j)) (xOf (badOf [r0,r1,r2] j))=(0,0,9):=by
 obtain⟨_,hL,hI⟩:=progV_ok h;have hL0:1<=r0.length:=(hL 0 (by omega)).1;have hpf:progFault 3 (lenOf (badOf [r0,r1,r2] j)) (xOf (badOf [r0,r1,r2] j))=0:=by
  unfold progFault
  rw[if_neg (by omega),if_neg (by omega)];refine first_noughts 3 0 fun r _ hr=>?_
  have hr3:r<3:=by omega
  unfold rowFault
  have key:¬ (lenOf (badOf [r0,r1,r2] j) r<1\/60<lenOf (badOf [r0,r1,r2] j) r):=by
   match r,hr3 with
   | 0,_=>show ¬ ((oddR j :: r0).length<1\/60<(oddR j :: r0).length);simp;omega
   | 1,_=>have:=hL 1 (by omega);have e:lenOf [r0,r1,r2] 1=r1.length:=rfl;show ¬ (r1.length<1\/60<r1.length);omega
   | 2,_=>have:=hL 2 (by omega);have e:lenOf [r0,r1,r2] 2=r2.length:=rfl;show ¬ (r2.length<1\/60<r2.length);omega
  rw[if_neg key];refine first_noughts _ 0 fun i _ hi=>?_
  match r,hr3 with
  | 0,_ =>
   match i,hi with
   | 0,_=>exact odd_ins hj (by omega) hL0
   | i+1,hi =>
    have hi0:i<r0.length:=by
     have:i+1<(oddR j :: r0).length:=by simpa[lenOf,badOf] using hi
     simpa using this
    have:=later_ins (hI 0 i (by omega) hi0) (Int.natCast_nonneg i);exact this
  | 1,_ =>
   have hi1:i<r1.length:=by simpa[lenOf,badOf] using hi
   exact hI 1 i (by omega) hi1
  | 2,_ =>
   have hi1:i<r2.length:=by simpa[lenOf,badOf] using hi
   exact hI 2 i (by omega) hi1
 unfold ckS
 rw[if_neg (by simp[hpf])];have hlen:lenOf (badOf [r0,r1,r2] j) 0=r0.length+1:=rfl;obtain⟨k,q0,_,q2⟩:=(flowS_is (xOf (badOf [r0,r1,r2] j) 0) (lenOf (badOf [r0,r1,r2] j) 0)).begins (by omega);have hb:rowBad (xOf (badOf [r0,r1,r2] j) 0) (lenOf (badOf [r0,r1,r2] j) 0)=some 0:=by
  unfold rowBad
  refine firstBad_hit _ _ 0 (by omega) ?_
  unfold badAt
  rw[q0];have:=odd_bad q2 j hj
  show(!vMayDo (oddR j).op (oddR j).a (oddR j).b k)=true
  rw[this]
  rfl
 exact verRows_hit (G:=3) (r:=0) (by omega) hb
end
section
open Go.RowKit
theorem Tryz.infoCR:(Tryz.prog.info? 44).map (fun i=>(i.zero,i.size,i.bytes))=some (some (.slice none 0 0),1,24):=by kernel_rfl
theorem Tryz.infoCI:(Tryz.prog.info? 43).map (fun i=>(i.zero,i.size,i.bytes))=some (some (.agg #[.int .i64 0,.int .i64 0,.int .i64 0,.int .i64 0]),4,32):=by kernel_rfl
theorem Tryz.sizeCI:(Tryz.prog.info? 43).map (·.size)=some 4:=by kernel_rfl
def rowCells (x:Nat->Nat->Int) (n:Nat):List Value:=(List.range (n*4)).map fun j=>.int .i64 (x (j / 4) (j % 4))
theorem rowCells_length (x:Nat->Nat->Int) (n:Nat):(rowCells x n).length=n*4:=by simp[rowCells]
theorem rowCells_one (x:Nat->Nat->Int) (n:Nat):∀ v∈rowCells x n,v.oneCell'=true:=by
 intro v hv;simp only[rowCells,List.mem_map] at hv;obtain⟨j,_,rfl⟩:=hv
 rfl
theorem rowCells_src {w:World} {ao:Option Addr} {n:Nat} {x:Nat->Nat->Int} (h:RowAt w ao n x) (hn:0<n):∃ ad,ao=some ad/\∀ j v,(rowCells x n)[j]?=some v->w.cell? (ad.add j)=some v:=by
 obtain⟨b,o,rfl,_⟩:=h 0 hn;refine⟨_,rfl,fun j v hv=>?_⟩;have hj:j<n*4:=by
  have:=(List.getElem?_eq_some_iff.1 hv).1
  rwa [rowCells_length] at this
 simp only[rowCells,List.getElem?_map,List.getElem?_range hj,Option.map_some,Option.some.injEq] at hv;subst hv;obtain⟨b',o',e,hc⟩:=h (j / 4) (by omega);simp only[Option.some.injEq,Addr.mk.injEq,and_true] at e;obtain⟨rfl,rfl⟩:=e;have:=hc (j % 4) (by omega);rw[show o+j / 4*4+j % 4=o+j by omega] at this
 rw[<- this]
 congr 1
 unfold Addr.add;split <;> simp_all
theorem rowAt_of_cells {w:World} {g:Nat} {t:TypeId} {n:Nat} {x:Nat->Nat->Int} (h:w.heap[g]?=some (.cells (rowCells x n).toArray t (0,0))):RowAt w (some ⟨g,0,none⟩) n x:=fun i hi=>by
 refine⟨g,0,rfl,fun f hf=>?_⟩;have hj:i*4+f<n*4:=by omega
 simp[World.cell?,h,rowCells,List.getElem?_range hj,show(i*4+f) / 4=i by omega,show(i*4+f) % 4=f by omega]
def topOf (N:Nat) (L:Nat->Nat) (r:Nat):Nat->Value:=fun j=>if j<r then .slice (some ⟨N+3+j,0,none⟩) (L j) (L j) else .slice none 0 0
structure MadeP (w wr:World) (G:Nat) (L:Nat->Nat) (X:Nat->Nat->Nat->Int) (r:Nat):Prop where
 below:Below w.heap.size w wr
 size:wr.heap.size=w.heap.size+3+r
 res:wr.heap[w.heap.size+1]?=some (.cells #[.slice none 0 0] 38 (0,0))
 top:wr.rowIs (w.heap.size+1+1) 44 G (topOf w.heap.size L r)
 done:∀ j,j<r->wr.heap[w.heap.size+3+j]?=some (.cells (rowCells (X j) (L j)).toArray 43 (0,0))
theorem madeP_start (w:World) (v:Value) (G:Nat) (L:Nat->Nat) (X:Nat->Nat->Nat->Int) :
  MadeP w (((w.alloc (Obj.cells #[v] 38)).alloc (Obj.cells #[Value.slice none 0 0] 38)).alloc (Obj.cells (madeCells #[Value.slice none 0 0] G) 44)) G L X 0:=by
 refine⟨((((Below.refl _ _).alloc (Nat.le_refl _) _).alloc (by simp) _).alloc (by simp;omega) _),by simp,?_,?_,fun j hj=>absurd hj (Nat.not_lt_zero _)⟩
 ·rw[Deep.blk_alloc_lt _ _ _ (by simp)]
  have:=Deep.blk_alloc_new (w.alloc (Obj.cells #[v] 38)) (Obj.cells #[Value.slice none 0 0] 38)
  simpa using this
 ·have:=World.rowIs_made ((w.alloc (Obj.cells #[v] 38)).alloc (Obj.cells #[Value.slice none 0 0] 38)) (Value.slice none 0 0) G 44
  simp only[Deep.nblk_alloc] at this
  exact this.congr (fun j _=>by simp[topOf])
theorem madeP_next {w wr:World} {G:Nat} {L:Nat->Nat} {X:Nat->Nat->Nat->Int} {r:Nat} (h:MadeP w wr G L X r) (o:Array Value) :
  MadeP w (((wr.alloc (.cells o 43)).setCell ⟨w.heap.size+1+1,r,none⟩ (.slice (some ⟨w.heap.size+3+r,0,none⟩) (L r) (L r))).setRow (w.heap.size+3+r) (rowCells (X r) (L r)).toArray) G L X (r+1):=by
 have hs:=h.size;have hnew:((wr.alloc (.cells o 43)).setCell ⟨w.heap.size+1+1,r,none⟩ (.slice (some ⟨w.heap.size+3+r,0,none⟩) (L r) (L r))).heap[w.heap.size+3+r]?=some (.cells o 43 (0,0)):=by
  rw[Deep.blk_setCell_other _ _ _ _ (by show w.heap.size+3+r≠w.heap.size+1+1;omega),<- hs,Deep.blk_alloc_new]
 refine⟨below_setRow ((h.below.alloc (by omega) _).setCell (by show w.heap.size<=w.heap.size+1+1;omega) _) (by omega) _,?_,?_,?_,fun j hj=>?_⟩
 ·simp[World.setRow,World.setCell,hs];omega
 ·rw[setRow_other _ _ _ _ (by omega),Deep.blk_setCell_other _ _ _ _ (by show w.heap.size+1≠w.heap.size+1+1;omega),Deep.blk_alloc_lt _ _ _ (by omega)]
  exact h.res
 ·refine(((h.top.alloc (.cells o 43)).set r (.slice (some ⟨w.heap.size+3+r,0,none⟩) (L r) (L r))).of_block (setRow_other _ _ _ _ (by omega))).congr (fun j _=>?_)
  simp only[topOf]
  by_cases e:j=r
  ·subst e;simp
  ·rw[if_neg e]
   by_cases hlt:j<r
   ·rw[if_pos hlt,if_pos (by omega)]
   ·rw[if_neg hlt,if_neg (by omega)]
 ·by_cases e:j=r
  ·subst e
   exact setRow_heap _ _ _ _ _ _ hnew
  ·rw[setRow_other _ _ _ _ (by omega),Deep.blk_setCell_other _ _ _ _ (by show w.heap.size+3+j≠w.heap.size+1+1;omega),Deep.blk_alloc_lt _ _ _ (by omega)]
   exact h.done j (by omega)
theorem madeP_end {w wr:World} {G:Nat} {A:Nat->Option Addr} {L C:Nat->Nat} {X:Nat->Nat->Nat->Int} {ao:Option Addr} (h:MadeP w wr G L X G) (hp:ProgAt w ao G A L C X) (v:Value) :
  ProgAt (wr.setCell ⟨w.heap.size+1,0,none⟩ v) (some ⟨w.heap.size+1+1,0,none⟩) G (fun j=>some ⟨w.heap.size+3+j,0,none⟩) L L X:=by
 refine⟨fun r hr=>⟨_,_,rfl,?_⟩,fun r hr=>rowAt_of_cells (t:=43) ?_,hp.many,hp.long,hp.fits⟩
 ·rw[World.cell?_setCell_other _ _ _ _ (fun e=>by have:=congrArg Addr.block e;simp at this),Nat.zero_add,h.top.cell hr]
  simp[topOf,hr]
 ·rw[Deep.blk_setCell_other _ _ _ _ (by show w.heap.size+3+r≠w.heap.size+1;omega)]
  exact h.done r hr
theorem copyP_run {w wr:World} {G:Nat} {A:Nat->Option Addr} {L C:Nat->Nat} {X:Nat->Nat->Nat->Int} {ao:Option Addr} {r:Nat} (h:MadeP w wr G L X r) (hp:ProgAt w ao G A L C X) (hr:r<G) (M:Array Value) (hM:M.size=L r*4) :
  (Builtin.copy_ #[44,44] 3 #[.slice (some ⟨w.heap.size+3+r,0,none⟩) (L r) (L r),.slice (A r) (L r) (C r)]).run Tryz.prog
    ((wr.alloc (.cells M 43)).setCell ⟨w.heap.size+1+1,r,none⟩ (.slice (some ⟨w.heap.size+3+r,0,none⟩) (L r) (L r))) =
   .ok (goInt (L r)) (((wr.alloc (.cells M 43)).setCell ⟨w.heap.size+1+1,r,none⟩ (.slice (some ⟨w.heap.size+3+r,0,none⟩) (L r) (L r))).setRow (w.heap.size+3+r) (rowCells (X r) (L r)).toArray):=by
 have hs:=h.size;have hb:Below w.heap.size w ((wr.alloc (.cells M 43)).setCell ⟨w.heap.size+1+1,r,none⟩ (.slice (some ⟨w.heap.size+3+r,0,none⟩) (L r) (L r))) :=
  (h.below.alloc (by omega) _).setCell (by show w.heap.size<=w.heap.size+1+1;omega) _
 refine run_copy_full 4 _ 44 44 3 43 Tryz.underlying44 Tryz.sizeCI (w.heap.size+3+r) (L r) (L r) (A r) (C r) M 43 ?_ _ (rowCells_length _ _) (by rw[rowCells_length,hM]) (rowCells_src ((hp.rows r hr).keeps (Keeps.below hb))) (rowCells_one _ _);rw[Deep.blk_setCell_other _ _ _ _ (by show w.heap.size+3+r≠w.heap.size+1+1;omega),<- hs,Deep.blk_alloc_new]
theorem copyP_any (ao:Option Addr) (G cap:Nat) (A:Nat->Option Addr) (L C:Nat->Nat) (X:Nat->Nat->Nat->Int) (w:World) (hp:ProgAt w ao G A L C X) :
 Calls Tryz.prog 25 #[.agg #[.slice ao G cap]] w fun e w'=>∃ A' C',e=.returned (.agg #[.slice (some ⟨w.heap.size+1+1,0,none⟩) G G])/\ProgAt w' (some ⟨w.heap.size+1+1,0,none⟩) G A' L C' X/\Below w.heap.size w w'/\w'.rowIs (w.heap.size+1+1) 44 G (topOf w.heap.size L G):=by
 have hG:=hp.many;have hmk22:=run_make_row' (P:=Tryz.prog) 36 44 (.slice none 0 0) 24 Tryz.underlying36 Tryz.infoCR rfl .i64 .i64 G hG (by omega)
 go_enter Tryz.func25,Tryz.ntmps25
 go_wp2
 clear hmk22
 go_loopg [13,4,5] G (fun g s13 s4 s5 wr=>∃ r:Nat,r<=G/\g=G-r/\s13=.int .i64 r/\MadeP w wr G L X r)
 case atStart=>exact⟨0,Nat.zero_le _,rfl,rfl,madeP_start w _ G L X⟩
 case round =>
  obtain⟨r,hr,rfl,rfl,hM⟩:=hrel
  by_cases hrG:r<G
  ·obtain⟨ba,oa,rfl,hca⟩:=hp.outer r hrG
   have hL:=hp.long r hrG;have hrz:(r:Int)<(G:Int):=by omega
   obtain⟨M,hMz,hmk⟩:∃ M:Array Value,M.size=L r*4/\∀ w,(Instr.makeSlice 44 (.int .i64 (L r:Int)) (.int .i64 (L r:Int))).run Tryz.prog w=.ok (.slice (some ⟨w.heap.size,0,none⟩) (L r) (L r)) (w.alloc (.cells M 43)) :=
    ⟨_,size_madeCells _ _,run_make_rowk (P:=Tryz.prog) 4 44 43 _ 32 Tryz.underlying44 Tryz.infoCI .i64 .i64 (L r) hL (by omega)⟩
   have g0:wr.cell? ⟨ba,oa+r,none⟩=some (.slice (A r) (L r) (C r)):=cell_later hM.below hca;have hst1:∀ o,(wr.alloc o).cell? ⟨w.heap.size+1+1,r,none⟩=some (topOf w.heap.size L r r):=fun o=>(hM.top.alloc o).cell hrG
   have hst2:∀ o,(wr.alloc o).frozen? ⟨w.heap.size+1+1,r,none⟩=false:=fun o=>(hM.top.alloc o).frozen r
   have hsize:=hM.size;have hcp:=copyP_run hM hp hrG M hMz;go_wp2
   clear hcp hmk hst1 hst2 g0
   go_roundg (G-(r+1))
   case measure=>go_light;omega
   case rel=>go_light;exact⟨r+1,by omega,rfl,by go_num,madeP_next hM M⟩
  ·have c1:wr.cell? ⟨w.heap.size+1,0,none⟩=some (.slice none 0 0):=by simp[World.cell?,hM.res]
   have c2:wr.frozen? ⟨w.heap.size+1,0,none⟩=false:=by simp[World.frozen?,hM.res]
   obtain rfl:r=G:=by omega
   go_wp2
   refine bodyPost_ret (v:=.agg #[.slice (some ⟨w.heap.size+1+1,0,none⟩) r r]) ?_ rfl ?_
   ·have e:=World.cell?_setCell_same wr ⟨w.heap.size+1,0,none⟩ (.slice (some ⟨w.heap.size+1+1,0,none⟩) r r) c1
    simp[results,Tryz.results25,go_sem,e]
   ·exact⟨_,_,rfl,madeP_end hM hp _,hM.below.setCell (by show w.heap.size<=w.heap.size+1;omega) _,hM.top.of_block (Deep.blk_setCell_other _ _ _ _ (by show w.heap.size+1+1≠w.heap.size+1;omega))⟩
end
section
open Go.RowKit
theorem worldTells_any (w:World) (hT:TabAt 0 w):Calls Tryz.prog 18 #[] w fun e w'=>e=.returned (.bool true)/\Below w.heap.size w w':=by
 go_enter Tryz.func18,Tryz.ntmps18
 go_wp2_with fail
 refine(kprogram_any [] none 0 2 w ((fun i v hi=>by simp at hi)) (by simp) (by omega) hT).mono ?_;rintro e w1 ⟨ao,cap,rfl,hb1,hK⟩;obtain⟨A,C,hP,hck,hpf⟩:=program_prog (by omega) hK
 go_wp2_with fail
 refine(anew_any ao 3 cap A _ C _ 10 _ (hT.keeps (Keeps.below hb1)) hP).mono ?_;rintro e w2 ⟨aa,ca,rfl,hb2,_,_⟩;have hE:wnewE 3 (lenOf (programS [] 2)) (xOf (programS [] 2)) 10=0:=by
  unfold wnewE
  rw[hck]
  rfl
 have hV:wnew 3 (lenOf (programS [] 2)) (xOf (programS [] 2)) 10=newW 10:=by
  unfold wnew
  rw[if_pos hE]
 rw[hE,hV];have hb3:=hb1.trans (hb2.mono hb1.size);clear hP hK hck hpf hb1 hb2 hT hE hV;simp only[newW,List.length_cons,List.length_nil];go_wp2
 go_ret
 exact⟨rfl,hb3.alloc hb3.size _⟩
end
end Go.Proofs.YtepifccbbmdfcaaGreatDoor
