/- WOwn7. -/
import Derived.Test.YtepifccbbmdfcaaGreatDoorCBHTransfer
namespace Go.Proofs.YtepifccbbmdfcaaGreatDoor
open Go.RowKit
section
variable {P:Program} {ops:Array Oper} {Q:Exit->Act->World->Prop} {md:Region.Mode} {S:World->Prop} {need:Nat->Bool}
theorem wpAnyN_four {i j l m:Nat} {oi oj ol om:Oper} {fuel:Nat} {listed:Array Bool} {a:Act} {w:World} (hr:Region.ready md ops listed=[i,j,l,m]) (hi:ops[i]?=some oi) (hj:ops[j]?=some oj) (hl:ops[l]?=some ol) (hm:ops[m]?=some om)
  (h1:∀ K':Act->World->Prop,Rst P md ops Q S need fuel listed i K'->if Region.wanted oi (yielded ops a.tmps)=true then Oper.wp P oi a w K' Q else K' (a.put oi.dst undef) w)
  (h2:∀ K':Act->World->Prop,Rst P md ops Q S need fuel listed j K'->if Region.wanted oj (yielded ops a.tmps)=true then Oper.wp P oj a w K' Q else K' (a.put oj.dst undef) w)
  (h3:∀ K':Act->World->Prop,Rst P md ops Q S need fuel listed l K'->if Region.wanted ol (yielded ops a.tmps)=true then Oper.wp P ol a w K' Q else K' (a.put ol.dst undef) w)
  (h4:∀ K':Act->World->Prop,Rst P md ops Q S need fuel listed m K'->if Region.wanted om (yielded ops a.tmps)=true then Oper.wp P om a w K' Q else K' (a.put om.dst undef) w) :
  wpAnyN P md ops Q S need (fuel+1) listed a w :=
 ⟨fun h0=>(by rw[hr] at h0;cases h0),fun k hk=>by
  rw[hr] at hk;simp only[List.mem_cons,List.not_mem_nil,or_false] at hk
  rcases hk with rfl | rfl | rfl | rfl
  ·exact wpOp_step hi (fun K' hK=>h1 K' (fun a w hS hW=>hK a w ⟨hS,hW⟩))
  ·exact wpOp_step hj (fun K' hK=>h2 K' (fun a w hS hW=>hK a w ⟨hS,hW⟩))
  ·exact wpOp_step hl (fun K' hK=>h3 K' (fun a w hS hW=>hK a w ⟨hS,hW⟩))
  ·exact wpOp_step hm (fun K' hK=>h4 K' (fun a w hS hW=>hK a w ⟨hS,hW⟩))⟩
theorem foN (i j l m:Nat) {oi oj ol om pi pj pl pm:Oper} {fuel:Nat} {listed:Array Bool} {a:Act} {w:World}
  (h1:∀ K':Act->World->Prop,Rst P md ops Q S need fuel listed i K'->if Region.wanted pi (yielded ops a.tmps)=true then Oper.wp P pi a w K' Q else K' (a.put pi.dst undef) w)
  (h2:∀ K':Act->World->Prop,Rst P md ops Q S need fuel listed j K'->if Region.wanted pj (yielded ops a.tmps)=true then Oper.wp P pj a w K' Q else K' (a.put pj.dst undef) w)
  (h3:∀ K':Act->World->Prop,Rst P md ops Q S need fuel listed l K'->if Region.wanted pl (yielded ops a.tmps)=true then Oper.wp P pl a w K' Q else K' (a.put pl.dst undef) w)
  (h4:∀ K':Act->World->Prop,Rst P md ops Q S need fuel listed m K'->if Region.wanted pm (yielded ops a.tmps)=true then Oper.wp P pm a w K' Q else K' (a.put pm.dst undef) w)
  (hr:Region.ready md ops listed=[i,j,l,m]:=by kernel_rfl)
  (hi:ops[i]?=some oi:=by rfl) (ei:oi=pi:=by(try simp only[List.getElem_toArray,List.getElem_cons_zero,List.getElem_cons_succ]);exact rfl)
  (hj:ops[j]?=some oj:=by rfl) (ej:oj=pj:=by(try simp only[List.getElem_toArray,List.getElem_cons_zero,List.getElem_cons_succ]);exact rfl)
  (hl:ops[l]?=some ol:=by rfl) (el:ol=pl:=by(try simp only[List.getElem_toArray,List.getElem_cons_zero,List.getElem_cons_succ]);exact rfl)
  (hm:ops[m]?=some om:=by rfl) (em:om=pm:=by(try simp only[List.getElem_toArray,List.getElem_cons_zero,List.getElem_cons_succ]);exact rfl)
  : wpAnyN P md ops Q S need (fuel+1) listed a w :=
 wpAnyN_four hr (hi.trans (congrArg some ei)) (hj.trans (congrArg some ej)) (hl.trans (congrArg some el)) (hm.trans (congrArg some em)) h1 h2 h3 h4
end
structure Tx (W c:World) (o1 o2 o3:Obj) (x1 x2 x3:Option Nat) (cc:Option (Nat × Nat × (Value × List (Value × Ob)) × (Value × List (Value × Ob)))):Prop where
 below:Below W.heap.size W c
 a1:∀ G,x1=some G->W.heap.size<=G/\c.heap[G]?=some o1
 a2:∀ G,x2=some G->W.heap.size<=G/\c.heap[G]?=some o2
 a3:∀ G,x3=some G->W.heap.size<=G/\c.heap[G]?=some o3
 n12:∀ G,x1=some G->x2≠some G
 n13:∀ G,x1=some G->x3≠some G
 n23:∀ G,x2=some G->x3≠some G
 own:∀ B T p q,cc=some (B,T,p,q)->W.heap.size<=B/\T<=c.heap.size/\HeapOwn c B p.1 p.2/\HeapOwn c B q.1 q.2/\(∀ b∈vB p.1++rowsB p.2,b<T)/\(∀ b∈vB q.1++rowsB q.2,b<T)/\∀ G,x1=some G\/x2=some G\/x3=some G->G<B\/T<=G
section
variable {W c n:World} {o1 o2 o3:Obj} {x1 x2 x3:Option Nat} {cc:Option (Nat × Nat × (Value × List (Value × Ob)) × (Value × List (Value × Ob)))}
theorem Tx.start (h:Below W.heap.size W c):Tx W c o1 o2 o3 none none none none:=⟨h,by simp,by simp,by simp,by simp,by simp,by simp,by simp⟩
theorem Tx.lt (h:Tx W c o1 o2 o3 x1 x2 x3 cc):(∀ G,x1=some G->G<c.heap.size)/\(∀ G,x2=some G->G<c.heap.size)/\∀ G,x3=some G->G<c.heap.size :=
 ⟨fun G e=>(Array.getElem?_eq_some_iff.1 (h.a1 G e).2).1,fun G e=>(Array.getElem?_eq_some_iff.1 (h.a2 G e).2).1,fun G e=>(Array.getElem?_eq_some_iff.1 (h.a3 G e).2).1⟩
theorem Tx.keep (h:Tx W c o1 o2 o3 x1 x2 x3 cc) (hb:Below c.heap.size c n):Tx W n o1 o2 o3 x1 x2 x3 cc :=
 ⟨h.below.trans (hb.mono h.below.size),fun G e=>⟨(h.a1 G e).1,(hb.block _ (h.lt.1 G e)).trans (h.a1 G e).2⟩,fun G e=>⟨(h.a2 G e).1,(hb.block _ (h.lt.2.1 G e)).trans (h.a2 G e).2⟩,fun G e=>⟨(h.a3 G e).1,(hb.block _ (h.lt.2.2 G e)).trans (h.a3 G e).2⟩,h.n12,h.n13,h.n23,fun B T p q e=>by
  obtain⟨k1,k2,k3,k4,k5⟩:=h.own B T p q e;exact⟨k1,Nat.le_trans k2 hb.size,k3.below hb,k4.below hb,k5⟩⟩
theorem Tx.al1 (h:Tx W c o1 o2 o3 none x2 x3 cc):∃ n G,c.alloc o1=n/\c.heap.size=G/\Tx W n o1 o2 o3 (some G) x2 x3 cc:=by
 have k:=h.keep (below_box c o1);obtain⟨_,l2,l3⟩:=h.lt;refine⟨_,_,rfl,rfl,k.below,fun G e=>?_,k.a2,k.a3,fun G e e2=>?_,fun G e e2=>?_,k.n23,fun B T p q e=>?_⟩
 ·obtain rfl:c.heap.size=G:=by simpa using e
  exact⟨h.below.size,Deep.blk_alloc_new c o1⟩
 ·have:=l2 G e2;simp at e;omega
 ·have:=l3 G e2;simp at e;omega
 ·obtain⟨m1,m2,m3,m4,m5,m6,m7⟩:=k.own B T p q e
  have ht:=(h.own B T p q e).2.1;exact⟨m1,m2,m3,m4,m5,m6,fun G hG=>by
   rcases hG with hG | hG
   ·simp at hG;omega
   ·exact m7 G (.inr hG)⟩
theorem Tx.al2 (h:Tx W c o1 o2 o3 x1 none x3 cc):∃ n G,c.alloc o2=n/\c.heap.size=G/\Tx W n o1 o2 o3 x1 (some G) x3 cc:=by
 have k:=h.keep (below_box c o2);obtain⟨l1,_,l3⟩:=h.lt;refine⟨_,_,rfl,rfl,k.below,k.a1,fun G e=>?_,k.a3,fun G e2 e=>?_,k.n13,fun G e e2=>?_,fun B T p q e=>?_⟩
 ·obtain rfl:c.heap.size=G:=by simpa using e
  exact⟨h.below.size,Deep.blk_alloc_new c o2⟩
 ·have:=l1 G e2;simp at e;omega
 ·have:=l3 G e2;simp at e;omega
 ·obtain⟨m1,m2,m3,m4,m5,m6,m7⟩:=k.own B T p q e
  have ht:=(h.own B T p q e).2.1;exact⟨m1,m2,m3,m4,m5,m6,fun G hG=>by
   rcases hG with hG | hG | hG
   ·exact m7 G (.inl hG)
   ·simp at hG;omega
   ·exact m7 G (.inr (.inr hG))⟩
theorem Tx.al3 (h:Tx W c o1 o2 o3 x1 x2 none cc):∃ n G,c.alloc o3=n/\c.heap.size=G/\Tx W n o1 o2 o3 x1 x2 (some G) cc:=by
 have k:=h.keep (below_box c o3);obtain⟨l1,l2,_⟩:=h.lt;refine⟨_,_,rfl,rfl,k.below,k.a1,k.a2,fun G e=>?_,k.n12,fun G e2 e=>?_,fun G e2 e=>?_,fun B T p q e=>?_⟩
 ·obtain rfl:c.heap.size=G:=by simpa using e
  exact⟨h.below.size,Deep.blk_alloc_new c o3⟩
 ·have:=l1 G e2;simp at e;omega
 ·have:=l2 G e2;simp at e;omega
 ·obtain⟨m1,m2,m3,m4,m5,m6,m7⟩:=k.own B T p q e
  have ht:=(h.own B T p q e).2.1;exact⟨m1,m2,m3,m4,m5,m6,fun G hG=>by
   rcases hG with hG | hG | hG
   ·exact m7 G (.inl hG)
   ·exact m7 G (.inr (.inl hG))
   ·simp at hG;omega⟩
theorem Tx.call (h:Tx W c o1 o2 o3 x1 x2 x3 none) (hb:Below c.heap.size c n) {v1 v2:Value} {r1 r2:List (Value × Ob)} (h1:HeapOwn n c.heap.size v1 r1) (h2:HeapOwn n c.heap.size v2 r2) :
  ∃ B T,Tx W n o1 o2 o3 x1 x2 x3 (some (B,T,(v1,r1),(v2,r2))):=by
 have k:=h.keep hb;refine⟨c.heap.size,n.heap.size,k.below,k.a1,k.a2,k.a3,k.n12,k.n13,k.n23,fun B T p q e=>?_⟩;simp only[Option.some.injEq,Prod.mk.injEq] at e;obtain⟨rfl,rfl,rfl,rfl⟩:=e;refine⟨h.below.size,Nat.le_refl _,h1,h2,fun b hb=>(h1.blk_le b hb).2,fun b hb=>(h2.blk_le b hb).2,fun G hG=>.inl ?_⟩
 rcases hG with hG | hG | hG
 ·exact h.lt.1 G hG
 ·exact h.lt.2.1 G hG
 ·exact h.lt.2.2 G hG
theorem Tx.out {G1 G2 G3 B T:Nat} {v1 v2:Value} {r1 r2:List (Value × Ob)} (h:Tx W c o1 o2 o3 (some G1) (some G2) (some G3) (some (B,T,(v1,r1),(v2,r2)))) :
  Below W.heap.size W c/\(W.heap.size<=G1/\c.heap[G1]?=some o1/\(G1<B\/T<=G1))/\(W.heap.size<=G2/\c.heap[G2]?=some o2/\(G2<B\/T<=G2))/\(W.heap.size<=G3/\c.heap[G3]?=some o3/\(G3<B\/T<=G3))/\(G1≠G2/\G1≠G3/\G2≠G3)/\W.heap.size<=B/\HeapOwn c B v1 r1/\HeapOwn c B v2 r2/\(∀ b∈vB v1++rowsB r1,b<T)/\∀ b∈vB v2++rowsB r2,b<T:=by
 obtain⟨m1,_,m3,m4,m5,m6,m7⟩:=h.own B T _ _ rfl;exact⟨h.below,⟨(h.a1 G1 rfl).1,(h.a1 G1 rfl).2,m7 G1 (.inl rfl)⟩,⟨(h.a2 G2 rfl).1,(h.a2 G2 rfl).2,m7 G2 (.inr (.inl rfl))⟩,⟨(h.a3 G3 rfl).1,(h.a3 G3 rfl).2,m7 G3 (.inr (.inr rfl))⟩,
  ⟨fun e=>h.n12 G1 rfl (by rw[e]),fun e=>h.n13 G1 rfl (by rw[e]),fun e=>h.n23 G2 rfl (by rw[e])⟩,m1,m3,m4,m5,m6⟩
end
theorem heaps_apart {w:World} {B1 B2:Nat} {v1 v2:Value} {r1 r2:List (Value × Ob)} (h:HeapsApart v1 r1 v2 r2) (h1:HeapOwn w B1 v1 r1) (h2:HeapOwn w B2 v2 r2):∀ b∈vB v1++rowsB r1,b∉vB v2++rowsB r2:=fun b hb hb'=>by
 rcases List.mem_append.1 hb with hb | hb
 ·rcases List.mem_append.1 hb' with hb' | hb'
  ·rw[mem_vB] at hb hb'
   rcases h.1 with q | q
   ·rw[q] at hb;cases hb
   ·exact q (hb.trans hb'.symm)
  ·obtain⟨q,hq,hb'⟩:=List.mem_flatMap.1 hb'
   obtain⟨i,hi⟩:=List.mem_iff_getElem?.1 hq;rw[mem_vB] at hb hb'
   rcases owns_other h1.top (h2.row i q hi).1 (Ne.symm tne) with k | k
   ·rw[k] at hb;cases hb
   ·exact k (hb.trans hb'.symm)
 ·obtain⟨p,hp,hb⟩:=List.mem_flatMap.1 hb
  obtain⟨j,hj⟩:=List.mem_iff_getElem?.1 hp;rw[mem_vB] at hb
  rcases List.mem_append.1 hb' with hb' | hb'
  ·rw[mem_vB] at hb'
   rcases owns_other h2.top (h1.row j p hj).1 (Ne.symm tne) with k | k
   ·rw[k] at hb';cases hb'
   ·exact k (hb'.trans hb.symm)
  ·obtain⟨q,hq,hb'⟩:=List.mem_flatMap.1 hb'
   rw[mem_vB] at hb'
   rcases h.2 p hp q hq with k | k
   ·rw[k] at hb;cases hb
   ·exact k (hb.trans hb'.symm)
theorem WdOwn.newHeap3 {w w0:World} {base Bw:Nat} {V:Wd} {av pv:Value} {fl:List Fa} {rs:List (List (Value × Ob))} {j:Nat} {x:Ac} (h:WdOwn w base Bw V av pv fl rs) (hx:V.acts[j]?=some x) {g n c:Nat} (hav:av=.slice (some ⟨g,0,none⟩) n c) {M:Int} {oa:Option Addr} {on oc B:Nat} {s:List (Value × Ob)} {l:List Ob} (hs:s.map (·.2)=l)
  (hon:on=l.length) (hH:HeapOwn w B (.slice oa on oc) s) (hbase:base<=B) (hdis:∀ b∈vB (.slice oa on oc)++rowsB s,b∉wdFoot Bw av pv fl rs) {F:List Nat} (hM:Moved w0 w F (wdFoot Bw av pv fl rs)) (hB0:w0.heap.size<=B) :
  ∃ fl' rs',WdOwn ((w.setCell ⟨g,j*8+2,none⟩ (.int .i64 M)).setCell ⟨g,j*8+3,none⟩ (.slice oa on oc)) base Bw { V with acts:=V.acts.set j (x.heap M l) } av pv fl' rs'/\Moved w0 ((w.setCell ⟨g,j*8+2,none⟩ (.int .i64 M)).setCell ⟨g,j*8+3,none⟩ (.slice oa on oc)) F (wdFoot Bw av pv fl' rs') /\
   ∀ b∈wdFoot Bw av pv fl' rs',b∈wdFoot Bw av pv fl rs\/b∈vB (.slice oa on oc)++rowsB s:=by
 subst hon;have hj:=(List.getElem?_eq_some_iff.1 hx).1;obtain⟨fa,hfa⟩:=at_some (l:=fl) (i:=j) (by rw[h.flen];exact hj);obtain⟨r,hr⟩:=at_some (l:=rs) (i:=j) (by rw[h.rlen];exact hj);have hgw:g∈wdFoot Bw av pv fl rs:=List.mem_append_left _ (by simp[mem_vB,hav,Value.ownBlock]);have hbl:=hH.blk_le;have hsub:∀ b∈wdFoot Bw av pv (fl.set j { fa with M:=M,oa:=oa,on:=l.length,oc:=oc }) (rs.set j s),b∈wdFoot Bw av pv fl rs\/b∈vB (.slice oa l.length oc)++rowsB s:=fun b hb'=>by
  rcases wdFoot_set hb' with h1 | h1
  ·exact .inl h1
  ·rcases List.mem_append.1 h1 with h2 | h2
   ·exact .inr h2
   ·exact .inl (List.mem_append_right _ (mem_actsFoot hfa hr (List.mem_append_right _ h2)))
 refine⟨_,_,h.setHeap hfa hr hx hav hs (hH.base hbase) hdis,⟨hM.os,hM.tape,hM.output,by rw[two_size];exact hM.size,fun b hb1 hb2=>?_,fun b hb'=>?_⟩,hsub⟩
 ·rw[two_other _ _ _ _ (fun e=>by subst e;rcases hM.sub b hgw with h1 | h1;exact hb2 h1;omega)]
  exact hM.keep b hb1 hb2
 ·rcases hsub b hb' with h1 | h1
  ·exact hM.sub b h1
  ·exact .inr (Nat.le_trans hB0 (hbl b h1).1)
end Go.Proofs.YtepifccbbmdfcaaGreatDoor
