/- WOwn7. -/
import Derived.Test.YtddokajfafmhhaaGreatDoorCASmall
import Derived.Test.YtddokajfafmhhaaGreatDoorCAFinish
import Derived.Test.YtddokajfafmhhaaGreatDoorCHTransfer
namespace Go.Proofs.YtddokajfafmhhaaGreatDoor
open Go.RowKit
section
variable {P:Program} {ops:Array Oper} {Q:Exit → Act → World → Prop} {md:Region.Mode} {S:World → Prop} {need:Nat → Bool}
theorem wpAnyN_four {i j l m:Nat} {oi oj ol om:Oper} {fuel:Nat} {listed:Array Bool} {a:Act} {w:World} (hr:Region.ready md ops listed = [i,j,l,m]) (hi:ops[i]? = some oi) (hj:ops[j]? = some oj) (hl:ops[l]? = some ol) (hm:ops[m]? = some om)
  (h1:∀ K':Act → World → Prop,Rst P md ops Q S need fuel listed i K' → if Region.wanted oi (yielded ops a.tmps) = true then Oper.wp P oi a w K' Q else K' (a.put oi.dst undef) w)
  (h2:∀ K':Act → World → Prop,Rst P md ops Q S need fuel listed j K' → if Region.wanted oj (yielded ops a.tmps) = true then Oper.wp P oj a w K' Q else K' (a.put oj.dst undef) w)
  (h3:∀ K':Act → World → Prop,Rst P md ops Q S need fuel listed l K' → if Region.wanted ol (yielded ops a.tmps) = true then Oper.wp P ol a w K' Q else K' (a.put ol.dst undef) w)
  (h4:∀ K':Act → World → Prop,Rst P md ops Q S need fuel listed m K' → if Region.wanted om (yielded ops a.tmps) = true then Oper.wp P om a w K' Q else K' (a.put om.dst undef) w) :
  wpAnyN P md ops Q S need (fuel + 1) listed a w :=
 ⟨fun h0 => (by rw [hr] at h0; cases h0),fun k hk => by
  rw [hr] at hk
  simp only [List.mem_cons,List.not_mem_nil,or_false] at hk
  rcases hk with rfl | rfl | rfl | rfl
  ·exact wpOp_step hi (fun K' hK => h1 K' (fun a w hS hW => hK a w ⟨hS,hW⟩))
  ·exact wpOp_step hj (fun K' hK => h2 K' (fun a w hS hW => hK a w ⟨hS,hW⟩))
  ·exact wpOp_step hl (fun K' hK => h3 K' (fun a w hS hW => hK a w ⟨hS,hW⟩))
  ·exact wpOp_step hm (fun K' hK => h4 K' (fun a w hS hW => hK a w ⟨hS,hW⟩))⟩
theorem foN (i j l m:Nat) {oi oj ol om pi pj pl pm:Oper} {fuel:Nat} {listed:Array Bool} {a:Act} {w:World}
  (h1:∀ K':Act → World → Prop,Rst P md ops Q S need fuel listed i K' → if Region.wanted pi (yielded ops a.tmps) = true then Oper.wp P pi a w K' Q else K' (a.put pi.dst undef) w)
  (h2:∀ K':Act → World → Prop,Rst P md ops Q S need fuel listed j K' → if Region.wanted pj (yielded ops a.tmps) = true then Oper.wp P pj a w K' Q else K' (a.put pj.dst undef) w)
  (h3:∀ K':Act → World → Prop,Rst P md ops Q S need fuel listed l K' → if Region.wanted pl (yielded ops a.tmps) = true then Oper.wp P pl a w K' Q else K' (a.put pl.dst undef) w)
  (h4:∀ K':Act → World → Prop,Rst P md ops Q S need fuel listed m K' → if Region.wanted pm (yielded ops a.tmps) = true then Oper.wp P pm a w K' Q else K' (a.put pm.dst undef) w)
  (hr:Region.ready md ops listed = [i,j,l,m]:=by kernel_rfl)
  (hi:ops[i]? = some oi:=by rfl) (ei:oi = pi:=by (try simp only [List.getElem_toArray,List.getElem_cons_zero,List.getElem_cons_succ]); exact rfl)
  (hj:ops[j]? = some oj:=by rfl) (ej:oj = pj:=by (try simp only [List.getElem_toArray,List.getElem_cons_zero,List.getElem_cons_succ]); exact rfl)
  (hl:ops[l]? = some ol:=by rfl) (el:ol = pl:=by (try simp only [List.getElem_toArray,List.getElem_cons_zero,List.getElem_cons_succ]); exact rfl)
  (hm:ops[m]? = some om:=by rfl) (em:om = pm:=by (try simp only [List.getElem_toArray,List.getElem_cons_zero,List.getElem_cons_succ]); exact rfl)
  : wpAnyN P md ops Q S need (fuel + 1) listed a w :=
 wpAnyN_four hr (hi.trans (congrArg some ei)) (hj.trans (congrArg some ej)) (hl.trans (congrArg some el)) (hm.trans (congrArg some em)) h1 h2 h3 h4
end
theorem newBox {W c:World} (hB:Below W.heap.size W c) (o:Obj):∃ (n:World) (G:Nat),c.alloc o = n ∧ c.heap.size = G ∧ Below c.heap.size c n ∧ Below W.heap.size W n ∧ n.heap[G]? = some o ∧ W.heap.size ≤ G ∧ (∀ {b:Nat} {x:Obj},c.heap[b]? = some x → b < G) :=
 ⟨_,_,rfl,rfl,below_box c o,hB.trans ((below_box c o).mono hB.size),Deep.blk_alloc_new c o,hB.size,fun h => (Array.getElem?_eq_some_iff.1 h).1⟩
theorem bkp {c n:World} (h:Below c.heap.size c n) {b:Nat} {x:Obj} (m:c.heap[b]? = some x):n.heap[b]? = some x :=
 (h.block _ (Array.getElem?_eq_some_iff.1 m).1).trans m
theorem ownTwo {W c n:World} (hB:Below W.heap.size W c) {v1 v2:Value} {r1 r2:List (Value × Ob)} (h1:HeapOwn n c.heap.size v1 r1) (h2:HeapOwn n c.heap.size v2 r2) :
  ∃ BB TT,HeapOwn n BB v1 r1 ∧ HeapOwn n BB v2 r2 ∧ W.heap.size ≤ BB ∧ (∀ {b:Nat} {x:Obj},c.heap[b]? = some x → b < BB) ∧ (∀ b ∈ vB v1 ++ rowsB r1,b < TT) ∧ (∀ b ∈ vB v2 ++ rowsB r2,b < TT) ∧ TT ≤ n.heap.size :=
 ⟨_,_,h1,h2,hB.size,fun h => (Array.getElem?_eq_some_iff.1 h).1,fun b hb => (h1.blk_le b hb).2,fun b hb => (h2.blk_le b hb).2,Nat.le_refl _⟩
theorem heaps_apart {w:World} {B1 B2:Nat} {v1 v2:Value} {r1 r2:List (Value × Ob)} (h:HeapsApart v1 r1 v2 r2) (h1:HeapOwn w B1 v1 r1) (h2:HeapOwn w B2 v2 r2):∀ b ∈ vB v1 ++ rowsB r1,b ∉ vB v2 ++ rowsB r2:=fun b hb hb' => by
 rcases List.mem_append.1 hb with hb | hb
 ·rcases List.mem_append.1 hb' with hb' | hb'
  ·rw [mem_vB] at hb hb'
   rcases h.1 with q | q
   ·rw [q] at hb; cases hb
   ·exact q (hb.trans hb'.symm)
  ·obtain ⟨q,hq,hb'⟩:=List.mem_flatMap.1 hb'
   obtain ⟨i,hi⟩:=List.mem_iff_getElem?.1 hq
   rw [mem_vB] at hb hb'
   rcases owns_other h1.top (h2.row i q hi).1 (Ne.symm tne) with k | k
   ·rw [k] at hb; cases hb
   ·exact k (hb.trans hb'.symm)
 ·obtain ⟨p,hp,hb⟩:=List.mem_flatMap.1 hb
  obtain ⟨j,hj⟩:=List.mem_iff_getElem?.1 hp
  rw [mem_vB] at hb
  rcases List.mem_append.1 hb' with hb' | hb'
  ·rw [mem_vB] at hb'
   rcases owns_other h2.top (h1.row j p hj).1 (Ne.symm tne) with k | k
   ·rw [k] at hb'; cases hb'
   ·exact k (hb'.trans hb.symm)
  ·obtain ⟨q,hq,hb'⟩:=List.mem_flatMap.1 hb'
   rw [mem_vB] at hb'
   rcases h.2 p hp q hq with k | k
   ·rw [k] at hb; cases hb
   ·exact k (hb.trans hb'.symm)
theorem WdOwn.newHeap3 {w w0:World} {base Bw:Nat} {V:Wd} {av pv:Value} {fl:List Fa} {rs:List (List (Value × Ob))} {j:Nat} {x:Ac} (h:WdOwn w base Bw V av pv fl rs) (hx:V.acts[j]? = some x) {g n c:Nat} (hav:av = .slice (some ⟨g,0,none⟩) n c) {M:Int} {oa:Option Addr} {on oc B:Nat} {s:List (Value × Ob)} {l:List Ob} (hs:s.map (·.2) = l)
  (hon:on = l.length) (hH:HeapOwn w B (.slice oa on oc) s) (hbase:base ≤ B) (hdis:∀ b ∈ vB (.slice oa on oc) ++ rowsB s,b ∉ wdFoot Bw av pv fl rs) {F:List Nat} (hM:Moved w0 w F (wdFoot Bw av pv fl rs)) (hB0:w0.heap.size ≤ B) :
  ∃ fl' rs',WdOwn ((w.setCell ⟨g,j * 8 + 2,none⟩ (.int .i64 M)).setCell ⟨g,j * 8 + 3,none⟩ (.slice oa on oc)) base Bw { V with acts:=V.acts.set j (x.heap M l) } av pv fl' rs' ∧ Moved w0 ((w.setCell ⟨g,j * 8 + 2,none⟩ (.int .i64 M)).setCell ⟨g,j * 8 + 3,none⟩ (.slice oa on oc)) F (wdFoot Bw av pv fl' rs') ∧
   ∀ b ∈ wdFoot Bw av pv fl' rs',b ∈ wdFoot Bw av pv fl rs ∨ b ∈ vB (.slice oa on oc) ++ rowsB s:=by
 subst hon
 have hj:=(List.getElem?_eq_some_iff.1 hx).1
 obtain ⟨fa,hfa⟩:=at_some (l:=fl) (i:=j) (by rw [h.flen]; exact hj)
 obtain ⟨r,hr⟩:=at_some (l:=rs) (i:=j) (by rw [h.rlen]; exact hj)
 have hgw:g ∈ wdFoot Bw av pv fl rs:=List.mem_append_left _ (by simp [mem_vB,hav,Value.ownBlock])
 have hbl:=hH.blk_le
 have hsub:∀ b ∈ wdFoot Bw av pv (fl.set j { fa with M:=M,oa:=oa,on:=l.length,oc:=oc }) (rs.set j s),b ∈ wdFoot Bw av pv fl rs ∨ b ∈ vB (.slice oa l.length oc) ++ rowsB s:=fun b hb' => by
  rcases wdFoot_set hb' with h1 | h1
  ·exact .inl h1
  ·rcases List.mem_append.1 h1 with h2 | h2
   ·exact .inr h2
   ·exact .inl (List.mem_append_right _ (mem_actsFoot hfa hr (List.mem_append_right _ h2)))
 refine ⟨_,_,h.setHeap hfa hr hx hav hs (hH.base hbase) hdis,⟨hM.os,hM.tape,hM.output,by rw [two_size]; exact hM.size,fun b hb1 hb2 => ?_,fun b hb' => ?_⟩,hsub⟩
 ·rw [two_other _ _ _ _ (fun e => by subst e; rcases hM.sub b hgw with h1 | h1; exact hb2 h1; omega)]
  exact hM.keep b hb1 hb2
 ·rcases hsub b hb' with h1 | h1
  ·exact hM.sub b h1
  ·exact .inr (Nat.le_trans hB0 (hbl b h1).1)
end Go.Proofs.YtddokajfafmhhaaGreatDoor
