/- HForm2. -/
import Derived.Test.YtihpkcccfgbcmaaGreatDoorCBVCheck
import Derived.Test.YtihpkcccfgbcmaaGreatDoorCBVFlow
namespace Go.Proofs.YtihpkcccfgbcmaaGreatDoor
set_option maxRecDepth 100000
set_option maxHeartbeats 8000000
section
theorem visits_append (o:List Int) (a b:List Vl):visits o (a++b)=visits (visits o a) b:=by simp[visits,List.foldl_append]
end
section
section
variable {l l':List Ob} {f:Int->Int} {S:Int->Prop}
end
theorem bfs_fuel {M:Int} {l:List Ob} {r:List Vl} (h:hMay M l r=true):∀ (F F' i:Nat) (o:List Int),Ok l.length o->l.length<=F+i->F<=F'->bfs l F' i o=bfs l F i o
 | 0,F',i,o,ho,hF,_=>by
  have:=ho.len
  cases F' with
  | zero=>rfl
  | succ F' =>
   have hn:o[i]?=none:=List.getElem?_eq_none (by omega)
   show(match o[i]? with | none=>o | some p=>bfs l F' (i+1) (visits o (fieldsOf l p)))=o
   rw[hn]
 | F+1,F',i,o,ho,hF,hle=>by
  obtain⟨G,rfl⟩:∃ G,F'=G+1:=⟨F' - 1,by omega⟩;rw[bfs,bfs]
  cases hi:o[i]? with
  | none=>rfl
  | some p=>exact bfs_fuel h F G (i+1) _ (ho.visits (fields_may h p)) (by omega) (by omega)
theorem reach_ren {l l':List Ob} {f:Int->Int} {S:Int->Prop} {M M':Int} {roots:List Vl} (h:Sim l l' f S) (hm:hMay M l roots=true) (hm':hMay M' l' (roots.map (ren f))=true) (hr:∀ v∈roots,v.k=2->S v.n):reach l' (roots.map (ren f))=(reach l roots).map f:=by
 have e0:visits [] (roots.map (ren f))=(visits [] roots).map f:=visits_ren h (o:=[]) (fun p hp=>by cases hp) hr;have ok:Ok l.length (visits [] roots):=(Ok.nil _).visits (hMay_roots hm);have ok':Ok l'.length (visits [] (roots.map (ren f))):=(Ok.nil _).visits (hMay_roots hm')
 unfold reach
 rw[<- bfs_fuel hm' (l'.length+1) (l.length+1+(l'.length+1)) 0 _ ok' (by omega) (by omega),<- bfs_fuel hm (l.length+1) (l.length+1+(l'.length+1)) 0 _ ok (by omega) (by omega),e0];exact bfs_ren h _ _ _ (visits_all (fun p hp=>by cases hp) hr)
theorem idxOf_map_inj {f:Int->Int}:∀ {R:List Int} {q:Int},(∀ p∈R,f p=f q->p=q)->(R.map f).idxOf (f q)=R.idxOf q
 | [],_,_=>rfl
 | p :: R,q,h=>by
  rw[List.map_cons,List.idxOf_cons,List.idxOf_cons]
  by_cases e:p=q
  ·subst e;simp
  ·have e':f p≠f q:=fun x=>e (h p (by simp) x)
   have e1:(p == q)=false:=by simp[e]
   have e2:(f p == f q)=false:=by simp[e']
   rw[e1,e2,idxOf_map_inj (fun r hr=>h r (by simp[hr]))]
theorem tell_ren {l l':List Ob} {f:Int->Int} {S:Int->Prop} (h:Sim l l' f S) {R:List Int} (hR:∀ p∈R,S p) {v:Vl} (hv:v.k=2->S v.n):tell (R.map f) (ren f v)=tell R v:=by
 unfold tell ren
 by_cases hk:v.k=2
 ·simp only[hk,if_true]
  rw[idxOf_map_inj (fun p hp e=>h.inj p v.n (hR p hp) (hv hk) e)]
 ·simp only[hk,if_false]
theorem flatMap_congr' {α β:Type} {f g:α->List β}:∀ {l:List α},(∀ x∈l,f x=g x)->l.flatMap f=l.flatMap g
 | [],_=>rfl
 | x :: r,h=>by rw[List.flatMap_cons,List.flatMap_cons,h x (by simp),flatMap_congr' (fun y hy=>h y (by simp[hy]))]
theorem form_ren {l l':List Ob} {f:Int->Int} {S:Int->Prop} {M M':Int} {roots:List Vl} (h:Sim l l' f S) (hm:hMay M l roots=true) (hm':hMay M' l' (roots.map (ren f))=true) (hr:∀ v∈roots,v.k=2->S v.n):form l' (roots.map (ren f))=form l roots:=by
 have hR:=reach_all h hr
 unfold form
 rw[reach_ren h hm hm' hr,List.flatMap_map,List.flatMap_map]
 congr 1
 ·exact flatMap_congr' (fun v hv=>tell_ren h hR (hr v hv))
 ·refine flatMap_congr' (fun p hp=>?_)
  rw[h.fields p (hR p hp)]
  unfold tellOb
  rw[List.length_map,List.flatMap_map]
  congr 1
  exact flatMap_congr' (fun v hv=>tell_ren h hR (h.closed p (hR p hp) v hv))
end
section
open Go.RowKit
theorem in_any (n lo hi:Int) (w:World) :
  Calls Tryz.prog 67 #[.int .i64 n,.int .i64 lo,.int .i64 hi] w fun e w'=>e=.returned (.bool (decide (lo<=n) && decide (n<=hi)))/\w=w':=by
 go_enter Tryz.func67,Tryz.ntmps67
 go_wp2
 all_goals
  go_ret
  refine⟨ret_bool ?_,rfl⟩
  go_light
  simp[*] <;> omega
end
section
open Go.RowKit Go.Maps
theorem fields_four {M:Int} {l:List Ob} {r:List Vl} (h:hMay M l r=true) (p:Int):(fieldsOf l p).length<=4:=by
 unfold fieldsOf
 split
 ·simp
 ·rename_i o ho
  simp only[hMay,Bool.and_eq_true] at h;have:=List.all_eq_true.1 h.1.2 o (List.mem_of_getElem? ho)
  unfold oMay at this
  split at this
  ·simp at this;simp[this]
  ·simp only[Bool.and_eq_true,decide_eq_true_eq] at this
   exact this.1.2
end
section
open Go.RowKit
theorem cin_any (n lo hi:Int) (w:World) :
  Calls Tryz.prog 67 #[.int .i64 n,.int .i64 lo,.int .i64 hi] w fun e w'=>e=.returned (.bool (decide (lo<=n) && decide (n<=hi)))/\w'=w:=by
 go_enter Tryz.func67,Tryz.ntmps67
 go_wp2
 all_goals
  go_ret
  refine⟨cret_bool ?_,rfl⟩
  go_light
  simp[*] <;> omega
end
section
open Go.RowKit
theorem refHasB_any (op:Int) (w:World) :
  Calls Tryz.prog 145 #[.int .i64 op] w fun e w'=>e=.returned (.bool (bOf op))/\w'=w:=by
 go_enter Tryz.func145,Tryz.ntmps145
 go_wp2_with (go_at_call 67;refine(cin_any _ _ _ _).mono ?_;rintro e w' ⟨rfl,rfl⟩)
 all_goals
  go_ret
  refine⟨cret_bool ?_,rfl⟩
  go_light
  simp_all [bOf]
end
section
theorem obAt_app_right {l m:List Ob} {p:Int} (h:(l.length:Int)<=p):obAt (l++m) p=obAt m (p-l.length):=by
 unfold obAt
 rw[List.getElem?_append_right (by omega),show p.toNat-l.length=(p-(l.length:Int)).toNat by omega]
end
section
open Go.RowKit Go.Maps
theorem ints_ne_box {w:World} {base:Nat} {v:Value} {l:List Int} (h:IntsOwn w base v l) {U:Nat} {c:Array Value} {t:TypeId} (hU:w.heap[U]?=some (.cells c t (0,0))) (ht:t≠3):v.ownBlock=none\/v.ownBlock≠some U:=by
 rcases h.2 with⟨rfl,_⟩ | ⟨g,cap,cur,rfl,_,hg,_⟩
 ·exact Or.inl rfl
 ·refine Or.inr (fun e1=>?_)
  simp only[Value.ownBlock,Option.some.injEq] at e1;subst e1;rw[hU] at hg;simp only[Option.some.injEq,Obj.cells.injEq] at hg;exact ht hg.2.1
structure FP (w:World) (U P O m B:Nat) (uv:Option Addr) (uc:Nat) (ov:Option Addr) (oc:Nat) (D:DataW Unit) (out order:List Int):Prop where
 u:w.heap[U]?=some (.cells #[.slice uv out.length uc] 40 (0,0))
 ui:IntsOwn w B (.slice uv out.length uc) out
 o:w.heap[O]?=some (.cells #[.slice ov order.length oc] 40 (0,0))
 oi:IntsOwn w B (.slice ov order.length oc) order
 ap:∀ g,(Value.slice uv out.length uc).ownBlock=some g->(Value.slice ov order.length oc).ownBlock=some g->False
 p:w.heap[P]?=some (.cells #[.map (some m)] 64 (0,0))
 d:w.ownsMap Tryz.prog 3 (plainElem Tryz.prog 3) m order.length D
 has:∀ z,Maps.has D (.int .i64 z)=decide (z∈order)
 at_:∀ (i:Nat) q,order[i]?=some q->D.atKey (.int .i64 q) (.lit (.int .i64 0))=.lit (.int .i64 i)
 low:B<=U/\B<=P/\B<=O/\B<=m/\B<=w.heap.size
 ne:U≠O
def FState (w:World) (U P O m B:Nat) (out order:List Int):Prop:=∃ uv uc ov oc D,FP w U P O m B uv uc ov oc D out order
section
variable {w w1 w2:World} {U P O m B:Nat} {uv:Option Addr} {uc:Nat} {ov:Option Addr} {oc:Nat} {D:DataW Unit} {out order:List Int}
theorem FP.below (h:FP w U P O m B uv uc ov oc D out order) (hb:Below w.heap.size w w1):FP w1 U P O m B uv uc ov oc D out order :=
 ⟨(hb.block _ (Array.getElem?_eq_some_iff.1 h.u).1).trans h.u,ownsRow_below h.ui hb,(hb.block _ (Array.getElem?_eq_some_iff.1 h.o).1).trans h.o,ownsRow_below h.oi hb,h.ap,
  (hb.block _ (Array.getElem?_eq_some_iff.1 h.p).1).trans h.p,h.d.kept (row:=none) ⟨hb.os,hb.tape,hb.output,hb.size,fun k hk _=>hb.block k hk⟩ (by simp),h.has,h.at_,
  ⟨h.low.1,h.low.2.1,h.low.2.2.1,h.low.2.2.2.1,Nat.le_trans h.low.2.2.2.2 hb.size⟩,h.ne⟩
theorem FP.tell (h:FP w U P O m B uv uc ov oc D out order) (X:Obj) {g gc n:Nat} {out':List Int} (hn:n=out'.length) (hi2:IntsOwn w2 B (.slice (some ⟨g,0,none⟩) n gc) out')
  (hg2:(w.alloc X).grownBy w2 (Value.slice uv out.length uc).ownBlock) (hgg:(Value.slice uv out.length uc).ownBlock=some g\/g=w.heap.size+1) :
  FP (w2.setCell ⟨U,0,none⟩ (.slice (some ⟨g,0,none⟩) n gc)) U P O m B (some ⟨g,0,none⟩) gc ov oc D out' order/\Below B w (w2.setCell ⟨U,0,none⟩ (.slice (some ⟨g,0,none⟩) n gc)):=by
 subst hn;have hlow:=h.low;have hUlt:=(Array.getElem?_eq_some_iff.1 h.u).1;have hOlt:=(Array.getElem?_eq_some_iff.1 h.o).1;have hPlt:=(Array.getElem?_eq_some_iff.1 h.p).1;have hua:=World.ownsRow.alloc h.ui X;have hoa:=World.ownsRow.alloc h.oi X;have U2:w2.heap[U]?=some (.cells #[.slice uv out.length uc] 40 (0,0)):=owns_blk hua hg2 ((Deep.blk_alloc_lt _ _ _ hUlt).trans h.u) (by decide);have O2:w2.heap[O]?=some (.cells #[.slice ov order.length oc] 40 (0,0)):=owns_blk hua hg2 ((Deep.blk_alloc_lt _ _ _ hOlt).trans h.o) (by decide)
 have P2:w2.heap[P]?=some (.cells #[.map (some m)] 64 (0,0)):=owns_blk hua hg2 ((Deep.blk_alloc_lt _ _ _ hPlt).trans h.p) (by decide);have hap:(Value.slice ov order.length oc).ownBlock=none\/(Value.slice ov order.length oc).ownBlock≠(Value.slice uv out.length uc).ownBlock:=by
  cases he:(Value.slice ov order.length oc).ownBlock with
  | none=>exact Or.inl rfl
  | some k=>exact Or.inr (fun e=>h.ap k e.symm he)
 have oi2:IntsOwn w2 B (.slice ov order.length oc) order:=hoa.kept hg2 hap;have d2:=(h.d.alloc X).kept hg2 (by
  rcases map_ne_row h.d h.ui with hn | hn
  ·rw[hn];simp
  ·exact Ne.symm hn)
 have hB2:Below B w w2:=((Below.refl B w).alloc hlow.2.2.2.2 X).grown hg2 (by simp;omega) (fun k hk=>(World.ownsRow.lt h.ui k hk).1);have hUP:P≠U:=fun e=>by
  have:=h.p;rw[e,h.u] at this
  simp at this
 refine⟨⟨?_,ownsRow_set_other hi2 (ints_ne_box hi2 U2 (by decide)) _ _,(Deep.blk_setCell_other _ _ _ _ (Ne.symm h.ne)).trans O2,ownsRow_set_other oi2 (ints_ne_box oi2 U2 (by decide)) _ _,?_,(Deep.blk_setCell_other _ _ _ _ hUP).trans P2,
  d2.setCell (Ne.symm (map_not_cells d2 U2)) _,h.has,h.at_,⟨hlow.1,hlow.2.1,hlow.2.2.1,hlow.2.2.2.1,?_⟩,h.ne⟩,hB2.setCell hlow.1 _⟩
 ·rw[setCell_blk U2 0 _]
  simp
 ·intro k e1 e2
  simp only[Value.ownBlock,Option.some.injEq] at e1;subst e1
  rcases hgg with hgg | hgg
  ·exact h.ap _ hgg e2
  ·have:=(World.ownsRow.lt h.oi _ e2).2
   omega
 ·simp only[World.setCell,Array.size_modify]
  exact Nat.le_trans hlow.2.2.2.2 hB2.size
theorem FP.push (h:FP w U P O m B uv uc ov oc D out order) {g gc:Nat} {n:Int} (hnew:n∉order)
  (hD1:w1.ownsMap Tryz.prog 3 (plainElem Tryz.prog 3) m (order.length+1) (D.put (.int .i64 n) (.lit (.int .i64 (order.length:Nat))))) (hg1:w.grownBy w1 (some m))
  (hi2:IntsOwn w2 B (.slice (some ⟨g,0,none⟩) (order.length+1) gc) (order++[n])) (hg2:(w1.alloc (.cells #[.int .i64 n] 3)).grownBy w2 (Value.slice ov order.length oc).ownBlock)
  (hgg:(Value.slice ov order.length oc).ownBlock=some g\/g=w1.heap.size+1) :
  FP (w2.setCell ⟨O,0,none⟩ (.slice (some ⟨g,0,none⟩) (order.length+1) gc)) U P O m B uv uc (some ⟨g,0,none⟩) gc (D.put (.int .i64 n) (.lit (.int .i64 (order.length:Nat)))) out (order++[n])/\Below B w (w2.setCell ⟨O,0,none⟩ (.slice (some ⟨g,0,none⟩) (order.length+1) gc)):=by
 have hlow:=h.low;have hUlt:=(Array.getElem?_eq_some_iff.1 h.u).1;have hOlt:=(Array.getElem?_eq_some_iff.1 h.o).1;have hPlt:=(Array.getElem?_eq_some_iff.1 h.p).1;have U1:w1.heap[U]?=_:=(hg1.block U hUlt (by simp[map_not_cells h.d h.u])).trans h.u;have O1:w1.heap[O]?=_:=(hg1.block O hOlt (by simp[map_not_cells h.d h.o])).trans h.o;have P1:w1.heap[P]?=_:=(hg1.block P hPlt (by simp[map_not_cells h.d h.p])).trans h.p
 have oi1:IntsOwn w1 B (.slice ov order.length oc) order:=h.oi.kept hg1 (map_ne_row h.d h.oi);have ui1:IntsOwn w1 B (.slice uv out.length uc) out:=h.ui.kept hg1 (map_ne_row h.d h.ui);have hs1:=hg1.size;have hoa:=World.ownsRow.alloc oi1 (.cells #[.int .i64 n] 3);have hua:=World.ownsRow.alloc ui1 (.cells #[.int .i64 n] 3);have U2:w2.heap[U]?=some (.cells #[.slice uv out.length uc] 40 (0,0)):=owns_blk hoa hg2 ((Deep.blk_alloc_lt _ _ _ (by omega)).trans U1) (by decide)
 have O2:w2.heap[O]?=some (.cells #[.slice ov order.length oc] 40 (0,0)):=owns_blk hoa hg2 ((Deep.blk_alloc_lt _ _ _ (by omega)).trans O1) (by decide);have P2:w2.heap[P]?=some (.cells #[.map (some m)] 64 (0,0)):=owns_blk hoa hg2 ((Deep.blk_alloc_lt _ _ _ (by omega)).trans P1) (by decide);have hap:(Value.slice uv out.length uc).ownBlock=none\/(Value.slice uv out.length uc).ownBlock≠(Value.slice ov order.length oc).ownBlock:=by
  cases he:(Value.slice uv out.length uc).ownBlock with
  | none=>exact Or.inl rfl
  | some k=>exact Or.inr (fun e=>h.ap k he e.symm)
 have ui2:IntsOwn w2 B (.slice uv out.length uc) out:=hua.kept hg2 hap;have d2:=(hD1.alloc (.cells #[.int .i64 n] 3)).kept hg2 (by
  rcases map_ne_row hD1 oi1 with hn | hn
  ·rw[hn];simp
  ·exact Ne.symm hn)
 have hB1:Below B w w1:=(Below.refl _ _).grown hg1 hlow.2.2.2.2 (fun k hk=>by cases hk;exact hlow.2.2.2.1);have hB2:Below B w w2:=(hB1.alloc (by omega) _).grown hg2 (by simp;omega) (fun k hk=>(World.ownsRow.lt h.oi k hk).1);have hOP:P≠O:=fun e=>by
  have:=h.p;rw[e,h.o] at this
  simp at this
 have hlen:(order++[n]).length=order.length+1:=by simp
 refine⟨⟨(Deep.blk_setCell_other _ _ _ _ h.ne).trans U2,ownsRow_set_other ui2 (ints_ne_box ui2 O2 (by decide)) _ _,?_,?_,?_,(Deep.blk_setCell_other _ _ _ _ hOP).trans P2,?_,fun z=>?_,fun i q hi=>?_,⟨hlow.1,hlow.2.1,hlow.2.2.1,hlow.2.2.2.1,?_⟩,h.ne⟩,hB2.setCell hlow.2.2.1 _⟩
 ·rw[setCell_blk O2 0 _,hlen]
  simp
 ·rw[hlen]
  exact ownsRow_set_other hi2 (ints_ne_box hi2 O2 (by decide)) _ _
 ·intro k e1 e2
  simp only[Value.ownBlock,Option.some.injEq] at e2;subst e2
  rcases hgg with hgg | hgg
  ·exact h.ap _ e1 hgg
  ·have:=(World.ownsRow.lt ui1 _ e1).2
   omega
 ·rw[hlen]
  exact d2.setCell (Ne.symm (map_not_cells d2 O2)) _
 ·by_cases hz:z=n
  ·subst hz
   rw[has_put_same h.d.isMap (by simp[WideAt.IsKeyLit])];simp
  ·rw[has_put_other (by simp[hz]),h.has z]
   simp[hz]
 ·by_cases hq:q=n
  ·subst hq
   rw[atKey_put_same h.d.isMap (by simp[WideAt.IsKeyLit])];rw[List.getElem?_append] at hi
   split at hi
   ·exact absurd (List.mem_of_getElem? hi) hnew
   ·have hi':=(List.getElem?_eq_some_iff.1 hi).1
    simp at hi';have:i=order.length:=by omega
    rw[this]
  ·rw[atKey_put_other (by simp[hq])]
   rw[List.getElem?_append] at hi
   split at hi
   ·exact h.at_ i q hi
   ·obtain⟨h1,h2⟩:=List.getElem?_eq_some_iff.1 hi
    simp at h2;exact absurd h2.symm hq
 ·simp only[World.setCell,Array.size_modify]
  exact Nat.le_trans hlow.2.2.2.2 hB2.size
theorem FP.tell_keep (h:FP w U P O m B uv uc ov oc D out order) (X:Obj) (hg2:(w.alloc X).grownBy w2 (Value.slice uv out.length uc).ownBlock) {K:Nat} {c:Array Value} {t:TypeId} (hK:w.heap[K]?=some (.cells c t (0,0))) (ht:t≠3):w2.heap[K]?=some (.cells c t (0,0)) :=
 owns_blk (World.ownsRow.alloc h.ui X) hg2 ((Deep.blk_alloc_lt _ _ _ (Array.getElem?_eq_some_iff.1 hK).1).trans hK) ht
theorem FP.map_keep (h:FP w U P O m B uv uc ov oc D out order) (hg1:w.grownBy w1 (some m)) {K:Nat} {c:Array Value} {t:TypeId} (hK:w.heap[K]?=some (.cells c t (0,0))):w1.heap[K]?=some (.cells c t (0,0)) :=
 (hg1.block K (Array.getElem?_eq_some_iff.1 hK).1 (by simp[map_not_cells h.d hK])).trans hK
theorem FP.map_order (h:FP w U P O m B uv uc ov oc D out order) (hg1:w.grownBy w1 (some m)):IntsOwn w1 B (.slice ov order.length oc) order:=h.oi.kept hg1 (map_ne_row h.d h.oi)
theorem FP.push_keep (h:FP w U P O m B uv uc ov oc D out order) (hg1:w.grownBy w1 (some m)) (X:Obj) (hg2:(w1.alloc X).grownBy w2 (Value.slice ov order.length oc).ownBlock) {K:Nat} {c:Array Value} {t:TypeId} (hK:w.heap[K]?=some (.cells c t (0,0))) (ht:t≠3):w2.heap[K]?=some (.cells c t (0,0)) :=
 owns_blk (World.ownsRow.alloc (h.map_order hg1) X) hg2 ((Deep.blk_alloc_lt _ _ _ (Array.getElem?_eq_some_iff.1 (h.map_keep hg1 hK)).1).trans (h.map_keep hg1 hK)) ht
end
theorem wpList_tellInt {w:World} {base:Nat} {v:Value} {l:List Int} {ops:Array Oper} {rest:List Oper} {o:Oper} {a:Act} {Q:Exit->Act->World->Prop} (hgd:o.guard=none) (s x:Operand)
  (ho:o.op=.call { callee:=.builtin .append,args:=#[s,x],argTypes:=#[40,40] }) (hs:a.eval s=v) (hO:IntsOwn w base v l) (hb:base<=w.heap.size)
  (n:Int) (hx:a.eval x=.slice (some ⟨w.heap.size,0,none⟩) 1 1) (hl:8*l.length+8<=140737488355328)
  (h:∀ g cap w',IntsOwn w' base (.slice (some ⟨g,0,none⟩) (l.length+1) cap) (l++[n])->(w.alloc (.cells #[.int .i64 n] 3)).grownBy w' v.ownBlock->(v.ownBlock=some g\/g=w.heap.size+1)->wpList Tryz.prog ops Q rest (a.put o.dst (.slice (some ⟨g,0,none⟩) (l.length+1) cap)) w') :
  wpList Tryz.prog ops Q (o :: rest) a (w.alloc (.cells #[.int .i64 n] 3)):=by
 obtain⟨i0,hi0,hzz⟩:=Option.map_eq_some_iff.1 Tryz.infoN;simp only[Prod.mk.injEq] at hzz;obtain⟨hz0,hz1,hz2⟩:=hzz;refine wpList_append_lies _ hgd s x 40 ho base 3 i0 (.int .i64 0) 1 8 Tryz.underlying40 hi0 hz0 hz1 hz2 rfl (by decide) v l.length (l.map (Value.int .i64)) hs (World.ownsRow.alloc hO _) ⟨w.heap.size,0,none⟩ 1 1 [.int .i64 n] hx rfl (cell_one_new _ _ _) ?_ (by decide) (by unfold maxLen;omega) (by omega) (by simp;omega) (w.heap.size+1) (by simp) ?_
 ·intro u hu
  simp at hu;subst hu
  rfl
 ·intro g cap w' h1 h2 h3 _
  refine h g cap w' ?_ h2 h3
  unfold IntsOwn
  simpa using h1
theorem wpList_tellInt2 {w:World} {base:Nat} {v:Value} {l:List Int} {ops:Array Oper} {rest:List Oper} {o:Oper} {a:Act} {Q:Exit->Act->World->Prop} (hgd:o.guard=none) (s x:Operand)
  (ho:o.op=.call { callee:=.builtin .append,args:=#[s,x],argTypes:=#[40,40] }) (hs:a.eval s=v) (hO:IntsOwn w base v l) (hb:base<=w.heap.size)
  (n m:Int) (hx:a.eval x=.slice (some ⟨w.heap.size,0,none⟩) 2 2) (hl:8*l.length+16<=140737488355328)
  (h:∀ g cap w',IntsOwn w' base (.slice (some ⟨g,0,none⟩) (l.length+2) cap) (l++[n,m])->(w.alloc (.cells #[.int .i64 n,.int .i64 m] 3)).grownBy w' v.ownBlock->(v.ownBlock=some g\/g=w.heap.size+1)->wpList Tryz.prog ops Q rest (a.put o.dst (.slice (some ⟨g,0,none⟩) (l.length+2) cap)) w') :
  wpList Tryz.prog ops Q (o :: rest) a (w.alloc (.cells #[.int .i64 n,.int .i64 m] 3)):=by
 obtain⟨i0,hi0,hzz⟩:=Option.map_eq_some_iff.1 Tryz.infoN;simp only[Prod.mk.injEq] at hzz;obtain⟨hz0,hz1,hz2⟩:=hzz;refine wpList_append_lies _ hgd s x 40 ho base 3 i0 (.int .i64 0) 1 8 Tryz.underlying40 hi0 hz0 hz1 hz2 rfl (by decide) v l.length (l.map (Value.int .i64)) hs (World.ownsRow.alloc hO _) ⟨w.heap.size,0,none⟩ 2 2 [.int .i64 n,.int .i64 m] hx rfl (cells2_new _ _ _ _ _ rfl) ?_ (by decide) (by unfold maxLen;omega) (by omega) (by simp;omega) (w.heap.size+1) (by simp) ?_
 ·intro u hu
  simp at hu
  rcases hu with rfl | rfl <;> rfl
 ·intro g cap w' h1 h2 h3 _
  refine h g cap w' ?_ h2 h3
  unfold IntsOwn
  simpa using h1
end
section
open Go.RowKit Go.Maps
theorem say_any (k n:Int) (L:Int) (U P O m B:Nat) (out order:List Int) (w:World) (hst:FState w U P O m B out order) (hv:vMay L ⟨k,n⟩=true) (hL:L<=60) (hol:order.length<=60) (hou:out.length<=1000000) :
  Calls Tryz.prog 121 #[.agg #[.int .i64 k,.int .i64 n],.pointer (some ⟨U,0,none⟩),.pointer (some ⟨P,0,none⟩),.pointer (some ⟨O,0,none⟩)] w fun e w'=>e=.returned (.tuple #[])/\FState w' U P O m B (out++tell (visit order ⟨k,n⟩) ⟨k,n⟩) (visit order ⟨k,n⟩)/\Below B w w':=by
 obtain⟨uv,uc,ov,oc,D,hF⟩:=hst;have ha:=hF.below (below_box w (Obj.cells #[.int .i64 k,.int .i64 n] 66));have hV:=Deep.blk_alloc_new w (Obj.cells #[.int .i64 k,.int .i64 n] 66);have hB0:Below B w (w.alloc (Obj.cells #[.int .i64 k,.int .i64 n] 66)):=below_box_base hF.low.2.2.2.2 _;have hs0:B<=(w.alloc (Obj.cells #[.int .i64 k,.int .i64 n] 66)).heap.size:=ha.low.2.2.2.2;have c0:=cell_blk ha.u 0;simp at c0
 go_enter Tryz.func121,Tryz.ntmps121
 go_upto_region 1 with fail
 generalize w.alloc (Obj.cells #[.int .i64 k,.int .i64 n] 66)=wa at *;have v0:=cell_blk hV 0;simp at v0
 go_upto_region 2 with(at_builtin;refine wpList_tellInt rfl _ _ (by rfl) (v:=.slice uv out.length uc) (by rfl) ha.ui hs0 k (by rfl) ?b1 ?_;(case b1=>omega);intro g gc w2 hi2 hg2 hgg;have U2:=ha.tell_keep _ hg2 ha.u (by decide);have c2:=cell_blk U2 0;have f2:=fz_blk U2 0;simp at c2)
 have hV2:=ha.tell_keep _ hg2 hV (by decide);obtain⟨hF3,hB3⟩:=ha.tell _ (by simp) hi2 hg2 hgg;have hVU:w.heap.size≠U:=fun e=>by
  rw[<- e] at U2;rw[hV2] at U2;simp at U2
 have hV3:=(Deep.blk_setCell_other w2 ⟨U,0,none⟩ (.slice (some ⟨g,0,none⟩) (out.length+1) gc) w.heap.size hVU).trans hV2;replace hB3:=hB0.trans hB3;clear hV2 hB0 hs0 c0 U2 c2 f2 hi2 hg2 hgg ha hV hF;generalize w2.setCell ⟨U,0,none⟩ (.slice (some ⟨g,0,none⟩) (out.length+1) gc)=w3 at *;have x0:=cell_blk hV3 0;have x1:=cell_blk hV3 1;have u0:=cell_blk hF3.u 0;have p0:=cell_blk hF3.p 0;have o0:=cell_blk hF3.o 0
 simp at x0 x1 u0 p0 o0;have hs3:=hF3.low.2.2.2.2;have hlen:(out++[k]).length=out.length+1:=by simp
 by_cases hk:k=2
 ·subst hk
  have hn0:0<=n:=by simp[vMay] at hv;omega
  have hn1:n<60:=by simp[vMay] at hv;omega
  clear hv;have hVs:Aside (visit order ⟨2,n⟩=if n∈order then order else order++[n]):=rfl;have hkey:=keyOf_int_mk (P:=Tryz.prog) (k:=3) (q:=.i64) (a:=n) Tryz.underlying3 (wf64 (by omega) (by omega))
  by_cases hin:n∈order
  ·have hhas:Maps.has D (.int .i64 n)=true:=by rw[hF3.has];simp[hin]
   have hat0:D.atKey (.int .i64 n) (.lit (.int .i64 0))=.lit (.int .i64 (order.idxOf n:Nat)):=hF3.at_ _ _ (idx_at hin);obtain⟨q,hq⟩:∃ q:Nat,q=order.idxOf n:=⟨_,rfl⟩;have HQ:Aside (q=order.idxOf n):=hq;rw[<- hq] at hat0;clear hq;have ui3:=hF3.ui;rw[hlen] at ui3
   go_wp2_with (first
    | (at_lookup;refine wpList_lookup_own_ok_int _ rfl _ _ 64 rfl 3 3 .i64 keysN Tryz.underlying64 Tryz.underlying3 (Tryz.zeroN _) m order.length D rfl hF3.d _ _ rfl hkey ?_;intro c hat hwc;obtain rfl:(q:Int)=c:=(by rw[hat0] at hat;simpa using hat);rw[hhas])
    | (at_builtin;refine wpList_tellInt rfl _ _ (by rfl) (v:=.slice (some ⟨g,0,none⟩) (out.length+1) gc) (by rfl) ui3 hs3 q (by rfl) ?b1 ?_;(case b1=>simp;omega);intro g2 gc2 w4 hi4 hg4 hgg4;have U4:=hF3.tell_keep _ (by rw[hlen];exact hg4) hF3.u (by decide);have c4:=cell_blk U4 0;have f4:=fz_blk U4 0;simp at c4)
    | fail)
   rw[hlen] at hi4;obtain⟨hF5,hB5⟩:=hF3.tell _ (n:=out.length+1+1) (by simp) hi4 hg4 hgg4;refine bodyPost_ret (v:=.tuple #[]) (by simp[results,Tryz.results121]) rfl ⟨rfl,?_,hB3.trans hB5⟩;rw[hVs.out,if_pos hin];have e:out++tell order ⟨2,n⟩=out++[2]++[(q:Int)]:=by rw[HQ.out];simp[tell]
   rw[e];exact⟨_,_,_,_,_,hF5⟩
  ·have hhas:Maps.has D (.int .i64 n)=false:=by rw[hF3.has];simp[hin]
   go_upto_region 6 with(at_lookup;refine wpList_lookup_own_ok_int _ rfl _ _ 64 rfl 3 3 .i64 keysN Tryz.underlying64 Tryz.underlying3 (Tryz.zeroN _) m order.length D rfl hF3.d _ _ rfl hkey ?_;intro c hat hwc;rw[hhas])
   go_upto_region 7 with(at_mapUpdate;refine wpList_mapUpdate_own _ rfl _ _ _ 64 rfl 3 3 keysN Tryz.underlying64 _ m order.length D rfl hF3.d ?m1 _ _ _ rfl rfl hkey _ [] (plainElem_int Tryz.underlying3 (wf64 ?m2 ?m3)) ?_;(case m1=>unfold maxLen;omega);(case m2=>omega);(case m3=>omega);intro w4 hD4 hg4)
   have O4:=hF3.map_keep hg4 hF3.o;have V4:=hF3.map_keep hg4 hV3;have oi4:=hF3.map_order hg4;have y1:=cell_blk V4 1;have z0:=cell_blk O4 0;simp at y1 z0;have hs4:B<=w4.heap.size:=Nat.le_trans hs3 hg4.size
   go_upto_region 8 with(at_builtin;refine wpList_tellInt rfl _ _ (by rfl) (v:=.slice ov order.length oc) (by rfl) oi4 hs4 n (by rfl) ?b1 ?_;(case b1=>omega);intro g5 gc5 w5 hi5 hg5 hgg5;have O5:=hF3.push_keep hg4 _ hg5 hF3.o (by decide);have c5:=cell_blk O5 0;have f5:=fz_blk O5 0;simp at c5)
   obtain⟨hF6,hB6⟩:=hF3.push hin hD4 hg4 hi5 hg5 hgg5;clear O5 c5 f5 hi5 hg5 hgg5 hs4 y1 z0 oi4 V4 O4 hD4 hg4 x0 x1 u0 p0 o0 hs3 hF3;generalize w5.setCell ⟨O,0,none⟩ (.slice (some ⟨g5,0,none⟩) (order.length+1) gc5)=w6 at *;have ui6:=hF6.ui;rw[hlen] at ui6;have u6:=cell_blk hF6.u 0;simp at u6;have hs6:=hF6.low.2.2.2.2
   go_wp2_with (at_builtin;refine wpList_tellInt rfl _ _ (by rfl) (v:=.slice (some ⟨g,0,none⟩) (out.length+1) gc) (by rfl) ui6 hs6 order.length (by rfl) ?b1 ?_;(case b1=>simp;omega);intro g2 gc2 w7 hi7 hg7 hgg7;have U7:=hF6.tell_keep _ (by rw[hlen];exact hg7) hF6.u (by decide);have c7:=cell_blk U7 0;have f7:=fz_blk U7 0;simp at c7)
   rw[hlen] at hi7;obtain⟨hF8,hB8⟩:=hF6.tell _ (n:=out.length+1+1) (by simp) hi7 hg7 hgg7;refine bodyPost_ret (v:=.tuple #[]) (by simp[results,Tryz.results121]) rfl ⟨rfl,?_,(hB3.trans hB6).trans hB8⟩;rw[hVs.out,if_neg hin];have e:out++tell (order++[n]) ⟨2,n⟩=out++[2]++[(order.length:Int)]:=by simp[tell,List.idxOf_append,hin]
   rw[e];exact⟨_,_,_,_,_,hF8⟩
 ·have hVs:visit order ⟨k,n⟩=order:=by simp[visit,hk]
  have hkb:(k == 2)=false:=by simp[hk]
  have HVS:Aside (visit order ⟨k,n⟩=order):=hVs;clear hVs;have ui3:=hF3.ui;rw[hlen] at ui3
  go_wp2_with (at_builtin;refine wpList_tellInt rfl _ _ (by rfl) (v:=.slice (some ⟨g,0,none⟩) (out.length+1) gc) (by rfl) ui3 hs3 n (by rfl) ?b1 ?_;(case b1=>simp;omega);intro g2 gc2 w4 hi4 hg4 hgg4;have U4:=hF3.tell_keep _ (by rw[hlen];exact hg4) hF3.u (by decide);have c4:=cell_blk U4 0;have f4:=fz_blk U4 0;simp at c4)
  rw[hlen] at hi4;obtain⟨hF5,hB5⟩:=hF3.tell _ (n:=out.length+1+1) (by simp) hi4 hg4 hgg4
  go_end0
  refine⟨rfl,?_,hB3.trans hB5⟩;have e:out++tell order ⟨k,n⟩=out++[k]++[n]:=by simp[tell,hk]
  rw[HVS.out,e];exact⟨_,_,_,_,_,hF5⟩
end
end Go.Proofs.YtihpkcccfgbcmaaGreatDoor
