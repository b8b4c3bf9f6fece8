/- AReckon. -/
import Derived.Deep.RegionHeld
import Derived.Deep.RegionHeld3
import Derived.OrdersHeld
import Derived.ProofKit
import Derived.BigRegion
import Derived.Deep.DeepCutAuto
import Derived.Test.YtihpkcccfgbcmaaGreatDoorCBWRoots
namespace Go.Proofs.YtihpkcccfgbcmaaGreatDoor
set_option maxRecDepth 100000
set_option maxHeartbeats 8000000
section
section
variable {P:Program} {ops:Array Oper} {Q:Exit->Act->World->Prop} {md:Region.Mode} {S:World->Prop} {need:Nat->Bool}
def wpAnyN (P:Program) (md:Region.Mode) (ops:Array Oper) (Q:Exit->Act->World->Prop) (S:World->Prop) (need:Nat->Bool):Nat->Array Bool->Act->World->Prop
 | 0,listed,a,w=>Region.ready md ops listed=[]/\Q .normal a w
 | fuel+1,listed,a,w =>
  (Region.ready md ops listed=[]->Q .normal a w) /\
  ∀ i∈Region.ready md ops listed,wpOp P ops Q i (fun a' w'=>(need i=true->S w')/\wpAnyN P md ops Q S need fuel (listed.setIfInBounds i true) a' w') a w
theorem wpAny_of_need:∀ (fuel:Nat) (listed:Array Bool) (a:Act) (w:World),wpAnyN P md ops Q S need fuel listed a w->wpAny P md ops Q fuel listed a w
 | 0,_,_,_,h=>h
 | fuel+1,_,_,_,h=>⟨h.1,fun i hi=>wpOp_mono (fun a' w' h'=>wpAny_of_need fuel _ a' w' h'.2) (h.2 i hi)⟩
def Closed (md:Region.Mode) (ops:Array Oper) (listed:Array Bool):Prop :=
 ∀ (j:Nat) oj,ops[j]?=some oj->listed.getD j false=true->∀ e∈oj.after,Region.binds md e=true->listed.getD e.on false=true
def closedB (md:Region.Mode) (ops:Array Oper) (listed:Array Bool):Bool :=
 (List.range ops.size).all fun j=>!listed.getD j false || match ops[j]? with
  | some oj=>oj.after.all fun e=>!Region.binds md e || listed.getD e.on false
  | none=>true
theorem closed_spec {listed:Array Bool} (h:closedB md ops listed=true):Closed md ops listed:=fun j oj hj hl e he hb=>by
 have hlt:j<ops.size:=(Array.getElem?_eq_some_iff.1 hj).1;have:=List.all_eq_true.1 h j (List.mem_range.2 hlt);simp only[hl,hj,Bool.not_true,Bool.false_or,Array.all_eq_true'] at this
 have:=this e he
 simpa[hb] using this
def dep (md:Region.Mode) (ops:Array Oper) (i:Nat):Nat->Nat->Bool
 | 0,_=>false
 | n+1,j=>match ops[j]? with
  | some oj=>oj.after.any fun e=>Region.binds md e && (e.on == i || dep md ops i n e.on)
  | none=>false
theorem dep_listed {i:Nat} {listed:Array Bool} (hc:Closed md ops listed):∀ (n j:Nat) (oj:Oper),ops[j]?=some oj->(∀ e∈oj.after,Region.binds md e=true->listed.getD e.on false=true)->dep md ops i n j=true->listed.getD i false=true
 | 0,_,_,_,_,h=>by simp[dep] at h
 | n+1,j,oj,hj,hall,h=>by
  simp only[dep,hj,Array.any_eq_true',Bool.and_eq_true,Bool.or_eq_true,beq_iff_eq] at h;obtain⟨e,he,hb,hon⟩:=h;have hl:=hall e he hb
  rcases hon with hon | hon
  ·rw[hon] at hl;exact hl
  ·cases ho:ops[e.on]? with
   | none =>
    cases n with
    | zero=>simp[dep] at hon
    | succ n=>simp[dep,ho] at hon
   | some o=>exact dep_listed hc n e.on o ho (hc e.on o ho hl) hon
theorem wpAnyN_first {i:Nat} {oi:Oper} {v:Value} (hi:ops[i]?=some oi) (hsel:∀ (j:Nat) (o:Oper) cs b,ops[j]?=some o->o.op≠.select cs b)
  (hQ:∀ c a w,Q (.panic c) (a.put oi.dst v) w->Q (.panic c) a w) (hneed:∀ (j:Nat) oj,ops[j]?=some oj->need j=false->∃ n,dep md ops i n j=true) :
  ∀ (fuel:Nat) (listed:Array Bool) (a:Act) (w:World),Closed md ops listed ->
   (∀ j oj,ops[j]?=some oj->j≠i->listed.getD j true=false->(∀ e∈oj.after,Region.binds md e=true->e.on≠i)->oi.apart ops oj=true) ->
   i∈Region.ready md ops listed->YieldsIf P ops S oi v a->S w ->
   wpAnyN P md ops Q S need fuel (listed.setIfInBounds i true) (a.put oi.dst v) w->wpAnyN P md ops Q S need (fuel+1) listed a w:=by
 intro fuel
 induction fuel with
 | zero =>
  intro listed a w _ _ hr hy hS H;refine⟨fun h=>(by rw[h] at hr;cases hr),fun j hj=>?_⟩
  by_cases hji:j=i
  ·subst hji;exact hy.wpOp hi hS ⟨fun _=>hS,H⟩
  ·have:=ready_mono hj hji
   rw[H.1] at this
   cases this
 | succ fuel ih =>
  intro listed a w hcl hfree hr hy hS H;refine⟨fun h=>(by rw[h] at hr;cases hr),fun j hj=>?_⟩
  by_cases hji:j=i
  ·subst hji;exact hy.wpOp hi hS ⟨fun _=>hS,H⟩
  ·have h1:=H.2 j (ready_mono hj hji)
   obtain⟨hjun,oj,hoj,hall⟩:=mem_ready.1 hj;have hinot:listed.getD i false=false:=by
    have h0:=(mem_ready.1 hr).1
    rcases Nat.lt_or_ge i listed.size with h' | h'
    ·simp[h'] at h0 ⊢;exact h0
    ·simp[Array.getElem?_eq_none h'] at h0
   have hnot:∀ e∈oj.after,Region.binds md e=true->e.on≠i:=fun e he hb heq=>by
    have h1:=hall e he hb;rw[heq,hinot] at h1
    cases h1
   have hnj:need j=true:=by
    cases hn:need j with
    | true=>rfl
    | false =>
     obtain⟨n,hd⟩:=hneed j oj hoj hn;have:=dep_listed hcl n j oj hoj hall hd;rw[hinot] at this
     cases this
   have hcl':Closed md ops (listed.setIfInBounds j true):=fun k ok hk hlk e he hb=>by
    refine getD_set_true ?_
    by_cases hkj:j=k
    ·subst hkj
     rw[hoj] at hk;simp only[Option.some.injEq] at hk;subst hk;exact hall e he hb
    ·rw[getD_set_ne false hkj] at hlk
     exact hcl k ok hk hlk e he hb
   have h2:=wpOp_putIf hoj (hfree j oj hoj hji hjun hnot) (fun cs b=>hsel i oi cs b hi) (fun cs b=>hsel j oj cs b hoj) hQ hy h1;have hfree':∀ k ok,ops[k]?=some ok->k≠i->(listed.setIfInBounds j true).getD k true=false ->
     (∀ e∈ok.after,Region.binds md e=true->e.on≠i)->oi.apart ops ok=true:=fun k ok hk hki hun hno=>by
    refine hfree k ok hk hki ?_ hno
    by_cases hjk:j=k
    ·subst hjk;exact hjun
    ·rw[getD_set_ne true hjk] at hun;exact hun
   refine wpOp_mono (fun a' w' h3=>⟨fun _=>h3.2.1 hnj,ih (listed.setIfInBounds j true) a' w' hcl' hfree' (ready_mono hr (Ne.symm hji)) h3.1 (h3.2.1 hnj) ?_⟩) h2;rw[Array.setIfInBounds_comm _ _ hji];exact h3.2.2
def waits (md:Region.Mode) (ops:Array Oper) (need:Nat->Bool) (i:Nat):Bool :=
 (List.range ops.size).all fun j=>need j || dep md ops i ops.size j
theorem waits_spec {i:Nat} (h:waits md ops need i=true) (j:Nat) (oj:Oper) (hj:ops[j]?=some oj) (hn:need j=false):∃ n,dep md ops i n j=true:=by
 have hlt:j<ops.size:=(Array.getElem?_eq_some_iff.1 hj).1;have:=List.all_eq_true.1 h j (List.mem_range.2 hlt);simp only[hn,Bool.false_or] at this
 exact⟨_,this⟩
theorem wpAnyN_take {i:Nat} {oi:Oper} {v:Value} {fuel:Nat} {listed:Array Bool} {a:Act} {w:World} (hi:ops[i]?=some oi)
  (hs:Region.noSelect ops=true) (hf:Region.free md ops listed i=true) (hr:(Region.ready md ops listed).contains i=true) (hn:(waits md ops need i && closedB md ops listed)=true)
  (hQ:∀ c a w,Q (.panic c) (a.put oi.dst v) w->Q (.panic c) a w) (hw:Region.wanted oi (yielded ops a.tmps)=true) (hy:∀ w,S w->(execOp a.eval oi).run P w=.ok (.value v) w) (hS:S w)
  (h:wpAnyN P md ops Q S need fuel (listed.setIfInBounds i true) (a.put oi.dst v) w):wpAnyN P md ops Q S need (fuel+1) listed a w :=
 have hn':=Bool.and_eq_true_iff.1 hn
 wpAnyN_first hi (Region.noSelect_spec hs) hQ (waits_spec hn'.1) fuel listed a w (closed_spec hn'.2) (Region.free_spec hi hf) (by simpa using hr) (Or.inl ⟨hw,hy⟩) hS h
def Rst (P:Program) (md:Region.Mode) (ops:Array Oper) (Q:Exit->Act->World->Prop) (S:World->Prop) (need:Nat->Bool) (fuel:Nat) (listed:Array Bool) (i:Nat) (K:Act->World->Prop):Prop :=
 ∀ a w,(need i=true->S w)->wpAnyN P md ops Q S need fuel (listed.setIfInBounds i true) a w->K a w
theorem Rst.out {fuel i:Nat} {listed:Array Bool} {K:Act->World->Prop} (h:Rst P md ops Q S need fuel listed i K):∀ a w,(need i=true->S w)->wpAnyN P md ops Q S need fuel (listed.setIfInBounds i true) a w->K a w:=h
theorem wpAnyN_one {i:Nat} {o:Oper} {fuel:Nat} {listed:Array Bool} {a:Act} {w:World} (hr:Region.ready md ops listed=[i]) (ho:ops[i]?=some o)
  (h:∀ K':Act->World->Prop,Rst P md ops Q S need fuel listed i K'->if Region.wanted o (yielded ops a.tmps)=true then Oper.wp P o a w K' Q else K' (a.put o.dst undef) w) :
  wpAnyN P md ops Q S need (fuel+1) listed a w :=
 ⟨fun h0=>(by rw[hr] at h0;cases h0),fun j hj=>by
  rw[hr] at hj;simp only[List.mem_singleton] at hj;subst hj;exact wpOp_step ho (fun K' hK=>h K' (fun a w hS hW=>hK a w ⟨hS,hW⟩))⟩
theorem wpAnyN_two {i j:Nat} {oi oj:Oper} {fuel:Nat} {listed:Array Bool} {a:Act} {w:World} (hr:Region.ready md ops listed=[i,j]) (hi:ops[i]?=some oi) (hj:ops[j]?=some oj)
  (h1:∀ K':Act->World->Prop,Rst P md ops Q S need fuel listed i K'->if Region.wanted oi (yielded ops a.tmps)=true then Oper.wp P oi a w K' Q else K' (a.put oi.dst undef) w)
  (h2:∀ K':Act->World->Prop,Rst P md ops Q S need fuel listed j K'->if Region.wanted oj (yielded ops a.tmps)=true then Oper.wp P oj a w K' Q else K' (a.put oj.dst undef) w) :
  wpAnyN P md ops Q S need (fuel+1) listed a w :=
 ⟨fun h0=>(by rw[hr] at h0;cases h0),fun k hk=>by
  rw[hr] at hk;simp only[List.mem_cons,List.not_mem_nil,or_false] at hk
  rcases hk with rfl | rfl
  ·exact wpOp_step hi (fun K' hK=>h1 K' (fun a w hS hW=>hK a w ⟨hS,hW⟩))
  ·exact wpOp_step hj (fun K' hK=>h2 K' (fun a w hS hW=>hK a w ⟨hS,hW⟩))⟩
theorem wpAnyN_three {i j l:Nat} {oi oj ol:Oper} {fuel:Nat} {listed:Array Bool} {a:Act} {w:World} (hr:Region.ready md ops listed=[i,j,l]) (hi:ops[i]?=some oi) (hj:ops[j]?=some oj) (hl:ops[l]?=some ol)
  (h1:∀ K':Act->World->Prop,Rst P md ops Q S need fuel listed i K'->if Region.wanted oi (yielded ops a.tmps)=true then Oper.wp P oi a w K' Q else K' (a.put oi.dst undef) w)
  (h2:∀ K':Act->World->Prop,Rst P md ops Q S need fuel listed j K'->if Region.wanted oj (yielded ops a.tmps)=true then Oper.wp P oj a w K' Q else K' (a.put oj.dst undef) w)
  (h3:∀ K':Act->World->Prop,Rst P md ops Q S need fuel listed l K'->if Region.wanted ol (yielded ops a.tmps)=true then Oper.wp P ol a w K' Q else K' (a.put ol.dst undef) w) :
  wpAnyN P md ops Q S need (fuel+1) listed a w :=
 ⟨fun h0=>(by rw[hr] at h0;cases h0),fun k hk=>by
  rw[hr] at hk;simp only[List.mem_cons,List.not_mem_nil,or_false] at hk
  rcases hk with rfl | rfl | rfl
  ·exact wpOp_step hi (fun K' hK=>h1 K' (fun a w hS hW=>hK a w ⟨hS,hW⟩))
  ·exact wpOp_step hj (fun K' hK=>h2 K' (fun a w hS hW=>hK a w ⟨hS,hW⟩))
  ·exact wpOp_step hl (fun K' hK=>h3 K' (fun a w hS hW=>hK a w ⟨hS,hW⟩))⟩
theorem wpAnyN_done {listed:Array Bool} {a:Act} {w:World} (hr:Region.ready md ops listed=[]) (h:Q .normal a w):∀ fuel,wpAnyN P md ops Q S need fuel listed a w
 | 0=>⟨hr,h⟩
 | _+1=>⟨fun _=>h,by rw[hr];simp⟩
theorem wp_region_need {id:Nat} {a:Act} {w:World} (need:Nat->Bool) (S:World->Prop) (hm:P.follows .mixedOrders=true) (hS:S w.drew)
  (h:S w.drew->wpAnyN P .any ops (NoPanic Q) S need ops.size (Array.replicate ops.size false) a w.drew):(Code.region id ops true).wp P Q a w :=
 wp_region_noPanic (wp_region_any hm (wpAny_of_need _ _ _ _ (h hS)))
end
section
open Go.RowKit
variable {P:Program} {ops:Array Oper} {Q:Exit->Act->World->Prop} {md:Region.Mode} {S:World->Prop} {need:Nat->Bool}
theorem tkN (i:Nat) {oi:Oper} {v:Value} {fuel:Nat} {listed:Array Bool} {a a':Act} {w:World} (hS:S w) (h:wpAnyN P md ops Q S need fuel (listed.setIfInBounds i true) a' w)
  (hi:ops[i]?=some oi:=by rfl) (hs:Region.noSelect ops=true:=by kernel_rfl) (hf:Region.free md ops listed i=true:=by kernel_rfl) (hr:(Region.ready md ops listed).contains i=true:=by kernel_rfl)
  (hn:(waits md ops need i && closedB md ops listed)=true:=by kernel_rfl) (hw:Region.wanted oi (yielded ops a.tmps)=true:=by rfl)
  (hy:∀ w,S w->(execOp a.eval oi).run P w=.ok (.value v) w:=by intro wy hSy;(try dsimp only at hSy);go_simp;try (with_reducible rfl))
  (hp:a.put oi.dst v=a':=by simp only[Act.put,List.getElem_toArray,List.getElem_cons_zero,List.getElem_cons_succ,List.setIfInBounds_toArray,List.set_cons_zero,List.set_cons_succ];exact rfl)
  (hQ:∀ c a w,Q (.panic c) (a.put oi.dst v) w->Q (.panic c) a w:=by exact fun _ _ _ h=>h) :
  wpAnyN P md ops Q S need (fuel+1) listed a w :=
 wpAnyN_take hi hs hf hr hn hQ hw hy hS (hp ▸ h)
theorem stN (i:Nat) {o o':Oper} {fuel:Nat} {listed:Array Bool} {a:Act} {w:World}
  (h:∀ K':Act->World->Prop,Rst P md ops Q S need fuel listed i K'->if Region.wanted o' (yielded ops a.tmps)=true then Oper.wp P o' a w K' Q else K' (a.put o'.dst undef) w)
  (hr:Region.ready md ops listed=[i]:=by kernel_rfl) (ho:ops[i]?=some o:=by rfl) (he:o=o':=by(try simp only[List.getElem_toArray,List.getElem_cons_zero,List.getElem_cons_succ]);exact rfl) :
  wpAnyN P md ops Q S need (fuel+1) listed a w :=
 wpAnyN_one hr (ho.trans (congrArg some he)) h
theorem otN {i fuel:Nat} {listed:Array Bool} {K:Act->World->Prop} {a a':Act} {w:World} (hK:Rst P md ops Q S need fuel listed i K)
  (hS:S w) (h:wpAnyN P md ops Q S need fuel (listed.setIfInBounds i true) a' w) (hp:a=a':=by(try simp only[Act.put,List.getElem_toArray,List.getElem_cons_zero,List.getElem_cons_succ,List.setIfInBounds_toArray,List.set_cons_zero,List.set_cons_succ]);exact rfl):K a w :=
 hK.out _ _ (fun _=>hS) (hp ▸ h)
theorem dnN {fuel:Nat} {listed:Array Bool} {a:Act} {w:World} (h:Q .normal a w) (hr:Region.ready md ops listed=[]:=by kernel_rfl):wpAnyN P md ops (NoPanic Q) S need fuel listed a w :=
 wpAnyN_done hr (NoPanic.normal h) _
theorem laN {i fuel:Nat} {listed:Array Bool} {K:Act->World->Prop} {a a':Act} {w:World} (hK:Rst P md ops (NoPanic Q) S need fuel listed i K)
  (h:Q .normal a' w) (hn:need i=false:=by rfl) (hp:a=a':=by(try simp only[Act.put,List.getElem_toArray,List.getElem_cons_zero,List.getElem_cons_succ,List.setIfInBounds_toArray,List.set_cons_zero,List.set_cons_succ]);exact rfl) (hr:Region.ready md ops (listed.setIfInBounds i true)=[]:=by kernel_rfl):K a w :=
 hK.out _ _ (fun e=>by rw[hn] at e;cases e) (wpAnyN_done hr (NoPanic.normal (hp ▸ h)) _)
theorem twN (i j:Nat) {oi oj pi pj:Oper} {fuel:Nat} {listed:Array Bool} {a:Act} {w:World}
  (h1:∀ K':Act->World->Prop,Rst P md ops Q S need fuel listed i K'->if Region.wanted pi (yielded ops a.tmps)=true then Oper.wp P pi a w K' Q else K' (a.put pi.dst undef) w)
  (h2:∀ K':Act->World->Prop,Rst P md ops Q S need fuel listed j K'->if Region.wanted pj (yielded ops a.tmps)=true then Oper.wp P pj a w K' Q else K' (a.put pj.dst undef) w)
  (hr:Region.ready md ops listed=[i,j]:=by kernel_rfl)
  (hi:ops[i]?=some oi:=by rfl) (ei:oi=pi:=by(try simp only[List.getElem_toArray,List.getElem_cons_zero,List.getElem_cons_succ]);exact rfl)
  (hj:ops[j]?=some oj:=by rfl) (ej:oj=pj:=by(try simp only[List.getElem_toArray,List.getElem_cons_zero,List.getElem_cons_succ]);exact rfl)
  : wpAnyN P md ops Q S need (fuel+1) listed a w :=
 wpAnyN_two hr (hi.trans (congrArg some ei)) (hj.trans (congrArg some ej)) h1 h2
theorem thN (i j l:Nat) {oi oj ol pi pj pl:Oper} {fuel:Nat} {listed:Array Bool} {a:Act} {w:World}
  (h1:∀ K':Act->World->Prop,Rst P md ops Q S need fuel listed i K'->if Region.wanted pi (yielded ops a.tmps)=true then Oper.wp P pi a w K' Q else K' (a.put pi.dst undef) w)
  (h2:∀ K':Act->World->Prop,Rst P md ops Q S need fuel listed j K'->if Region.wanted pj (yielded ops a.tmps)=true then Oper.wp P pj a w K' Q else K' (a.put pj.dst undef) w)
  (h3:∀ K':Act->World->Prop,Rst P md ops Q S need fuel listed l K'->if Region.wanted pl (yielded ops a.tmps)=true then Oper.wp P pl a w K' Q else K' (a.put pl.dst undef) w)
  (hr:Region.ready md ops listed=[i,j,l]:=by kernel_rfl)
  (hi:ops[i]?=some oi:=by rfl) (ei:oi=pi:=by(try simp only[List.getElem_toArray,List.getElem_cons_zero,List.getElem_cons_succ]);exact rfl)
  (hj:ops[j]?=some oj:=by rfl) (ej:oj=pj:=by(try simp only[List.getElem_toArray,List.getElem_cons_zero,List.getElem_cons_succ]);exact rfl)
  (hl:ops[l]?=some ol:=by rfl) (el:ol=pl:=by(try simp only[List.getElem_toArray,List.getElem_cons_zero,List.getElem_cons_succ]);exact rfl)
  : wpAnyN P md ops Q S need (fuel+1) listed a w :=
 wpAnyN_three hr (hi.trans (congrArg some ei)) (hj.trans (congrArg some ej)) (hl.trans (congrArg some el)) h1 h2 h3
def puts (a:Act):List (Nat × Value)->Act
 | []=>a
 | (t,v) :: r=>puts (a.put (some t) v) r
def lists (l:Array Bool):List Nat->Array Bool
 | []=>l
 | i :: r=>lists (l.setIfInBounds i true) r
def Jnd (P:Program) (md:Region.Mode) (ops:Array Oper) (Q:Exit->Act->World->Prop) (S:World->Prop) (need:Nat->Bool) (f:Nat) (listed:Array Bool) (ds:List Nat) (a0:Act) (J:List (Nat × Value)->World->Prop):Prop :=
 ∀ vs w,J vs w->wpAnyN P md ops Q S need f (lists listed ds) (puts a0 vs) w
theorem jnN {fuel:Nat} {listed:Array Bool} {a0:Act} {w0:World} (f:Nat) (ds:List Nat) (J:List (Nat × Value)->World->Prop)
  (h1:∀ vs w,J vs w->wpAnyN P md ops Q S need f (lists listed ds) (puts a0 vs) w)
  (h2:Jnd P md ops Q S need f listed ds a0 J->wpAnyN P md ops Q S need fuel listed a0 w0):wpAnyN P md ops Q S need fuel listed a0 w0:=h2 h1
theorem jmN {f:Nat} {listed L:Array Bool} {ds:List Nat} {a0 a:Act} {w:World} {vs:List (Nat × Value)} {J:List (Nat × Value)->World->Prop} (hJ:Jnd P md ops Q S need f listed ds a0 J) (hj:J vs w)
  (e1:L=lists listed ds:=by kernel_rfl) (e2:puts a0 vs=a:=by simp only[puts,Act.put,List.getElem_toArray,List.getElem_cons_zero,List.getElem_cons_succ,List.setIfInBounds_toArray,List.set_cons_zero,List.set_cons_succ]):wpAnyN P md ops Q S need f L a w:=by
 subst e1 e2;exact hJ vs w hj
end
end
section
open Go.RowKit
theorem reg_of {x:Ac} {a:Int} (h:0<=a/\a<=7) (h8:x.regs.length=8):∃ (q:Nat) (v:Vl),a=(q:Int)/\q<8/\x.regs[q]?=some v/\x.reg a=v:=by
 obtain⟨q,rfl⟩:=Int.eq_ofNat_of_zero_le h.1;obtain⟨v,hv⟩:=at_some (l:=x.regs) (i:=q) (by omega);exact⟨q,v,rfl,by omega,hv,by simp[Ac.reg,hv]⟩
theorem WdOwn.regAt {w:World} {base Bw:Nat} {V:Wd} {av pv:Value} {fl:List Fa} {rs:List (List (Value × Ob))} (h:WdOwn w base Bw V av pv fl rs) {g nn c:Nat} (hav:av=.slice (some ⟨g,0,none⟩) nn c) {j:Nat} {x:Ac} (hx:V.acts[j]?=some x) (h8:x.regs.length=8) :
  ∃ R fa r rc,fl[j]?=some fa/\rs[j]?=some r/\fa.ra=some ⟨R,0,none⟩/\w.cell? ⟨g,j*8+4,none⟩=some (.slice (some ⟨R,0,none⟩) 8 rc)/\(∀ q v,x.regs[q]?=some v->w.cell? ⟨R,q*2,none⟩=some (.int .i64 v.k)/\w.cell? ⟨R,q*2+1,none⟩=some (.int .i64 v.n))/\(∀ i,w.frozen? ⟨R,i,none⟩=false)/\R<w.heap.size/\8<=rc/\rc=fa.rc:=by
 obtain⟨fa,r,g',c',R,hfa,hr,hA,hav2,hR,_,_,_,_,k4,_,_,_⟩:=h.cells hx;rw[hav] at hav2;simp only[Value.slice.injEq,Option.some.injEq,Addr.mk.injEq,and_true] at hav2;obtain⟨rfl,_,_⟩:=hav2;have hR':=hR (by omega);rw[hR',h8] at k4;obtain⟨v0,hv0⟩:=at_some (l:=x.regs) (i:=0) (by omega);obtain⟨R0,e0,_,_,hf⟩:=hA.reg hv0;rw[hR'] at e0;simp only[Option.some.injEq,Addr.mk.injEq,and_true] at e0;subst e0;refine⟨R,fa,r,fa.rc,hfa,hr,hR',k4,fun q v hv=>?_,hf,ownsRow_blk_lt hA.regs R (by rw[mem_vB,hR'];rfl),?_,rfl⟩
 rotate_left
 ·rcases hA.regs.2 with⟨hv,_⟩ | ⟨g2,cap,cur,hv,_,_,h1,_⟩
  ·rw[hR'] at hv;simp at hv
  ·simp only[Value.slice.injEq] at hv
   rw[hv.2.2];omega
 obtain⟨R1,e1,h1,h2,_⟩:=hA.reg hv;rw[hR'] at e1;simp only[Option.some.injEq,Addr.mk.injEq,and_true] at e1;subst e1;exact⟨h1,h2⟩
theorem WdOwn.same {w w':World} {base Bw:Nat} {V:Wd} {av pv:Value} {fl:List Fa} {rs:List (List (Value × Ob))} (h:WdOwn w base Bw V av pv fl rs) {j:Nat} {x:Ac} (hx:V.acts[j]?=some x) (hb:Below w.heap.size w w'):WdOwn w' base Bw { V with acts:=V.acts.set j x } av pv fl rs:=by
 rw[set_same hx];exact h.below hb
theorem isW_le {n:Int} (h:isW n=true):-1099511627776<=n/\n<=1099511627776:=by
 simpa[isW] using h
theorem reckon_any (op a b n:Int) (w:World) {base Bw:Nat} {V:Wd} {av pv:Value} {fl:List Fa} {rs:List (List (Value × Ob))} (h:WdOwn w base Bw V av pv fl rs) {j:Nat} {x:Ac} (hx:V.acts[j]?=some x) {g nn c:Nat} (hav:av=.slice (some ⟨g,0,none⟩) nn c) (h8:x.regs.length=8) (ha:0<=a/\a<=7) (hb:0<=b/\b<=7)
  (hw:∀ v∈x.regs,v.k=1->isW v.n=true) :
  Calls Tryz.prog 129 #[.pointer (some ⟨g,j*8,none⟩),.agg #[.int .i64 op,.int .i64 a,.int .i64 b,.int .i64 n]] w fun e w'=>e=.returned (.int .i64 (reckonS x ⟨op,a,b,n⟩).2)/\WdOwn w' base Bw { V with acts:=V.acts.set j (reckonS x ⟨op,a,b,n⟩).1 } av pv fl rs/\Moved w w' (wdFoot Bw av pv fl rs) (wdFoot Bw av pv fl rs):=by
 obtain⟨qa,va,rfl,hqa,hva,era⟩:=reg_of ha h8;obtain⟨qb,vb,rfl,hqb,hvb,erb⟩:=reg_of hb h8;obtain⟨N0,k1,b1,s1⟩:=boxes1 w (.cells #[.int .i64 op,.int .i64 qa,.int .i64 qb,.int .i64 n] 49);have h1:=h.below b1;obtain⟨fa,r,g',c',R,hfa,hr,hA,hav2,_,_,_,_,_,k4,_,_,_⟩:=h1.cells hx;rw[hav] at hav2;simp only[Value.slice.injEq,Option.some.injEq,Addr.mk.injEq,and_true] at hav2;obtain⟨rfl,_,_⟩:=hav2;have HAV:Aside (av=.slice (some ⟨g,0,none⟩) nn c):=hav
 clear hav;obtain⟨R1,hR1,ra1,ra2,hfz⟩:=hA.reg hva;obtain⟨R2,hR2,rb1,rb2,_⟩:=hA.reg hvb;rw[hR1] at hR2;simp only[Option.some.injEq,Addr.mk.injEq,and_true] at hR2;subst hR2;rw[hR1,h8] at k4;have HRK:Aside (reckonS x ⟨op,qa,qb,n⟩=if va.k≠1\/vb.k≠1 then (x,8) else if isW (resultS op va.n vb.n)=false then (x,7) else (x.put qa (numV (resultS op va.n vb.n)),0)):=by
  show reckonS x ⟨op,qa,qb,n⟩=_
  simp only[reckonS,era,erb]
 have hwa:=hw va (List.mem_of_getElem? hva);have hwb:=hw vb (List.mem_of_getElem? hvb);generalize reckonS x ⟨op,qa,qb,n⟩=RK at *;have hza:(qa:Int)<8:=by omega
 have hzb:(qb:Int)<8:=by omega
 have HW:Aside (WdOwn w base Bw V av pv fl rs):=h;have HM:Aside (∀ w',Below w.heap.size w w'->Moved w w' (wdFoot Bw av pv fl rs) (wdFoot Bw av pv fl rs)):=fun w' hb'=>Moved.of_below hb'
 go_enter Tryz.func129,Tryz.ntmps129
 go_upto_region 1 with fail
 generalize w.alloc (.cells #[.int .i64 op,.int .i64 qa,.int .i64 qb,.int .i64 n] 49)=W at *;have e0:W.cell? ⟨w.heap.size,0,none⟩=some (.int .i64 op):=cell_blk N0 0;have e1:W.cell? ⟨w.heap.size,1,none⟩=some (.int .i64 qa):=cell_blk N0 1;have e2:W.cell? ⟨w.heap.size,2,none⟩=some (.int .i64 qb):=cell_blk N0 2;obtain⟨xk,xn⟩:=va;obtain⟨yk,yn⟩:=vb;simp only at ra1 ra2 rb1 rb2 hwa hwb HRK;have hWs:Aside (WdOwn W base Bw V av pv fl rs):=h1
 clear h h1 hA N0;have hSof:∀ w',Below W.heap.size W w'->(w'.cell? ⟨w.heap.size,1,none⟩=some (.int .i64 qa)/\w'.cell? ⟨w.heap.size,2,none⟩=some (.int .i64 qb)/\w'.cell? ⟨g,j*8+4,none⟩=some (.slice (some ⟨R1,0,none⟩) 8 fa.rc)/\w'.cell? ⟨R1,qa*2,none⟩=some (.int .i64 xk)/\w'.cell? ⟨R1,qa*2+1,none⟩=some (.int .i64 xn)/\w'.cell? ⟨R1,qb*2,none⟩=some (.int .i64 yk)/\w'.cell? ⟨R1,qb*2+1,none⟩=some (.int .i64 yn)):=fun w' hb'=>⟨Keeps.below hb' _ _ e1,Keeps.below hb' _ _ e2,Keeps.below hb' _ _ k4,Keeps.below hb' _ _ ra1,Keeps.below hb' _ _ ra2,Keeps.below hb' _ _ rb1,Keeps.below hb' _ _ rb2⟩
 go_cut [5,6] (fun s5 s6 wc=>∃ G1 G2:Nat,s5=.pointer (some ⟨G1,0,none⟩)/\s6=.pointer (some ⟨G2,0,none⟩)/\Below W.heap.size W wc/\W.heap.size<=G1/\W.heap.size<=G2/\G1≠G2/\wc.heap[G1]?=some (.cells #[.int .i64 xk,.int .i64 xn] 66 (0,0))/\wc.heap[G2]?=some (.cells #[.int .i64 yk,.int .i64 yn] 66 (0,0)))
 case first =>
  have hB:Below W.heap.size W W.drew:=(Below.refl _ _).drew;refine wp_region_need (fun _=>true) (fun w'=>w'.cell? ⟨w.heap.size,1,none⟩=some (.int .i64 qa)/\w'.cell? ⟨w.heap.size,2,none⟩=some (.int .i64 qb)/\w'.cell? ⟨g,j*8+4,none⟩=some (.slice (some ⟨R1,0,none⟩) 8 fa.rc)/\w'.cell? ⟨R1,qa*2,none⟩=some (.int .i64 xk)/\w'.cell? ⟨R1,qa*2+1,none⟩=some (.int .i64 xn)/\w'.cell? ⟨R1,qb*2,none⟩=some (.int .i64 yk)/\w'.cell? ⟨R1,qb*2+1,none⟩=some (.int .i64 yn)) (by kernel_rfl) (hSof _ hB) (fun hS=>?_)
  generalize W.drew=wc0 at hS hB ⊢;refine tkN 0 hS ?_;refine tkN 1 hS ?_;refine tkN 2 hS ?_;refine tkN 3 hS ?_;refine tkN 4 hS ?_;refine tkN 5 hS ?_;refine tkN 6 hS ?_;refine tkN 7 hS ?_;refine tkN 8 hS ?_;refine tkN 9 hS ?_;refine tkN 10 hS ?_;refine tkN 11 hS ?_;refine tkN 12 hS ?_;refine tkN 13 hS ?_;refine tkN 14 hS ?_;refine tkN 15 hS ?_;refine twN 16 17 (fun K hK=>?_) (fun K hK=>?_)
  ·go_simp
   have hbn:=below_box wc0 (Obj.cells #[.int .i64 0,.int .i64 0] 66);have m1:=Deep.blk_alloc_new wc0 (Obj.cells #[.int .i64 0,.int .i64 0] 66);have x1:W.heap.size<=wc0.heap.size:=hB.size
   try have hlt:G2<wc0.heap.size:=(Array.getElem?_eq_some_iff.1 m2).1
   generalize wc0.alloc (Obj.cells #[.int .i64 0,.int .i64 0] 66)=wc1 at hbn m1 ⊢;obtain⟨G1,hG⟩:∃ G1,G1=wc0.heap.size:=⟨_,rfl⟩;rw[<- hG] at m1 x1 ⊢
   try rw[<- hG] at hlt
   clear hG;have hBn:Below W.heap.size W wc1:=hB.trans (hbn.mono hB.size);refine otN hK (hSof _ hBn) ?_;replace hS:=hSof _ hBn;clear hK;replace hB:=hBn;clear hBn hbn;refine stN 17 (fun K hK=>?_);go_simp;have hbn:=below_box wc1 (Obj.cells #[.int .i64 0,.int .i64 0] 66);have m2:=Deep.blk_alloc_new wc1 (Obj.cells #[.int .i64 0,.int .i64 0] 66);have x2:W.heap.size<=wc1.heap.size:=hB.size
   try have hlt:G1<wc1.heap.size:=(Array.getElem?_eq_some_iff.1 m1).1
   generalize wc1.alloc (Obj.cells #[.int .i64 0,.int .i64 0] 66)=wc2 at hbn m2 ⊢;obtain⟨G2,hG⟩:∃ G2,G2=wc1.heap.size:=⟨_,rfl⟩;rw[<- hG] at m2 x2 ⊢
   try rw[<- hG] at hlt
   clear hG;have hBn:Below W.heap.size W wc2:=hB.trans (hbn.mono hB.size);refine otN hK (hSof _ hBn) ?_;replace hS:=hSof _ hBn;clear hK;replace m1:=(hbn.block _ (Array.getElem?_eq_some_iff.1 m1).1).trans m1;replace hB:=hBn;clear hBn hbn;refine stN 18 (fun K hK=>?_);have c0:=cellBlk m1 0;have c1:=cellBlk m1 1;have cf:∀ j,wc2.frozen? ⟨G1,j,none⟩=false:=fun j=>by simp[World.frozen?,m1]
   simp at c0 c1;go_simp;have hBn:=two_below hB x1 0 1 (.int .i64 xk) (.int .i64 xn);replace m1:=two_blk m1 0 1 (.int .i64 xk) (.int .i64 xn)
   try replace m2:=(two_other 0 1 (.int .i64 xk) (.int .i64 xn) (show G2≠G1 by omega)).trans m2
   clear c0 c1 cf;generalize (wc2.setCell ⟨G1,0,none⟩ (.int .i64 xk)).setCell ⟨G1,1,none⟩ (.int .i64 xn)=wc3 at *;refine otN hK (hSof _ hBn) ?_;replace hS:=hSof _ hBn;clear hK;replace hB:=hBn;clear hBn;refine stN 19 (fun K hK=>?_);have c0:=cellBlk m2 0;have c1:=cellBlk m2 1;have cf:∀ j,wc3.frozen? ⟨G2,j,none⟩=false:=fun j=>by simp[World.frozen?,m2]
   simp at c0 c1;go_simp;have hBn:=two_below hB x2 0 1 (.int .i64 yk) (.int .i64 yn);replace m2:=two_blk m2 0 1 (.int .i64 yk) (.int .i64 yn)
   try replace m1:=(two_other 0 1 (.int .i64 yk) (.int .i64 yn) (show G1≠G2 by omega)).trans m1
   clear c0 c1 cf;generalize (wc3.setCell ⟨G2,0,none⟩ (.int .i64 yk)).setCell ⟨G2,1,none⟩ (.int .i64 yn)=wc4 at *;refine otN hK (hSof _ hBn) ?_;replace hS:=hSof _ hBn;clear hK;replace hB:=hBn;clear hBn;refine dnN ?_
   go_wp2_with fail
   go_meet
   case rel=>exact⟨G1,G2,rfl,rfl,hB,x1,x2,by omega,m1,m2⟩
  ·go_simp
   have hbn:=below_box wc0 (Obj.cells #[.int .i64 0,.int .i64 0] 66);have m2:=Deep.blk_alloc_new wc0 (Obj.cells #[.int .i64 0,.int .i64 0] 66);have x2:W.heap.size<=wc0.heap.size:=hB.size
   try have hlt:G1<wc0.heap.size:=(Array.getElem?_eq_some_iff.1 m1).1
   generalize wc0.alloc (Obj.cells #[.int .i64 0,.int .i64 0] 66)=wc1 at hbn m2 ⊢;obtain⟨G2,hG⟩:∃ G2,G2=wc0.heap.size:=⟨_,rfl⟩;rw[<- hG] at m2 x2 ⊢
   try rw[<- hG] at hlt
   clear hG;have hBn:Below W.heap.size W wc1:=hB.trans (hbn.mono hB.size);refine otN hK (hSof _ hBn) ?_;replace hS:=hSof _ hBn;clear hK;replace hB:=hBn;clear hBn hbn;refine stN 16 (fun K hK=>?_);go_simp;have hbn:=below_box wc1 (Obj.cells #[.int .i64 0,.int .i64 0] 66);have m1:=Deep.blk_alloc_new wc1 (Obj.cells #[.int .i64 0,.int .i64 0] 66);have x1:W.heap.size<=wc1.heap.size:=hB.size
   try have hlt:G2<wc1.heap.size:=(Array.getElem?_eq_some_iff.1 m2).1
   generalize wc1.alloc (Obj.cells #[.int .i64 0,.int .i64 0] 66)=wc2 at hbn m1 ⊢;obtain⟨G1,hG⟩:∃ G1,G1=wc1.heap.size:=⟨_,rfl⟩;rw[<- hG] at m1 x1 ⊢
   try rw[<- hG] at hlt
   clear hG;have hBn:Below W.heap.size W wc2:=hB.trans (hbn.mono hB.size);refine otN hK (hSof _ hBn) ?_;replace hS:=hSof _ hBn;clear hK;replace m2:=(hbn.block _ (Array.getElem?_eq_some_iff.1 m2).1).trans m2;replace hB:=hBn;clear hBn hbn;refine stN 18 (fun K hK=>?_);have c0:=cellBlk m1 0;have c1:=cellBlk m1 1;have cf:∀ j,wc2.frozen? ⟨G1,j,none⟩=false:=fun j=>by simp[World.frozen?,m1]
   simp at c0 c1;go_simp;have hBn:=two_below hB x1 0 1 (.int .i64 xk) (.int .i64 xn);replace m1:=two_blk m1 0 1 (.int .i64 xk) (.int .i64 xn)
   try replace m2:=(two_other 0 1 (.int .i64 xk) (.int .i64 xn) (show G2≠G1 by omega)).trans m2
   clear c0 c1 cf;generalize (wc2.setCell ⟨G1,0,none⟩ (.int .i64 xk)).setCell ⟨G1,1,none⟩ (.int .i64 xn)=wc3 at *;refine otN hK (hSof _ hBn) ?_;replace hS:=hSof _ hBn;clear hK;replace hB:=hBn;clear hBn;refine stN 19 (fun K hK=>?_);have c0:=cellBlk m2 0;have c1:=cellBlk m2 1;have cf:∀ j,wc3.frozen? ⟨G2,j,none⟩=false:=fun j=>by simp[World.frozen?,m2]
   simp at c0 c1;go_simp;have hBn:=two_below hB x2 0 1 (.int .i64 yk) (.int .i64 yn);replace m2:=two_blk m2 0 1 (.int .i64 yk) (.int .i64 yn)
   try replace m1:=(two_other 0 1 (.int .i64 yk) (.int .i64 yn) (show G1≠G2 by omega)).trans m1
   clear c0 c1 cf;generalize (wc3.setCell ⟨G2,0,none⟩ (.int .i64 yk)).setCell ⟨G2,1,none⟩ (.int .i64 yn)=wc4 at *;refine otN hK (hSof _ hBn) ?_;replace hS:=hSof _ hBn;clear hK;replace hB:=hBn;clear hBn;refine dnN ?_
   go_wp2_with fail
   go_meet
   case rel=>exact⟨G1,G2,rfl,rfl,hB,x1,x2,by omega,m1,m2⟩
 case rest =>
  obtain⟨G1,G2,rfl,rfl,hBc,x1,x2,hne,m1,m2⟩:=hcut;have hBw:=b1.trans (hBc.mono b1.size);have HB:Aside (Below w.heap.size w wc):=hBw;have f0:=Keeps.below hBc _ _ e0;have f1:=Keeps.below hBc _ _ e1;have g0:wc.cell? ⟨G1,0,none⟩=some (.int .i64 xk):=cell_blk m1 0;have g1:wc.cell? ⟨G1,1,none⟩=some (.int .i64 xn):=cell_blk m1 1;have i0:wc.cell? ⟨G2,0,none⟩=some (.int .i64 yk):=cell_blk m2 0;have i1:wc.cell? ⟨G2,1,none⟩=some (.int .i64 yn):=cell_blk m2 1
  clear e0 e1 e2 ra1 ra2 rb1 rb2 k4 hfz hBc m1 m2 hSof hWs hBw
  by_cases hxk:xk=1
  rotate_left
  ·have q0:(xk != 1)=true:=by simp[hxk]
   have hRK:RK=(x,8):=by rw[HRK.out,if_pos (.inl hxk)]
   subst hRK
   go_wp2_with (go_at_call 166;refine(isNoNumber_any _ _ _).mono ?_;rintro e w' ⟨rfl,hb⟩;replace HB:Aside _:=HB.out.trans (hb.mono HB.out.size);clear hb)
   go_ret
   exact⟨rfl,HW.out.same hx HB.out,HM.out _ HB.out⟩
  by_cases hyk:yk=1
  rotate_left
  ·have q0:(xk != 1)=false:=by simp[hxk]
   have q1:(yk != 1)=true:=by simp[hyk]
   have hRK:RK=(x,8):=by rw[HRK.out,if_pos (.inr hyk)]
   subst hRK
   go_wp2_with (go_at_call 166;refine(isNoNumber_any _ _ _).mono ?_;rintro e w' ⟨rfl,hb⟩;replace HB:Aside _:=HB.out.trans (hb.mono HB.out.size);try replace i0:=Keeps.below hb _ _ i0;try replace i1:=Keeps.below hb _ _ i1;clear hb)
   go_ret
   exact⟨rfl,HW.out.same hx HB.out,HM.out _ HB.out⟩
  subst hxk hyk;have hax:=isW_le (hwa rfl);have hay:=isW_le (hwb rfl)
  go_wp2_with (go_at_call 166;refine(isNoNumber_any _ _ _).mono ?_;rintro e w' ⟨rfl,hb⟩;replace HB:Aside _:=HB.out.trans (hb.mono HB.out.size);replace f0:=Keeps.below hb _ _ f0;replace f1:=Keeps.below hb _ _ f1;replace g0:=Keeps.below hb _ _ g0;replace g1:=Keeps.below hb _ _ g1;replace i0:=Keeps.below hb _ _ i0;replace i1:=Keeps.below hb _ _ i1;clear hb)
  have hrs:=result_any op xn yn w' hax hay;have HRK2:Aside (RK=if isW (resultS op xn yn)=false then (x,7) else (x.put qa (numV (resultS op xn yn)),0)):=by
   show RK=_
   rw[HRK.out];simp
  clear HRK;generalize resultS op xn yn=RN at *;refine hrs.mono ?_;rintro e w'' ⟨rfl,hw''⟩;replace hw'':=hw''.symm;subst hw'';clear hrs
  cases hq:isW RN with
  | false =>
   have hRK:RK=(x,7):=by rw[HRK2.out,hq];rfl
   subst hRK
   go_wp2_with (go_at_call 58;refine(isWord_any _ _).mono ?_;rw[hq];rintro e w'' ⟨rfl,hw''⟩;replace hw'':=hw''.symm;subst hw'')
   go_ret
   exact⟨rfl,HW.out.same hx HB.out,HM.out _ HB.out⟩
  | true =>
   have hRK:RK=(x.put qa (numV RN),0):=by rw[HRK2.out,hq];rfl
   subst hRK
   go_upto_region 7 with(go_at_call 58;refine(isWord_any _ _).mono ?_;rw[hq];rintro e w'' ⟨rfl,hw''⟩;replace hw'':=hw''.symm;subst hw'')
   obtain⟨R,fb,rb,rc,hfb,hrb,hra,k4,kq,kf,hRl,_⟩:=(HW.out.below HB.out).regAt HAV.out hx h8;obtain⟨q1,q2⟩:=kq qa _ hva;have hSof:∀ w2,Below w'.heap.size w' w2->(w2.cell? ⟨w.heap.size,1,none⟩=some (.int .i64 qa)/\w2.cell? ⟨g,j*8+4,none⟩=some (.slice (some ⟨R,0,none⟩) 8 rc)):=fun w2 hb'=>⟨Keeps.below hb' _ _ f1,Keeps.below hb' _ _ k4⟩
   have hBd:Below w'.heap.size w' w'.drew:=(Below.refl _ _).drew;refine wp_region_need (fun j=>j != 9) (fun w2=>w2.cell? ⟨w.heap.size,1,none⟩=some (.int .i64 qa)/\w2.cell? ⟨g,j*8+4,none⟩=some (.slice (some ⟨R,0,none⟩) 8 rc)) (by kernel_rfl) (hSof _ hBd) (fun hS=>?_);generalize w'.drew=wc0 at hS hBd ⊢;refine tkN 0 hS ?_;refine tkN 1 hS ?_;refine tkN 2 hS ?_;refine tkN 3 hS ?_;refine tkN 4 hS ?_;refine tkN 5 hS ?_
   refine tkN 6 hS ?_;refine stN 7 (fun K hK=>?_);go_simp;refine(num_any _ _).mono ?_;rintro e wn ⟨rfl,hbn⟩;have hBn:=hBd.trans (hbn.mono hBd.size);refine otN hK ((hSof _ hBn)) ?_;clear hK;replace hS:=(hSof _ hBn);replace q1:=Keeps.below hBn _ _ q1;replace q2:=Keeps.below hBn _ _ q2;have kf':∀ i,wn.frozen? ⟨R,i,none⟩=false:=fun i=>(hBn.frozen hRl).trans (kf i)
   refine tkN 8 hS ?_;refine stN 9 (fun K hK=>?_);go_simp;refine laN hK ?_;clear hK;have hBz:=HB.out.trans (hBn.mono HB.out.size);have hS1:=(HW.out.below hBz).setReg hfb hrb hx hra (q:=qa) (by omega) (numV RN);have hM1:=(HM.out _ hBz).trans hS1.2;have HZ:Aside (WdOwn ((wn.setCell ⟨R,qa*2,none⟩ (.int .i64 1)).setCell ⟨R,qa*2+1,none⟩ (.int .i64 RN)) base Bw { V with acts:=V.acts.set j (x.put qa (numV RN)) } av pv fl rs/\Moved w ((wn.setCell ⟨R,qa*2,none⟩ (.int .i64 1)).setCell ⟨R,qa*2+1,none⟩ (.int .i64 RN)) (wdFoot Bw av pv fl rs) (wdFoot Bw av pv fl rs)):=⟨hS1.1,hM1⟩
   clear hS1 hM1 hS hSof q1 q2 kf' kq;generalize (wn.setCell ⟨R,qa*2,none⟩ (.int .i64 1)).setCell ⟨R,qa*2+1,none⟩ (.int .i64 RN)=wz at HZ ⊢;go_wp2
   go_ret
   exact⟨rfl,HZ.out.1,HZ.out.2⟩
end
end Go.Proofs.YtihpkcccfgbcmaaGreatDoor
