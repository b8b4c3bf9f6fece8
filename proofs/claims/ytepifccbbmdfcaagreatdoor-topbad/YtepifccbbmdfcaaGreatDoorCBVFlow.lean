/- VFlow. -/
import Derived.Test.YtepifccbbmdfcaaGreatDoorCBVGoes
namespace Go.Proofs.YtepifccbbmdfcaaGreatDoor
section
def RcN (l:List Ob) (v:Vl):Nat->Int->Prop
 | 0,p=>v.k=2/\p=v.n
 | i+1,p=>∃ q u,RcN l v i q/\u∈fieldsOf l q/\u.k=2/\p=u.n
def Rc (l:List Ob) (v:Vl) (p:Int):Prop:=∃ i,RcN l v i p
theorem Rc.root {l:List Ob} {v:Vl} (hk:v.k=2):Rc l v v.n:=⟨0,hk,rfl⟩
theorem Rc.step {l:List Ob} {v:Vl} {p:Int} {u:Vl} (h:Rc l v p) (hu:u∈fieldsOf l p) (hk:u.k=2):Rc l v u.n:=by
 obtain⟨i,hi⟩:=h;exact⟨i+1,p,u,hi,hu,hk,rfl⟩
theorem Rc.ind {l:List Ob} {v:Vl} {motive:(p:Int)->Rc l v p->Prop} (root:∀ hk:v.k=2,motive v.n (Rc.root hk))
  (step:∀ {p:Int} {u:Vl} (h:Rc l v p) (hu:u∈fieldsOf l p) (hk:u.k=2),motive p h->motive u.n (Rc.step h hu hk)) {p:Int} (h:Rc l v p):motive p h:=by
 obtain⟨i,hi⟩:=h
 induction i generalizing p with
 | zero =>
  obtain⟨hk,rfl⟩:=hi;exact root hk
 | succ i ih =>
  obtain⟨q,u,hq,hu,hk,rfl⟩:=hi;exact step ⟨i,hq⟩ hu hk (ih hq)
theorem Rc.trans {l:List Ob} {v u:Vl} {p q:Int} (h:Rc l v p) (hu:u∈fieldsOf l p) (k:Rc l u q):Rc l v q:=by
 induction k using Rc.ind with
 | root hk=>exact .step h hu hk
 | step _ h2 h3 ih=>exact .step ih h2 h3
theorem rc_of_reach {l:List Ob} {roots:List Vl} {p:Int} (h:p∈reach l roots):∃ v∈roots,Rc l v p:=by
 have hs:Sim l l id (fun p=>∃ v∈roots,Rc l v p):={
  inj:=fun _ _ _ _ e=>e
  fields:=fun p _=>by
   have e:ren id=id:=by
    funext v
    unfold ren
    by_cases hk:v.k=2
    ·rw[if_pos hk]
     obtain⟨k,n⟩:=v;simp at hk;subst hk
     rfl
    ·rw[if_neg hk];rfl
   rw[e,List.map_id];rfl
  closed:=fun p ⟨v,hv,hr⟩ u hu hk=>⟨v,hv,.step hr hu hk⟩ }
 exact reach_all hs (fun v hv hk=>⟨v,hv,.root hk⟩) p h
theorem reach_of_rc {M:Int} {l:List Ob} {r roots:List Vl} (hm:hMay M l r=true) (hr:roots.all (vMay l.length)=true) {v:Vl} (hv:v∈roots) {p:Int} (h:Rc l v p):p∈reach l roots:=by
 induction h using Rc.ind with
 | root hk=>exact reach_root hv hk
 | step _ hu hk ih=>exact reach_closed hm hr ih hu hk
theorem rc_in {M:Int} {l:List Ob} {r:List Vl} (hm:hMay M l r=true) {v:Vl} (hv:vMay l.length v=true) {p:Int} (h:Rc l v p):0<=p/\p<(l.length:Int):=by
 have hr:[v].all (vMay l.length)=true:=by simp[hv]
 exact(reach_ok hm [v] hr).2 p (reach_of_rc hm hr (by simp) h)
abbrev Tags:=Nat->Vl->Prop
structure Held (l:List Ob) (T:Tags):Prop where
 ref:∀ t v,T t v->v.k=2
 alive:∀ t v p,T t v->Rc l v p->(obAt l p).dead=false
 apart:∀ t t' v v' p,T t v->T t' v'->Rc l v p->Rc l v' p->t=t'
theorem Held.join {l:List Ob} {T T':Tags} (h:Held l T) (f:Nat->Nat) (hs:∀ t v,T' t v->∃ s,T s v/\f s=t):Held l T' where
 ref:=fun t v hv=>by obtain⟨s,hs,_⟩:=hs t v hv;exact h.ref s v hs
 alive:=fun t v p hv hp=>by obtain⟨s,hs,_⟩:=hs t v hv;exact h.alive s v p hs hp
 apart:=fun t t' v v' p hv hv' hp hp'=>by
  obtain⟨s,hs1,rfl⟩:=hs t v hv;obtain⟨s',hs2,rfl⟩:=hs t' v' hv';rw[h.apart s s' v v' p hs1 hs2 hp hp']
theorem Held.less {l:List Ob} {T T':Tags} (h:Held l T) (hs:∀ t v,T' t v->T t v):Held l T':=h.join id (fun t v hv=>⟨t,hs t v hv,rfl⟩)
theorem Held.heap {l l':List Ob} {T T':Tags} (h:Held l T) (href:∀ t v,T' t v->v.k=2)
  (hs:∀ t v p,T' t v->Rc l' v p->(∃ u,T t u/\Rc l u p)/\((obAt l p).dead=false->(obAt l' p).dead=false)):Held l' T' where
 ref:=href
 alive:=fun t v p hv hp=>by
  obtain⟨⟨u,hu,hr⟩,hd⟩:=hs t v p hv hp;exact hd (h.alive t u p hu hr)
 apart:=fun t t' v v' p hv hv' hp hp'=>by
  obtain⟨⟨u,hu,hr⟩,_⟩:=hs t v p hv hp;obtain⟨⟨u',hu',hr'⟩,_⟩:=hs t' v' p hv' hp';exact h.apart t t' u u' p hu hu' hr hr'
theorem Held.field {l:List Ob} {T:Tags} (h:Held l T) {t:Nat} {v:Vl} {p:Int} (hv:T t v) (hp:Rc l v p) {x:Vl} (hx:x∈fieldsOf l p) (hk:x.k=2):Held l (fun s u=>T s u\/(s=t/\u=x)):=by
 have up:∀ s u q,(T s u\/(s=t/\u=x))->Rc l u q->∃ u',T s u'/\Rc l u' q:=fun s u q hu hq=>by
  rcases hu with hu | ⟨rfl,rfl⟩
  ·exact⟨u,hu,hq⟩
  ·exact⟨v,hv,hp.trans hx hq⟩
 refine⟨fun s u hu=>?_,fun s u q hu hq=>?_,fun s s' u u' q hu hu' hq hq'=>?_⟩
 ·rcases hu with hu | ⟨_,rfl⟩
  ·exact h.ref s u hu
  ·exact hk
 ·obtain⟨u',h1,h2⟩:=up s u q hu hq
  exact h.alive s u' q h1 h2
 ·obtain⟨a,h1,h2⟩:=up s u q hu hq
  obtain⟨b,h3,h4⟩:=up s' u' q hu' hq';exact h.apart s s' a b q h1 h3 h2 h4
theorem obAt_some {l:List Ob} {p:Nat} {o:Ob} (h:l[p]?=some o):obAt l (p:Int)=o:=by simp[obAt,h]
theorem obAt_set {l:List Ob} {p:Nat} (hp:p<l.length) (o:Ob) (q:Int) (hq:0<=q):obAt (l.set p o) q=if q=(p:Int) then o else obAt l q:=by
 unfold obAt
 rw[List.getElem?_set]
 by_cases h:q=(p:Int)
 ·subst h
  simp[hp]
 ·rw[if_neg h,if_neg (fun e=>h (by omega))]
theorem Held.put {M:Int} {l:List Ob} {r:List Vl} (hm:hMay M l r=true) {T:Tags} (h:Held l T) (hT:∀ t v,T t v->vMay l.length v=true) {t:Nat} {v:Vl} {p:Nat} {o:Ob} (hv:T t v) (hp:Rc l v (p:Int)) (ho:l[p]?=some o) (f:Nat) (x:Vl) (hx:x.k=2->T t x) :
  Held (l.set p ⟨o.fs.set f x,o.dead⟩) T:=by
 have hlt:p<l.length:=(List.getElem?_eq_some_iff.1 ho).1;have fld:∀ q:Int,0<=q->∀ u∈fieldsOf (l.set p ⟨o.fs.set f x,o.dead⟩) q,u∈fieldsOf l q\/(q=(p:Int)/\u=x):=fun q hq u hu=>by
  rw[fieldsOf_obAt,obAt_set hlt _ _ hq] at hu;rw[fieldsOf_obAt]
  by_cases e:q=(p:Int)
  ·subst e
   rw[if_pos rfl] at hu;rw[obAt_some ho]
   rcases List.mem_or_eq_of_mem_set hu with hu | hu
   ·exact Or.inl hu
   ·exact Or.inr ⟨rfl,hu⟩
  ·rw[if_neg e] at hu
   exact Or.inl hu
 have main:∀ s u q,T s u->Rc (l.set p ⟨o.fs.set f x,o.dead⟩) u q->∃ u',T s u'/\Rc l u' q:=fun s u q hu hq=>by
  induction hq using Rc.ind with
  | root hk=>exact⟨u,hu,.root hk⟩
  | @step q y _ hy hk ih =>
   obtain⟨u',h1,h2⟩:=ih;have hq0:=(rc_in hm (hT s u' h1) h2).1
   rcases fld q hq0 y hy with hy | ⟨e,rfl⟩
   ·exact⟨u',h1,.step h2 hy hk⟩
   ·subst e
    have:=h.apart s t u' v p h1 hv h2 hp;subst this
    exact⟨y,hx hk,.root hk⟩
 refine h.heap h.ref (fun s u q hu hq=>?_);obtain⟨u',h1,h2⟩:=main s u q hu hq;refine⟨⟨u',h1,h2⟩,fun hd=>?_⟩;rw[obAt_set hlt _ _ (rc_in hm (hT s u' h1) h2).1]
 by_cases e:q=(p:Int)
 ·rw[if_pos e]
  rw[e,obAt_some ho] at hd;exact hd
 ·rw[if_neg e]
  exact hd
theorem fieldsOf_app {l m:List Ob} {p:Int} (h:0<=p/\p<(l.length:Int)):fieldsOf (l++m) p=fieldsOf l p:=by
 unfold fieldsOf
 rw[List.getElem?_append_left (by omega)]
theorem obAt_app {l m:List Ob} {p:Int} (h:0<=p/\p<(l.length:Int)):obAt (l++m) p=obAt l p:=by
 unfold obAt
 rw[List.getElem?_append_left (by omega)]
theorem rc_app {M:Int} {l m:List Ob} {r:List Vl} (hm:hMay M l r=true) {v:Vl} (hv:vMay l.length v=true) {p:Int}:Rc (l++m) v p↔Rc l v p:=by
 constructor
 ·intro h
  induction h using Rc.ind with
  | root hk=>exact .root hk
  | step _ hu hk ih =>
   rw[fieldsOf_app (rc_in hm hv ih)] at hu;exact .step ih hu hk
 ·intro h
  induction h using Rc.ind with
  | root hk=>exact .root hk
  | step h0 hu hk ih =>
   refine .step ih ?_ hk;rw[fieldsOf_app (rc_in hm hv h0)];exact hu
theorem Held.more {M:Int} {l m:List Ob} {r:List Vl} (hm:hMay M l r=true) {T:Tags} (h:Held l T) (hT:∀ t v,T t v->vMay l.length v=true) (s:Nat) (hs:∀ v,¬ T s v) (x:Vl) (hx:x.k=2)
  (hin:∀ p,Rc (l++m) x p->(l.length:Int)<=p/\(obAt (l++m) p).dead=false):Held (l++m) (fun t v=>T t v\/(t=s/\v=x)) where
 ref:=fun t v hv=>by
  rcases hv with hv | ⟨_,rfl⟩
  ·exact h.ref t v hv
  ·exact hx
 alive:=fun t v p hv hp=>by
  rcases hv with hv | ⟨_,rfl⟩
  ·rw[rc_app hm (hT t v hv)] at hp
   rw[obAt_app (rc_in hm (hT t v hv) hp)];exact h.alive t v p hv hp
  ·exact(hin p hp).2
 apart:=fun t t' v v' p hv hv' hp hp'=>by
  have old:∀ t v,T t v->Rc (l++m) v p->Rc l v p/\p<(l.length:Int):=fun t v hv hp=>by
   rw[rc_app hm (hT t v hv)] at hp;exact⟨hp,(rc_in hm (hT t v hv) hp).2⟩
  rcases hv with hv | ⟨rfl,rfl⟩
  ·rcases hv' with hv' | ⟨rfl,rfl⟩
   ·exact h.apart t t' v v' p hv hv' (old t v hv hp).1 (old t' v' hv' hp').1
   ·have:=(old t v hv hp).2
    have:=(hin p hp').1;omega
  ·rcases hv' with hv' | ⟨rfl,rfl⟩
   ·have:=(old t' v' hv' hp').2
    have:=(hin p hp).1;omega
   ·rfl
theorem rc_ren {l l':List Ob} {f:Int->Int} {S:Int->Prop} (hs:Sim l l' f S) {v:Vl} (hv:v.k=2->S v.n) {q:Int}:Rc l' (ren f v) q↔∃ p,Rc l v p/\S p/\f p=q:=by
 have up:∀ {p},Rc l v p->S p/\Rc l' (ren f v) (f p):=fun h=>by
  induction h using Rc.ind with
  | root hk =>
   refine⟨hv hk,?_⟩;have:(ren f v).n=f v.n:=by simp[ren,hk]
   rw[<- this];exact .root (by simp[ren,hk])
  | @step p u h0 hu hk ih =>
   refine⟨hs.closed p ih.1 u hu hk,?_⟩;have:(ren f u).n=f u.n:=by simp[ren,hk]
   rw[<- this];refine .step ih.2 ?_ (by simp[ren,hk]);rw[hs.fields p ih.1];exact List.mem_map_of_mem hu
 constructor
 ·intro h
  induction h using Rc.ind with
  | root hk =>
   by_cases h2:v.k=2
   ·exact⟨v.n,.root h2,hv h2,by simp[ren,h2]⟩
   ·simp[ren,h2] at hk
  | @step q u h0 hu hk ih =>
   obtain⟨p,hp,hS,rfl⟩:=ih;rw[hs.fields p hS] at hu;obtain⟨y,hy,rfl⟩:=List.mem_map.1 hu;have hy2:y.k=2:=by
    by_cases h2:y.k=2
    ·exact h2
    ·simp[ren,h2] at hk
   exact⟨y.n,.step hp hy hy2,hs.closed p hS y hy hy2,by simp[ren,hy2]⟩
 ·rintro⟨p,hp,_,rfl⟩
  exact(up hp).2
theorem Held.ren {l l':List Ob} {f:Int->Int} {S:Int->Prop} (hs:Sim l l' f S) (hd:∀ p,S p->(obAt l' (f p)).dead=(obAt l p).dead) {T T':Tags} (h:Held l T) (hT:∀ t v,T t v->S v.n)
  (hT':∀ t u,T' t u->∃ v,T t v/\u=Go.Proofs.YtepifccbbmdfcaaGreatDoor.ren f v):Held l' T' where
 ref:=fun t u hu=>by
  obtain⟨v,hv,rfl⟩:=hT' t u hu;simp[Go.Proofs.YtepifccbbmdfcaaGreatDoor.ren,h.ref t v hv]
 alive:=fun t u q hu hq=>by
  obtain⟨v,hv,rfl⟩:=hT' t u hu;obtain⟨p,hp,hS,rfl⟩:=(rc_ren hs (fun _=>hT t v hv)).1 hq;rw[hd p hS];exact h.alive t v p hv hp
 apart:=fun t t' u u' q hu hu' hq hq'=>by
  obtain⟨v,hv,rfl⟩:=hT' t u hu;obtain⟨v',hv',rfl⟩:=hT' t' u' hu';obtain⟨p,hp,hS,rfl⟩:=(rc_ren hs (fun _=>hT t v hv)).1 hq;obtain⟨p',hp',hS',e⟩:=(rc_ren hs (fun _=>hT t' v' hv')).1 hq';rw[hs.inj p' p hS' hS e] at hp';exact h.apart t t' v v' p hv hv' hp hp'
end
section
theorem vAt_set {k:List Int} (hk:k.length=8) {a:Int} (ha:0<=a/\a<=7) (x:Int) (i:Nat):vAt (vPut k a x) i=if (i:Int)=a then x else vAt k i:=by
 unfold vAt vPut
 simp only[Int.toNat_natCast,List.getElem?_set]
 by_cases h:(i:Int)=a
 ·rw[if_pos h,if_pos (by omega),if_pos (by omega)];rfl
 ·rw[if_neg h,if_neg (by omega)]
def tagOf (x:Int) (r:Nat):Nat:=if x=2 then 0 else r+1
def tagsOf (k:List Int) (regs box:List Vl):Tags:=fun t v =>
 (∃ r:Nat,r<8/\regs[r]?=some v/\(vAt k r=2\/vAt k r=3)/\t=tagOf (vAt k r) r)\/(∃ i:Nat,box[i]?=some v/\t=100+i)
structure Typ (l:List Ob) (regs box:List Vl) (k:List Int):Prop where
 num:∀ (r:Nat) v,r<8->regs[r]?=some v->vAt k r=1->v.k=1
 held:Held l (tagsOf k regs box)
theorem tagOf_lt (x:Int) {r:Nat} (h:r<8):tagOf x r<100:=by unfold tagOf;split <;> omega
theorem tagsOf_reg {k:List Int} {regs box:List Vl} {r:Nat} {v:Vl} (hr:r<8) (h:regs[r]?=some v) (ho:vAt k r=2\/vAt k r=3):tagsOf k regs box (tagOf (vAt k r) r) v:=Or.inl ⟨r,hr,h,ho,rfl⟩
section
variable {l:List Ob} {regs box:List Vl} {k:List Int}
theorem Typ.obj (h:Typ l regs box k) {r:Nat} {v:Vl} (hr:r<8) (hv:regs[r]?=some v) (ho:vAt k r=2\/vAt k r=3):v.k=2/\∀ p,Rc l v p->(obAt l p).dead=false :=
 ⟨h.held.ref _ _ (tagsOf_reg hr hv ho),fun _ hp=>h.held.alive _ _ _ (tagsOf_reg hr hv ho) hp⟩
theorem Typ.le (h:Typ l regs box k) {k':List Int} (hle:∀ r:Nat,r<8->vAt k' r=vAt k r\/vAt k' r=0\/(vAt k' r=2/\vAt k r=3)):Typ l regs box k' where
 num:=fun r v hr hv h1=>by
  rcases hle r hr with e | e | ⟨e,_⟩
  ·exact h.num r v hr hv (by omega)
  ·omega
  ·omega
 held:=by
  refine h.held.join (fun t=>if 100<=t then t else if vAt k' ((t-1:Nat):Int)=2 then 0 else t) (fun t v hv=>?_)
  rcases hv with⟨r,hr,hv,ho,rfl⟩ | ⟨i,hi,rfl⟩
  ·have ho':vAt k r=2\/vAt k r=3:=by rcases hle r hr with e | e | ⟨_,e⟩ <;> omega
   refine⟨tagOf (vAt k r) r,tagsOf_reg hr hv ho',?_⟩;have:=tagOf_lt (vAt k r) hr;rw[if_neg (by omega)]
   unfold tagOf
   by_cases h2:vAt k r=2
   ·have e2:vAt k' r=2:=by rcases hle r hr with e | e | ⟨e,_⟩ <;> omega
    rw[if_pos h2,if_pos e2]
    split <;> rfl
   ·rw[if_neg h2]
    simp only[Nat.add_sub_cancel]
  ·exact⟨100+i,Or.inr ⟨i,hi,rfl⟩,by rw[if_pos (by omega)]⟩
theorem Typ.join (h:Typ l regs box k) {k':List Int} (hj:∀ r:Nat,r<8->vJoin (vAt k' r) (vAt k r)=vAt k' r):Typ l regs box k':=by
 refine h.le (fun r hr=>?_);have:=hj r hr
 unfold vJoin vObj at this
 by_cases e:vAt k' r=vAt k r
 ·exact Or.inl e
 ·rw[if_neg e] at this
  split at this
  ·rename_i ho
   simp only[Bool.and_eq_true,decide_eq_true_eq] at ho;omega
  ·omega
theorem Typ.set (h:Typ l regs box k) (hk:k.length=8) {a:Int} (ha:0<=a/\a<=7) {x:Int} (hx:x=0\/x=1) {v:Vl} (hv:x=1->v.k=1):Typ l (regs.set a.toNat v) box (vPut k a x) where
 num:=fun r u hr hu h1=>by
  rw[vAt_set hk ha] at h1;rw[List.getElem?_set] at hu
  by_cases e:(r:Int)=a
  ·rw[if_pos (by omega)] at hu
   rw[if_pos e] at h1
   split at hu
   ·simp at hu;subst hu;exact hv h1
   ·cases hu
  ·rw[if_neg (by omega)] at hu
   rw[if_neg e] at h1;exact h.num r u hr hu h1
 held:=by
  refine h.held.less (fun t u hu=>?_)
  rcases hu with⟨r,hr,hu,ho,rfl⟩ | hb
  ·rw[vAt_set hk ha] at ho ⊢
   by_cases e:(r:Int)=a
   ·rw[if_pos e] at ho;omega
   ·rw[if_neg e] at ho ⊢
    rw[List.getElem?_set,if_neg (by omega)] at hu;exact tagsOf_reg hr hu ho
  ·exact Or.inr hb
theorem Typ.forget (h:Typ l regs box k) (hk:k.length=8) {a:Int} (ha:0<=a/\a<=7):Typ l regs box (vPut k a 0):=by
 refine h.le (fun r _=>?_);rw[vAt_set hk ha]
 by_cases e:(r:Int)=a
 ·rw[if_pos e];exact Or.inr (Or.inl rfl)
 ·rw[if_neg e];exact Or.inl rfl
theorem Typ.share (h:Typ l regs box k) (hk:k.length=8) {a:Int} (ha:0<=a/\a<=7) (ho:vAt k a=2\/vAt k a=3):Typ l regs box (vPut k a 2):=by
 refine h.le (fun r _=>?_);rw[vAt_set hk ha]
 by_cases e:(r:Int)=a
 ·rw[if_pos e,e]
  rcases ho with ho | ho
  ·exact Or.inl ho.symm
  ·exact Or.inr (Or.inr ⟨rfl,ho⟩)
 ·rw[if_neg e];exact Or.inl rfl
theorem Typ.setShared (h:Typ l regs box k) (hk:k.length=8) {a:Int} (ha:0<=a/\a<=7) {b:Nat} (hb:b<8) {v:Vl} (hv:regs[b]?=some v) (ho:vAt k b=2) {p:Int} (hp:Rc l v p) {x:Vl} (hx:x∈fieldsOf l p) (hxk:x.k=2):Typ l (regs.set a.toNat x) box (vPut k a 2) where
 num:=fun r u hr hu h1=>by
  rw[vAt_set hk ha] at h1;rw[List.getElem?_set] at hu
  by_cases e:(r:Int)=a
  ·rw[if_pos e] at h1;omega
  ·rw[if_neg (by omega)] at hu
   rw[if_neg e] at h1;exact h.num r u hr hu h1
 held:=by
  have ht:tagsOf k regs box 0 v:=by
   have:=tagsOf_reg (box:=box) hb hv (Or.inl ho);rw[tagOf,if_pos ho] at this
   exact this
  refine(h.held.field ht hp hx hxk).less (fun t u hu=>?_)
  rcases hu with⟨r,hr,hu,ho',rfl⟩ | hb'
  ·rw[vAt_set hk ha] at ho' ⊢
   rw[List.getElem?_set] at hu
   by_cases e:(r:Int)=a
   ·rw[if_pos (by omega)] at hu
    rw[if_pos e]
    split at hu
    ·simp at hu;subst hu;exact Or.inr ⟨rfl,rfl⟩
    ·cases hu
   ·rw[if_neg (by omega)] at hu
    rw[if_neg e] at ho' ⊢;exact Or.inl (tagsOf_reg hr hu ho')
  ·exact Or.inl (Or.inr hb')
theorem Typ.move (h:Typ l regs box k) (hk:k.length=8) {a b:Int} (ha:0<=a/\a<=7) (hb:0<=b/\b<=7) {v:Vl} (hv:regs[b.toNat]?=some v) :
  Typ l (regs.set a.toNat v) box (vPut (if vAt k b=3 then vPut k b 0 else k) a (vAt k b)):=by
 have hlen:(if vAt k b=3 then vPut k b 0 else k).length=8:=by split <;> simp[vPut,hk]
 have hbb:((b.toNat:Nat):Int)=b:=by omega
 have at':∀ r:Nat,vAt (vPut (if vAt k b=3 then vPut k b 0 else k) a (vAt k b)) r=if (r:Int)=a then vAt k b else if (r:Int)=b/\vAt k b=3 then 0 else vAt k r:=fun r=>by
  rw[vAt_set hlen ha]
  by_cases e:(r:Int)=a
  ·rw[if_pos e,if_pos e]
  ·rw[if_neg e,if_neg e]
   by_cases h3:vAt k b=3
   ·rw[if_pos h3,vAt_set hk hb]
    by_cases e':(r:Int)=b
    ·rw[if_pos e',if_pos ⟨e',h3⟩]
    ·rw[if_neg e',if_neg (fun x=>e' x.1)]
   ·rw[if_neg h3,if_neg (fun x=>h3 x.2)]
 refine⟨fun r u hr hu h1=>?_,?_⟩
 ·rw[at'] at h1
  rw[List.getElem?_set] at hu
  by_cases e:(r:Int)=a
  ·rw[if_pos e] at h1
   rw[if_pos (by omega)] at hu
   split at hu
   ·simp at hu;subst hu
    exact h.num b.toNat v (by omega) hv (by rw[hbb];exact h1)
   ·cases hu
  ·rw[if_neg e] at h1
   rw[if_neg (by omega)] at hu
   split at h1
   ·omega
   ·exact h.num r u hr hu h1
 ·refine h.held.join (fun t=>if vAt k b=3/\t=b.toNat+1 then a.toNat+1 else t) (fun t u hu=>?_)
  rcases hu with⟨r,hr,hu,ho,rfl⟩ | ⟨i,hi,rfl⟩
  ·rw[at'] at ho ⊢
   rw[List.getElem?_set] at hu
   by_cases e:(r:Int)=a
   ·rw[if_pos e] at ho ⊢
    rw[if_pos (by omega)] at hu
    split at hu
    ·simp at hu;subst hu
     have ho2:vAt k (b.toNat:Nat)=2\/vAt k (b.toNat:Nat)=3:=by rw[hbb];exact ho
     refine⟨_,tagsOf_reg (by omega) hv ho2,?_⟩;rw[hbb]
     unfold tagOf
     by_cases h2:vAt k b=2
     ·rw[if_pos h2,if_neg (by omega)];rw[if_pos h2]
     ·have h3:vAt k b=3:=by omega
      rw[if_neg h2,if_pos ⟨h3,rfl⟩,if_neg h2];omega
    ·cases hu
   ·rw[if_neg e] at ho ⊢
    rw[if_neg (by omega)] at hu
    by_cases hb3:(r:Int)=b/\vAt k b=3
    ·rw[if_pos hb3] at ho;omega
    ·rw[if_neg hb3] at ho ⊢
     refine⟨_,tagsOf_reg hr hu ho,?_⟩;rw[if_neg];intro x
     unfold tagOf at x
     split at x
     ·omega
     ·exact hb3 ⟨by omega,x.1⟩
  ·exact⟨100+i,Or.inr ⟨i,hi,rfl⟩,by rw[if_neg (by omega)]⟩
theorem Typ.putNum {M:Int} {r:List Vl} (hm:hMay M l r=true) (hT:∀ t v,tagsOf k regs box t v->vMay l.length v=true) (h:Typ l regs box k) {a p:Nat} {v:Vl} {o:Ob} (ha:a<8) (hv:regs[a]?=some v) (ho:vAt k a=2\/vAt k a=3) (hn:v.n=p) (hp:l[p]?=some o) (f:Nat) {x:Vl} (hx:x.k≠2) :
  Typ (l.set p ⟨o.fs.set f x,o.dead⟩) regs box k :=
 ⟨h.num,h.held.put hm hT (tagsOf_reg ha hv ho) (by rw[<- hn];exact .root (h.obj ha hv ho).1) hp f x (fun e=>absurd e hx)⟩
theorem Typ.putRef {M:Int} {r:List Vl} (hm:hMay M l r=true) (hT:∀ t v,tagsOf k regs box t v->vMay l.length v=true) (h:Typ l regs box k) (hk:k.length=8) {a b p:Nat} {v x:Vl} {o:Ob} (ha:a<8) (hb:b<8) (hv:regs[a]?=some v) (ho:vAt k a=2\/vAt k a=3) (hn:v.n=p) (hp:l[p]?=some o) (f:Nat) (hx:regs[b]?=some x) (hox:vAt k b=2\/vAt k b=3) :
  Typ (l.set p ⟨o.fs.set f x,o.dead⟩) regs box (if (a:Int)=b\/vAt k b=2 then vPut k a 2 else vPut k b 0):=by
 have haz:0<=(a:Int)/\(a:Int)<=7:=by omega
 have hbz:0<=(b:Int)/\(b:Int)<=7:=by omega
 have sub:∀ {k':List Int},(∀ r:Nat,vAt k' r=2\/vAt k' r=3->vAt k r=2\/vAt k r=3)->∀ t v,tagsOf k' regs box t v->vMay l.length v=true:=fun hs t v ht=>by
  rcases ht with⟨r,hr,hv,ho,_⟩ | hb
  ·exact hT _ v (tagsOf_reg hr hv (hs r ho))
  ·exact hT t v (Or.inr hb)
 have hroot:Rc l v (p:Int):=by rw[<- hn];exact .root (h.obj ha hv ho).1
 by_cases hc:(a:Int)=b\/vAt k b=2
 ·rw[if_pos hc]
  have h1:=h.share hk haz ho;have hl1:(vPut k a 2).length=8:=by simp[vPut,hk]
  have aa:vAt (vPut k a 2) a=2:=by rw[vAt_set hk haz,if_pos rfl]
  have bb:vAt (vPut k a 2) b=2:=by
   rw[vAt_set hk haz]
   by_cases e:(b:Int)=a
   ·rw[if_pos e]
   ·rw[if_neg e];rcases hc with hc | hc
    ·exact absurd hc.symm e
    ·exact hc
  have ta:tagsOf (vPut k a 2) regs box 0 v:=by have:=tagsOf_reg (box:=box) ha hv (Or.inl aa);rw[tagOf,if_pos aa] at this;exact this
  have tb:tagsOf (vPut k a 2) regs box 0 x:=by have:=tagsOf_reg (box:=box) hb hx (Or.inl bb);rw[tagOf,if_pos bb] at this;exact this
  refine⟨h1.num,h1.held.put hm (sub (fun r hr=>?_)) ta hroot hp f x (fun _=>tb)⟩;rw[vAt_set hk haz] at hr
  by_cases e:(r:Int)=a
  ·rw[e];exact ho
  ·rw[if_neg e] at hr;exact hr
 ·rw[if_neg hc]
  have hne:¬ (a:Int)=b:=fun e=>hc (Or.inl e)
  have hb3:vAt k b=3:=by rcases hox with e | e;exact absurd (Or.inr e) hc;exact e
  obtain⟨ta,hta⟩:∃ ta,ta=tagOf (vAt k a) a:=⟨_,rfl⟩;have hta':ta≠b+1:=by rw[hta];unfold tagOf;split <;> omega
  have J:Held l (fun t u=>∃ s,tagsOf k regs box s u/\(if s=b+1 then ta else s)=t):=h.held.join (fun s=>if s=b+1 then ta else s) (fun t u hu=>hu);have TA:∃ s,tagsOf k regs box s v/\(if s=b+1 then ta else s)=ta:=⟨ta,by rw[hta];exact tagsOf_reg ha hv ho,by rw[if_neg hta']⟩;have TB:∃ s,tagsOf k regs box s x/\(if s=b+1 then ta else s)=ta:=⟨b+1,by have:=tagsOf_reg (box:=box) hb hx hox;rw[tagOf,if_neg (by omega)] at this;exact this,by rw[if_pos rfl]⟩
  have P:=J.put hm (fun t u ⟨s,hs,_⟩=>hT s u hs) TA hroot hp f x (fun _=>TB);refine⟨(h.forget hk hbz).num,P.less (fun t u hu=>?_)⟩
  rcases hu with⟨r,hr,hu,ho',rfl⟩ | ⟨i,hi,rfl⟩
  ·rw[vAt_set hk hbz] at ho' ⊢
   by_cases e:(r:Int)=b
   ·rw[if_pos e] at ho';omega
   ·rw[if_neg e] at ho' ⊢
    refine⟨_,tagsOf_reg hr hu ho',?_⟩;rw[if_neg]
    unfold tagOf
    split <;> omega
  ·exact⟨100+i,Or.inr ⟨i,hi,rfl⟩,by rw[if_neg (by omega)]⟩
theorem Typ.new {M:Int} {rr:List Vl} (hm:hMay M l rr=true) (hT:∀ t v,tagsOf k regs box t v->vMay l.length v=true) (h:Typ l regs box k) (hk:k.length=8) {a:Int} (ha:0<=a/\a<=7) {o:Ob} (ho:∀ v∈o.fs,v.k≠2) (hd:o.dead=false):Typ (l++[o]) (regs.set a.toNat ⟨2,l.length⟩) box (vPut k a 3) where
 num:=fun r u hr hu h1=>by
  rw[vAt_set hk ha] at h1;rw[List.getElem?_set] at hu
  by_cases e:(r:Int)=a
  ·rw[if_pos e] at h1;omega
  ·rw[if_neg (by omega)] at hu
   rw[if_neg e] at h1;exact h.num r u hr hu h1
 held:=by
  have h0:=(h.forget hk ha).held;have rc:∀ p,Rc (l++[o]) ⟨2,(l.length:Int)⟩ p->p=(l.length:Int):=fun p hp=>by
   induction hp using Rc.ind with
   | root _=>rfl
   | @step q u _ hu huk ih =>
    subst ih;have:fieldsOf (l++[o]) (l.length:Int)=o.fs:=by simp[fieldsOf]
    rw[this] at hu;exact absurd huk (ho u hu)
  have hs:∀ v,¬ tagsOf (vPut k a 0) regs box (a.toNat+1) v:=fun v hv=>by
   rcases hv with⟨r,hr,_,ho',e⟩ | ⟨i,_,e⟩
   ·rw[vAt_set hk ha] at ho' e
    by_cases ea:(r:Int)=a
    ·rw[if_pos ea] at ho';omega
    ·rw[if_neg ea] at e
     unfold tagOf at e
     split at e <;> omega
   ·omega
  have N:=h0.more hm (m:=[o]) (fun t v hv=>by
   rcases hv with⟨r,hr,hv,ho',_⟩ | hb
   ·rw[vAt_set hk ha] at ho'
    by_cases ea:(r:Int)=a
    ·rw[if_pos ea] at ho';omega
    ·rw[if_neg ea] at ho'
     exact hT _ v (tagsOf_reg hr hv ho')
   ·exact hT t v (Or.inr hb)) (a.toNat+1) hs ⟨2,l.length⟩ rfl (fun p hp=>by
    rw[rc p hp];refine⟨Int.le_refl _,?_⟩;simp[obAt,hd])
  refine N.less (fun t u hu=>?_)
  rcases hu with⟨r,hr,hu,ho',rfl⟩ | hb
  ·rw[List.getElem?_set] at hu
   by_cases e:(r:Int)=a
   ·rw[vAt_set hk ha,if_pos e]
    rw[if_pos (by omega)] at hu
    split at hu
    ·simp at hu
     exact Or.inr ⟨by simp[tagOf];omega,hu.symm⟩
    ·cases hu
   ·rw[if_neg (by omega)] at hu
    rw[vAt_set hk ha,if_neg e] at ho' ⊢;refine Or.inl (Or.inl ⟨r,hr,hu,?_,?_⟩)
    ·rw[vAt_set hk ha,if_neg e];exact ho'
    ·rw[vAt_set hk ha,if_neg e]
  ·exact Or.inl (Or.inr hb)
end
end
section
def kBegin:List Int:=[3,3,0,0,0,0,0,0]
theorem tos_fix {L:Nat} {on:List Int} (ho:on.length=8):∀ (tos:List Int) {st:List Pt},VGood L st->tos.foldl (vTo on) st=st->∀ t∈tos,vTo on st t=st
 | [],_,_,_,t,ht=>by cases ht
 | u :: r,st,h,hf,t,ht=>by
  have h1:=vTo_mu h ho u;have h2:=vTos_mu ho r (h.to ho u);simp only[List.foldl_cons] at hf;have e:vTo on st u=st:=by
   by_cases e:vTo on st u=st
   ·exact e
   ·have h3:=h1.2 e
    rw[hf] at h2;omega
  rcases List.mem_cons.1 ht with rfl | ht
  ·exact e
  ·rw[e] at hf
   exact tos_fix ho r h hf t ht
theorem turns_fix {L:Nat} {st:List Pt} (h:VGood L st) (x:Nat->Nat->Int):∀ n:Nat,vTurns x st n=st->∀ i:Nat,i<n->vTurn x st i=st
 | 0,_,i,hi=>by omega
 | n+1,hf,i,hi=>by
  rw[vTurns_succ] at hf;have h1:=vTurns_mu h x n;have h2:=vTurn_mu (VGood.turns h x n) x n;have e:vTurns x st n=st:=by
   by_cases e:vTurns x st n=st
   ·exact e
   ·have h3:=h1.2 e
    rw[hf] at h2;omega
  rw[e] at hf
  by_cases hin:i=n
  ·subst hin;exact hf
  ·exact turns_fix h x n e i (by omega)
theorem good_iter {x:Nat->Nat->Int} {L:Nat}:∀ (n:Nat) {st:List Pt},VGood L st->VGood L (vIter x L n st)
 | 0,_,h=>h
 | n+1,_,h=>good_iter n (VGood.turns h x L)
theorem IsFlow.good {x:Nat->Nat->Int} {L:Nat} {st:List Pt} (h:IsFlow x L st):VGood L st:=by
 obtain⟨⟨n,rfl⟩,_⟩:=h;exact good_iter n (vgood_start L)
theorem zip_at:∀ {k on:List Int} {r:Nat},k.length=8->on.length=8->r<8->vAt (List.zipWith vJoin k on) r=vJoin (vAt k r) (vAt on r):=fun {k on r} hk ho hr=>by
 unfold vAt
 simp only[Int.toNat_natCast,List.getElem?_zipWith];rw[List.getElem?_eq_getElem (by omega),List.getElem?_eq_getElem (by omega)]
 rfl
theorem zip_len {k on:List Int} (hk:k.length=8) (ho:on.length=8):(List.zipWith vJoin k on).length=8:=by simp[hk,ho]
theorem IsFlow.goes {x:Nat->Nat->Int} {L:Nat} {st:List Pt} (h:IsFlow x L st) {i:Nat} (hi:i<L) {k:List Int} (hk:vPt st i=some k) {j:Int} (hj:j∈vGoes (x i 0) (x i 3) i) (hj0:0<=j/\j<(L:Int)) :
  ∃ k',vPt st j.toNat=some k'/\k'.length=8/\∀ r:Nat,r<8->vJoin (vAt k' r) (vAt (vBehind (x i 0) (x i 1) (x i 2) k) r)=vAt k' r:=by
 have hg:=h.good;have hl:(vBehind (x i 0) (x i 1) (x i 2) k).length=8:=by rw[vBehind_length];exact hg.pt hk
 have h1:=turns_fix hg x L h.2 i hi
 unfold vTurn at h1
 rw[hk] at h1;have h2:=tos_fix hl _ hg h1 j hj;have hjl:j.toNat<st.length:=by rw[hg.1];omega
 have h3:vCome (vPt st j.toNat) (vBehind (x i 0) (x i 1) (x i 2) k)=vPt st j.toNat:=by
  have:=congrArg (fun s=>vPt s j.toNat) h2
  simpa[vTo,vPt,hjl] using this
 cases hp:vPt st j.toNat with
 | none=>rw[hp] at h3;simp[vCome] at h3
 | some k' =>
  rw[hp] at h3;simp only[vCome,Option.some.injEq] at h3;have hk8:=hg.pt hp;refine⟨k',rfl,hk8,fun r hr=>?_⟩;rw[<- zip_at hk8 hl hr,h3]
def BeginOk (st:List Pt):Prop:=∃ k,vPt st 0=some k/\k.length=8/\∀ r:Nat,r<8->vAt k r=vAt kBegin r\/vAt k r=0\/(vAt k r=2/\vAt kBegin r=3)
theorem begin_start {L:Nat} (hL:0<L):BeginOk (vStart L):=by
 refine⟨kBegin,?_,rfl,fun r _=>Or.inl rfl⟩;obtain⟨n,rfl⟩:∃ n,L=n+1:=⟨L-1,by omega⟩;simp[vStart,vPt,List.replicate_succ,kBegin]
theorem begin_to {st:List Pt} (h:BeginOk st) {on:List Int} (ho:on.length=8) (tq:Int):BeginOk (vTo on st tq):=by
 obtain⟨k,hk,hl,hr⟩:=h
 unfold vTo
 by_cases e:tq.toNat=0
 ·have hlen:0<st.length:=by
   cases st with
   | nil=>simp[vPt] at hk
   | cons _ _=>simp
  rw[e,hk];refine⟨List.zipWith vJoin k on,by simp[vPt,hlen,vCome],zip_len hl ho,fun r hr8=>?_⟩;rw[zip_at hl ho hr8];have:=hr r hr8
  unfold vJoin vObj
  by_cases e1:vAt k r=vAt on r
  ·rw[if_pos e1];exact this
  ·rw[if_neg e1]
   split
   ·rename_i h2
    simp only[Bool.and_eq_true,decide_eq_true_eq] at h2
    rcases this with h | h | ⟨h,h'⟩
    ·by_cases h3:vAt k r=3
     ·exact Or.inr (Or.inr ⟨rfl,by omega⟩)
     ·exact Or.inl (by omega)
    ·omega
    ·exact Or.inr (Or.inr ⟨rfl,h'⟩)
   ·exact Or.inr (Or.inl rfl)
 ·refine⟨k,?_,hl,hr⟩
  unfold vPt at hk ⊢
  rw[List.getElem?_set,if_neg (by omega)];exact hk
theorem begin_tos {on:List Int} (ho:on.length=8):∀ (tos:List Int) {st:List Pt},BeginOk st->BeginOk (tos.foldl (vTo on) st)
 | [],_,h=>h
 | t :: r,_,h=>begin_tos ho r (begin_to h ho t)
theorem begin_turns {L:Nat} {st:List Pt} (hg:VGood L st) (h:BeginOk st) (x:Nat->Nat->Int):∀ i,BeginOk (vTurns x st i)
 | 0=>h
 | i+1=>by
  rw[vTurns_succ];have ih:=begin_turns hg h x i;have hgi:=hg.turns x i
  unfold vTurn
  cases hi:vPt (vTurns x st i) i with
  | none=>exact ih
  | some k=>exact begin_tos (by rw[vBehind_length];exact hgi.pt hi) _ ih
theorem begin_iter {L:Nat} {x:Nat->Nat->Int}:∀ (n:Nat) {st:List Pt},VGood L st->BeginOk st->BeginOk (vIter x L n st)
 | 0,_,_,h=>h
 | n+1,_,hg,h=>begin_iter n (hg.turns x L) (begin_turns hg h x L)
theorem IsFlow.begins {x:Nat->Nat->Int} {L:Nat} {st:List Pt} (h:IsFlow x L st) (hL:0<L):BeginOk st:=by
 obtain⟨⟨n,rfl⟩,_⟩:=h;exact begin_iter n (vgood_start L) (begin_start hL)
end
end Go.Proofs.YtepifccbbmdfcaaGreatDoor
