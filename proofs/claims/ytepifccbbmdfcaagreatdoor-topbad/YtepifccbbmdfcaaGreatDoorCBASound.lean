/- ASound. -/
import Derived.Test.YtepifccbbmdfcaaGreatDoorCBVFlow
namespace Go.Proofs.YtepifccbbmdfcaaGreatDoor
set_option maxRecDepth 100000
set_option maxHeartbeats 8000000
section
def kWait:List Int:=[3,0,0,0,0,0,0,0]
theorem kWait_at (r:Nat):vAt kWait r=if r=0 then 3 else 0:=by
 match r with
 | 0=>rfl
 | 1=>rfl
 | 2=>rfl
 | 3=>rfl
 | 4=>rfl
 | 5=>rfl
 | 6=>rfl
 | 7=>rfl
 | r+8=>simp only[vAt,kWait,Int.toNat_natCast];rw[List.getElem?_eq_none (by simp)];simp
theorem kBegin_at (r:Nat):vAt kBegin r=if r=0\/r=1 then 3 else 0:=by
 match r with
 | 0=>rfl
 | 1=>rfl
 | 2=>rfl
 | 3=>rfl
 | 4=>rfl
 | 5=>rfl
 | 6=>rfl
 | 7=>rfl
 | r+8=>simp only[vAt,kBegin,Int.toNat_natCast];rw[List.getElem?_eq_none (by simp)];simp
section
variable {l:List Ob} {regs box:List Vl} {k:List Int}
theorem Typ.toBox (h:Typ l regs box k) (hk:k.length=8) {a:Nat} (ha:a<8) (h3:vAt k a=3) {v:Vl} (hv:regs[a]?=some v):Typ l (regs.set a nilV) (box++[v]) (vPut k a 0) where
 num:=(h.set hk (a:=(a:Int)) (x:=0) (v:=nilV) ⟨by omega,by omega⟩ (Or.inl rfl) (fun e=>by omega)).num
 held:=by
  have haz:0<=(a:Int)/\(a:Int)<=7:=by omega
  refine h.held.join (fun t=>if t=a+1 then 100+box.length else t) (fun t u hu=>?_)
  rcases hu with⟨r,hr,hu,ho,rfl⟩ | ⟨i,hi,rfl⟩
  ·rw[vAt_set hk haz] at ho ⊢
   by_cases e:(r:Int)=a
   ·rw[if_pos e] at ho;omega
   ·rw[if_neg e] at ho ⊢
    rw[List.getElem?_set,if_neg (by omega)] at hu;refine⟨_,tagsOf_reg hr hu ho,?_⟩;rw[if_neg]
    unfold tagOf
    split <;> omega
  ·rw[List.getElem?_append] at hi
   split at hi
   ·exact⟨100+i,Or.inr ⟨i,hi,rfl⟩,by rw[if_neg (by omega)]⟩
   ·obtain⟨h1,h2⟩:=List.getElem?_eq_some_iff.1 hi
    simp at h1 h2;subst h2;have:=tagsOf_reg (box:=box) ha hv (Or.inr h3);rw[tagOf,if_neg (by omega)] at this
    exact⟨a+1,this,by rw[if_pos rfl];omega⟩
theorem Typ.take {v:Vl} {r:List Vl} (h:Typ l regs (v :: r) kWait):Typ l (regs.set 1 v) r kBegin where
 num:=fun i u hi hu h1=>by rw[kBegin_at] at h1;split at h1 <;> omega
 held:=by
  refine h.held.join (fun t=>if t=100 then 2 else if 100<=t then t-1 else t) (fun t u hu=>?_)
  rcases hu with⟨i,hi,hu,ho,rfl⟩ | ⟨i,hi,rfl⟩
  ·rw[kBegin_at] at ho ⊢
   rw[List.getElem?_set] at hu
   by_cases e1:i=1
   ·subst e1
    rw[if_pos rfl] at hu
    split at hu
    ·simp at hu;subst hu
     exact⟨100,Or.inr ⟨0,rfl,rfl⟩,by simp[tagOf]⟩
    ·cases hu
   ·rw[if_neg (by omega)] at hu
    by_cases e0:i=0
    ·subst e0
     refine⟨tagOf (vAt kWait (0:Nat)) 0,tagsOf_reg (by omega) hu (by rw[kWait_at];simp),by rw[kWait_at];simp[tagOf]⟩
    ·rw[if_neg (by omega)] at ho;omega
  ·refine⟨100+(i+1),Or.inr ⟨i+1,by simpa using hi,rfl⟩,?_⟩
   rw[if_neg (by omega),if_pos (by omega)];omega
theorem Typ.done (h:Typ l regs box k) (ho:vAt k (0:Nat)=2\/vAt k (0:Nat)=3):Typ l (keep1 regs) box kWait where
 num:=fun i u hi hu h1=>by rw[kWait_at] at h1;split at h1 <;> omega
 held:=by
  refine h.held.join (fun t=>if t<100 then 1 else t) (fun t u hu=>?_)
  rcases hu with⟨i,hi,hu,ho',rfl⟩ | ⟨i,hi,rfl⟩
  ·rw[kWait_at] at ho' ⊢
   by_cases e0:i=0
   ·subst e0
    have hv:regs[0]?=some u:=by
     cases regs with
     | nil=>simp[keep1] at hu
     | cons v r=>simpa[keep1] using hu
    exact⟨_,tagsOf_reg (by omega) hv ho,by have:=tagOf_lt (vAt k (0:Nat)) (r:=0) (by omega);rw[if_pos this];simp[tagOf]⟩
   ·rw[if_neg e0] at ho';omega
  ·exact⟨100+i,Or.inr ⟨i,hi,rfl⟩,by rw[if_neg (by omega)]⟩
theorem tags_may {M:Int} (hm:hMay M l (regs++box)=true):∀ t v,tagsOf k regs box t v->vMay l.length v=true:=fun t v ht=>by
 have hr:=(hMay_parts.1 hm).2.2
 rcases ht with⟨r,_,hv,_⟩ | ⟨i,hi,_⟩
 ·exact hr v (List.mem_append_left _ (List.mem_of_getElem? hv))
 ·exact hr v (List.mem_append_right _ (List.mem_of_getElem? hi))
theorem obAt_mv {l pre:List Ob} {order:List Int} {b:Int} {p:Int} (hp:p∈order):obAt (pre++mvObs l order b order) ((pre.length:Int)+(order.idxOf p:Nat))=mvO order b (obAt l p):=by
 have a:=idx_at hp;have e:((pre.length:Int)+(order.idxOf p:Nat)).toNat=pre.length+order.idxOf p:=by omega
 unfold obAt
 rw[e,List.getElem?_append_right (by omega),Nat.add_sub_cancel_left,mvObs,List.getElem?_map,a]
 rfl
theorem Typ.clear {M:Int} (hm:hMay M l (regs++box)=true) (h:Typ l regs box k) :
  Typ (mvObs l (keptOf (reach l (regs++box)) l.length) 0 (keptOf (reach l (regs++box)) l.length)) (regs.map (mvV (keptOf (reach l (regs++box)) l.length) 0)) (box.map (mvV (keptOf (reach l (regs++box)) l.length) 0)) k:=by
 have hok:=reach_ok hm _ (hMay_roots hm);obtain⟨order,ho⟩:∃ order,order=keptOf (reach l (regs++box)) l.length:=⟨_,rfl⟩;have hmem:∀ p,p∈order↔p∈reach l (regs++box):=fun p=>by
  rw[ho,mem_keptOf];exact⟨fun x=>x.2,fun x=>⟨hok.2 p x,x⟩⟩
 have hs:Sim l (mvObs l order 0 order) (fun p=>0+(order.idxOf p:Nat)) (fun p=>p∈order):=mv_sim (pre:=[]) hm hmem;rw[<- ho];refine⟨fun r v hr hv h1=>?_,?_⟩
 ·rw[List.getElem?_map] at hv
  obtain⟨u,hu,rfl⟩:=Option.map_eq_some_iff.1 hv;have:=h.num r u hr hu h1;simp[mvV,this]
 ·refine Held.ren hs (fun p hp=>?_) h.held (fun t v ht=>?_) (fun t u hu=>?_)
  ·have:=obAt_mv (l:=l) (pre:=[]) (b:=0) hp
   simp only[List.nil_append,List.length_nil] at this
   have e:((0:Nat):Int)=0:=rfl;rw[e] at this
   rw[this]
   rfl
  ·rw[hmem]
   have hk:=h.held.ref t v ht
   rcases ht with⟨r,_,hv,_⟩ | ⟨i,hi,_⟩
   ·exact reach_root (List.mem_append_left _ (List.mem_of_getElem? hv)) hk
   ·exact reach_root (List.mem_append_right _ (List.mem_of_getElem? hi)) hk
  ·rcases hu with⟨r,hr,hv,ho',e⟩ | ⟨i,hi,e⟩
   ·rw[List.getElem?_map] at hv
    obtain⟨v,hv',rfl⟩:=Option.map_eq_some_iff.1 hv;exact⟨v,Or.inl ⟨r,hr,hv',ho',e⟩,rfl⟩
   ·rw[List.getElem?_map] at hi
    obtain⟨v,hv',rfl⟩:=Option.map_eq_some_iff.1 hi;exact⟨v,Or.inr ⟨i,hv',e⟩,rfl⟩
theorem Typ.newBox {M:Int} (hm:hMay M l (regs++box)=true) (h:Typ l regs box k) {o:Ob} (ho:∀ v∈o.fs,v.k≠2) (hd:o.dead=false):Typ (l++[o]) regs (box++[⟨2,l.length⟩]) k where
 num:=h.num
 held:=by
  have rc:∀ p,Rc (l++[o]) ⟨2,(l.length:Int)⟩ p->p=(l.length:Int):=fun p hp=>by
   induction hp using Rc.ind with
   | root _=>rfl
   | @step q u _ hu huk ih =>
    subst ih;have:fieldsOf (l++[o]) (l.length:Int)=o.fs:=by simp[fieldsOf]
    rw[this] at hu;exact absurd huk (ho u hu)
  have hs:∀ v,¬ tagsOf k regs box (100+box.length) v:=fun v hv=>by
   rcases hv with⟨r,hr,_,_,e⟩ | ⟨i,hi,e⟩
   ·have:=tagOf_lt (vAt k r) hr;omega
   ·have:=(List.getElem?_eq_some_iff.1 hi).1;omega
  have N:=h.held.more hm (m:=[o]) (tags_may hm) (100+box.length) hs ⟨2,l.length⟩ rfl (fun p hp=>by
   rw[rc p hp];exact⟨Int.le_refl _,by simp[obAt,hd]⟩)
  refine N.less (fun t u hu=>?_)
  rcases hu with hu | ⟨i,hi,rfl⟩
  ·exact Or.inl (Or.inl hu)
  ·rw[List.getElem?_append] at hi
   split at hi
   ·exact Or.inl (Or.inr ⟨i,hi,rfl⟩)
   ·obtain⟨h1,h2⟩:=List.getElem?_eq_some_iff.1 hi
    simp at h1 h2;exact Or.inr ⟨by omega,h2.symm⟩
theorem come_rc {M:Int} {lf pre:List Ob} {v:Vl} (hm:hMay M lf [v]=true) (hal:∀ p∈reach lf [v],(obAt lf p).dead=false) :
  ∀ q,Rc (pre++mvObs lf (reach lf [v]) pre.length (reach lf [v])) (mvV (reach lf [v]) pre.length v) q->(pre.length:Int)<=q/\(obAt (pre++mvObs lf (reach lf [v]) pre.length (reach lf [v])) q).dead=false:=fun q hq=>by
 have hs:=mv_sim (pre:=pre) hm (fun p=>Iff.rfl:∀ p,p∈reach lf [v]↔p∈reach lf [v]);rw[mvV_ren] at hq;obtain⟨p,hp,hS,rfl⟩:=(rc_ren hs (fun hk=>reach_root (by simp) hk)).1 hq;refine⟨by omega,?_⟩;rw[obAt_mv hS];exact hal p hS
theorem Typ.recv {M M':Int} {lf:List Ob} {v:Vl} (hm:hMay M l (regs++box)=true) (h:Typ l regs box k) (hmf:hMay M' lf [v]=true) (hk:v.k=2) (hal:∀ p∈reach lf [v],(obAt lf p).dead=false) :
  Typ (l++mvObs lf (reach lf [v]) l.length (reach lf [v])) regs (box++[mvV (reach lf [v]) l.length v]) k where
 num:=h.num
 held:=by
  have hs:∀ v,¬ tagsOf k regs box (100+box.length) v:=fun v hv=>by
   rcases hv with⟨r,hr,_,_,e⟩ | ⟨i,hi,e⟩
   ·have:=tagOf_lt (vAt k r) hr;omega
   ·have:=(List.getElem?_eq_some_iff.1 hi).1;omega
  have N:=h.held.more hm (m:=mvObs lf (reach lf [v]) l.length (reach lf [v])) (tags_may hm) (100+box.length) hs (mvV (reach lf [v]) l.length v) (by simp[mvV,hk]) (come_rc hmf hal);refine N.less (fun t u hu=>?_)
  rcases hu with hu | ⟨i,hi,rfl⟩
  ·exact Or.inl (Or.inl hu)
  ·rw[List.getElem?_append] at hi
   split at hi
   ·exact Or.inl (Or.inr ⟨i,hi,rfl⟩)
   ·obtain⟨h1,h2⟩:=List.getElem?_eq_some_iff.1 hi
    simp at h1 h2;exact Or.inr ⟨by omega,h2.symm⟩
theorem typ_begin {M:Int} {lf:List Ob} {v:Vl} (hmf:hMay M lf [v]=true) (hk:v.k=2) (hal:∀ p∈reach lf [v],(obAt lf p).dead=false) :
  Typ (mvObs lf (reach lf [v]) 0 (reach lf [v])) [mvV (reach lf [v]) 0 v,nilV,nilV,nilV,nilV,nilV,nilV,nilV] [] kWait where
 num:=fun i u hi hu h1=>by rw[kWait_at] at h1;split at h1 <;> omega
 held:=by
  have C:=come_rc (pre:=[]) hmf hal;simp only[List.nil_append,List.length_nil] at C;have e:((0:Nat):Int)=0:=rfl;rw[e] at C;have one:∀ t u,tagsOf kWait [mvV (reach lf [v]) 0 v,nilV,nilV,nilV,nilV,nilV,nilV,nilV] [] t u->t=1/\u=mvV (reach lf [v]) 0 v:=fun t u hu=>by
   rcases hu with⟨i,hi,hu,ho',rfl⟩ | ⟨i,hi,_⟩
   ·rw[kWait_at] at ho' ⊢
    by_cases e0:i=0
    ·subst e0
     simp at hu;exact⟨by simp[tagOf],hu.symm⟩
    ·rw[if_neg e0] at ho';omega
   ·simp at hi
  refine⟨fun t u hu=>?_,fun t u p hu hp=>?_,fun t t' u u' p hu hu' _ _=>?_⟩
  ·rw[(one t u hu).2];simp[mvV,hk]
  ·rw[(one t u hu).2] at hp;exact(C p hp).2
  ·rw[(one t u hu).1,(one t' u' hu').1]
theorem Typ.bury {M:Int} (hm:hMay M l (regs++box)=true) (h:Typ l regs box k) (hk:k.length=8) {a:Nat} (ha:a<8) (h3:vAt k a=3) {v:Vl} (hv:regs[a]?=some v):Typ (buryL l (reach l [v])) regs box (vPut k a 0) where
 num:=(h.forget hk (a:=(a:Int)) ⟨by omega,by omega⟩).num
 held:=by
  have haz:0<=(a:Int)/\(a:Int)<=7:=by omega
  have hvm:vMay l.length v=true:=(hMay_parts.1 hm).2.2 v (List.mem_append_left _ (List.mem_of_getElem? hv));have hone:[v].all (vMay l.length)=true:=by simp[hvm]
  have hok:=reach_ok hm [v] hone;have tv:tagsOf k regs box (a+1) v:=by have:=tagsOf_reg (box:=box) ha hv (Or.inr h3);rw[tagOf,if_neg (by omega)] at this;exact this
  have up:∀ t u,tagsOf (vPut k a 0) regs box t u->tagsOf k regs box t u/\t≠a+1:=fun t u hu=>by
   rcases hu with⟨r,hr,hu,ho,rfl⟩ | ⟨i,hi,rfl⟩
   ·rw[vAt_set hk haz] at ho ⊢
    by_cases e:(r:Int)=a
    ·rw[if_pos e] at ho;omega
    ·rw[if_neg e] at ho ⊢
     refine⟨tagsOf_reg hr hu ho,?_⟩
     unfold tagOf
     split <;> omega
   ·exact⟨Or.inr ⟨i,hi,rfl⟩,by omega⟩
  have at':∀ p:Int,0<=p->obAt (buryL l (reach l [v])) p=if p∈reach l [v] then ⟨[],true⟩ else obAt l p:=fun p hp=>by
   obtain⟨i,rfl⟩:=Int.eq_ofNat_of_zero_le hp
   unfold obAt
   rw[Int.toNat_natCast,buryL_at l _ (fun q hq=>(hok.2 q hq).1) i]
   by_cases hin:(i:Int)∈reach l [v]
   ·have:=(hok.2 _ hin).2
    rw[if_pos ⟨hin,by omega⟩,if_pos hin]
    rfl
   ·rw[if_neg (fun x=>hin x.1),if_neg hin]
  have rc:∀ t u p,tagsOf (vPut k a 0) regs box t u->Rc (buryL l (reach l [v])) u p->Rc l u p:=fun t u p hu hp=>by
   induction hp using Rc.ind with
   | root hk=>exact .root hk
   | @step q y _ hy hyk ih =>
    refine .step ih ?_ hyk;have hq:=rc_in hm (tags_may hm t u (up t u hu).1) ih;rw[fieldsOf_obAt,at' q hq.1] at hy;rw[fieldsOf_obAt]
    by_cases hin:q∈reach l [v]
    ·rw[if_pos hin] at hy;cases hy
    ·rw[if_neg hin] at hy;exact hy
  refine h.held.heap (fun t u hu=>h.held.ref t u (up t u hu).1) (fun t u p hu hp=>?_);have hl:=rc t u p hu hp;refine⟨⟨u,(up t u hu).1,hl⟩,fun hd=>?_⟩;rw[at' p (rc_in hm (tags_may hm t u (up t u hu).1) hl).1,if_neg]
  ·exact hd
  ·intro hin
   obtain⟨v',hv',hr⟩:=rc_of_reach hin;simp at hv';subst hv';exact(up t u hu).2 (h.held.apart t (a+1) u v' p (up t u hu).1 tv hl hr)
end
end
section
structure AStr (a:Ac):Prop where
 regs:a.regs.length=8
 box:a.box.length<=6
 refs:∀ v∈a.box,v.k=2
 may:hMay a.M a.obs a.roots=true
theorem acMay_parts {G:Nat} {L:Nat->Nat} {a:Ac} {num:Nat}:acMay G L a num=true↔(0<=a.kind/\a.kind<(G:Int))/\(-1<=a.par/\a.par<(num:Int))/\(-1<=a.pc/\a.pc<(L a.kind.toNat:Int))/\(0<=a.fin/\a.fin<=8)/\AStr a/\(a.fin=0\/(a.box=[]/\a.obs=[]/\a.pc=-1)):=by
 simp only[acMay,Bool.and_eq_true,Bool.or_eq_true,decide_eq_true_eq,List.all_eq_true,List.length_eq_zero_iff]
 constructor
 ·rintro⟨⟨⟨⟨⟨⟨h1,h2⟩,h3⟩,h4⟩,h5,h6⟩,h7⟩,h8,h9⟩
  exact⟨h1,h2,h3,h4,⟨h5,h6,h7,h8⟩,h9⟩
 ·rintro⟨h1,h2,h3,h4,⟨h5,h6,h7,h8⟩,h9⟩
  exact⟨⟨⟨⟨⟨⟨h1,h2⟩,h3⟩,h4⟩,h5,h6⟩,h7⟩,h8,h9⟩
theorem nil_may (m:Int):vMay m nilV=true:=by simp[vMay,nilV]
theorem num_may (m:Int) {n:Int} (h:isW n=true):vMay m (numV n)=true:=by
 simp only[isW,Bool.and_eq_true,decide_eq_true_eq] at h;simp[vMay,numV,h]
theorem isW_iff {n:Int}:isW n=true↔-1099511627776<=n/\n<=1099511627776:=by simp[isW]
section
variable {a:Ac}
theorem AStr.vals (h:AStr a):(0<=a.M/\a.M<=60/\(a.obs.length:Int)<=a.M)/\(∀ o∈a.obs,oMay a.obs.length o=true)/\∀ v∈a.roots,vMay a.obs.length v=true:=hMay_parts.1 h.may
theorem AStr.reg (h:AStr a) {r:Int} (hr:0<=r/\r<=7):a.regs[r.toNat]?=some (a.reg r):=by
 have hl:r.toNat<a.regs.length:=by rw[h.regs];omega
 unfold Ac.reg
 rw[List.getElem?_eq_getElem hl]
 rfl
theorem AStr.regMay (h:AStr a) {r:Int} (hr:0<=r/\r<=7):vMay a.obs.length (a.reg r)=true:=h.vals.2.2 _ (List.mem_append_left _ (List.mem_of_getElem? (h.reg hr)))
theorem AStr.num (h:AStr a) {r:Int} (hr:0<=r/\r<=7) (hk:(a.reg r).k=1):-1099511627776<=(a.reg r).n/\(a.reg r).n<=1099511627776:=by
 have:=h.regMay hr;simp[vMay,hk] at this
 exact this
theorem AStr.put (h:AStr a) {r:Int} {v:Vl} (hv:vMay a.obs.length v=true):AStr (a.put r v) where
 regs:=by simp[Ac.put,h.regs]
 box:=h.box
 refs:=h.refs
 may:=by
  have hp:=h.vals;refine hMay_parts.2 ⟨hp.1,hp.2.1,fun u hu=>?_⟩;simp only[Ac.roots,Ac.put,List.mem_append] at hu
  rcases hu with hu | hu
  ·rcases List.mem_or_eq_of_mem_set hu with hu | rfl
   ·exact hp.2.2 u (List.mem_append_left _ hu)
   ·exact hv
  ·exact hp.2.2 u (List.mem_append_right _ hu)
theorem AStr.heap (h:AStr a) {l:List Ob} (hl:hMay a.M l []=true) (hlen:a.obs.length<=l.length):AStr (a.heap a.M l) where
 regs:=h.regs
 box:=h.box
 refs:=h.refs
 may:=by
  have hp:=hMay_parts.1 hl;exact hMay_parts.2 ⟨hp.1,hp.2.1,fun u hu=>vMay_mono (h.vals.2.2 u hu) (by show(a.obs.length:Int)<=(l.length:Int);omega)⟩
theorem AStr.push (h:AStr a) {v:Vl} (hb:a.box.length<6) (hk:v.k=2) (hv:vMay a.obs.length v=true):AStr (a.push v) where
 regs:=h.regs
 box:=by simp only[Ac.push,List.length_append,List.length_singleton];omega
 refs:=fun u hu=>by
  simp only[Ac.push,List.mem_append,List.mem_singleton] at hu
  rcases hu with hu | rfl
  ·exact h.refs u hu
  ·exact hk
 may:=by
  have hp:=h.vals;refine hMay_parts.2 ⟨hp.1,hp.2.1,fun u hu=>?_⟩;simp only[Ac.roots,Ac.push,List.mem_append,List.mem_singleton] at hu
  rcases hu with hu | hu | rfl
  ·exact hp.2.2 u (List.mem_append_left _ hu)
  ·exact hp.2.2 u (List.mem_append_right _ hu)
  ·exact hv
def kept (a:Ac):List Int:=keptOf (reach a.obs a.roots) a.obs.length
theorem clear_eq (h:AStr a):clearS a={ a with obs:=mvObs a.obs (kept a) 0 (kept a),regs:=a.regs.map (mvV (kept a) 0),box:=a.box.map (mvV (kept a) 0) }:=by
 have e:collectS a.M a.obs a.roots=((a.M,mvObs a.obs (kept a) 0 (kept a)),a.roots.map (mvV (kept a) 0),0):=by
  unfold collectS kept
  rw[if_pos h.may]
 unfold clearS
 rw[e];simp[Ac.roots,List.take_left',List.drop_left']
theorem kept_mem (h:AStr a) (p:Int):p∈kept a↔p∈reach a.obs a.roots:=by
 have hok:=reach_ok h.may _ (hMay_roots h.may)
 unfold kept
 rw[mem_keptOf];exact⟨fun x=>x.2,fun x=>⟨hok.2 p x,x⟩⟩
theorem kept_len (h:AStr a):(kept a).length<=a.obs.length:=by
 have hok:=reach_ok h.may _ (hMay_roots h.may)
 unfold kept
 rw[keptOf_length hok];exact hok.len
theorem AStr.clear (h:AStr a):AStr (clearS a):=by
 have hp:=h.vals;have hl:=kept_len h;rw[clear_eq h];refine⟨by simp[h.regs],by simpa using h.box,fun u hu=>?_,?_⟩
 ·obtain⟨v,hv,rfl⟩:=List.mem_map.1 hu
  simp[mvV,h.refs v hv]
 ·have hpre:hMay a.M [] []=true:=hMay_parts.2 ⟨⟨hp.1.1,hp.1.2.1,by simpa using hp.1.1⟩,by simp,by simp⟩
  have:=mv_may (pre:=[]) (vs:=a.roots) h.may (kept_mem h) hpre (by simp;omega) (hMay_roots h.may) (fun v hv hk=>(kept_mem h _).2 (reach_root hv hk))
  simpa[Ac.roots] using this
theorem clear_obs (h:AStr a):(clearS a).obs.length=(kept a).length:=by rw[clear_eq h];simp[mvObs]
theorem Typ.clearS (h:AStr a) {k:List Int} (ht:Typ a.obs a.regs a.box k):Typ (clearS a).obs (clearS a).regs (clearS a).box k:=by
 rw[clear_eq h];exact ht.clear h.may
theorem alloc_ok {M:Int} {l:List Ob} (h:hMay M l []=true) {n:Int} (hn:1<=n/\n<=4):allocS M l n=if (l.length:Int)=M then ⟨0,[],0,0,7⟩ else ⟨M,l++[⟨zeroVals n.toNat,false⟩],2,l.length,0⟩:=by
 unfold allocS
 rw[if_neg (by simp[h]),if_neg (by simp[hn])]
theorem hMay_nil {M:Int} {l:List Ob} {r:List Vl} (h:hMay M l r=true):hMay M l []=true:=by
 have:=hMay_parts.1 h;exact hMay_parts.2 ⟨this.1,this.2.1,by simp⟩
theorem new_may {M:Int} {l:List Ob} (h:hMay M l []=true) {n:Int} (hn:1<=n/\n<=4) (hl:(l.length:Int)≠M):hMay M (l++[⟨zeroVals n.toNat,false⟩]) []=true:=by
 have hp:=hMay_parts.1 h;refine hMay_parts.2 ⟨⟨hp.1.1,hp.1.2.1,by simp;omega⟩,fun o ho=>?_,by simp⟩
 rcases List.mem_append.1 ho with ho | ho
 ·exact oMay_mono (hp.2.1 o ho) (by simp;omega)
 ·simp at ho
  subst ho;simp only[oMay,Bool.false_eq_true,if_false,Bool.and_eq_true,decide_eq_true_eq,List.all_eq_true];refine⟨by simp[zeroVals];omega,fun x hx=>?_⟩;simp only[zeroVals,List.mem_replicate] at hx;rw[hx.2];simp[vMay]
theorem give_cases (h:AStr a) {n:Int} (hn:1<=n/\n<=4) :
  (∃ c,(c=a\/c=clearS a)/\AStr c/\(c.obs.length:Int)≠c.M/\giveS a n=(c.heap c.M (c.obs++[⟨zeroVals n.toNat,false⟩]),some ⟨2,c.obs.length⟩))\/((a.obs.length:Int)=a.M/\((clearS a).obs.length:Int)=(clearS a).M/\giveS a n=(clearS a,none)):=by
 have hc:=h.clear
 unfold giveS
 rw[alloc_ok (hMay_nil h.may) hn,alloc_ok (hMay_nil hc.may) hn]
 by_cases e:(a.obs.length:Int)=a.M
 ·rw[if_pos e]
  by_cases e':((clearS a).obs.length:Int)=(clearS a).M
  ·rw[if_pos e']
   exact Or.inr ⟨e,e',by simp⟩
  ·rw[if_neg e']
   exact Or.inl ⟨clearS a,Or.inr rfl,hc,e',by simp⟩
 ·rw[if_neg e]
  exact Or.inl ⟨a,Or.inl rfl,h,e,by simp⟩
theorem zero_noRef (n:Nat):∀ v∈zeroVals n,v.k≠2:=fun v hv=>by
 simp only[zeroVals,List.mem_replicate] at hv;rw[hv.2]
 decide
def toldOb (n m:Int):Ob:=⟨[numV n,numV m],false⟩
theorem told_set (l:List Ob) (n m:Int):setObs (setObs (l++[⟨zeroVals 2,false⟩]) l.length 0 (numV n)) l.length 1 (numV m)=l++[toldOb n m]:=by
 simp[setObs,zeroVals,toldOb,List.replicate]
theorem told_may {M:Int} {l:List Ob} (h:hMay M l []=true) {n m:Int} (hn:isW n=true) (hm:isW m=true) (hl:(l.length:Int)≠M):hMay M (l++[toldOb n m]) []=true:=by
 have hp:=hMay_parts.1 h;refine hMay_parts.2 ⟨⟨hp.1.1,hp.1.2.1,by simp;omega⟩,fun o ho=>?_,by simp⟩
 rcases List.mem_append.1 ho with ho | ho
 ·exact oMay_mono (hp.2.1 o ho) (by simp;omega)
 ·simp at ho
  subst ho;simp only[toldOb,oMay,Bool.false_eq_true,if_false,Bool.and_eq_true,List.all_eq_true];refine⟨by simp,fun x hx=>?_⟩;simp at hx
  rcases hx with rfl | rfl
  ·exact num_may _ hn
  ·exact num_may _ hm
theorem told_cases (h:AStr a) (n m:Int) :
  (∃ c,(c=a\/c=clearS a)/\AStr c/\(c.obs.length:Int)≠c.M/\toldS a n m=(c.heap c.M (c.obs++[toldOb n m])).push ⟨2,c.obs.length⟩)\/((a.obs.length:Int)=a.M/\((clearS a).obs.length:Int)=(clearS a).M/\toldS a n m=clearS a):=by
 rcases give_cases h (n:=2) (by omega) with⟨c,hc,hs,hl,e⟩ | ⟨e1,e2,e⟩
 ·refine Or.inl ⟨c,hc,hs,hl,?_⟩
  unfold toldS
  rw[e];have:setObs (setObs (c.heap c.M (c.obs++[⟨zeroVals (2:Int).toNat,false⟩])).obs (c.obs.length:Int).toNat 0 (numV n)) (c.obs.length:Int).toNat 1 (numV m)=c.obs++[toldOb n m]:=told_set c.obs n m;simp only[this]
  rfl
 ·refine Or.inr ⟨e1,e2,?_⟩
  unfold toldS
  rw[e]
theorem clear_box (h:AStr a):(clearS a).box.length=a.box.length:=by rw[clear_eq h];simp
theorem AStr.told (h:AStr a) {n m:Int} (hn:isW n=true) (hm:isW m=true) (hb:a.box.length<6):AStr (toldS a n m):=by
 rcases told_cases h n m with⟨c,hc,hs,hl,e⟩ | ⟨_,_,e⟩
 ·rw[e]
  have hcb:c.box.length<6:=by
   rcases hc with rfl | rfl
   ·exact hb
   ·rw[clear_box h];exact hb
  have h1:=hs.heap (told_may (hMay_nil hs.may) hn hm hl) (by simp);refine h1.push hcb rfl ?_;simp[vMay,Ac.heap];omega
 ·rw[e]
  exact h.clear
theorem Typ.told (h:AStr a) {k:List Int} (ht:Typ a.obs a.regs a.box k) (n m:Int):Typ (toldS a n m).obs (toldS a n m).regs (toldS a n m).box k:=by
 rcases told_cases h n m with⟨c,hc,hs,hl,e⟩ | ⟨_,_,e⟩
 ·rw[e]
  have hct:Typ c.obs c.regs c.box k:=by
   rcases hc with rfl | rfl
   ·exact ht
   ·exact Typ.clearS h ht
  exact hct.newBox hs.may (o:=toldOb n m) (fun v hv=>by simp[toldOb] at hv;rcases hv with rfl | rfl <;> simp[numV]) rfl
 ·rw[e]
  exact Typ.clearS h ht
theorem told_same (h:AStr a) (n m:Int):(toldS a n m).kind=a.kind/\(toldS a n m).par=a.par/\(toldS a n m).pc=a.pc/\(toldS a n m).fin=a.fin/\(toldS a n m).M=a.M:=by
 have hce:(clearS a).kind=a.kind/\(clearS a).par=a.par/\(clearS a).pc=a.pc/\(clearS a).fin=a.fin/\(clearS a).M=a.M:=by rw[clear_eq h];exact⟨rfl,rfl,rfl,rfl,rfl⟩
 rcases told_cases h n m with⟨c,hc,_,_,e⟩ | ⟨_,_,e⟩
 ·rw[e]
  rcases hc with rfl | rfl
  ·exact⟨rfl,rfl,rfl,rfl,rfl⟩
  ·exact hce
 ·rw[e];exact hce
theorem clear_same (h:AStr a):(clearS a).kind=a.kind/\(clearS a).par=a.par/\(clearS a).pc=a.pc/\(clearS a).fin=a.fin/\(clearS a).M=a.M:=by
 rw[clear_eq h];exact⟨rfl,rfl,rfl,rfl,rfl⟩
end
end
section
theorem get_ok {M:Int} {l:List Ob} {v:Vl} {f:Int} (hm:hMay M l []=true) (hv:vMay l.length v=true) (hk:v.k=2) (hd:(obAt l v.n).dead=false) :
  (getS M l v f).2=0/\(getS M l v f).1∈fieldsOf l v.n\/(getS M l v f).2=2:=by
 have hm1:hMay M l [v]=true:=by
  have:=hMay_parts.1 hm;exact hMay_parts.2 ⟨this.1,this.2.1,fun u hu=>by simp at hu;subst hu;exact hv⟩
 obtain⟨p,o,hp,hlt,ho⟩:=ref_place hv hk;rw[hp,obAt_some ho] at hd;have hfe:fieldErr l v f=if f<0\/(o.fs.length:Int)<=f then 2 else 0:=by
  unfold fieldErr
  rw[if_neg (by omega),hp,Int.toNat_natCast,ho];simp[hd]
 unfold getS
 rw[if_neg (by simp[hm1]),hfe]
 by_cases hf:f<0\/(o.fs.length:Int)<=f
 ·rw[if_pos hf]
  exact Or.inr (by simp)
 ·rw[if_neg hf,if_neg (by simp),hp,Int.toNat_natCast,ho]
  have hfl:f.toNat<o.fs.length:=by omega
  simp only[List.getElem?_eq_getElem hfl];refine Or.inl ⟨trivial,?_⟩;rw[fieldsOf_obAt,obAt_some ho];exact List.getElem_mem hfl
theorem set_ok {M:Int} {l:List Ob} {v x:Vl} {f:Int} (hm:hMay M l []=true) (hv:vMay l.length v=true) (hx:vMay l.length x=true) (hk:v.k=2) (hd:(obAt l v.n).dead=false) :
  (∃ (p:Nat) (o:Ob) (q:Nat),v.n=p/\l[p]?=some o/\q<o.fs.length/\setS M l v f x=(M,l.set p ⟨o.fs.set q x,o.dead⟩,0))\/setS M l v f x=(0,[],2):=by
 have hm1:hMay M l [v,x]=true:=by
  have:=hMay_parts.1 hm;exact hMay_parts.2 ⟨this.1,this.2.1,fun u hu=>by simp at hu;rcases hu with rfl | rfl;exact hv;exact hx⟩
 obtain⟨p,o,hp,hlt,ho⟩:=ref_place hv hk;rw[hp,obAt_some ho] at hd;have hfe:fieldErr l v f=if f<0\/(o.fs.length:Int)<=f then 2 else 0:=by
  unfold fieldErr
  rw[if_neg (by omega),hp,Int.toNat_natCast,ho];simp[hd]
 unfold setS
 rw[if_neg (by simp[hm1]),hfe]
 by_cases hf:f<0\/(o.fs.length:Int)<=f
 ·rw[if_pos hf]
  exact Or.inr (by simp)
 ·rw[if_neg hf,if_neg (by simp),hp,Int.toNat_natCast]
  refine Or.inl ⟨p,o,f.toNat,rfl,ho,by omega,?_⟩
  unfold setObs
  rw[ho]
theorem set_may {M:Int} {l:List Ob} {r:List Vl} (hm:hMay M l r=true) {p:Nat} {o:Ob} (ho:l[p]?=some o) {q:Nat} {x:Vl} (hx:vMay l.length x=true):hMay M (l.set p ⟨o.fs.set q x,o.dead⟩) r=true:=by
 have hp:=hMay_parts.1 hm;refine hMay_parts.2 ⟨by simpa using hp.1,fun u hu=>?_,by simpa using hp.2.2⟩;rw[List.length_set]
 rcases List.mem_or_eq_of_mem_set hu with hu | rfl
 ·exact hp.2.1 u hu
 ·have:=hp.2.1 o (List.mem_of_getElem? ho)
  unfold oMay at this ⊢
  by_cases hd:o.dead=true
  ·simp only[hd,if_true,List.length_set] at this ⊢
   exact this
  ·simp only[hd,Bool.false_eq_true,if_false,List.length_set,Bool.and_eq_true] at this ⊢
   refine⟨this.1,List.all_eq_true.2 fun y hy=>?_⟩
   rcases List.mem_or_eq_of_mem_set hy with hy | rfl
   ·exact List.all_eq_true.1 this.2 y hy
   ·exact hx
theorem field_may {M:Int} {l:List Ob} {r:List Vl} (hm:hMay M l r=true) {p:Int} {x:Vl} (hx:x∈fieldsOf l p):vMay l.length x=true:=List.all_eq_true.1 (fields_may hm p) x hx
theorem vObj_iff {x:Int}:vObj x=true↔x=2\/x=3:=by
 simp only[vObj,Bool.and_eq_true,decide_eq_true_eq];omega
def kNext (i:Ins) (k:List Int):List Int:=if i.op=0 then kWait else vBehind i.op i.a i.b k
structure Same (a b:Ac):Prop where
 kind:b.kind=a.kind
 par:b.par=a.par
 pc:b.pc=a.pc
 fin:b.fin=a.fin
 M:b.M=a.M
 box:b.box.length=a.box.length
theorem Same.refl (a:Ac):Same a a:=⟨rfl,rfl,rfl,rfl,rfl,rfl⟩
theorem same_clear {a:Ac} (h:AStr a):Same a (clearS a):=by rw[clear_eq h];exact⟨rfl,rfl,rfl,rfl,rfl,by simp⟩
structure AloneOk (a:Ac) (k:List Int) (i:Ins) (r:Ac × Int):Prop where
 same:Same a r.1
 str:AStr r.1
 way:0<=r.2/\r.2<=7
 typ:r.2=0->Typ r.1.obs r.1.regs r.1.box (kNext i k)
theorem alone_ok {a:Ac} (h:AStr a) {k:List Int} (hk:k.length=8) (ht:Typ a.obs a.regs a.box k) {i:Ins} {G many place:Int} (hi:InsOk G many place i) (hmay:vMayDo i.op i.a i.b k=true) {who:Nat} (hwho:who<8) (hop:i.op≠13/\i.op≠14/\i.op≠15/\i.op≠17):AloneOk a k i (aloneS a who i):=by
 have ra:=h.reg hi.a;have rb:=h.reg hi.b;have ea:((i.a.toNat:Nat):Int)=i.a:=by have:=hi.a;omega
 have eb:((i.b.toNat:Nat):Int)=i.b:=by have:=hi.b;omega
 have la:i.a.toNat<8:=by have:=hi.a;omega
 have lb:i.b.toNat<8:=by have:=hi.b;omega
 have numA:vAt k i.a=1->(a.reg i.a).k=1:=fun e=>ht.num i.a.toNat _ la ra (by rw[ea];exact e)
 have numB:vAt k i.b=1->(a.reg i.b).k=1:=fun e=>ht.num i.b.toNat _ lb rb (by rw[eb];exact e)
 have objA:vObj (vAt k i.a)=true->(vAt k (i.a.toNat:Nat)=2\/vAt k (i.a.toNat:Nat)=3)/\(a.reg i.a).k=2/\(obAt a.obs (a.reg i.a).n).dead=false:=fun e=>by
  have e':vAt k (i.a.toNat:Nat)=2\/vAt k (i.a.toNat:Nat)=3:=by rw[ea];exact vObj_iff.1 e
  have:=ht.obj la ra e';exact⟨e',this.1,this.2 _ (.root this.1)⟩
 have objB:vObj (vAt k i.b)=true->(vAt k (i.b.toNat:Nat)=2\/vAt k (i.b.toNat:Nat)=3)/\(a.reg i.b).k=2/\(obAt a.obs (a.reg i.b).n).dead=false:=fun e=>by
  have e':vAt k (i.b.toNat:Nat)=2\/vAt k (i.b.toNat:Nat)=3:=by rw[eb];exact vObj_iff.1 e
  have:=ht.obj lb rb e';exact⟨e',this.1,this.2 _ (.root this.1)⟩
 have mnil:=hMay_nil h.may
 unfold aloneS
 by_cases o0:i.op=0
 ·rw[if_pos o0]
  have hm0:vObj (vAt k 0)=true:=by simpa[vMayDo,o0] using hmay
  have e0:vAt k (0:Nat)=2\/vAt k (0:Nat)=3:=vObj_iff.1 hm0;have r0:=h.reg (r:=0) (by omega);have:=(ht.obj (r:=0) (by omega) r0 e0).1;rw[if_neg (by simp[this])];have hkl:(keep1 a.regs).length=a.regs.length:=by cases a.regs <;> simp[keep1]
  refine⟨⟨rfl,rfl,rfl,rfl,rfl,rfl⟩,⟨by show(keep1 a.regs).length=8;rw[hkl];exact h.regs,h.box,h.refs,?_⟩,by show(0:Int)<=0/\(0:Int)<=7;omega,fun _=>?_⟩
  ·have hp:=h.vals
   refine hMay_parts.2 ⟨hp.1,hp.2.1,fun u hu=>?_⟩;simp only[Ac.roots,List.mem_append] at hu
   rcases hu with hu | hu
   ·cases hr:a.regs with
    | nil=>rw[hr] at hu;simp[keep1] at hu
    | cons v r =>
     rw[hr] at hu;simp only[keep1,List.mem_cons,List.mem_map] at hu
     rcases hu with rfl | ⟨_,_,rfl⟩
     ·exact hp.2.2 u (List.mem_append_left _ (by rw[hr];simp))
     ·exact nil_may _
   ·exact hp.2.2 u (List.mem_append_right _ hu)
  ·rw[kNext,if_pos o0]
   exact ht.done e0
 rw[if_neg o0];have kN:kNext i k=vBehind i.op i.a i.b k:=by rw[kNext,if_neg o0]
 by_cases o1:i.op=1
 ·rw[if_pos o1]
  have hw:isW i.n=true:=by have:=hi.n;rw[o1] at this;simp[loOf,hiOf] at this;exact isW_iff.2 this
  refine⟨⟨rfl,rfl,rfl,rfl,rfl,rfl⟩,h.put (num_may _ hw),by show(0:Int)<=0/\(0:Int)<=7;omega,fun _=>?_⟩;rw[kN,show vBehind i.op i.a i.b k=vPut k i.a 1 by simp[vBehind,o1]];exact ht.set hk hi.a (Or.inr rfl) (fun _=>rfl)
 rw[if_neg o1]
 by_cases o2:i.op=2\/i.op=3\/i.op=4
 ·rw[if_pos o2]
  have hm2:vAt k i.a=1/\vAt k i.b=1:=by
   unfold vMayDo at hmay
   rw[if_neg o0,if_pos o2] at hmay
   simpa using hmay
  unfold reckonS
  rw[if_neg (by simp[numA hm2.1,numB hm2.2])]
  cases hw:isW (resultS i.op (a.reg i.a).n (a.reg i.b).n) with
  | false =>
   simp only[if_true];exact⟨Same.refl a,h,by show(0:Int)<=7/\(7:Int)<=7;omega,fun e=>by have:(7:Int)=0:=e;omega⟩
  | true =>
   simp only[Bool.true_eq_false,if_false];refine⟨⟨rfl,rfl,rfl,rfl,rfl,rfl⟩,h.put (num_may _ hw),by show(0:Int)<=0/\(0:Int)<=7;omega,fun _=>?_⟩;rw[kN,show vBehind i.op i.a i.b k=vPut k i.a 1 by unfold vBehind;rw[if_pos (by omega)]];exact ht.set hk hi.a (Or.inr rfl) (fun _=>rfl)
 rw[if_neg o2]
 by_cases o5:i.op=5
 ·rw[if_pos o5]
  have hm5:vAt k i.a=1:=by simpa[vMayDo,o5] using hmay
  rw[if_neg (by simp[numA hm5])];refine⟨Same.refl a,h,by show(0:Int)<=0/\(0:Int)<=7;omega,fun _=>?_⟩;rw[kN,show vBehind i.op i.a i.b k=k by simp[vBehind,o5]];exact ht
 rw[if_neg o5]
 by_cases o7:i.op=7
 ·rw[if_pos o7]
  have hn4:1<=i.n/\i.n<=4:=by have:=hi.n;rw[o7] at this;simpa[loOf,hiOf] using this
  unfold makeS
  rcases give_cases h hn4 with⟨c,hc,hs,hl,e⟩ | ⟨_,_,e⟩
  ·rw[e]
   have hsc:Same a c:=by rcases hc with rfl | rfl;exact Same.refl _;exact same_clear h
   have hct:Typ c.obs c.regs c.box k:=by rcases hc with rfl | rfl;exact ht;exact Typ.clearS h ht
   have h1:=hs.heap (new_may (hMay_nil hs.may) hn4 hl) (by simp);refine⟨⟨hsc.kind,hsc.par,hsc.pc,hsc.fin,hsc.M,hsc.box⟩,h1.put ?_,by show(0:Int)<=0/\(0:Int)<=7;omega,fun _=>?_⟩
   ·simp[vMay,Ac.heap]
    omega
   ·rw[kN,show vBehind i.op i.a i.b k=vPut k i.a 3 by simp[vBehind,o7]]
    exact hct.new hs.may (tags_may hs.may) hk hi.a (zero_noRef _) rfl
  ·rw[e]
   exact⟨same_clear h,h.clear,by show(0:Int)<=5/\(5:Int)<=7;omega,fun e=>by have:(5:Int)=0:=e;omega⟩
 rw[if_neg o7]
 by_cases o8:i.op=8
 ·rw[if_pos o8]
  have hm8:vObj (vAt k i.b)=true:=by simpa[vMayDo,o8] using hmay
  obtain⟨e',hk2,hd⟩:=objB hm8
  unfold getsS
  rcases get_ok (f:=i.n) mnil (h.regMay hi.b) hk2 hd with⟨g0,gm⟩ | g2
  ·rw[if_neg (by simp[g0])]
   by_cases hk1:(getS a.M a.obs (a.reg i.b) i.n).1.k=1
   ·rw[if_neg (by simp[hk1])]
    refine⟨⟨rfl,rfl,rfl,rfl,rfl,rfl⟩,h.put (field_may h.may gm),by show(0:Int)<=0/\(0:Int)<=7;omega,fun _=>?_⟩;rw[kN,show vBehind i.op i.a i.b k=vPut k i.a 1 by simp[vBehind,o8]];exact ht.set hk hi.a (Or.inr rfl) (fun _=>hk1)
   ·rw[if_pos hk1]
    exact⟨Same.refl a,h,by show(0:Int)<=2/\(2:Int)<=7;omega,fun e=>by have:(2:Int)=0:=e;omega⟩
  ·rw[if_pos (by simp[g2]),g2]
   exact⟨Same.refl a,h,by show(0:Int)<=4/\(4:Int)<=7;omega,fun e=>by have:(4:Int)=0:=e;omega⟩
 rw[if_neg o8]
 by_cases o10:i.op=10
 ·rw[if_pos o10]
  have hm8:vObj (vAt k i.b)=true:=by simpa[vMayDo,o10] using hmay
  obtain⟨e',hk2,hd⟩:=objB hm8
  unfold getsS
  rcases get_ok (f:=i.n) mnil (h.regMay hi.b) hk2 hd with⟨g0,gm⟩ | g2
  ·rw[if_neg (by simp[g0])]
   by_cases hk1:(getS a.M a.obs (a.reg i.b) i.n).1.k=2
   ·rw[if_neg (by simp[hk1])]
    refine⟨⟨rfl,rfl,rfl,rfl,rfl,rfl⟩,h.put (field_may h.may gm),by show(0:Int)<=0/\(0:Int)<=7;omega,fun _=>?_⟩;rw[kN,show vBehind i.op i.a i.b k=vPut (vPut k i.a 2) i.b 2 by simp[vBehind,o10]];have h1:=ht.share hk hi.b (by rw[eb] at e';exact e');have hl1:(vPut k i.b 2).length=8:=by simp[vPut,hk]
    have e2:vAt (vPut k i.b 2) (i.b.toNat:Nat)=2:=by rw[vAt_set hk hi.b,if_pos eb]
    have h2:=h1.setShared hl1 hi.a lb rb e2 (.root hk2) gm hk1;have ec:vPut (vPut k i.b 2) i.a 2=vPut (vPut k i.a 2) i.b 2:=by
     unfold vPut
     by_cases eab:i.a.toNat=i.b.toNat
     ·rw[eab]
     ·exact List.set_comm _ _ (fun e=>eab e.symm)
    rw[ec] at h2;exact h2
   ·rw[if_pos hk1]
    exact⟨Same.refl a,h,by show(0:Int)<=3/\(3:Int)<=7;omega,fun e=>by have:(3:Int)=0:=e;omega⟩
  ·rw[if_pos (by simp[g2]),g2]
   exact⟨Same.refl a,h,by show(0:Int)<=4/\(4:Int)<=7;omega,fun e=>by have:(4:Int)=0:=e;omega⟩
 rw[if_neg o10]
 by_cases o9:i.op=9
 ·rw[if_pos o9]
  have hm9:vObj (vAt k i.a)=true/\vAt k i.b=1:=by simpa[vMayDo,o9] using hmay
  obtain⟨e',hk2,hd⟩:=objA hm9.1;have hb1:=numB hm9.2
  unfold putsS
  rcases set_ok (f:=i.n) mnil (h.regMay hi.a) (h.regMay hi.b) hk2 hd with⟨p,o,q,hp,ho,hq,e⟩ | e
  ·rw[e]
   simp only[ne_eq,not_true_eq_false,if_false,hb1];refine⟨⟨rfl,rfl,rfl,rfl,rfl,rfl⟩,h.heap (set_may mnil ho (h.regMay hi.b)) (by simp),by show(0:Int)<=0/\(0:Int)<=7;omega,fun _=>?_⟩;rw[kN,show vBehind i.op i.a i.b k=k by simp[vBehind,o9]];exact ht.putNum h.may (tags_may h.may) la ra e' hp ho q (by omega)
  ·rw[e]
   exact⟨Same.refl a,h,by show(0:Int)<=4/\(4:Int)<=7;omega,fun e=>by have:(4:Int)=0:=e;omega⟩
 rw[if_neg o9]
 by_cases o11:i.op=11
 ·rw[if_pos o11]
  have hm11:vObj (vAt k i.a)=true/\vObj (vAt k i.b)=true:=by simpa[vMayDo,o11] using hmay
  obtain⟨e',hk2,hd⟩:=objA hm11.1;obtain⟨e'',hkb,_⟩:=objB hm11.2
  unfold putsS
  rcases set_ok (f:=i.n) mnil (h.regMay hi.a) (h.regMay hi.b) hk2 hd with⟨p,o,q,hp,ho,hq,e⟩ | e
  ·rw[e]
   simp only[ne_eq,not_true_eq_false,if_false,hkb];refine⟨⟨rfl,rfl,rfl,rfl,rfl,rfl⟩,h.heap (set_may mnil ho (h.regMay hi.b)) (by simp),by show(0:Int)<=0/\(0:Int)<=7;omega,fun _=>?_⟩;have e3:vBehind i.op i.a i.b k=if ((i.a.toNat:Nat):Int)=(i.b.toNat:Nat)\/vAt k (i.b.toNat:Nat)=2 then vPut k (i.a.toNat:Nat) 2 else vPut k (i.b.toNat:Nat) 0:=by rw[ea,eb];simp[vBehind,o11]
   rw[kN,e3];exact ht.putRef h.may (tags_may h.may) hk la lb ra e' hp ho q rb e''
  ·rw[e]
   exact⟨Same.refl a,h,by show(0:Int)<=4/\(4:Int)<=7;omega,fun e=>by have:(4:Int)=0:=e;omega⟩
 rw[if_neg o11]
 by_cases o12:i.op=12
 ·rw[if_pos o12]
  refine⟨⟨rfl,rfl,rfl,rfl,rfl,rfl⟩,h.put (h.regMay hi.b),by show(0:Int)<=0/\(0:Int)<=7;omega,fun _=>?_⟩;rw[kN,show vBehind i.op i.a i.b k=vPut (if vAt k i.b=3 then vPut k i.b 0 else k) i.a (vAt k i.b) by simp[vBehind,o12]];exact ht.move hk hi.a hi.b rb
 rw[if_neg o12]
 by_cases o16:i.op=16
 ·rw[if_pos o16]
  have hw:isW (who:Int)=true:=isW_iff.2 (by omega);refine⟨⟨rfl,rfl,rfl,rfl,rfl,rfl⟩,h.put (num_may _ hw),by show(0:Int)<=0/\(0:Int)<=7;omega,fun _=>?_⟩;rw[kN,show vBehind i.op i.a i.b k=vPut k i.a 1 by simp[vBehind,o16]];exact ht.set hk hi.a (Or.inr rfl) (fun _=>rfl)
 rw[if_neg o16]
 by_cases o18:i.op=18
 ·rw[if_pos o18]
  refine⟨⟨rfl,rfl,rfl,rfl,rfl,rfl⟩,h.put (nil_may _),by show(0:Int)<=0/\(0:Int)<=7;omega,fun _=>?_⟩;rw[kN,show vBehind i.op i.a i.b k=vPut k i.a 0 by simp[vBehind,o18]];exact ht.set hk hi.a (Or.inl rfl) (fun e=>by omega)
 rw[if_neg o18]
 by_cases o19:i.op=19
 ·rw[if_pos o19]
  exact⟨Same.refl a,h,by show(0:Int)<=1/\(1:Int)<=7;omega,fun e=>by have:(1:Int)=0:=e;omega⟩
 rw[if_neg o19];have o6:i.op=6:=by have:=hi.op;omega
 refine⟨Same.refl a,h,by show(0:Int)<=0/\(0:Int)<=7;omega,fun _=>?_⟩;rw[kN,show vBehind i.op i.a i.b k=k by simp[vBehind,o6]];exact ht
end
end Go.Proofs.YtepifccbbmdfcaaGreatDoor
