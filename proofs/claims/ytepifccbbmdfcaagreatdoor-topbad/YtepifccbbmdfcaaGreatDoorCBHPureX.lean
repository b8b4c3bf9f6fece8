/- HPureX. -/
import Derived.Deep.Draws
import Derived.Deep.OwnRows
import Derived.WalkKit
namespace Go.Proofs.YtepifccbbmdfcaaGreatDoor
section
open Go.RowKit
def Keeps (w w':World):Prop:=∀ a v,w.cell? a=some v->w'.cell? a=some v
theorem Keeps.refl (w:World):Keeps w w:=fun _ _ h=>h
theorem Keeps.trans {a b c:World} (h:Keeps a b) (k:Keeps b c):Keeps a c:=fun x v e=>k x v (h x v e)
theorem Keeps.below {w w':World} (h:Below w.heap.size w w'):Keeps w w':=fun a _ e=>(h.cell (p:=a) (World.block_lt_of_cell? _ _ e)).trans e
theorem Keeps.alloc (w:World) (o:Obj):Keeps w (w.alloc o):=Keeps.below ((Below.refl _ _).alloc (Nat.le_refl _) o)
theorem Keeps.drewN (w:World) (n:Nat):Keeps w (w.drewN n):=fun a _ e=>(World.cell?_drewN w n a).trans e
structure Vl where
 k:Int
 n:Int
structure Ob where
 fs:List Vl
 dead:Bool
def vMay (m:Int) (v:Vl):Bool :=
 if v.k=0 then decide (v.n=0) else if v.k=1 then decide (-1099511627776<=v.n) && decide (v.n<=1099511627776) else if v.k=2 then decide (0<=v.n) && decide (v.n<m) else false
def oMay (m:Int) (o:Ob):Bool:=if o.dead then decide (o.fs.length=0) else (decide (1<=o.fs.length) && decide (o.fs.length<=4)) && o.fs.all (vMay m)
def mMay (M:Int) (n:Nat):Bool:=(decide (0<=M) && decide (M<=60)) && decide ((n:Int)<=M)
def hMay (M:Int) (l:List Ob) (roots:List Vl):Bool:=mMay M l.length && l.all (oMay l.length) && roots.all (vMay l.length)
def erS (b:Bool):Int:=if b then 0 else 8
theorem erS_true:erS true=0:=rfl
theorem erS_false:erS false=8:=rfl
def ValsAt (w:World) (ao:Option Addr) (l:List Vl):Prop :=
 ∀ i v,l[i]?=some v->∃ b o,ao=some ⟨b,o,none⟩/\w.cell? ⟨b,o+i*2,none⟩=some (.int .i64 v.k)/\w.cell? ⟨b,o+i*2+1,none⟩=some (.int .i64 v.n)
theorem ValsAt.keeps {w w':World} {ao:Option Addr} {l:List Vl} (h:ValsAt w ao l) (k:Keeps w w'):ValsAt w' ao l:=fun i v hi=>by
 obtain⟨b,o,e,h1,h2⟩:=h i v hi;exact⟨b,o,e,k _ _ h1,k _ _ h2⟩
structure ObsAt (w:World) (ao:Option Addr) (l:List Ob):Prop where
 cell:∀ i x,l[i]?=some x->∃ b o fa fc,ao=some ⟨b,o,none⟩/\w.cell? ⟨b,o+i*2,none⟩=some (.slice fa x.fs.length fc)/\w.cell? ⟨b,o+i*2+1,none⟩=some (.bool x.dead)/\ValsAt w fa x.fs/\16*x.fs.length<=140737488351232
 many:32*l.length<=140737488351232
theorem ObsAt.keeps {w w':World} {ao:Option Addr} {l:List Ob} (h:ObsAt w ao l) (k:Keeps w w'):ObsAt w' ao l :=
 ⟨fun i x hi=>by
  obtain⟨b,o,fa,fc,e,h1,h2,h3,h4⟩:=h.cell i x hi;exact⟨b,o,fa,fc,e,k _ _ h1,k _ _ h2,h3.keeps k,h4⟩,h.many⟩
theorem ValsAt.keepLow {w w':World} {ao:Option Addr} {l:List Vl} {B:Nat} (h:ValsAt w ao l) (hlow:∀ (i:Nat) v,l[i]?=some v->∃ b o,ao=some ⟨b,o,none⟩/\b<B) (hb:Below B w w'):ValsAt w' ao l:=fun i v hi=>by
 obtain⟨b,o,e,h1,h2⟩:=h i v hi;obtain⟨b',o',e',hlt⟩:=hlow i v hi;rw[e] at e';simp only[Option.some.injEq,Addr.mk.injEq,and_true] at e';obtain⟨rfl,rfl⟩:=e';exact⟨b,o,e,(hb.cell (p:=⟨b,o+i*2,none⟩) hlt).trans h1,(hb.cell (p:=⟨b,o+i*2+1,none⟩) hlt).trans h2⟩
theorem ValsAt.low {w:World} {ao:Option Addr} {l:List Vl} (h:ValsAt w ao l):∀ (i:Nat) v,l[i]?=some v->∃ b o,ao=some ⟨b,o,none⟩/\b<w.heap.size:=fun i v hi=>by
 obtain⟨b,o,e,h1,_⟩:=h i v hi;exact⟨b,o,e,World.block_lt_of_cell? _ _ h1⟩
theorem below_box (w:World) (o:Obj):Below w.heap.size w (w.alloc o):=(Below.refl _ _).alloc (Nat.le_refl _) o
theorem below_drewN {B:Nat} {a w:World} (h:Below B a w) (n:Nat):Below B a (w.drewN n):=⟨h.os,h.tape,h.output,h.size,h.block⟩
theorem ret_bool {a b:Bool} (h:a=b):Ending.returned (.bool a)=.returned (.bool b):=by rw[h]
theorem ret_num {a b:Int} (h:a=b):Ending.returned (.int .i64 a)=.returned (.int .i64 b):=by rw[h]
theorem at_some {α:Type} {l:List α} {i:Nat} (h:i<l.length):∃ v,l[i]?=some v:=⟨_,List.getElem?_eq_getElem h⟩
theorem all_from {α:Type} (p:α->Bool) (l:List α) {i:Nat} {v:α} (h:l[i]?=some v):(l.drop i).all p=(p v && (l.drop (i+1)).all p):=by
 obtain⟨hi,rfl⟩:=List.getElem?_eq_some_iff.1 h;rw[List.drop_eq_getElem_cons hi,List.all_cons]
end
section
def visit (order:List Int) (v:Vl):List Int:=if v.k=2 then (if v.n∈order then order else order++[v.n]) else order
def visits (order:List Int) (vs:List Vl):List Int:=vs.foldl visit order
def fieldsOf (l:List Ob) (p:Int):List Vl:=match l[p.toNat]? with
 | none=>[]
 | some o=>o.fs
def bfs (l:List Ob):Nat->Nat->List Int->List Int
 | 0,_,o=>o
 | f+1,i,o=>match o[i]? with
  | none=>o
  | some p=>bfs l f (i+1) (visits o (fieldsOf l p))
def reach (l:List Ob) (roots:List Vl):List Int:=bfs l (l.length+1) 0 (visits [] roots)
def Ok (L:Nat) (o:List Int):Prop:=o.Nodup/\∀ p∈o,0<=p/\p<(L:Int)
theorem Ok.nil (L:Nat):Ok L []:=⟨List.nodup_nil,fun p hp=>by cases hp⟩
theorem Ok.len {L:Nat} {o:List Int} (h:Ok L o):o.length<=L:=by
 have hs:o ⊆ (List.range L).map Int.ofNat:=fun p hp=>by
  obtain⟨h1,h2⟩:=h.2 p hp;refine List.mem_map.2 ⟨p.toNat,List.mem_range.2 (by omega),?_⟩
  show((p.toNat:Nat):Int)=p
  omega
 have:=List.Nodup.length_le_of_subset h.1 hs
 simpa using this
theorem vMay_ref {L:Int} {v:Vl} (h:vMay L v=true) (hk:v.k=2):0<=v.n/\v.n<L:=by
 simp[vMay,hk] at h;exact h
theorem Ok.visit {L:Nat} {o:List Int} (h:Ok L o) {v:Vl} (hv:vMay L v=true):Ok L (visit o v):=by
 unfold Go.Proofs.YtepifccbbmdfcaaGreatDoor.visit
 by_cases hk:v.k=2
 ·rw[if_pos hk]
  by_cases hm:v.n∈o
  ·rw[if_pos hm];exact h
  ·rw[if_neg hm]
   refine⟨?_,fun p hp=>?_⟩
   ·rw[List.nodup_append]
    refine⟨h.1,by simp,fun a ha b hb=>?_⟩;simp at hb;subst hb;intro e;subst e;exact hm ha
   ·rcases List.mem_append.1 hp with hp | hp
    ·exact h.2 p hp
    ·simp at hp
     subst hp;exact vMay_ref hv hk
 ·rw[if_neg hk];exact h
theorem Ok.visits {L:Nat} {vs:List Vl}:∀ {o:List Int},Ok L o->vs.all (vMay L)=true->Ok L (visits o vs):=by
 induction vs with
 | nil=>intro o h _;exact h
 | cons v r ih =>
  intro o h hv;simp only[List.all_cons,Bool.and_eq_true] at hv;exact ih (h.visit hv.1) hv.2
theorem visit_ext (o:List Int) (v:Vl):∃ t,visit o v=o++t:=by
 unfold visit
 split
 ·split
  ·exact⟨[],by simp⟩
  ·exact⟨_,rfl⟩
 ·exact⟨[],by simp⟩
theorem visits_ext (vs:List Vl):∀ o:List Int,∃ t,visits o vs=o++t:=by
 induction vs with
 | nil=>intro o;exact⟨[],by simp[visits]⟩
 | cons v r ih =>
  intro o;obtain⟨t,ht⟩:=visit_ext o v;obtain⟨t',ht'⟩:=ih (visit o v);exact⟨t++t',by show visits (visit o v) r=_;rw[ht',ht,List.append_assoc]⟩
theorem visits_snoc (o:List Int) (a:List Vl) (v:Vl):visits o (a++[v])=visit (visits o a) v:=by simp[visits,List.foldl_append]
theorem visits_len (o:List Int) (vs:List Vl):o.length<=(visits o vs).length:=by
 obtain⟨t,ht⟩:=visits_ext vs o;rw[ht,List.length_append];omega
theorem bfs_end (l:List Ob) (F:Nat) (o:List Int):bfs l F o.length o=o:=by
 cases F with
 | zero=>rfl
 | succ f=>rw[bfs,List.getElem?_eq_none (Nat.le_refl _)]
theorem bfs_step (l:List Ob) {F i:Nat} {o:List Int} {p:Int} (h:o[i]?=some p) (hF:0<F):bfs l F i o=bfs l (F-1) (i+1) (visits o (fieldsOf l p)):=by
 obtain⟨f,rfl⟩:∃ f,F=f+1:=⟨F-1,by omega⟩;rw[bfs,h]
 rfl
theorem fields_may {M:Int} {l:List Ob} {r:List Vl} (h:hMay M l r=true) (p:Int):(fieldsOf l p).all (vMay l.length)=true:=by
 unfold fieldsOf
 split
 ·rfl
 ·rename_i o ho
  simp only[hMay,Bool.and_eq_true] at h;have:=List.all_eq_true.1 h.1.2 o (List.mem_of_getElem? ho)
  unfold oMay at this
  split at this
  ·have h0:o.fs=[]:=List.eq_nil_of_length_eq_zero (by simpa using this)
   rw[h0];rfl
  ·simp only[Bool.and_eq_true] at this
   exact this.2
theorem bfs_ok {M:Int} {l:List Ob} {r:List Vl} (h:hMay M l r=true):∀ (F i:Nat) (o:List Int),Ok l.length o->Ok l.length (bfs l F i o)
 | 0,_,_,ho=>ho
 | F+1,i,o,ho=>by
  rw[bfs]
  split
  ·exact ho
  ·exact bfs_ok h F (i+1) _ (ho.visits (fields_may h _))
theorem reach_ok {M:Int} {l:List Ob} {r:List Vl} (h:hMay M l r=true) (roots:List Vl) (hr:roots.all (vMay l.length)=true):Ok l.length (reach l roots) :=
 bfs_ok h _ _ _ ((Ok.nil _).visits hr)
end
section
theorem visit_mem {o:List Int} {v:Vl} (hk:v.k=2):v.n∈visit o v:=by
 unfold visit
 rw[if_pos hk]
 by_cases hm:v.n∈o
 ·rw[if_pos hm];exact hm
 ·rw[if_neg hm];simp
theorem visits_sub {o:List Int} (vs:List Vl) {p:Int} (hp:p∈o):p∈visits o vs:=by
 obtain⟨t,ht⟩:=visits_ext vs o;rw[ht];exact List.mem_append_left _ hp
theorem visits_mem {vs:List Vl}:∀ {o:List Int} {v:Vl},v∈vs->v.k=2->v.n∈visits o vs:=by
 induction vs with
 | nil=>intro o v hv;cases hv
 | cons u r ih =>
  intro o v hv hk
  rcases List.mem_cons.1 hv with rfl | h
  ·exact visits_sub r (visit_mem hk)
  ·exact ih (o:=visit o u) h hk
theorem visits_at {o:List Int} (vs:List Vl) {i:Nat} {p:Int} (hp:o[i]?=some p):(visits o vs)[i]?=some p:=by
 obtain⟨t,ht⟩:=visits_ext vs o;rw[ht,List.getElem?_append_left (List.getElem?_eq_some_iff.1 hp).1];exact hp
theorem bfs_at (l:List Ob):∀ (F i:Nat) (o:List Int) {j:Nat} {p:Int},o[j]?=some p->(bfs l F i o)[j]?=some p
 | 0,_,_,_,_,h=>h
 | F+1,i,o,j,p,h=>by
  rw[bfs]
  split
  ·exact h
  ·exact bfs_at l F (i+1) _ (visits_at _ h)
theorem bfs_sub (l:List Ob) (F i:Nat) {o:List Int} {p:Int} (h:p∈o):p∈bfs l F i o:=by
 obtain⟨j,hj⟩:=List.getElem?_of_mem h;exact List.mem_of_getElem? (bfs_at l F i o hj)
def Seen (l:List Ob) (i:Nat) (o:List Int):Prop:=∀ (j:Nat) p,j<i->o[j]?=some p->∀ v∈fieldsOf l p,v.k=2->v.n∈o
theorem bfs_seen {M:Int} {l:List Ob} {r:List Vl} (h:hMay M l r=true):∀ (F i:Nat) (o:List Int),Ok l.length o->l.length<=F+i->Seen l i o->∀ p∈bfs l F i o,∀ v∈fieldsOf l p,v.k=2->v.n∈bfs l F i o
 | 0,i,o,ho,hF,hs=>fun p hp v hv hk=>by
  obtain⟨j,hj⟩:=List.getElem?_of_mem hp;have h1:=(List.getElem?_eq_some_iff.1 hj).1;have h2:o.length<=l.length:=ho.len;simp only[bfs] at h1 hj ⊢;exact hs j p (by omega) hj v hv hk
 | F+1,i,o,ho,hF,hs=>fun p hp v hv hk=>by
  rw[bfs] at hp ⊢
  cases hi:o[i]? with
  | none =>
   rw[hi] at hp;simp only at hp ⊢;obtain⟨j,hj⟩:=List.getElem?_of_mem hp;have h1:=(List.getElem?_eq_some_iff.1 hj).1;have h2:=List.getElem?_eq_none_iff.1 hi;exact hs j p (by omega) hj v hv hk
  | some q =>
   rw[hi] at hp;simp only at hp ⊢;refine bfs_seen h F (i+1) _ (ho.visits (fields_may h _)) (by omega) ?_ p hp v hv hk;intro j p' hj hp' v' hv' hk'
   by_cases hji:j=i
   ·subst hji
    have h3:=visits_at (fieldsOf l q) hi;rw[h3] at hp'
    cases hp'
    exact visits_mem hv' hk'
   ·have hlt:=(List.getElem?_eq_some_iff.1 hi).1
    have hjo:o[j]?=some p':=by
     obtain⟨t,ht⟩:=visits_ext (fieldsOf l q) o;rw[ht,List.getElem?_append_left (by omega)] at hp';exact hp'
    exact visits_sub _ (hs j p' (by omega) hjo v' hv' hk')
theorem reach_closed {M:Int} {l:List Ob} {r:List Vl} (h:hMay M l r=true) {roots:List Vl} (hr:roots.all (vMay l.length)=true) {p:Int} (hp:p∈reach l roots) {v:Vl} (hv:v∈fieldsOf l p) (hk:v.k=2):v.n∈reach l roots :=
 bfs_seen h _ _ _ ((Ok.nil _).visits hr) (by omega) (fun j p hj=>by omega) p hp v hv hk
theorem reach_root {l:List Ob} {roots:List Vl} {v:Vl} (hv:v∈roots) (hk:v.k=2):v.n∈reach l roots :=
 bfs_sub l _ _ (visits_mem hv hk)
end
section
def spots (n:Nat):List Int:=(List.range n).map Int.ofNat
theorem mem_spots {n:Nat} {p:Int}:p∈spots n↔0<=p/\p<(n:Int):=by
 simp only[spots,List.mem_map,List.mem_range]
 constructor
 ·rintro⟨a,ha,rfl⟩
  exact⟨Int.natCast_nonneg a,by show(a:Int)<n;omega⟩
 ·rintro⟨h0,h1⟩
  exact⟨p.toNat,by omega,by show((p.toNat:Nat):Int)=p;omega⟩
theorem spots_succ (n:Nat):spots (n+1)=spots n++[(n:Int)]:=by simp[spots,List.range_succ]
theorem spots_sorted (n:Nat):(spots n).Pairwise (fun a b=>a<b):=by
 induction n with
 | zero=>simp[spots]
 | succ n ih =>
  rw[spots_succ,List.pairwise_append];refine⟨ih,by simp,fun a ha b hb=>?_⟩;simp at hb;subst hb;exact(mem_spots.1 ha).2
def keptOf (order:List Int) (n:Nat):List Int:=(spots n).filter (fun p=>decide (p∈order))
theorem mem_keptOf {order:List Int} {n:Nat} {p:Int}:p∈keptOf order n↔(0<=p/\p<(n:Int))/\p∈order:=by
 simp[keptOf,mem_spots]
theorem keptOf_sorted (order:List Int) (n:Nat):(keptOf order n).Pairwise (fun a b=>a<b):=(spots_sorted n).filter _
theorem keptOf_nodup (order:List Int) (n:Nat):(keptOf order n).Nodup:=(keptOf_sorted order n).imp (fun h=>by omega)
theorem keptOf_perm {order:List Int} {n:Nat} (h:Ok n order):order.Perm (keptOf order n) :=
 (List.perm_ext_iff_of_nodup h.1 (keptOf_nodup order n)).2 fun p=>⟨fun hp=>mem_keptOf.2 ⟨h.2 p hp,hp⟩,fun hp=>(mem_keptOf.1 hp).2⟩
theorem keptOf_length {order:List Int} {n:Nat} (h:Ok n order):(keptOf order n).length=order.length:=(keptOf_perm h).length_eq.symm
theorem sort_kept {order:List Int} {n:Nat} (h:Ok n order):order.mergeSort (fun x y=>decide (x<=y))=keptOf order n:=by
 refine List.Perm.eq_of_pairwise (le:=fun a b:Int=>a<=b) (fun a b _ _ h1 h2=>by omega) ?_ ((keptOf_sorted order n).imp (fun h=>by omega)) ((List.mergeSort_perm _ _).trans (keptOf_perm h));have:=List.pairwise_mergeSort (le:=fun x y:Int=>decide (x<=y)) (fun a b c h1 h2=>by simp at *;omega) (fun a b=>by simp;omega) order;exact this.imp (fun h=>by simpa using h)
theorem keptOf_ok {order:List Int} {n:Nat}:Ok n (keptOf order n):=⟨keptOf_nodup _ _,fun _ hp=>(mem_keptOf.1 hp).1⟩
theorem idx_of {order:List Int} (h:order.Nodup) {i:Nat} {p:Int} (hi:order[i]?=some p):order.idxOf p=i:=by
 obtain⟨hlt,rfl⟩:=List.getElem?_eq_some_iff.1 hi;exact List.Nodup.idxOf_getElem h i hlt
theorem idx_at {order:List Int} {p:Int} (h:p∈order):order[order.idxOf p]?=some p:=by
 have hlt:=List.idxOf_lt_length_iff.2 h;rw[List.getElem?_eq_getElem hlt,List.getElem_idxOf]
theorem Ok.mono {n m:Nat} {o:List Int} (h:Ok n o) (hm:n<=m):Ok m o:=⟨h.1,fun p hp=>⟨(h.2 p hp).1,by have:=(h.2 p hp).2;omega⟩⟩
def mvV (order:List Int) (b:Int) (v:Vl):Vl:=if v.k=2 then ⟨2,b+(order.idxOf v.n:Nat)⟩ else v
def mvO (order:List Int) (b:Int) (o:Ob):Ob:=⟨o.fs.map (mvV order b),o.dead⟩
def obAt (l:List Ob) (p:Int):Ob:=(l[p.toNat]?).getD ⟨[],false⟩
def mvObs (l:List Ob) (order:List Int) (b:Int) (ps:List Int):List Ob:=ps.map fun p=>mvO order b (obAt l p)
theorem mvObs_length' (l:List Ob) (order:List Int) (b:Int) (ps:List Int):(mvObs l order b ps).length=ps.length:=by simp[mvObs]
theorem fieldsOf_obAt (l:List Ob) (p:Int):fieldsOf l p=(obAt l p).fs:=by
 unfold fieldsOf obAt
 cases l[p.toNat]? <;> rfl
theorem hMay_roots' {M:Int} {l:List Ob} {r:List Vl} (h:hMay M l r=true):r.all (vMay l.length)=true:=by
 simp only[hMay,Bool.and_eq_true] at h;exact h.2
def collectS (M:Int) (l:List Ob) (roots:List Vl):(Int × List Ob) × List Vl × Int :=
 if hMay M l roots=true then ((M,mvObs l (keptOf (reach l roots) l.length) 0 (keptOf (reach l roots) l.length)),roots.map (mvV (keptOf (reach l roots) l.length) 0),0) else ((0,[]),[],8)
def Leads (order:List Int) (vs:List Vl):Prop:=∀ v∈vs,v.k=2->v.n∈order
theorem leads_roots {l:List Ob} {roots:List Vl}:Leads (reach l roots) roots:=fun _ hv hk=>reach_root hv hk
theorem leads_fields {M:Int} {l:List Ob} {roots:List Vl} (h:hMay M l roots=true) {p:Int} (hp:p∈reach l roots):Leads (reach l roots) (obAt l p).fs:=fun v hv hk=>by
 have hr:roots.all (vMay l.length)=true:=by simp only[hMay,Bool.and_eq_true] at h;exact h.2
 refine reach_closed h hr hp ?_ hk;rw[fieldsOf_obAt];exact hv
theorem Leads.kept {order:List Int} {n:Nat} (ho:Ok n order) {vs:List Vl} (h:Leads order vs):Leads (keptOf order n) vs:=fun v hv hk=>mem_keptOf.2 ⟨ho.2 _ (h v hv hk),h v hv hk⟩
end
section
def ren (f:Int->Int) (v:Vl):Vl:=if v.k=2 then ⟨2,f v.n⟩ else v
theorem mvV_ren (order:List Int) (b:Int):mvV order b=ren (fun p=>b+(order.idxOf p:Nat)):=rfl
structure Sim (l l':List Ob) (f:Int->Int) (S:Int->Prop):Prop where
 inj:∀ p q,S p->S q->f p=f q->p=q
 fields:∀ p,S p->fieldsOf l' (f p)=(fieldsOf l p).map (ren f)
 closed:∀ p,S p->∀ v∈fieldsOf l p,v.k=2->S v.n
section
variable {l l':List Ob} {f:Int->Int} {S:Int->Prop}
theorem mem_ren (h:Sim l l' f S) {o:List Int} (ho:∀ p∈o,S p) {q:Int} (hq:S q):f q∈o.map f↔q∈o:=by
 constructor
 ·intro hm
  obtain⟨p,hp,e⟩:=List.mem_map.1 hm;have:=h.inj p q (ho p hp) hq e;rw[<- this];exact hp
 ·exact fun hm=>List.mem_map_of_mem hm
theorem visit_ren (h:Sim l l' f S) {o:List Int} (ho:∀ p∈o,S p) {v:Vl} (hv:v.k=2->S v.n):visit (o.map f) (ren f v)=(visit o v).map f:=by
 unfold visit ren
 by_cases hk:v.k=2
 ·simp only[hk,if_true]
  have hm:=mem_ren h ho (hv hk)
  by_cases hin:v.n∈o
  ·rw[if_pos hin,if_pos (hm.2 hin)]
  ·rw[if_neg hin,if_neg (fun x=>hin (hm.1 x))]
   simp
 ·simp only[hk,if_false]
theorem visit_all {o:List Int} (ho:∀ p∈o,S p) {v:Vl} (hv:v.k=2->S v.n):∀ p∈visit o v,S p:=by
 unfold visit
 by_cases hk:v.k=2
 ·rw[if_pos hk]
  by_cases hin:v.n∈o
  ·rw[if_pos hin];exact ho
  ·rw[if_neg hin]
   intro p hp
   rcases List.mem_append.1 hp with hp | hp
   ·exact ho p hp
   ·simp at hp;subst hp;exact hv hk
 ·rw[if_neg hk];exact ho
theorem visits_all:∀ {vs:List Vl} {o:List Int},(∀ p∈o,S p)->(∀ v∈vs,v.k=2->S v.n)->∀ p∈visits o vs,S p
 | [],_,ho,_=>ho
 | v :: r,o,ho,hv=>visits_all (vs:=r) (o:=visit o v) (visit_all ho (hv v (by simp))) (fun u hu=>hv u (by simp[hu]))
theorem visits_ren (h:Sim l l' f S):∀ {vs:List Vl} {o:List Int},(∀ p∈o,S p)->(∀ v∈vs,v.k=2->S v.n)->visits (o.map f) (vs.map (ren f))=(visits o vs).map f
 | [],_,_,_=>rfl
 | v :: r,o,ho,hv=>by
  show visits (visit (o.map f) (ren f v)) (r.map (ren f))=(visits (visit o v) r).map f
  rw[visit_ren h ho (hv v (by simp))];exact visits_ren h (visit_all ho (hv v (by simp))) (fun u hu=>hv u (by simp[hu]))
theorem bfs_ren (h:Sim l l' f S):∀ (F i:Nat) (o:List Int),(∀ p∈o,S p)->bfs l' F i (o.map f)=(bfs l F i o).map f
 | 0,_,_,_=>rfl
 | F+1,i,o,ho=>by
  rw[bfs,bfs,List.getElem?_map]
  cases hi:o[i]? with
  | none=>rfl
  | some p =>
   have hp:=ho p (List.mem_of_getElem? hi);simp only[Option.map_some];rw[h.fields p hp,visits_ren h ho (h.closed p hp)];exact bfs_ren h F (i+1) _ (visits_all ho (h.closed p hp))
theorem bfs_all (h:Sim l l' f S):∀ (F i:Nat) (o:List Int),(∀ p∈o,S p)->∀ p∈bfs l F i o,S p
 | 0,_,_,ho=>ho
 | F+1,i,o,ho=>by
  rw[bfs]
  cases hi:o[i]? with
  | none=>exact ho
  | some p=>exact bfs_all h F (i+1) _ (visits_all ho (h.closed p (ho p (List.mem_of_getElem? hi))))
end
theorem hMay_roots {M:Int} {l:List Ob} {r:List Vl} (h:hMay M l r=true):r.all (vMay l.length)=true:=by
 simp only[hMay,Bool.and_eq_true] at h;exact h.2
theorem reach_all {l l':List Ob} {f:Int->Int} {S:Int->Prop} {roots:List Vl} (h:Sim l l' f S) (hr:∀ v∈roots,v.k=2->S v.n):∀ p∈reach l roots,S p :=
 bfs_all h _ _ _ (visits_all (fun p hp=>by cases hp) hr)
def tell (R:List Int) (v:Vl):List Int:=if v.k=2 then [2,(R.idxOf v.n:Nat)] else [v.k,v.n]
def tellOb (R:List Int) (fs:List Vl):List Int:=[-1,(fs.length:Int)]++fs.flatMap (tell R)
def form (l:List Ob) (roots:List Vl):List Int:=roots.flatMap (tell (reach l roots))++(reach l roots).flatMap (fun p=>tellOb (reach l roots) (fieldsOf l p))
theorem mv_sim {M:Int} {l pre:List Ob} {roots:List Vl} {order:List Int} (h:hMay M l roots=true) (hmem:∀ p,p∈order↔p∈reach l roots) :
  Sim l (pre++mvObs l order (pre.length:Int) order) (fun p=>(pre.length:Int)+(order.idxOf p:Nat)) (fun p=>p∈order) where
 inj:=fun p q hp hq e=>by
  have e1:order.idxOf p=order.idxOf q:=by omega
  have a:=idx_at hp;have b:=idx_at hq;rw[e1,b] at a
  simpa using a.symm
 fields:=fun p hp=>by
  have a:=idx_at hp;have e:((pre.length:Int)+(order.idxOf p:Nat)).toNat=pre.length+order.idxOf p:=by omega
  rw[fieldsOf_obAt l p]
  unfold fieldsOf
  simp only[e];rw[List.getElem?_append_right (by omega),Nat.add_sub_cancel_left,mvObs,List.getElem?_map,a]
  rfl
 closed:=fun p hp v hv hk=>(hmem _).2 (reach_closed h (hMay_roots h) ((hmem p).1 hp) hv hk)
theorem vMay_mv {n:Nat} {order:List Int} {b:Nat} {v:Vl} (m:Nat) (hm:b+order.length<=m) (hv:vMay n v=true) (hk:v.k=2->v.n∈order):vMay m (mvV order b v)=true:=by
 unfold mvV
 by_cases h2:v.k=2
 ·have:=List.idxOf_lt_length_iff.2 (hk h2)
  simp[h2,vMay];omega
 ·rw[if_neg h2]
  unfold vMay at hv ⊢
  simp only[h2,if_false] at hv ⊢;exact hv
theorem oMay_mv {n:Nat} {order:List Int} {b:Nat} {o:Ob} (m:Nat) (hm:b+order.length<=m) (ho:oMay n o=true) (hk:Leads order o.fs):oMay m (mvO order b o)=true:=by
 unfold oMay mvO at *
 by_cases hd:o.dead=true
 ·simp only[hd,if_true,List.length_map] at ho ⊢
  exact ho
 ·simp only[hd,List.length_map] at ho ⊢
  simp only[Bool.false_eq_true,if_false,Bool.and_eq_true] at ho ⊢;refine⟨ho.1,List.all_eq_true.2 fun u hu=>?_⟩;obtain⟨v,hv,rfl⟩:=List.mem_map.1 hu;exact vMay_mv m hm (List.all_eq_true.1 ho.2 v hv) (hk v hv)
theorem oMay_obAt {M:Int} {l:List Ob} {roots:List Vl} (h:hMay M l roots=true) {p:Int} (hp:0<=p/\p<(l.length:Int)):oMay l.length (obAt l p)=true:=by
 simp only[hMay,Bool.and_eq_true] at h
 unfold obAt
 have hlt:p.toNat<l.length:=by omega
 rw[List.getElem?_eq_getElem hlt];exact List.all_eq_true.1 h.1.2 _ (List.getElem_mem hlt)
theorem mvObs_length (l:List Ob) (order:List Int) (b:Int) (ps:List Int):(mvObs l order b ps).length=ps.length:=by simp[mvObs]
theorem mv_may {M M':Int} {l pre:List Ob} {roots vs:List Vl} {order:List Int} (h:hMay M l roots=true) (hmem:∀ p,p∈order↔p∈reach l roots) (hpre:hMay M' pre []=true) (hfit:((pre.length+order.length:Nat):Int)<=M') (hvs:vs.all (vMay l.length)=true) (hl:Leads order vs) :
  hMay M' (pre++mvObs l order (pre.length:Int) order) (vs.map (mvV order (pre.length:Int)))=true:=by
 have hlen:(pre++mvObs l order (pre.length:Int) order).length=pre.length+order.length:=by rw[List.length_append,mvObs_length]
 have hok:=reach_ok h roots (hMay_roots h);simp only[hMay,Bool.and_eq_true] at hpre;simp only[hMay,Bool.and_eq_true];rw[hlen];refine⟨⟨?_,List.all_eq_true.2 fun o ho=>?_⟩,List.all_eq_true.2 fun u hu=>?_⟩
 ·have:=hpre.1.1
  simp only[mMay,Bool.and_eq_true,decide_eq_true_eq] at this ⊢
  exact⟨this.1,hfit⟩
 ·rcases List.mem_append.1 ho with ho | ho
  ·have:=List.all_eq_true.1 hpre.1.2 o ho
   unfold oMay at this ⊢
   split at this
   ·rename_i hd;rw[if_pos hd];exact this
   ·rename_i hd
    rw[if_neg hd];simp only[Bool.and_eq_true] at this ⊢
    refine⟨this.1,List.all_eq_true.2 fun v hv=>?_⟩;have h1:=List.all_eq_true.1 this.2 v hv
    unfold vMay at h1 ⊢
    split
    ·rename_i h0;rw[if_pos h0] at h1;exact h1
    ·rename_i h0
     rw[if_neg h0] at h1
     split
     ·rename_i h2;rw[if_pos h2] at h1;exact h1
     ·rename_i h2
      rw[if_neg h2] at h1
      split
      ·rename_i h3;rw[if_pos h3] at h1;simp only[Bool.and_eq_true,decide_eq_true_eq] at h1 ⊢;omega
      ·rename_i h3;rw[if_neg h3] at h1;exact h1
  ·obtain⟨p,hp,rfl⟩:=List.mem_map.1 ho
   have hp':=(hmem p).1 hp;exact oMay_mv _ (Nat.le_refl _) (oMay_obAt h (hok.2 p hp')) (fun v hv hk=>(hmem _).2 (leads_fields h hp' v hv hk))
 ·obtain⟨v,hv,rfl⟩:=List.mem_map.1 hu
  exact vMay_mv _ (Nat.le_refl _) (List.all_eq_true.1 hvs v hv) (hl v hv)
end
section
def zeroVals (n:Nat):List Vl:=List.replicate n ⟨0,0⟩
structure AR where
 M:Int
 obs:List Ob
 k:Int
 n:Int
 e:Int
def allocS (M:Int) (l:List Ob) (n:Int):AR :=
 if hMay M l []=false then ⟨0,[],0,0,8⟩
 else if (decide (1<=n) && decide (n<=4))=false then ⟨0,[],0,0,2⟩
 else if (l.length:Int)=M then ⟨0,[],0,0,7⟩
 else ⟨M,l++[⟨zeroVals n.toNat,false⟩],2,l.length,0⟩
def fieldErr (l:List Ob) (v:Vl) (f:Int):Int :=
 if v.k≠2 then 9 else match l[v.n.toNat]? with
  | none=>0
  | some o=>if o.dead then 10 else if f<0\/(o.fs.length:Int)<=f then 2 else 0
theorem ref_place {l:List Ob} {v:Vl} (h:vMay l.length v=true) (hk:v.k=2):∃ (p:Nat) (o:Ob),v.n=p/\p<l.length/\l[p]?=some o:=by
 simp[vMay,hk] at h;obtain⟨p,hp⟩:=Int.eq_ofNat_of_zero_le h.1;have hlt:p<l.length:=by omega
 exact⟨p,l[p],hp,hlt,List.getElem?_eq_getElem hlt⟩
def getS (M:Int) (l:List Ob) (v:Vl) (f:Int):Vl × Int :=
 if hMay M l [v]=false then (⟨0,0⟩,8) else if fieldErr l v f≠0 then (⟨0,0⟩,fieldErr l v f)
 else match l[v.n.toNat]? with
  | none=>(⟨0,0⟩,0)
  | some o=>match o.fs[f.toNat]? with
   | none=>(⟨0,0⟩,0)
   | some x=>(x,0)
theorem hMay_vMay {M:Int} {l:List Ob} {r:List Vl} (h:hMay M l r=true) {v:Vl} (hv:v∈r):vMay l.length v=true:=by
 simp only[hMay,Bool.and_eq_true] at h;exact List.all_eq_true.1 h.2 v hv
theorem field_there {l:List Ob} {v:Vl} {f:Int} (hv:vMay l.length v=true) (he:fieldErr l v f=0):v.k=2/\∃ (p q:Nat) (o:Ob) (x:Vl),v.n=p/\f=q/\l[p]?=some o/\o.fs[q]?=some x/\o.dead=false:=by
 by_cases hk:v.k=2
 ·obtain⟨p,o,hp,hlt,ho⟩:=ref_place hv hk
  simp only[fieldErr,hk,hp,Int.toNat_natCast,ho] at he
  cases hd:o.dead with
  | true=>simp[hd] at he
  | false =>
   simp only[hd] at he
   by_cases hf:f<0\/(o.fs.length:Int)<=f
   ·simp[hf] at he
   ·obtain⟨q,hq⟩:=Int.eq_ofNat_of_zero_le (show 0<=f by omega)
    have hql:q<o.fs.length:=by omega
    exact⟨hk,p,q,o,o.fs[q],hp,hq,ho,List.getElem?_eq_getElem hql,hd⟩
 ·simp[fieldErr,hk] at he
def setObs (l:List Ob) (p q:Nat) (x:Vl):List Ob :=
 match l[p]? with
 | none=>l
 | some o=>l.set p ⟨o.fs.set q x,o.dead⟩
def setS (M:Int) (l:List Ob) (v:Vl) (f:Int) (x:Vl):Int × List Ob × Int :=
 if hMay M l [v,x]=false then (0,[],8) else if fieldErr l v f≠0 then (0,[],fieldErr l v f)
 else (M,setObs l v.n.toNat f.toNat x,0)
theorem setObs_length (l:List Ob) (p q:Nat) (x:Vl):(setObs l p q x).length=l.length:=by
 unfold setObs
 split <;> simp
def trS (M:Int) (l:List Ob) (v:Vl) (M':Int) (l':List Ob):List Int × Int :=
 if (hMay M l [v] && hMay M' l' [])=true then
  if (reach l [v]).any (fun p=>(obAt l p).dead)=true then ([],10)
  else if M' < ((l'.length+(reach l [v]).length:Nat):Int) then ([],7)
  else (reach l [v],0)
 else ([],8)
theorem mMay_of {M:Int} {l:List Ob} {r:List Vl} (h:hMay M l r=true):0<=M/\M<=60:=by
 simp only[hMay,mMay,Bool.and_eq_true,decide_eq_true_eq] at h;omega
def buryL (l:List Ob) (ps:List Int):List Ob:=ps.foldl (fun r p=>r.set p.toNat (⟨[],true⟩:Ob)) l
theorem buryL_length (l:List Ob):∀ ps:List Int,(buryL l ps).length=l.length:=by
 intro ps
 induction ps generalizing l with
 | nil=>rfl
 | cons p r ih=>show(buryL _ r).length=_;rw[ih];simp
structure TrR where
 M1:Int
 o1:List Ob
 M2:Int
 o2:List Ob
 v:Vl
 e:Int
def transferS (M:Int) (l:List Ob) (v:Vl) (M':Int) (l':List Ob) (move:Bool):TrR :=
 if (trS M l v M' l').2=0 then ⟨M,if move then buryL l (trS M l v M' l').1 else l,M',l'++mvObs l (trS M l v M' l').1 l'.length (trS M l v M' l').1,mvV (trS M l v M' l').1 l'.length v,0⟩
 else ⟨0,[],0,[],⟨0,0⟩,(trS M l v M' l').2⟩
theorem trS_ok {M:Int} {l:List Ob} {v:Vl} {M':Int} {l':List Ob} (h:(trS M l v M' l').2=0):hMay M l [v]=true/\hMay M' l' []=true/\(trS M l v M' l').1=reach l [v]/\(∀ p∈reach l [v],(obAt l p).dead=false)/\((l'.length+(reach l [v]).length:Nat):Int)<=M':=by
 unfold trS at h ⊢
 by_cases h1:(hMay M l [v] && hMay M' l' [])=true
 ·rw[if_pos h1] at h ⊢
  by_cases h2:(reach l [v]).any (fun p=>(obAt l p).dead)=true
  ·rw[if_pos h2] at h;simp at h
  ·rw[if_neg h2] at h ⊢
   by_cases h3:M' < ((l'.length+(reach l [v]).length:Nat):Int)
   ·rw[if_pos h3] at h;simp at h
   ·rw[if_neg h3]
    have h1':=Bool.and_eq_true_iff.1 h1;refine⟨h1'.1,h1'.2,rfl,fun p hp=>?_,by omega⟩;have:=(List.any_eq_false.1 (Bool.not_eq_true _ ▸ h2)) p hp
    simpa using this
 ·rw[if_neg h1] at h;simp at h
theorem vMay_mono {m m':Int} {v:Vl} (h:vMay m v=true) (hm:m<=m'):vMay m' v=true:=by
 unfold vMay at h ⊢
 split
 ·rename_i h0;simpa[h0] using h
 ·rename_i h0
  split
  ·rename_i h1;simpa[h0,h1] using h
  ·rename_i h1
   split
   ·rename_i h2
    simp[h2] at h ⊢;omega
   ·rename_i h2
    simp[h0,h1,h2] at h
theorem oMay_mono {m m':Int} {o:Ob} (h:oMay m o=true) (hm:m<=m'):oMay m' o=true:=by
 unfold oMay at h ⊢
 split
 ·rename_i hd;simpa[hd] using h
 ·rename_i hd
  simp only[hd,if_false,Bool.and_eq_true,Bool.false_eq_true] at h ⊢;exact⟨h.1,List.all_eq_true.2 fun x hx=>vMay_mono (List.all_eq_true.1 h.2 x hx) hm⟩
theorem hMay_parts {M:Int} {l:List Ob} {r:List Vl}:hMay M l r=true↔(0<=M/\M<=60/\(l.length:Int)<=M)/\(∀ o∈l,oMay l.length o=true)/\∀ v∈r,vMay l.length v=true:=by
 simp only[hMay,mMay,Bool.and_eq_true,decide_eq_true_eq,List.all_eq_true];exact⟨fun h=>⟨⟨h.1.1.1.1,h.1.1.1.2,h.1.1.2⟩,h.1.2,h.2⟩,fun h=>⟨⟨⟨⟨h.1.1,h.1.2.1⟩,h.1.2.2⟩,h.2.1⟩,h.2.2⟩⟩
theorem buryL_at (l:List Ob):∀ (ps:List Int),(∀ p∈ps,0<=p)->∀ i:Nat,(buryL l ps)[i]?=if (i:Int)∈ps/\i<l.length then some ⟨[],true⟩ else l[i]?:=by
 intro ps
 induction ps generalizing l with
 | nil=>intro _ i;simp[buryL]
 | cons p r ih =>
  intro hp i;have h0:=hp p (by simp)
  show(buryL (l.set p.toNat ⟨[],true⟩) r)[i]?=_
  rw[ih _ (fun q hq=>hp q (by simp[hq])) i,List.length_set]
  by_cases hr:(i:Int)∈r/\i<l.length
  ·rw[if_pos hr,if_pos ⟨by simp[hr.1],hr.2⟩]
  ·rw[if_neg hr,List.getElem?_set]
   by_cases he:p.toNat=i
   ·have hpi:(i:Int)=p:=by omega
    rw[if_pos he]
    by_cases hl:i<l.length
    ·rw[if_pos (by omega),if_pos ⟨by simp[hpi],hl⟩]
    ·rw[if_neg (by omega),if_neg (fun x=>hl x.2),List.getElem?_eq_none (by omega)]
   ·have hpi:(i:Int)≠p:=by omega
    rw[if_neg he,if_neg];intro x;exact hr ⟨by simpa[hpi] using x.1,x.2⟩
theorem bury_may {M:Int} {l:List Ob} {ps:List Int} {roots:List Vl} (h:hMay M l roots=true) (hp:∀ p∈ps,0<=p):hMay M (buryL l ps) roots=true:=by
 simp only[hMay,Bool.and_eq_true] at h ⊢;rw[buryL_length];refine⟨⟨h.1.1,List.all_eq_true.2 fun o ho=>?_⟩,h.2⟩;obtain⟨i,hi⟩:=List.getElem?_of_mem ho;rw[buryL_at l ps hp i] at hi
 split at hi
 ·cases hi
  rfl
 ·exact List.all_eq_true.1 h.1.2 o (List.mem_of_getElem? hi)
end
end Go.Proofs.YtepifccbbmdfcaaGreatDoor
