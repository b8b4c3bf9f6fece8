/- WOwn3. -/
import Derived.Deep.Light
import Derived.Deep.LoopGhost
import Derived.WalkLawsBesides
import Derived.WalkSpells
import Derived.Test.YtepifccbbmdfcaaGreatDoorCBHAppG
namespace Go.Proofs.YtepifccbbmdfcaaGreatDoor
section
open Go.RowKit
structure Fa where
 kind:Int
 par:Int
 M:Int
 oa:Option Addr
 on:Nat
 oc:Nat
 ra:Option Addr
 rn:Nat
 rc:Nat
 pc:Int
 ba:Option Addr
 bn:Nat
 bc:Nat
 fin:Int
def fAc (x:Fa):List Value:=[.int .i64 x.kind,.int .i64 x.par,.int .i64 x.M,.slice x.oa x.on x.oc,.slice x.ra x.rn x.rc,.int .i64 x.pc,.slice x.ba x.bn x.bc,.int .i64 x.fin]
def fVl (x:Vl):List Value:=[.int .i64 x.k,.int .i64 x.n]
def fTl (x:Int × Int):List Value:=[.int .i64 x.1,.int .i64 x.2]
theorem Tryz.rowAc:RowT Tryz.prog fAc 8 30 50 112:=⟨fun _=>rfl,fun x v hv=>by simp[fAc] at hv;rcases hv with h | h | h | h | h | h | h | h <;> rw[h] <;> rfl,by decide,Tryz.underlying30,_,(show(Tryz.prog.info? 50).map (fun i=>(i.zero,i.size,i.bytes))=some (some (.agg #[.int .i64 0,.int .i64 0,.int .i64 0,.slice none 0 0,.slice none 0 0,.int .i64 0,.slice none 0 0,.int .i64 0]),8,112) by kernel_rfl),rfl⟩
theorem Tryz.rowVl:RowT Tryz.prog fVl 2 48 66 16:=⟨fun _=>rfl,fun x v hv=>by simp[fVl] at hv;rcases hv with h | h <;> rw[h] <;> rfl,by decide,Tryz.underlying48,_,(show(Tryz.prog.info? 66).map (fun i=>(i.zero,i.size,i.bytes))=some (some (.agg #[.int .i64 0,.int .i64 0]),2,16) by kernel_rfl),rfl⟩
theorem Tryz.rowTl:RowT Tryz.prog fTl 2 24 29 16:=⟨fun _=>rfl,fun x v hv=>by simp[fTl] at hv;rcases hv with h | h <;> rw[h] <;> rfl,by decide,Tryz.underlying24,_,(show(Tryz.prog.info? 29).map (fun i=>(i.zero,i.size,i.bytes))=some (some (.agg #[.int .i64 0,.int .i64 0]),2,16) by kernel_rfl),rfl⟩
theorem seqVl_of {w:World} {ao:Option Addr} {l:List Vl} (h:ValsAt w ao l):SeqAt fVl 2 w ao l:=fun i x hx=>by
 obtain⟨b,o,e,h1,h2⟩:=h i x hx;refine⟨b,o,e,fun j u hu=>?_⟩
 match j,hu with
 | 0,hu=>simp[fVl] at hu;subst hu;exact h1
 | 1,hu=>simp[fVl] at hu;subst hu;exact h2
 | j+2,hu=>simp[fVl] at hu
theorem seqVl_to {w:World} {ao:Option Addr} {l:List Vl} (h:SeqAt fVl 2 w ao l):ValsAt w ao l:=fun i x hx=>by
 obtain⟨b,o,e,hc⟩:=h i x hx;exact⟨b,o,e,hc 0 _ rfl,hc 1 _ rfl⟩
theorem seqTl_to {w:World} {ao:Option Addr} {l:List (Int × Int)} (h:SeqAt fTl 2 w ao l) (hm:16*l.length<=140737488351232):ToldAt w ao l:=⟨fun i x hx=>by
 obtain⟨b,o,e,hc⟩:=h i x hx;exact⟨b,o,e,hc 0 _ rfl,hc 1 _ rfl⟩,hm⟩
end
section
open Go.RowKit
def put2 (w:World) (A:Nat) (x y:Value):World:=(w.setCell ⟨A,0,none⟩ x).setCell ⟨A,1,none⟩ y
theorem put2_blk {w:World} {A:Nat} {a b:Value} {t:TypeId} (h:w.heap[A]?=some (.cells #[a,b] t (0,0))) (x y:Value):(put2 w A x y).heap[A]?=some (.cells #[x,y] t (0,0)):=by
 have:=setCell_blk (setCell_blk h 0 x) 1 y
 simpa[put2] using this
theorem put2_other {w:World} {A k:Nat} (x y:Value) (h:k≠A):(put2 w A x y).heap[k]?=w.heap[k]? :=
 (Deep.blk_setCell_other _ ⟨A,1,none⟩ _ _ h).trans (Deep.blk_setCell_other _ ⟨A,0,none⟩ _ _ h)
theorem put2_below {B:Nat} {w0 w:World} (h:Below B w0 w) {A:Nat} (hA:B<=A) (x y:Value):Below B w0 (put2 w A x y):=(h.setCell hA _).setCell hA _
theorem put2_size (w:World) (A:Nat) (x y:Value):(put2 w A x y).heap.size=w.heap.size:=by simp[put2,World.setCell]
theorem two_blk {w:World} {A:Nat} {c:Array Value} {t:TypeId} (h:w.heap[A]?=some (.cells c t (0,0))) (j k:Nat) (x y:Value):((w.setCell ⟨A,j,none⟩ x).setCell ⟨A,k,none⟩ y).heap[A]?=some (.cells ((c.setIfInBounds j x).setIfInBounds k y) t (0,0)) :=
 setCell_blk (setCell_blk h j x) k y
theorem two_below {B:Nat} {w0 w:World} (h:Below B w0 w) {A:Nat} (hA:B<=A) (j k:Nat) (x y:Value):Below B w0 ((w.setCell ⟨A,j,none⟩ x).setCell ⟨A,k,none⟩ y):=(h.setCell hA _).setCell hA _
theorem two_size (w:World) (A j k:Nat) (x y:Value):((w.setCell ⟨A,j,none⟩ x).setCell ⟨A,k,none⟩ y).heap.size=w.heap.size:=by simp[World.setCell]
theorem two_other {w:World} {A B:Nat} (j k:Nat) (x y:Value) (h:B≠A):((w.setCell ⟨A,j,none⟩ x).setCell ⟨A,k,none⟩ y).heap[B]?=w.heap[B]? :=
 (Deep.blk_setCell_other _ ⟨A,k,none⟩ _ _ h).trans (Deep.blk_setCell_other _ ⟨A,j,none⟩ _ _ h)
end
section
open Go.RowKit
def vB (v:Value):List Nat:=match v.ownBlock with
 | some b=>[b]
 | none=>[]
theorem mem_vB {v:Value} {b:Nat}:b∈vB v↔v.ownBlock=some b:=by
 unfold vB
 cases h:v.ownBlock with
 | none=>simp
 | some c=>simp[eq_comm]
theorem ownsRow_at_block {w w':World} {base:Nat} {e:TypeId} {s n:Nat} {v:Value} {xs:List Value} (h:w.ownsRow base e s v n xs) (ha:∀ b∈vB v,w'.heap[b]?=w.heap[b]?):w'.ownsRow base e s v n xs :=
 ⟨h.1,by
  rcases h.2 with h0 | ⟨g,cap,cur,e1,hb,hg,hr⟩
  ·exact .inl h0
  ·exact .inr ⟨g,cap,cur,e1,hb,(ha g (by rw[mem_vB,e1];rfl)).trans hg,hr⟩⟩
def rowsB (rows:List (Value × Ob)):List Nat:=rows.flatMap fun p=>vB p.1
theorem HeapOwn.at_block {w w':World} {base:Nat} {v:Value} {rows:List (Value × Ob)} (h:HeapOwn w base v rows) (ha:∀ b∈vB v++rowsB rows,w'.heap[b]?=w.heap[b]?):HeapOwn w' base v rows :=
 ⟨ownsRow_at_block h.top (fun b hb=>ha b (List.mem_append_left _ hb)),
  fun i p hp=>⟨ownsRow_at_block (h.row i p hp).1 (fun b hb=>ha b (List.mem_append_right _ (List.mem_flatMap.2 ⟨p,List.mem_of_getElem? hp,hb⟩))),(h.row i p hp).2⟩,h.apart,h.many⟩
structure AcOwn (w:World) (base:Nat) (fa:Fa) (rows:List (Value × Ob)) (x:Ac):Prop where
 kind:fa.kind=x.kind
 par:fa.par=x.par
 M:fa.M=x.M
 on:fa.on=x.obs.length
 rn:fa.rn=x.regs.length
 pc:fa.pc=x.pc
 bn:fa.bn=x.box.length
 fin:fa.fin=x.fin
 obs:rows.map (·.2)=x.obs
 heap:HeapOwn w base (.slice fa.oa fa.on fa.oc) rows
 regs:SeqOwn fVl 2 66 w base (.slice fa.ra fa.rn fa.rc) x.regs
 box:SeqOwn fVl 2 66 w base (.slice fa.ba fa.bn fa.bc) x.box
def acFoot (fa:Fa) (rows:List (Value × Ob)):List Nat:=(vB (.slice fa.oa fa.on fa.oc)++rowsB rows)++(vB (.slice fa.ra fa.rn fa.rc)++vB (.slice fa.ba fa.bn fa.bc))
theorem AcOwn.at_block {w w':World} {base:Nat} {fa:Fa} {rows:List (Value × Ob)} {x:Ac} (h:AcOwn w base fa rows x) (ha:∀ b∈acFoot fa rows,w'.heap[b]?=w.heap[b]?):AcOwn w' base fa rows x :=
 { h with
  heap:=h.heap.at_block (fun b hb=>ha b (List.mem_append_left _ hb))
  regs:=ownsRow_at_block h.regs (fun b hb=>ha b (List.mem_append_right _ (List.mem_append_left _ hb)))
  box:=ownsRow_at_block h.box (fun b hb=>ha b (List.mem_append_right _ (List.mem_append_right _ hb))) }
def actsFoot (fl:List Fa) (rs:List (List (Value × Ob))):List Nat:=(List.zip fl rs).flatMap fun p=>acFoot p.1 p.2
structure WdOwn (w:World) (base Bw:Nat) (V:Wd) (av pv:Value) (fl:List Fa) (rs:List (List (Value × Ob))):Prop where
 box:w.heap[Bw]?=some (.cells #[av,pv] 32 (0,0))
 acts:SeqOwn fAc 8 50 w base av fl
 prints:SeqOwn fTl 2 29 w base pv V.prints
 flen:fl.length=V.acts.length
 rlen:rs.length=V.acts.length
 each:∀ (j:Nat) fa r x,fl[j]?=some fa->rs[j]?=some r->V.acts[j]?=some x->AcOwn w base fa r x
 apart0:(Bw :: (vB av++vB pv)).Nodup
 apart1:∀ (j:Nat) fa r,fl[j]?=some fa->rs[j]?=some r->(acFoot fa r).Nodup/\∀ b∈acFoot fa r,b∉Bw :: (vB av++vB pv)
 apart2:∀ (i j:Nat) fa r fb s,i≠j->fl[i]?=some fa->rs[i]?=some r->fl[j]?=some fb->rs[j]?=some s->∀ b∈acFoot fa r,b∉acFoot fb s
def wdFoot (Bw:Nat) (av pv:Value) (fl:List Fa) (rs:List (List (Value × Ob))):List Nat:=(Bw :: (vB av++vB pv))++actsFoot fl rs
theorem mem_actsFoot {fl:List Fa} {rs:List (List (Value × Ob))} {j:Nat} {fa:Fa} {r:List (Value × Ob)} (h1:fl[j]?=some fa) (h2:rs[j]?=some r) {b:Nat} (hb:b∈acFoot fa r):b∈actsFoot fl rs:=by
 refine List.mem_flatMap.2 ⟨(fa,r),?_,hb⟩;refine List.mem_of_getElem? (i:=j) ?_;simp[List.getElem?_zip_eq_some,h1,h2]
theorem WdOwn.at_block {w w':World} {base Bw:Nat} {V:Wd} {av pv:Value} {fl:List Fa} {rs:List (List (Value × Ob))} (h:WdOwn w base Bw V av pv fl rs) (ha:∀ b∈wdFoot Bw av pv fl rs,w'.heap[b]?=w.heap[b]?):WdOwn w' base Bw V av pv fl rs where
 box:=(ha Bw (by simp[wdFoot])).trans h.box
 acts:=ownsRow_at_block h.acts (fun b hb=>ha b (by simp only[wdFoot,List.mem_append,List.mem_cons];exact .inl (.inr (.inl hb))))
 prints:=ownsRow_at_block h.prints (fun b hb=>ha b (by simp only[wdFoot,List.mem_append,List.mem_cons];exact .inl (.inr (.inr hb))))
 flen:=h.flen
 rlen:=h.rlen
 each j fa r x h1 h2 h3:=(h.each j fa r x h1 h2 h3).at_block (fun b hb=>ha b (List.mem_append_right _ (mem_actsFoot h1 h2 hb)))
 apart0:=h.apart0
 apart1:=h.apart1
 apart2:=h.apart2
theorem ownsRow_blk_lt {w:World} {base:Nat} {e:TypeId} {s n:Nat} {v:Value} {xs:List Value} (h:w.ownsRow base e s v n xs):∀ b∈vB v,b<w.heap.size:=fun b hb=>(World.ownsRow.lt h b (mem_vB.1 hb)).2
theorem AcOwn.blk_lt {w:World} {base:Nat} {fa:Fa} {rows:List (Value × Ob)} {x:Ac} (h:AcOwn w base fa rows x):∀ b∈acFoot fa rows,b<w.heap.size:=fun b hb=>by
 simp only[acFoot,List.mem_append] at hb
 rcases hb with(hb | hb) | (hb | hb)
 ·exact ownsRow_blk_lt h.heap.top b hb
 ·obtain⟨p,hp,hb⟩:=List.mem_flatMap.1 hb
  obtain⟨i,hi,e⟩:=List.mem_iff_getElem.1 hp;exact ownsRow_blk_lt (h.heap.row i p (by rw[List.getElem?_eq_getElem hi,e])).1 b hb
 ·exact ownsRow_blk_lt h.regs b hb
 ·exact ownsRow_blk_lt h.box b hb
theorem WdOwn.blk_lt {w:World} {base Bw:Nat} {V:Wd} {av pv:Value} {fl:List Fa} {rs:List (List (Value × Ob))} (h:WdOwn w base Bw V av pv fl rs):∀ b∈wdFoot Bw av pv fl rs,b<w.heap.size:=fun b hb=>by
 simp only[wdFoot,List.mem_append,List.mem_cons] at hb
 rcases hb with(rfl | hb | hb) | hb
 ·exact(Array.getElem?_eq_some_iff.1 h.box).1
 ·exact ownsRow_blk_lt h.acts b hb
 ·exact ownsRow_blk_lt h.prints b hb
 ·obtain⟨⟨fa,r⟩,hp,hb⟩:=List.mem_flatMap.1 hb
  obtain⟨j,hj,e⟩:=List.mem_iff_getElem.1 hp;have hz:(List.zip fl rs)[j]?=some (fa,r):=by rw[List.getElem?_eq_getElem hj,e]
  obtain⟨h1,h2⟩:=List.getElem?_zip_eq_some.1 hz;have hjl:j<V.acts.length:=by rw[<- h.flen];exact(List.getElem?_eq_some_iff.1 h1).1
  obtain⟨x,hx⟩:=at_some hjl;exact(h.each j fa r x h1 h2 hx).blk_lt b hb
theorem WdOwn.below {w w':World} {base Bw:Nat} {V:Wd} {av pv:Value} {fl:List Fa} {rs:List (List (Value × Ob))} (h:WdOwn w base Bw V av pv fl rs) (hb:Below w.heap.size w w'):WdOwn w' base Bw V av pv fl rs :=
 h.at_block (fun b hb'=>hb.block b (h.blk_lt b hb'))
theorem WdOwn.replace {w w':World} {base Bw:Nat} {V:Wd} {av pv:Value} {fl:List Fa} {rs:List (List (Value × Ob))} (h:WdOwn w base Bw V av pv fl rs) {j:Nat} {fa fb:Fa} {r s:List (Value × Ob)} {y:Ac}
  (hfa:fl[j]?=some fa) (hr:rs[j]?=some r) (hrow:SeqOwn fAc 8 50 w' base av (fl.set j fb)) (hnew:AcOwn w' base fb s y)
  (hsame:∀ b∈wdFoot Bw av pv fl rs,b∉vB av->b∉acFoot fa r->w'.heap[b]?=w.heap[b]?) (hnd:(acFoot fb s).Nodup) (hin:∀ b∈acFoot fb s,b∈acFoot fa r\/b∉wdFoot Bw av pv fl rs) :
  WdOwn w' base Bw { V with acts:=V.acts.set j y } av pv (fl.set j fb) (rs.set j s):=by
 have hj:j<fl.length:=(List.getElem?_eq_some_iff.1 hfa).1;have hjr:j<rs.length:=(List.getElem?_eq_some_iff.1 hr).1;have hhead:∀ b∈Bw :: (vB av++vB pv),b∈wdFoot Bw av pv fl rs:=fun b hb=>List.mem_append_left _ hb
 have hget:∀ {i:Nat} {g:Fa} {t:List (Value × Ob)},(fl.set j fb)[i]?=some g->(rs.set j s)[i]?=some t->(i=j/\g=fb/\t=s)\/(i≠j/\fl[i]?=some g/\rs[i]?=some t):=fun {i g t} h1 h2=>by
  by_cases e:i=j
  ·subst e
   rw[List.getElem?_set,if_pos rfl,if_pos hj] at h1;rw[List.getElem?_set,if_pos rfl,if_pos hjr] at h2;simp only[Option.some.injEq] at h1 h2;exact .inl ⟨rfl,h1.symm,h2.symm⟩
  ·rw[List.getElem?_set,if_neg (fun h=>e h.symm)] at h1 h2
   exact .inr ⟨e,h1,h2⟩
 have hBw:w'.heap[Bw]?=w.heap[Bw]?:=hsame Bw (hhead Bw (by simp)) (fun hb=>by
  have:=h.apart0;simp only[List.nodup_cons,List.mem_append,not_or] at this
  exact this.1.1 hb) (fun hb=>(h.apart1 j fa r hfa hr).2 Bw hb (by simp))
 have hpv:∀ b∈vB pv,w'.heap[b]?=w.heap[b]?:=fun b hb=>hsame b (hhead b (by simp[hb])) (fun hb'=>by
  have:=(List.nodup_cons.1 h.apart0).2;exact(List.nodup_append.1 this).2.2 b hb' b hb rfl) (fun hb'=>(h.apart1 j fa r hfa hr).2 b hb' (by simp[hb]))
 have hoth:∀ (i:Nat) g t,i≠j->fl[i]?=some g->rs[i]?=some t->∀ b∈acFoot g t,w'.heap[b]?=w.heap[b]?:=fun i g t hij h1 h2 b hb=>hsame b (List.mem_append_right _ (mem_actsFoot h1 h2 hb)) (fun hb'=>(h.apart1 i g t h1 h2).2 b hb (by simp[hb'])) (h.apart2 i j g t fa r hij h1 h2 hfa hr b hb)
 refine⟨hBw.trans h.box,hrow,ownsRow_at_block h.prints hpv,by simp[h.flen],by simp[h.rlen],fun i g t x h1 h2 h3=>?_,h.apart0,fun i g t h1 h2=>?_,fun i i' g t g' t' hii h1 h2 h3 h4 b hb=>?_⟩
 ·rcases hget h1 h2 with⟨rfl,rfl,rfl⟩ | ⟨e,h1,h2⟩
  ·simp only at h3
   rw[List.getElem?_set,if_pos rfl,if_pos (by rw[<- h.flen];exact hj)] at h3;simp only[Option.some.injEq] at h3;subst h3;exact hnew
  ·simp only at h3
   rw[List.getElem?_set,if_neg (fun h=>e h.symm)] at h3;exact(h.each i g t x h1 h2 h3).at_block (hoth i g t e h1 h2)
 ·rcases hget h1 h2 with⟨rfl,rfl,rfl⟩ | ⟨e,h1,h2⟩
  ·refine⟨hnd,fun b hb hb'=>?_⟩
   rcases hin b hb with h5 | h5
   ·exact(h.apart1 i fa r hfa hr).2 b h5 hb'
   ·exact h5 (hhead b hb')
  ·exact h.apart1 i g t h1 h2
 ·intro hb'
  rcases hget h1 h2 with⟨rfl,rfl,rfl⟩ | ⟨e,q1,q2⟩
  ·rcases hget h3 h4 with⟨rfl,_,_⟩ | ⟨e',h3,h4⟩
   ·exact hii rfl
   ·rcases hin b hb with h5 | h5
    ·exact h.apart2 i i' fa r g' t' hii hfa hr h3 h4 b h5 hb'
    ·exact h5 (List.mem_append_right _ (mem_actsFoot h3 h4 hb'))
  ·rcases hget h3 h4 with⟨rfl,rfl,rfl⟩ | ⟨e',h3,h4⟩
   ·rcases hin b hb' with h5 | h5
    ·exact h.apart2 i i' g t fa r hii q1 q2 hfa hr b hb h5
    ·exact h5 (List.mem_append_right _ (mem_actsFoot q1 q2 hb))
   ·exact h.apart2 i i' g t g' t' hii q1 q2 h3 h4 b hb hb'
end
section
open Go.RowKit
theorem flat_set1 {α:Type} {f:α->List Value} {s:Nat} (hT:∀ x,(f x).length=s):∀ (l:List α) (i k:Nat) (x y:α) (u:Value),l[i]?=some x->k<s->f y=(f x).set k u->(l.flatMap f).set (i*s+k) u=(l.set i y).flatMap f
 | [],i,k,x,y,u,h,_,_=>by simp at h
 | a :: l,0,k,x,y,u,h,hk,he=>by
  simp only[List.getElem?_cons_zero,Option.some.injEq] at h;subst h;rw[List.flatMap_cons,List.set_cons_zero,List.flatMap_cons,he,Nat.zero_mul,Nat.zero_add,List.set_append_left _ _ (by rw[hT];exact hk)]
 | a :: l,i+1,k,x,y,u,h,hk,he=>by
  simp only[List.getElem?_cons_succ] at h;rw[List.flatMap_cons,List.set_cons_succ,List.flatMap_cons,List.set_append_right _ _ (by rw[hT,Nat.add_mul];omega),hT]
  congr 1
  rw[<- flat_set1 hT l i k x y u h hk he]
  congr 1
  rw[Nat.add_mul];omega
theorem SeqOwn.set1 {α:Type} {f:α->List Value} {s:Nat} {e:TypeId} (hT:∀ x,(f x).length=s) {w:World} {base g n c:Nat} {l:List α} (h:SeqOwn f s e w base (.slice (some ⟨g,0,none⟩) n c) l) {i k:Nat} {x y:α} {u:Value} (hx:l[i]?=some x) (hk:k<s) (he:f y=(f x).set k u) :
  SeqOwn f s e (w.setCell ⟨g,i*s+k,none⟩ u) base (.slice (some ⟨g,0,none⟩) n c) (l.set i y):=by
 unfold SeqOwn
 rw[<- flat_set1 hT l i k x y u hx hk he,List.length_set];exact ownsRow_set h rfl _ _
end
section
open Go.RowKit
structure Moved (w w':World) (F F':List Nat):Prop where
 os:w'.os=w.os
 tape:w'.tape=w.tape
 output:w'.output=w.output
 size:w.heap.size<=w'.heap.size
 keep:∀ b,b<w.heap.size->b∉F->w'.heap[b]?=w.heap[b]?
 sub:∀ b∈F',b∈F\/w.heap.size<=b
theorem Moved.trans {a b c:World} {F G H:List Nat} (h:Moved a b F G) (k:Moved b c G H):Moved a c F H :=
 ⟨k.os.trans h.os,k.tape.trans h.tape,k.output.trans h.output,Nat.le_trans h.size k.size,
  fun x hx hF=>(k.keep x (Nat.lt_of_lt_of_le hx h.size) (fun hG=>by rcases h.sub x hG with h1 | h1;exact hF h1;omega)).trans (h.keep x hx hF),
  fun x hx=>by
   rcases k.sub x hx with h1 | h1
   ·exact h.sub x h1
   ·exact .inr (Nat.le_trans h.size h1)⟩
theorem Moved.below {w w':World} {F F':List Nat} (h:Moved w w' F F') {B:Nat} (hB:B<=w.heap.size) (hF:∀ b∈F,B<=b):Below B w w' :=
 ⟨h.os,h.tape,h.output,h.size,fun k hk=>h.keep k (by omega) (fun hk'=>by have:=hF k hk';omega)⟩
theorem Moved.of_below {w w':World} {F:List Nat} (h:Below w.heap.size w w'):Moved w w' F F :=
 ⟨h.os,h.tape,h.output,h.size,fun b hb _=>h.block b hb,fun _ hb=>.inl hb⟩
theorem Moved.set (w:World) {F:List Nat} {g:Nat} (hg:g∈F) (j:Nat) (u:Value):Moved w (w.setCell ⟨g,j,none⟩ u) F F :=
 ⟨rfl,rfl,rfl,by simp[World.setCell],fun b _ hb=>Deep.blk_setCell_other _ ⟨g,j,none⟩ _ _ (fun e=>hb (by rw[e];exact hg)),fun _ hb=>.inl hb⟩
theorem set_same {α:Type} {l:List α} {j:Nat} {a:α} (h:l[j]?=some a):l.set j a=l:=by
 refine List.ext_getElem? fun i=>?_
 rw[List.getElem?_set]
 by_cases e:j=i
 ·subst e
  rw[if_pos rfl,if_pos (List.getElem?_eq_some_iff.1 h).1,h]
 ·rw[if_neg e]
section
variable {w:World} {base Bw:Nat} {V:Wd} {av pv:Value} {fl:List Fa} {rs:List (List (Value × Ob))} {j:Nat} {fa:Fa} {r:List (Value × Ob)} {x:Ac}
theorem WdOwn.setReg (h:WdOwn w base Bw V av pv fl rs) (hfa:fl[j]?=some fa) (hr:rs[j]?=some r) (hx:V.acts[j]?=some x) {R:Nat} (hra:fa.ra=some ⟨R,0,none⟩) {q:Nat} (hq:q<x.regs.length) (v:Vl) :
  WdOwn ((w.setCell ⟨R,q*2,none⟩ (.int .i64 v.k)).setCell ⟨R,q*2+1,none⟩ (.int .i64 v.n)) base Bw { V with acts:=V.acts.set j { x with regs:=x.regs.set q v } } av pv fl rs /\
   Moved w ((w.setCell ⟨R,q*2,none⟩ (.int .i64 v.k)).setCell ⟨R,q*2+1,none⟩ (.int .i64 v.n)) (wdFoot Bw av pv fl rs) (wdFoot Bw av pv fl rs):=by
 have hA:=h.each j fa r x hfa hr hx;have hRin:R∈vB (.slice fa.ra fa.rn fa.rc):=by rw[mem_vB,hra];rfl
 have hRf:R∈acFoot fa r:=List.mem_append_right _ (List.mem_append_left _ hRin);have hnd:=(h.apart1 j fa r hfa hr).1;have hRw:R∈wdFoot Bw av pv fl rs:=List.mem_append_right _ (mem_actsFoot hfa hr hRf);have hRav:R∉vB av:=fun hb=>(h.apart1 j fa r hfa hr).2 R hRf (by simp[hb])
 have hoth:∀ b,b≠R->((w.setCell ⟨R,q*2,none⟩ (.int .i64 v.k)).setCell ⟨R,q*2+1,none⟩ (.int .i64 v.n)).heap[b]?=w.heap[b]?:=fun b hb=>two_other (q*2) (q*2+1) _ _ hb
 have hn1:=List.nodup_append.1 hnd;have hn2:=List.nodup_append.1 hn1.2.1;obtain⟨o,ho⟩:=at_some hq;have hregs:=hA.regs;rw[hra] at hregs;have s1:=SeqOwn.set1 (f:=fVl) (s:=2) (fun _=>rfl) hregs (i:=q) (k:=0) (u:=.int .i64 v.k) (x:=o) (y:=⟨v.k,o.n⟩) ho (by omega) rfl;have s2:=SeqOwn.set1 (f:=fVl) (s:=2) (fun _=>rfl) s1 (i:=q) (k:=1) (u:=.int .i64 v.n) (x:=⟨v.k,o.n⟩) (y:=v) (by rw[List.getElem?_set,if_pos rfl,if_pos hq]) (by omega) rfl
 rw[List.set_set] at s2;have hnew:AcOwn ((w.setCell ⟨R,q*2,none⟩ (.int .i64 v.k)).setCell ⟨R,q*2+1,none⟩ (.int .i64 v.n)) base fa r { x with regs:=x.regs.set q v } :=
  { kind:=hA.kind,par:=hA.par,M:=hA.M,on:=hA.on,rn:=by rw[hA.rn];simp,pc:=hA.pc,bn:=hA.bn,fin:=hA.fin,obs:=hA.obs,heap:=hA.heap.at_block (fun b hb=>hoth b (fun e=>hn1.2.2 b hb R (List.mem_append_left _ hRin) e)),regs:=by rw[hra];exact s2,box:=ownsRow_at_block hA.box (fun b hb=>hoth b (fun e=>hn2.2.2 R hRin b hb e.symm)) }
 have hrow:SeqOwn fAc 8 50 ((w.setCell ⟨R,q*2,none⟩ (.int .i64 v.k)).setCell ⟨R,q*2+1,none⟩ (.int .i64 v.n)) base av (fl.set j fa):=by
  rw[set_same hfa];exact ownsRow_at_block h.acts (fun b hb=>hoth b (fun e=>hRav (by rw[<- e];exact hb)))
 have:=h.replace hfa hr hrow hnew (fun b _ _ hb=>hoth b (fun e=>hb (by rw[e];exact hRf))) hnd (fun b hb=>.inl hb);rw[set_same hfa,set_same hr] at this
 exact⟨this,(Moved.set w hRw _ _).trans (Moved.set _ hRw _ _)⟩
theorem WdOwn.setNum (h:WdOwn w base Bw V av pv fl rs) (hfa:fl[j]?=some fa) (hr:rs[j]?=some r) {g n c:Nat} (hav:av=.slice (some ⟨g,0,none⟩) n c) {k:Nat} (hk:k<8) {u:Value} {fb:Fa} {y:Ac}
  (hf:fAc fb=(fAc fa).set k u) (hfoot:acFoot fb r=acFoot fa r) (hnew:AcOwn w base fb r y) :
  WdOwn (w.setCell ⟨g,j*8+k,none⟩ u) base Bw { V with acts:=V.acts.set j y } av pv (fl.set j fb) rs/\Moved w (w.setCell ⟨g,j*8+k,none⟩ u) (wdFoot Bw av pv fl rs) (wdFoot Bw av pv (fl.set j fb) rs):=by
 have hgav:g∈vB av:=by rw[mem_vB,hav];rfl
 have hgw:g∈wdFoot Bw av pv fl rs:=List.mem_append_left _ (by simp[hgav]);have hoth:∀ b,b≠g->(w.setCell ⟨g,j*8+k,none⟩ u).heap[b]?=w.heap[b]?:=fun b hb=>Deep.blk_setCell_other _ ⟨g,j*8+k,none⟩ _ _ hb
 have hgf:∀ b∈acFoot fa r,b≠g:=fun b hb e=>(h.apart1 j fa r hfa hr).2 b hb (by rw[e];simp[hgav])
 have hrow0:=h.acts;rw[hav] at hrow0;have hrow:=SeqOwn.set1 (f:=fAc) (s:=8) (fun _=>rfl) hrow0 (i:=j) (k:=k) (u:=u) (x:=fa) (y:=fb) hfa hk hf;rw[<- hav] at hrow;have:=h.replace hfa hr hrow (hnew.at_block (fun b hb=>hoth b (hgf b (by rw[<- hfoot];exact hb)))) (fun b _ hb _=>hoth b (fun e=>hb (by rw[e];exact hgav))) (by rw[hfoot];exact(h.apart1 j fa r hfa hr).1) (fun b hb=>.inl (by rw[<- hfoot];exact hb))
 rw[set_same hr] at this
 refine⟨this,Moved.mk rfl rfl rfl (by simp[World.setCell]) (fun b _ hb=>hoth b (fun e=>hb (by rw[e];exact hgw))) (fun b hb=>?_)⟩;simp only[wdFoot,List.mem_append] at hb ⊢
 rcases hb with hb | hb
 ·exact .inl (.inl hb)
 ·obtain⟨⟨f',r'⟩,hp,hb⟩:=List.mem_flatMap.1 hb
  obtain⟨i,hi,e⟩:=List.mem_iff_getElem.1 hp;have hz:(List.zip (fl.set j fb) rs)[i]?=some (f',r'):=by rw[List.getElem?_eq_getElem hi,e]
  obtain⟨h1,h2⟩:=List.getElem?_zip_eq_some.1 hz;simp only at h1 h2 hb
  by_cases hij:j=i
  ·subst hij
   rw[List.getElem?_set,if_pos rfl,if_pos (List.getElem?_eq_some_iff.1 hfa).1] at h1;rw[hr] at h2;simp only[Option.some.injEq] at h1 h2;subst h1 h2;rw[hfoot] at hb;exact .inl (.inr (mem_actsFoot hfa hr hb))
  ·rw[List.getElem?_set,if_neg hij] at h1
   exact .inl (.inr (mem_actsFoot h1 h2 hb))
theorem HeapOwn.nodup {v:Value} {rows:List (Value × Ob)} (h:HeapOwn w base v rows):(vB v++rowsB rows).Nodup:=by
 have one:∀ u:Value,(vB u).Nodup:=fun u=>by unfold vB;split <;> simp
 refine List.nodup_append.2 ⟨one v,?_,fun a ha b hb e=>?_⟩
 ·have key:∀ l:List (Value × Ob),(∀ (i k:Nat) p q,l[i]?=some p->l[k]?=some q->i≠k->p.1.ownBlock=none\/p.1.ownBlock≠q.1.ownBlock)->(rowsB l).Nodup:=by
   intro l
   induction l with
   | nil=>intro _;simp[rowsB]
   | cons p l ih =>
    intro ha
    show(vB p.1++rowsB l).Nodup
    refine List.nodup_append.2 ⟨one p.1,ih (fun i k p' q' h1 h2 hik=>ha (i+1) (k+1) p' q' (by simpa using h1) (by simpa using h2) (by omega)),fun a ha' b hb e=>?_⟩;subst e;obtain⟨q,hq,hb⟩:=List.mem_flatMap.1 hb;obtain⟨i,hi,e⟩:=List.mem_iff_getElem.1 hq;have:=ha 0 (i+1) p q rfl (by simp[List.getElem?_eq_getElem hi,e]) (by omega);rw[mem_vB] at ha' hb;rw[ha',hb] at this
    simp at this
  exact key rows h.apart
 ·subst e
  obtain⟨q,hq,hb⟩:=List.mem_flatMap.1 hb;obtain⟨i,hi,e⟩:=List.mem_iff_getElem.1 hq;have hrow:=(h.row i q (by rw[List.getElem?_eq_getElem hi,e])).1;rw[mem_vB] at ha hb
  rcases owns_other h.top hrow (Ne.symm tne) with h1 | h1
  ·rw[h1] at ha;cases ha
  ·rw[ha,hb] at h1;exact h1 rfl
theorem WdOwn.setHeap (h:WdOwn w base Bw V av pv fl rs) (hfa:fl[j]?=some fa) (hr:rs[j]?=some r) (hx:V.acts[j]?=some x) {g n c:Nat} (hav:av=.slice (some ⟨g,0,none⟩) n c) {M:Int} {oa:Option Addr} {oc:Nat} {s:List (Value × Ob)} {l:List Ob} (hs:s.map (·.2)=l)
  (hH:HeapOwn w base (.slice oa l.length oc) s) (hfresh:∀ b∈vB (.slice oa l.length oc)++rowsB s,b∉wdFoot Bw av pv fl rs) :
  WdOwn ((w.setCell ⟨g,j*8+2,none⟩ (.int .i64 M)).setCell ⟨g,j*8+3,none⟩ (.slice oa l.length oc)) base Bw { V with acts:=V.acts.set j (x.heap M l) } av pv (fl.set j { fa with M:=M,oa:=oa,on:=l.length,oc:=oc }) (rs.set j s):=by
 have hA:=h.each j fa r x hfa hr hx;have hgav:g∈vB av:=by rw[mem_vB,hav];rfl
 have hoth:∀ b,b≠g->((w.setCell ⟨g,j*8+2,none⟩ (.int .i64 M)).setCell ⟨g,j*8+3,none⟩ (.slice oa l.length oc)).heap[b]?=w.heap[b]?:=fun b hb=>two_other _ _ _ _ hb
 have hgf:∀ b∈acFoot fa r,b≠g:=fun b hb e=>(h.apart1 j fa r hfa hr).2 b hb (by rw[e];simp[hgav])
 have hgn:∀ b∈vB (.slice oa l.length oc)++rowsB s,b≠g:=fun b hb e=>hfresh b hb (List.mem_append_left _ (by rw[e];simp[hgav]))
 have hrow0:=h.acts;rw[hav] at hrow0;have r1:=SeqOwn.set1 (f:=fAc) (s:=8) (fun _=>rfl) hrow0 (i:=j) (k:=2) (u:=.int .i64 M) (x:=fa) (y:={ fa with M:=M }) hfa (by omega) rfl;have r2:=SeqOwn.set1 (f:=fAc) (s:=8) (fun _=>rfl) r1 (i:=j) (k:=3) (u:=.slice oa l.length oc) (x:={ fa with M:=M }) (y:={ fa with M:=M,oa:=oa,on:=l.length,oc:=oc }) (by rw[List.getElem?_set,if_pos rfl,if_pos (List.getElem?_eq_some_iff.1 hfa).1]) (by omega) rfl
 rw[List.set_set,<- hav] at r2;have hnd:=(h.apart1 j fa r hfa hr).1;have hn1:=List.nodup_append.1 hnd;refine h.replace hfa hr r2 ⟨hA.kind,hA.par,rfl,rfl,hA.rn,hA.pc,hA.bn,hA.fin,hs,hH.at_block (fun b hb=>hoth b (hgn b hb)),ownsRow_at_block hA.regs (fun b hb=>hoth b (hgf b (List.mem_append_right _ (List.mem_append_left _ hb)))),ownsRow_at_block hA.box (fun b hb=>hoth b (hgf b (List.mem_append_right _ (List.mem_append_right _ hb))))⟩
  (fun b _ hb _=>hoth b (fun e=>hb (by rw[e];exact hgav))) ?_ (fun b hb=>?_)
 ·refine List.nodup_append.2 ⟨hH.nodup,hn1.2.1,fun a ha b hb e=>?_⟩
  subst e;exact hfresh a ha (List.mem_append_right _ (mem_actsFoot hfa hr (List.mem_append_right _ hb)))
 ·rcases List.mem_append.1 hb with hb | hb
  ·exact .inr (hfresh b hb)
  ·exact .inl (List.mem_append_right _ hb)
end
end
section
open Go.RowKit
section
variable {w w2:World} {base Bw:Nat} {V:Wd} {av pv:Value} {fl:List Fa} {rs:List (List (Value × Ob))} {j:Nat} {fa fb:Fa} {r s:List (Value × Ob)} {y:Ac}
theorem WdOwn.update1 (h:WdOwn w base Bw V av pv fl rs) (hfa:fl[j]?=some fa) (hr:rs[j]?=some r) {g n c:Nat} (hav:av=.slice (some ⟨g,0,none⟩) n c) {k:Nat} (hk:k<8) {u:Value}
  (hfr:∀ b∈wdFoot Bw av pv fl rs,b∉acFoot fa r->w2.heap[b]?=w.heap[b]?) (hf:fAc fb=(fAc fa).set k u) (hnew:AcOwn w2 base fb s y) (hnd:(acFoot fb s).Nodup) (hin:∀ b∈acFoot fb s,b∈acFoot fa r\/b∉wdFoot Bw av pv fl rs) :
  WdOwn (w2.setCell ⟨g,j*8+k,none⟩ u) base Bw { V with acts:=V.acts.set j y } av pv (fl.set j fb) (rs.set j s):=by
 have hgav:g∈vB av:=by rw[mem_vB,hav];rfl
 have hgw:g∈wdFoot Bw av pv fl rs:=List.mem_append_left _ (by simp[hgav]);have hgf:∀ b∈acFoot fa r,b≠g:=fun b hb e=>(h.apart1 j fa r hfa hr).2 b hb (by rw[e];simp[hgav])
 have hgn:∀ b∈acFoot fb s,b≠g:=fun b hb=>by
  rcases hin b hb with h1 | h1
  ·exact hgf b h1
  ·intro e;exact h1 (by rw[e];exact hgw)
 have hoth:∀ b,b≠g->(w2.setCell ⟨g,j*8+k,none⟩ u).heap[b]?=w2.heap[b]?:=fun b hb=>Deep.blk_setCell_other _ ⟨g,j*8+k,none⟩ _ _ hb
 have hrow0:SeqOwn fAc 8 50 w2 base av fl:=ownsRow_at_block h.acts (fun b hb=>hfr b (List.mem_append_left _ (by simp[hb])) (fun hb'=>(h.apart1 j fa r hfa hr).2 b hb' (by simp[hb])));rw[hav] at hrow0;have hrow:=SeqOwn.set1 (f:=fAc) (s:=8) (fun _=>rfl) hrow0 (i:=j) (k:=k) (u:=u) (x:=fa) (y:=fb) hfa hk hf;rw[<- hav] at hrow;exact h.replace hfa hr hrow (hnew.at_block (fun b hb=>hoth b (hgn b hb))) (fun b hb1 hb2 hb3=>(hoth b (fun e=>hb2 (by rw[e];exact hgav))).trans (hfr b hb1 hb3)) hnd hin
theorem WdOwn.setPrints (h:WdOwn w base Bw V av pv fl rs) (hfr:∀ b∈wdFoot Bw av pv fl rs,b∉vB pv->w2.heap[b]?=w.heap[b]?) {pv2:Value} {l:List (Int × Int)} (hnew:SeqOwn fTl 2 29 w2 base pv2 l)
  (hin:∀ b∈vB pv2,b∈vB pv\/b∉wdFoot Bw av pv fl rs):WdOwn (w2.setCell ⟨Bw,1,none⟩ pv2) base Bw { V with prints:=l } av pv2 fl rs:=by
 have h0:=List.nodup_cons.1 h.apart0;have h00:=List.nodup_append.1 h0.2;have hBin:∀ b∈vB pv2,b≠Bw:=fun b hb e=>by
  rcases hin b hb with h1 | h1
  ·exact h0.1 (by rw[<- e];simp[h1])
  ·exact h1 (List.mem_append_left _ (by simp[e]))
 have hoth:∀ b,b≠Bw->(w2.setCell ⟨Bw,1,none⟩ pv2).heap[b]?=w2.heap[b]?:=fun b hb=>Deep.blk_setCell_other _ ⟨Bw,1,none⟩ _ _ hb
 have hBw:w2.heap[Bw]?=some (.cells #[av,pv] 32 (0,0)):=(hfr Bw (List.mem_append_left _ (by simp)) (fun hb=>h0.1 (by simp[hb]))).trans h.box;have hav:∀ b∈vB av,b≠Bw/\b∉vB pv:=fun b hb=>⟨fun e=>h0.1 (by rw[<- e];simp[hb]),fun hb'=>h00.2.2 b hb b hb' rfl⟩
 have hac:∀ (i:Nat) g t,fl[i]?=some g->rs[i]?=some t->∀ b∈acFoot g t,(w2.setCell ⟨Bw,1,none⟩ pv2).heap[b]?=w.heap[b]?:=fun i g t h1 h2 b hb=>by
  have hn:=(h.apart1 i g t h1 h2).2 b hb;simp only[List.mem_cons,List.mem_append,not_or] at hn;exact(hoth b hn.1).trans (hfr b (List.mem_append_right _ (mem_actsFoot h1 h2 hb)) hn.2.2)
 have hdis:∀ b∈vB pv2,b∉vB av:=fun b hb hb'=>by
  rcases hin b hb with h1 | h1
  ·exact(hav b hb').2 h1
  ·exact h1 (List.mem_append_left _ (by simp[hb']))
 refine⟨?_,ownsRow_at_block h.acts (fun b hb=>(hoth b (hav b hb).1).trans (hfr b (List.mem_append_left _ (by simp[hb])) (hav b hb).2)),ownsRow_at_block hnew (fun b hb=>hoth b (hBin b hb)),h.flen,h.rlen,fun i g t x h1 h2 h3=>(h.each i g t x h1 h2 h3).at_block (hac i g t h1 h2),?_,fun i g t h1 h2=>⟨(h.apart1 i g t h1 h2).1,fun b hb hb'=>?_⟩,h.apart2⟩
 ·have:=setCell_blk hBw 1 pv2
  rw[this]
  rfl
 ·refine List.nodup_cons.2 ⟨fun hb=>?_,List.nodup_append.2 ⟨h00.1,by unfold vB;split <;> simp,fun a ha b hb e=>hdis b hb (by rw[<- e];exact ha)⟩⟩
  rcases List.mem_append.1 hb with hb | hb
  ·exact(hav Bw hb).1 rfl
  ·exact hBin Bw hb rfl
 ·have hn:=(h.apart1 i g t h1 h2).2 b hb
  simp only[List.mem_cons,List.mem_append,not_or] at hn hb'
  rcases hb' with hb' | hb' | hb'
  ·exact hn.1 hb'
  ·exact hn.2.1 hb'
  ·rcases hin b hb' with h5 | h5
   ·exact hn.2.2 h5
   ·exact h5 (List.mem_append_right _ (mem_actsFoot h1 h2 hb))
theorem WdOwn.push (h:WdOwn w base Bw V av pv fl rs) (hfr:∀ b∈wdFoot Bw av pv fl rs,b∉vB av->w2.heap[b]?=w.heap[b]?) {av2:Value} (hrow:SeqOwn fAc 8 50 w2 base av2 (fl++[fb])) (hin:∀ b∈vB av2,b∈vB av\/b∉wdFoot Bw av pv fl rs)
  (hnew:AcOwn w2 base fb s y) (hnd:(acFoot fb s).Nodup) (hfresh:∀ b∈acFoot fb s,b∉wdFoot Bw av pv fl rs/\b∉vB av2) :
  WdOwn (w2.setCell ⟨Bw,0,none⟩ av2) base Bw { V with acts:=V.acts++[y] } av2 pv (fl++[fb]) (rs++[s]):=by
 have h0:=List.nodup_cons.1 h.apart0;have h00:=List.nodup_append.1 h0.2;have hBin:∀ b∈vB av2,b≠Bw:=fun b hb e=>by
  rcases hin b hb with h1 | h1
  ·exact h0.1 (by rw[<- e];simp[h1])
  ·exact h1 (List.mem_append_left _ (by simp[e]))
 have hoth:∀ b,b≠Bw->(w2.setCell ⟨Bw,0,none⟩ av2).heap[b]?=w2.heap[b]?:=fun b hb=>Deep.blk_setCell_other _ ⟨Bw,0,none⟩ _ _ hb
 have hBw:w2.heap[Bw]?=some (.cells #[av,pv] 32 (0,0)):=(hfr Bw (List.mem_append_left _ (by simp)) (fun hb=>h0.1 (by simp[hb]))).trans h.box;have hpv:∀ b∈vB pv,b≠Bw/\b∉vB av:=fun b hb=>⟨fun e=>h0.1 (by rw[<- e];simp[hb]),fun hb'=>h00.2.2 b hb' b hb rfl⟩
 have hac:∀ (i:Nat) g t,fl[i]?=some g->rs[i]?=some t->∀ b∈acFoot g t,(w2.setCell ⟨Bw,0,none⟩ av2).heap[b]?=w.heap[b]?:=fun i g t h1 h2 b hb=>by
  have hn:=(h.apart1 i g t h1 h2).2 b hb;simp only[List.mem_cons,List.mem_append,not_or] at hn;exact(hoth b hn.1).trans (hfr b (List.mem_append_right _ (mem_actsFoot h1 h2 hb)) hn.2.1)
 have hdis:∀ b∈vB av2,b∉vB pv:=fun b hb hb'=>by
  rcases hin b hb with h1 | h1
  ·exact(hpv b hb').2 h1
  ·exact h1 (List.mem_append_left _ (by simp[hb']))
 have hlen:fl.length=rs.length:=h.flen.trans h.rlen.symm;have hget:∀ {i:Nat} {g:Fa} {t:List (Value × Ob)},(fl++[fb])[i]?=some g->(rs++[s])[i]?=some t->(i=fl.length/\g=fb/\t=s)\/(fl[i]?=some g/\rs[i]?=some t):=fun {i g t} h1 h2=>by
  by_cases hi:i<fl.length
  ·rw[List.getElem?_append_left hi] at h1
   rw[List.getElem?_append_left (by omega)] at h2;exact .inr ⟨h1,h2⟩
  ·have e:i=fl.length:=by
    have:=(List.getElem?_eq_some_iff.1 h1).1;simp at this
    omega
   subst e;rw[List.getElem?_append_right (Nat.le_refl _)] at h1;rw[List.getElem?_append_right (by omega)] at h2;simp[hlen] at h1 h2;exact .inl ⟨rfl,h1.symm,h2.symm⟩
 have hnB:∀ b∈acFoot fb s,b≠Bw:=fun b hb e=>(hfresh b hb).1 (List.mem_append_left _ (by simp[e]))
 refine⟨?_,ownsRow_at_block hrow (fun b hb=>hoth b (hBin b hb)),ownsRow_at_block h.prints (fun b hb=>(hoth b (hpv b hb).1).trans (hfr b (List.mem_append_left _ (by simp[hb])) (hpv b hb).2)),by simp[h.flen],by simp[h.rlen],fun i g t x h1 h2 h3=>?_,?_,fun i g t h1 h2=>?_,fun i i' g t g' t' hii h1 h2 h3 h4 b hb hb'=>?_⟩
 ·have:=setCell_blk hBw 0 av2
  rw[this]
  rfl
 ·rcases hget h1 h2 with⟨rfl,rfl,rfl⟩ | ⟨q1,q2⟩
  ·simp only at h3
   rw[List.getElem?_append_right (by rw[h.flen];exact Nat.le_refl _)] at h3;simp[h.flen] at h3;subst h3;exact hnew.at_block (fun b hb=>hoth b (hnB b hb))
  ·have hi:i<V.acts.length:=by rw[<- h.flen];exact(List.getElem?_eq_some_iff.1 q1).1
   simp only at h3;rw[List.getElem?_append_left hi] at h3;exact(h.each i g t x q1 q2 h3).at_block (hac i g t q1 q2)
 ·refine List.nodup_cons.2 ⟨fun hb=>?_,List.nodup_append.2 ⟨by unfold vB;split <;> simp,h00.2.1,fun a ha b hb e=>hdis a ha (by rw[e];exact hb)⟩⟩
  rcases List.mem_append.1 hb with hb | hb
  ·exact hBin Bw hb rfl
  ·exact(hpv Bw hb).1 rfl
 ·rcases hget h1 h2 with⟨rfl,rfl,rfl⟩ | ⟨q1,q2⟩
  ·refine⟨hnd,fun b hb hb'=>?_⟩
   simp only[List.mem_cons,List.mem_append] at hb'
   rcases hb' with hb' | hb' | hb'
   ·exact hnB b hb hb'
   ·exact(hfresh b hb).2 hb'
   ·exact(hfresh b hb).1 (List.mem_append_left _ (by simp[hb']))
  ·refine⟨(h.apart1 i g t q1 q2).1,fun b hb hb'=>?_⟩
   have hn:=(h.apart1 i g t q1 q2).2 b hb;simp only[List.mem_cons,List.mem_append,not_or] at hn hb'
   rcases hb' with hb' | hb' | hb'
   ·exact hn.1 hb'
   ·rcases hin b hb' with h5 | h5
    ·exact hn.2.1 h5
    ·exact h5 (List.mem_append_right _ (mem_actsFoot q1 q2 hb))
   ·exact hn.2.2 hb'
 ·rcases hget h1 h2 with⟨rfl,rfl,rfl⟩ | ⟨q1,q2⟩
  ·rcases hget h3 h4 with⟨rfl,_,_⟩ | ⟨q3,q4⟩
   ·exact hii rfl
   ·exact(hfresh b hb).1 (List.mem_append_right _ (mem_actsFoot q3 q4 hb'))
  ·rcases hget h3 h4 with⟨rfl,rfl,rfl⟩ | ⟨q3,q4⟩
   ·exact(hfresh b hb').1 (List.mem_append_right _ (mem_actsFoot q1 q2 hb))
   ·exact h.apart2 i i' g t g' t' hii q1 q2 q3 q4 b hb hb'
end
end
end Go.Proofs.YtepifccbbmdfcaaGreatDoor
