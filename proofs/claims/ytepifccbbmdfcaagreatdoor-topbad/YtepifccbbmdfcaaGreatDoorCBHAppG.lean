/- HAppG. -/
import Derived.Deep.RegionLaw
import Derived.Laws.CopyOwn
import Derived.Test.YtepifccbbmdfcaaGreatDoorChecked
import Derived.Deep.AppendLies
import Derived.Deep.AppendSrc
import Derived.Test.YtepifccbbmdfcaaGreatDoorCBHBoxes
namespace Go.Proofs.YtepifccbbmdfcaaGreatDoor
section
open Go.RowKit
def pairs:List (Value × Value)->List Value
 | []=>[]
 | p :: r=>p.1 :: p.2 :: pairs r
theorem pairs_length:∀ l:List (Value × Value),(pairs l).length=l.length*2
 | []=>rfl
 | p :: r=>by simp[pairs,pairs_length r];omega
theorem pairs_append:∀ l r:List (Value × Value),pairs (l++r)=pairs l++pairs r
 | [],r=>rfl
 | p :: l,r=>by simp[pairs,pairs_append l r]
theorem pairs_fst:∀ (l:List (Value × Value)) (i:Nat),(pairs l)[i*2]?=(l[i]?).map (·.1)
 | [],i=>by simp[pairs]
 | p :: r,0=>by simp[pairs]
 | p :: r,i+1=>by
  rw[show(i+1)*2=i*2+1+1 by omega];simp[pairs,pairs_fst r i]
theorem pairs_snd:∀ (l:List (Value × Value)) (i:Nat),(pairs l)[i*2+1]?=(l[i]?).map (·.2)
 | [],i=>by simp[pairs]
 | p :: r,0=>by simp[pairs]
 | p :: r,i+1=>by
  rw[show(i+1)*2+1=i*2+1+1+1 by omega];simp[pairs,pairs_snd r i]
theorem pairs_set:∀ (l:List (Value × Value)) (i:Nat) (a b:Value),((pairs l).set (i*2) a).set (i*2+1) b=pairs (l.set i (a,b))
 | [],i,a,b=>by simp[pairs]
 | p :: r,0,a,b=>by simp[pairs]
 | p :: r,i+1,a,b=>by
  rw[show(i+1)*2+1=i*2+1+1+1 by omega,show(i+1)*2=i*2+1+1 by omega];simp[pairs,pairs_set r i a b]
def valPair (v:Vl):Value × Value:=(.int .i64 v.k,.int .i64 v.n)
def valCells (l:List Vl):List Value:=pairs (l.map valPair)
def obPair (p:Value × Ob):Value × Value:=(p.1,.bool p.2.dead)
def obCells (l:List (Value × Ob)):List Value:=pairs (l.map obPair)
theorem valCells_length (l:List Vl):(valCells l).length=l.length*2:=by simp[valCells,pairs_length]
theorem obCells_length (l:List (Value × Ob)):(obCells l).length=l.length*2:=by simp[obCells,pairs_length]
theorem pairs_one:∀ {l:List (Value × Value)},(∀ p∈l,p.1.oneCell'=true/\p.2.oneCell'=true)->∀ v∈pairs l,v.oneCell'=true
 | [],_,v,hv=>by simp[pairs] at hv
 | p :: r,h,v,hv=>by
  simp only[pairs,List.mem_cons] at hv
  rcases hv with rfl | rfl | hv
  ·exact(h p (by simp)).1
  ·exact(h p (by simp)).2
  ·exact pairs_one (fun q hq=>h q (by simp[hq])) v hv
theorem valCells_one (l:List Vl):∀ v∈valCells l,v.oneCell'=true:=pairs_one (fun p hp=>by
 obtain⟨v,_,rfl⟩:=List.mem_map.1 hp;exact⟨rfl,rfl⟩)
section
variable {w:World} {base:Nat} {e:TypeId} {size:Nat} {v:Value} {n:Nat} {xs:List Value}
theorem setCell_blk {g:Nat} {cur:Array Value} {t:TypeId} {fr:Nat × Nat} (h:w.heap[g]?=some (.cells cur t fr)) (j:Nat) (u:Value):(w.setCell ⟨g,j,none⟩ u).heap[g]?=some (.cells (cur.setIfInBounds j u) t fr):=by
 simp only[World.setCell,Array.getElem?_modify,h];simp
theorem cell_blk {k:Nat} {c:Array Value} {t':TypeId} (h:w.heap[k]?=some (.cells c t' (0,0))) (j:Nat):w.cell? ⟨k,j,none⟩=c[j]?:=by simp[World.cell?,h]
theorem fz_blk {k:Nat} {c:Array Value} {t':TypeId} (h:w.heap[k]?=some (.cells c t' (0,0))) (j:Nat):w.frozen? ⟨k,j,none⟩=false:=by simp[World.frozen?,h]
theorem ownsRow_set (h:w.ownsRow base e size v n xs) {g:Nat} (hg:v.ownBlock=some g) (j:Nat) (u:Value):(w.setCell ⟨g,j,none⟩ u).ownsRow base e size v n (xs.set j u):=by
 rcases h.2 with⟨rfl,_⟩ | ⟨g',cap,cur,rfl,hb,hgg,h1,h2,h3,h4⟩
 ·simp[Value.ownBlock] at hg
 ·simp only[Value.ownBlock,Option.some.injEq] at hg
  subst hg;refine⟨by rw[List.length_set];exact h.1,.inr ⟨g',cap,cur.setIfInBounds j u,rfl,hb,setCell_blk hgg j u,h1,h2,by simpa using h3,?_⟩⟩;rw[Array.toList_setIfInBounds,<- h4,List.take_set]
theorem ownsRow_set_other (h:w.ownsRow base e size v n xs) {b:Nat} (hb:v.ownBlock=none\/v.ownBlock≠some b) (j:Nat) (u:Value):(w.setCell ⟨b,j,none⟩ u).ownsRow base e size v n xs :=
 h.kept (row:=some b) ⟨rfl,rfl,rfl,by simp[World.setCell],fun k _ hk=>Below.heap_setCell _ _ _ _ (fun e=>hk (by rw[e]))⟩ hb
theorem ownsRow_cell (h:w.ownsRow base e size v n xs) {g:Nat} (hg:v.ownBlock=some g) {j:Nat} {u:Value} (hu:xs[j]?=some u):w.cell? ⟨g,j,none⟩=some u:=by
 have:=h.cells hg j u hu;have hadd:(⟨g,0,none⟩:Addr).add j=⟨g,j,none⟩:=by unfold Addr.add;split <;> simp_all
 rwa [hadd] at this
theorem ownsRow_frozen (h:w.ownsRow base e size v n xs) {g:Nat} (hg:v.ownBlock=some g) (j:Nat):w.frozen? ⟨g,j,none⟩=false:=by
 rcases h.2 with⟨rfl,_⟩ | ⟨g',cap,cur,rfl,hb,hgg,_⟩
 ·simp[Value.ownBlock] at hg
 ·simp only[Value.ownBlock,Option.some.injEq] at hg
  subst hg;simp[World.frozen?,hgg]
theorem ownsRow_below {w':World} (h:w.ownsRow base e size v n xs) (hb:Below w.heap.size w w'):w'.ownsRow base e size v n xs :=
 h.kept ⟨hb.os,hb.tape,hb.output,hb.size,fun k hk _=>hb.block k hk⟩ (row:=none) (by cases hv:v.ownBlock <;> simp)
theorem ownsRow_le {base':Nat} (h:w.ownsRow base e size v n xs) (hb:base'<=base):w.ownsRow base' e size v n xs :=
 ⟨h.1,h.2.elim Or.inl (fun⟨g,cap,cur,hv,hg,r⟩=>Or.inr ⟨g,cap,cur,hv,Nat.le_trans hb hg,r⟩)⟩
theorem ownsRow_form (h:w.ownsRow base e size v n xs):(v=.slice none 0 0/\n=0)\/∃ g cap,v=.slice (some ⟨g,0,none⟩) n cap/\base<=g:=by
 rcases h.2 with hv | ⟨g,cap,_,hv,hb,_⟩
 ·exact Or.inl hv
 ·exact Or.inr ⟨g,cap,hv,hb⟩
theorem owns_other {base':Nat} {e':TypeId} {size':Nat} {v':Value} {n':Nat} {xs':List Value} (h:w.ownsRow base e size v n xs) (h':w.ownsRow base' e' size' v' n' xs') (hne:e≠e'):v.ownBlock=none\/v.ownBlock≠v'.ownBlock:=by
 rcases h.2 with⟨rfl,_⟩ | ⟨g,cap,cur,rfl,_,hg,_⟩
 ·exact Or.inl rfl
 ·right
  rcases h'.2 with⟨rfl,_⟩ | ⟨g',cap',cur',rfl,_,hg',_⟩
  ·simp[Value.ownBlock]
  ·simp only[Value.ownBlock]
   intro e1;simp only[Option.some.injEq] at e1;subst e1;rw[hg] at hg';simp only[Option.some.injEq,Obj.cells.injEq] at hg';exact hne hg'.2.1
theorem owns_blk {w':World} (h:w.ownsRow base e size v n xs) (hg:w.grownBy w' v.ownBlock) {k:Nat} {c:Array Value} {t':TypeId} (hk:w.heap[k]?=some (.cells c t' (0,0))) (hne:t'≠e):w'.heap[k]?=some (.cells c t' (0,0)):=by
 refine(hg.block k (Array.getElem?_eq_some_iff.1 hk).1 ?_).trans hk
 rcases h.2 with⟨rfl,_⟩ | ⟨g,cap,cur,rfl,_,hgg,_⟩
 ·simp[Value.ownBlock]
 ·simp only[Value.ownBlock]
  intro e';simp only[Option.some.injEq] at e';subst e';rw[hk] at hgg;simp only[Option.some.injEq,Obj.cells.injEq] at hgg;exact hne hgg.2.1
theorem below_box_base (hb:base<=w.heap.size) (o:Obj):Below base w (w.alloc o):=(Below.refl _ _).alloc hb o
end
def ValsOwn (w:World) (base:Nat) (v:Value) (l:List Vl):Prop:=w.ownsRow base 66 2 v l.length (valCells l)
structure HeapOwn (w:World) (base:Nat) (v:Value) (rows:List (Value × Ob)):Prop where
 top:w.ownsRow base 92 2 v rows.length (obCells rows)
 row:∀ (i:Nat) p,rows[i]?=some p->ValsOwn w base p.1 p.2.fs/\16*p.2.fs.length<=140737488351232
 apart:∀ (i j:Nat) p q,rows[i]?=some p->rows[j]?=some q->i≠j->p.1.ownBlock=none\/p.1.ownBlock≠q.1.ownBlock
 many:32*rows.length<=140737488351232
theorem ValsOwn.vals {w:World} {base:Nat} {ao:Option Addr} {n c:Nat} {l:List Vl} (h:ValsOwn w base (.slice ao n c) l):n=l.length/\ValsAt w ao l:=by
 rcases ownsRow_form h with⟨hv,hn⟩ | ⟨g,cap,hv,_⟩
 ·simp only[Value.slice.injEq] at hv
  have:l=[]:=List.eq_nil_of_length_eq_zero hn;subst this
  exact⟨hv.2.1,fun i v hi=>by simp at hi⟩
 ·simp only[Value.slice.injEq] at hv
  obtain⟨rfl,rfl,rfl⟩:=hv;refine⟨rfl,fun i v hi=>⟨g,0,rfl,?_,?_⟩⟩
  ·rw[Nat.zero_add]
   exact ownsRow_cell h rfl (by simp[valCells,pairs_fst,hi,valPair])
  ·rw[Nat.zero_add]
   exact ownsRow_cell h rfl (by simp[valCells,pairs_snd,hi,valPair])
theorem ValsOwn.form {w:World} {base:Nat} {v:Value} {l:List Vl} (h:ValsOwn w base v l):∃ ao c,v=.slice ao l.length c:=by
 rcases ownsRow_form h with⟨rfl,hn⟩ | ⟨g,cap,rfl,_⟩
 ·exact⟨none,0,by rw[hn]⟩
 ·exact⟨_,_,rfl⟩
theorem HeapOwn.obs {w:World} {base:Nat} {ao:Option Addr} {n c:Nat} {rows:List (Value × Ob)} (h:HeapOwn w base (.slice ao n c) rows):n=rows.length/\ObsAt w ao (rows.map (·.2)):=by
 have hm:=h.many
 rcases ownsRow_form h.top with⟨hv,hn⟩ | ⟨g,cap,hv,_⟩
 ·simp only[Value.slice.injEq] at hv
  have:rows=[]:=List.eq_nil_of_length_eq_zero hn;subst this
  exact⟨hv.2.1,fun i v hi=>by simp at hi,by simp⟩
 ·simp only[Value.slice.injEq] at hv
  obtain⟨rfl,rfl,rfl⟩:=hv;refine⟨rfl,fun i x hi=>?_,by simpa using hm⟩;rw[List.getElem?_map] at hi;obtain⟨⟨rv,ob⟩,hp,rfl⟩:=Option.map_eq_some_iff.1 hi;obtain⟨hr,hlen⟩:=h.row i _ hp;obtain⟨fa,fc,hf⟩:=hr.form;simp only at hf hr hlen;subst hf;refine⟨g,0,fa,fc,rfl,?_,?_,hr.vals.2,hlen⟩
  ·rw[Nat.zero_add]
   exact ownsRow_cell h.top rfl (by simp[obCells,pairs_fst,hp,obPair])
  ·rw[Nat.zero_add]
   exact ownsRow_cell h.top rfl (by simp[obCells,pairs_snd,hp,obPair])
theorem HeapOwn.form {w:World} {base:Nat} {v:Value} {rows:List (Value × Ob)} (h:HeapOwn w base v rows):∃ ao c,v=.slice ao rows.length c:=by
 rcases ownsRow_form h.top with⟨rfl,hn⟩ | ⟨g,cap,rfl,_⟩
 ·exact⟨none,0,by rw[hn]⟩
 ·exact⟨_,_,rfl⟩
theorem HeapOwn.below {w w':World} {base:Nat} {v:Value} {rows:List (Value × Ob)} (h:HeapOwn w base v rows) (hb:Below w.heap.size w w'):HeapOwn w' base v rows :=
 ⟨ownsRow_below h.top hb,fun i p hp=>⟨ownsRow_below (h.row i p hp).1 hb,(h.row i p hp).2⟩,h.apart,h.many⟩
theorem HeapOwn.alloc {w:World} {base:Nat} {v:Value} {rows:List (Value × Ob)} (h:HeapOwn w base v rows) (o:Obj):HeapOwn (w.alloc o) base v rows:=h.below (below_box w o)
theorem HeapOwn.le {w:World} {base base':Nat} {v:Value} {rows:List (Value × Ob)} (h:HeapOwn w base v rows) (hb:base'<=base):HeapOwn w base' v rows :=
 ⟨ownsRow_le h.top hb,fun i p hp=>⟨ownsRow_le (h.row i p hp).1 hb,(h.row i p hp).2⟩,h.apart,h.many⟩
theorem HeapOwn.setLow {w:World} {base:Nat} {v:Value} {rows:List (Value × Ob)} (h:HeapOwn w base v rows) {a:Addr} (ha:a.block<base) (u:Value):HeapOwn (w.setCell a u) base v rows :=
 ⟨ownsRow_setCell_below h.top ha u,fun i p hp=>⟨ownsRow_setCell_below (h.row i p hp).1 ha u,(h.row i p hp).2⟩,h.apart,h.many⟩
theorem tne:(66:TypeId)≠92:=by decide
theorem HeapOwn.store {w:World} {base g n cap:Nat} {rows:List (Value × Ob)} (h:HeapOwn w base (.slice (some ⟨g,0,none⟩) n cap) rows) {i:Nat} (hi:i<rows.length) (nv:Value) (ob:Ob)
  (hv:ValsOwn w base nv ob.fs) (hl:16*ob.fs.length<=140737488351232) (hap:∀ (j:Nat) q,rows[j]?=some q->j≠i->nv.ownBlock=none\/nv.ownBlock≠q.1.ownBlock) :
  HeapOwn ((w.setCell ⟨g,i*2,none⟩ nv).setCell ⟨g,i*2+1,none⟩ (.bool ob.dead)) base (.slice (some ⟨g,0,none⟩) n cap) (rows.set i (nv,ob)):=by
 have keep:∀ (rv:Value) (l:List Vl),ValsOwn w base rv l->ValsOwn ((w.setCell ⟨g,i*2,none⟩ nv).setCell ⟨g,i*2+1,none⟩ (.bool ob.dead)) base rv l:=fun rv l hr =>
  ownsRow_set_other (ownsRow_set_other hr (owns_other hr h.top tne) _ _) (owns_other hr h.top tne) _ _
 refine⟨?_,fun j p hp=>?_,fun j k p q hp hq hjk=>?_,by simpa using h.many⟩
 ·have:=ownsRow_set (ownsRow_set h.top (g:=g) rfl (i*2) nv) (g:=g) rfl (i*2+1) (.bool ob.dead)
  rw[List.length_set];have e:obCells (rows.set i (nv,ob))=((obCells rows).set (i*2) nv).set (i*2+1) (.bool ob.dead):=by
   rw[obCells,obCells,pairs_set,List.map_set];rfl
  rw[e];exact this
 ·rw[List.getElem?_set] at hp
  split at hp
  ·simp at hp
   obtain⟨_,rfl⟩:=hp;exact⟨keep _ _ hv,hl⟩
  ·exact⟨keep _ _ (h.row j p hp).1,(h.row j p hp).2⟩
 ·rw[List.getElem?_set] at hp hq
  split at hp
  ·rename_i e1
   subst e1;simp at hp;obtain⟨_,rfl⟩:=hp;rw[if_neg (by omega)] at hq;exact hap k q hq (by omega)
  ·split at hq
   ·rename_i e2
    subst e2;simp at hq;obtain⟨_,rfl⟩:=hq
    rcases hap j p hp (by omega) with hn | hn
    ·by_cases hpn:p.1.ownBlock=none
     ·exact Or.inl hpn
     ·exact Or.inr (fun e=>hpn (by rw[e];exact hn))
    ·exact Or.inr (fun e=>hn e.symm)
   ·exact h.apart j k p q hp hq hjk
theorem apart_new {w w1:World} {base B:Nat} {v nv:Value} {rows:List (Value × Ob)} {l:List Vl} (hO:HeapOwn w base v rows) (hv:ValsOwn w1 B nv l) (hB:w.heap.size<=B:=by exact Nat.le_refl _):∀ (j:Nat) q,rows[j]?=some q->nv.ownBlock=none\/nv.ownBlock≠q.1.ownBlock:=fun j q hq=>by
 by_cases hn:nv.ownBlock=none
 ·exact Or.inl hn
 ·refine Or.inr (fun e=>?_)
  obtain⟨g,hg⟩:=Option.ne_none_iff_exists'.1 hn;have h1:=(World.ownsRow.lt hv g hg).1;have h2:=(World.ownsRow.lt (hO.row j q hq).1 g (by rw[<- e];exact hg)).2;omega
theorem HeapOwn.push {w w':World} {base:Nat} {v v':Value} {rows:List (Value × Ob)} (h:HeapOwn w base v rows) (nv:Value) (ob:Ob) (hv:ValsOwn w base nv ob.fs) (hl:16*ob.fs.length<=140737488351232)
  (hap:∀ (j:Nat) q,rows[j]?=some q->nv.ownBlock=none\/nv.ownBlock≠q.1.ownBlock) (hm:32*rows.length+32<=140737488351232)
  (htop:w'.ownsRow base 92 2 v' (rows.length+1) (obCells rows++[nv,.bool ob.dead])) (hg:w.grownBy w' v.ownBlock):HeapOwn w' base v' (rows++[(nv,ob)]):=by
 have part:∀ (j:Nat) p,(rows++[(nv,ob)])[j]?=some p->rows[j]?=some p\/(j=rows.length/\p=(nv,ob)):=fun j p hp=>by
  rw[List.getElem?_append] at hp
  split at hp
  ·exact Or.inl hp
  ·obtain⟨h1,h2⟩:=List.getElem?_eq_some_iff.1 hp
   simp at h1 h2;exact Or.inr ⟨by omega,h2.symm⟩
 refine⟨?_,fun j p hp=>?_,fun j k p q hp hq hjk=>?_,by simp;omega⟩
 ·have e:obCells (rows++[(nv,ob)])=obCells rows++[nv,.bool ob.dead]:=by simp[obCells,pairs_append,pairs,obPair]
  rw[e]
  simpa using htop
 ·rcases part j p hp with hp | ⟨_,rfl⟩
  ·exact⟨(h.row j p hp).1.kept hg (owns_other (h.row j p hp).1 h.top tne),(h.row j p hp).2⟩
  ·exact⟨hv.kept hg (owns_other hv h.top tne),hl⟩
 ·rcases part j p hp with hp | ⟨e1,rfl⟩
  ·rcases part k q hq with hq | ⟨e2,rfl⟩
   ·exact h.apart j k p q hp hq hjk
   ·rcases hap j p hp with hn | hn
    ·by_cases hpn:p.1.ownBlock=none
     ·exact Or.inl hpn
     ·exact Or.inr (fun e=>hpn (by rw[e];exact hn))
    ·exact Or.inr (fun e=>hn e.symm)
  ·rcases part k q hq with hq | ⟨e2,rfl⟩
   ·exact hap k q hq
   ·omega
theorem HeapOwn.setField {w:World} {base:Nat} {v:Value} {rows:List (Value × Ob)} (h:HeapOwn w base v rows) {i g n cap:Nat} {ob:Ob} (hi:rows[i]?=some (.slice (some ⟨g,0,none⟩) n cap,ob)) (f:Nat) (x:Vl) :
  HeapOwn ((w.setCell ⟨g,f*2,none⟩ (.int .i64 x.k)).setCell ⟨g,f*2+1,none⟩ (.int .i64 x.n)) base v (rows.set i (.slice (some ⟨g,0,none⟩) n cap,⟨ob.fs.set f x,ob.dead⟩)):=by
 have hrow:=h.row i _ hi;have hlt:i<rows.length:=(List.getElem?_eq_some_iff.1 hi).1;refine⟨?_,fun j p hp=>?_,fun j k p q hp hq hjk=>?_,by simpa using h.many⟩
 ·have hne:v.ownBlock=none\/v.ownBlock≠some g:=owns_other h.top hrow.1 (Ne.symm tne)
  have:=ownsRow_set_other (ownsRow_set_other h.top hne (f*2) (.int .i64 x.k)) hne (f*2+1) (.int .i64 x.n);have e:obCells (rows.set i (.slice (some ⟨g,0,none⟩) n cap,⟨ob.fs.set f x,ob.dead⟩))=obCells rows:=by
   rw[obCells,obCells,List.map_set]
   congr 1
   refine List.ext_getElem? fun j=>?_
   rw[List.getElem?_set]
   split
   ·rename_i e1
    subst e1;rw[if_pos (by simpa using hlt),List.getElem?_map,hi]
    rfl
   ·rfl
  rw[List.length_set,e];exact this
 ·rw[List.getElem?_set] at hp
  split at hp
  ·simp at hp
   obtain⟨_,rfl⟩:=hp;refine⟨?_,by simpa using hrow.2⟩;have:=ownsRow_set (ownsRow_set hrow.1 (g:=g) rfl (f*2) (.int .i64 x.k)) (g:=g) rfl (f*2+1) (.int .i64 x.n)
   unfold ValsOwn
   have e:valCells (ob.fs.set f x)=((valCells ob.fs).set (f*2) (.int .i64 x.k)).set (f*2+1) (.int .i64 x.n):=by
    rw[valCells,valCells,pairs_set,List.map_set];rfl
   rw[List.length_set,e];exact this
  ·rename_i hij
   have hne:p.1.ownBlock=none\/p.1.ownBlock≠some g:=h.apart j i p _ hp hi (by omega);exact⟨ownsRow_set_other (ownsRow_set_other (h.row j p hp).1 hne _ _) hne _ _,(h.row j p hp).2⟩
 ·have shape:∀ (j:Nat) p,(rows.set i (Value.slice (some ⟨g,0,none⟩) n cap,(⟨ob.fs.set f x,ob.dead⟩:Ob)))[j]?=some p->∃ p',rows[j]?=some p'/\p'.1=p.1:=fun j p hp=>by
   rw[List.getElem?_set] at hp
   split at hp
   ·rename_i e1
    subst e1;simp at hp;obtain⟨_,rfl⟩:=hp;exact⟨_,hi,rfl⟩
   ·exact⟨p,hp,rfl⟩
  obtain⟨p',hp',ep⟩:=shape j p hp;obtain⟨q',hq',eq⟩:=shape k q hq;rw[<- ep,<- eq];exact h.apart j k p' q' hp' hq' hjk
theorem HeapOwn.fill {w:World} {base:Nat} {v:Value} {rows:List (Value × Ob)} (h:HeapOwn w base v rows) {i g n:Nat} {ob:Ob} (hi:rows[i]?=some (.slice (some ⟨g,0,none⟩) n n,ob)) (fs:List Vl) (hfs:fs.length=ob.fs.length) :
  HeapOwn (w.setRow g (valCells fs).toArray) base v (rows.set i (.slice (some ⟨g,0,none⟩) n n,⟨fs,ob.dead⟩)):=by
 have hrow:=h.row i _ hi;have hlt:i<rows.length:=(List.getElem?_eq_some_iff.1 hi).1;have hgrown:w.grownBy (w.setRow g (valCells fs).toArray) (some g):=⟨rfl,rfl,rfl,by simp,fun k _ hk=>setRow_other w g k _ (fun e=>hk (by rw[e]))⟩;obtain⟨cur,t,hblk⟩:∃ cur,w.heap[g]?=some (.cells cur 66 (0,0))/\cur.size=n*2/\n=ob.fs.length:=by
  rcases hrow.1.2 with⟨e,_⟩ | ⟨g',cap',cur,e,_,hg,_,_,h3,_⟩
  ·simp at e
  ·simp only[Value.slice.injEq,Option.some.injEq,Addr.mk.injEq,and_true] at e
   obtain⟨rfl,rfl,rfl⟩:=e;exact⟨cur,hg,h3,rfl⟩
 refine⟨?_,fun j p hp=>?_,fun j k p q hp hq hjk=>?_,by simpa using h.many⟩
 ·have hne:v.ownBlock=none\/v.ownBlock≠some g:=owns_other h.top hrow.1 (Ne.symm tne)
  have:=h.top.kept hgrown hne;have e:obCells (rows.set i (.slice (some ⟨g,0,none⟩) n n,⟨fs,ob.dead⟩))=obCells rows:=by
   rw[obCells,obCells,List.map_set]
   congr 1
   refine List.ext_getElem? fun j=>?_
   rw[List.getElem?_set]
   split
   ·rename_i e1
    subst e1;rw[if_pos (by simpa using hlt),List.getElem?_map,hi]
    rfl
   ·rfl
  rw[List.length_set,e];exact this
 ·rw[List.getElem?_set] at hp
  split at hp
  ·simp at hp
   obtain⟨_,rfl⟩:=hp;refine⟨⟨by simp[valCells_length],.inr ⟨g,n,(valCells fs).toArray,by simp[hfs,hblk.2],?_,setRow_heap w g cur _ _ _ t,by simp[hfs,hblk.2],?_,by simp[valCells_length,hfs,hblk.2],?_⟩⟩,by simpa[hfs] using hrow.2⟩
   ·exact(hrow.1.lt g rfl).1
   ·rcases hrow.1.2 with⟨e,_⟩ | ⟨g',cap',cur',e,_,_,_,h2,_⟩
    ·simp at e
    ·simp only[Value.slice.injEq] at e
     rw[e.2.2];exact h2
   ·rw[List.take_of_length_le (by simp[valCells_length])]
  ·have hne:p.1.ownBlock=none\/p.1.ownBlock≠some g:=h.apart j i p _ hp hi (by omega)
   exact⟨(h.row j p hp).1.kept hgrown hne,(h.row j p hp).2⟩
 ·have shape:∀ (j:Nat) p,(rows.set i (Value.slice (some ⟨g,0,none⟩) n n,(⟨fs,ob.dead⟩:Ob)))[j]?=some p->∃ p',rows[j]?=some p'/\p'.1=p.1:=fun j p hp=>by
   rw[List.getElem?_set] at hp
   split at hp
   ·rename_i e1
    subst e1;simp at hp;obtain⟨_,rfl⟩:=hp;exact⟨_,hi,rfl⟩
   ·exact⟨p,hp,rfl⟩
  obtain⟨p',hp',ep⟩:=shape j p hp;obtain⟨q',hq',eq⟩:=shape k q hq;rw[<- ep,<- eq];exact h.apart j k p' q' hp' hq' hjk
end
section
open Go.RowKit
def putAt (w:World) (A o:Nat):List Value->World
 | []=>w
 | x :: r=>putAt (w.setCell ⟨A,o,none⟩ x) A (o+1) r
theorem setBlk {w:World} {g:Nat} {cur:Array Value} {t:TypeId} {fr:Nat × Nat} (h:w.heap[g]?=some (.cells cur t fr)) (j:Nat) (u:Value):(w.setCell ⟨g,j,none⟩ u).heap[g]?=some (.cells (cur.setIfInBounds j u) t fr):=by
 simp only[World.setCell,Array.getElem?_modify,h];simp
def overAt (c:List Value) (o:Nat):List Value->List Value
 | []=>c
 | x :: r=>overAt (c.set o x) (o+1) r
theorem overAt_length (c:List Value) (o:Nat):∀ xs:List Value,(overAt c o xs).length=c.length:=by
 intro xs
 induction xs generalizing c o with
 | nil=>rfl
 | cons x r ih=>rw[overAt,ih];simp
theorem overAt_get (c:List Value) (o:Nat):∀ (xs:List Value) (j:Nat),o+xs.length<=c.length->(overAt c o xs)[j]?=if o<=j/\j<o+xs.length then xs[j-o]? else c[j]?:=by
 intro xs
 induction xs generalizing c o with
 | nil=>intro j _;rw[overAt,if_neg (by simp)]
 | cons x r ih =>
  intro j hl;rw[overAt,ih _ _ j (by simp at hl ⊢;omega)];simp only[List.length_cons] at hl ⊢
  by_cases h1:o+1<=j/\j<o+1+r.length
  ·rw[if_pos h1,if_pos (by omega),show j-o=(j-(o+1))+1 by omega,List.getElem?_cons_succ]
  ·rw[if_neg h1,List.getElem?_set]
   by_cases h2:o=j
   ·subst h2
    rw[if_pos rfl,if_pos (by omega),if_pos (by omega),Nat.sub_self]
    rfl
   ·rw[if_neg h2,if_neg (by omega)]
theorem putAt_blk {g:Nat} {t:TypeId} {fr:Nat × Nat}:∀ (xs:List Value) (o:Nat) {w:World} {cur:Array Value},w.heap[g]?=some (.cells cur t fr)->(putAt w g o xs).heap[g]?=some (.cells (overAt cur.toList o xs).toArray t fr)
 | [],_,_,cur,h=>by simpa[putAt,overAt] using h
 | x :: r,o,w,cur,h=>by
  rw[putAt,putAt_blk r (o+1) (setBlk h o x)];simp[overAt]
theorem cellBlk {w:World} {k:Nat} {c:Array Value} {t':TypeId} (h:w.heap[k]?=some (.cells c t' (0,0))) (j:Nat):w.cell? ⟨k,j,none⟩=c[j]?:=by simp[World.cell?,h]
theorem overAt_whole (c:List Value) (xs:List Value) (h:xs.length=c.length):overAt c 0 xs=xs:=by
 refine List.ext_getElem? fun j=>?_
 rw[overAt_get _ _ _ _ (by omega)]
 by_cases hj:j<xs.length
 ·rw[if_pos (by omega),Nat.sub_zero]
 ·rw[if_neg (by omega),List.getElem?_eq_none (by omega),List.getElem?_eq_none (by omega)]
theorem putAt_whole {g:Nat} {t:TypeId} {fr:Nat × Nat} {w:World} {cur:Array Value} (h:w.heap[g]?=some (.cells cur t fr)) (xs:List Value) (hx:xs.length=cur.size):(putAt w g 0 xs).heap[g]?=some (.cells xs.toArray t fr):=by
 rw[putAt_blk xs 0 h,overAt_whole _ _ (by simpa using hx)]
theorem putAt_other {g k:Nat} (hk:k≠g):∀ (xs:List Value) (o:Nat) {w:World},(putAt w g o xs).heap[k]?=w.heap[k]?
 | [],_,_=>rfl
 | x :: r,o,w=>by rw[putAt,putAt_other hk r];exact Deep.blk_setCell_other w ⟨g,o,none⟩ x k hk
theorem putAt_below {B:Nat} {w0:World} {A:Nat} (hA:B<=A):∀ (xs:List Value) (o:Nat) {w:World},Below B w0 w->Below B w0 (putAt w A o xs)
 | [],_,_,h=>h
 | x :: r,o,_,h=>putAt_below hA r (o+1) (h.setCell hA x)
section
variable {α:Type} {f:α->List Value} {s:Nat}
theorem flat_length (hf:∀ x,(f x).length=s):∀ l:List α,(l.flatMap f).length=l.length*s
 | []=>by simp
 | x :: r=>by simp[hf,flat_length hf r,Nat.add_mul];omega
theorem flat_get (hf:∀ x,(f x).length=s):∀ (l:List α) (j i:Nat) {x:α},l[j]?=some x->i<s->(l.flatMap f)[j*s+i]?=(f x)[i]?
 | [],j,i,x,h,_=>by simp at h
 | y :: r,0,i,x,h,hi=>by
  simp at h;subst h;simp only[List.flatMap_cons,Nat.zero_mul,Nat.zero_add];rw[List.getElem?_append_left (by rw[hf];exact hi)]
 | y :: r,j+1,i,x,h,hi=>by
  simp only[List.getElem?_cons_succ] at h;simp only[List.flatMap_cons];rw[List.getElem?_append_right (by rw[hf,Nat.add_mul];omega),hf,show(j+1)*s+i-s=j*s+i by rw[Nat.add_mul];omega];exact flat_get hf r j i h hi
theorem overAt_app (a b:List Value):∀ (xs:List Value) (o:Nat),a.length<=o->overAt (a++b) o xs=a++overAt b (o-a.length) xs:=by
 intro xs
 induction xs generalizing b with
 | nil=>intro o _;rfl
 | cons x r ih =>
  intro o ho;rw[overAt,overAt,List.set_append,if_neg (by omega),ih _ _ (by omega),show o+1-a.length=o-a.length+1 by omega]
theorem overAt_first:∀ (a b xs:List Value),a.length=xs.length->overAt (a++b) 0 xs=xs++b:=by
 intro a b xs h;refine List.ext_getElem? fun j=>?_
 rw[overAt_get _ _ _ _ (by simp;omega)]
 by_cases hj:j<xs.length
 ·rw[if_pos (by omega),List.getElem?_append_left hj,Nat.sub_zero]
 ·rw[if_neg (by omega),List.getElem?_append_right (by omega),List.getElem?_append_right (by omega),h]
theorem flat_set (hf:∀ x,(f x).length=s):∀ (l:List α) (j:Nat) (y:α),j<l.length->overAt (l.flatMap f) (j*s) (f y)=(l.set j y).flatMap f
 | [],j,y,h=>by simp at h
 | x :: r,0,y,h=>by
  simp only[List.flatMap_cons,Nat.zero_mul,List.set_cons_zero];exact overAt_first _ _ _ (by rw[hf,hf])
 | x :: r,j+1,y,h=>by
  simp only[List.flatMap_cons,List.set_cons_succ];rw[overAt_app _ _ _ _ (by rw[hf,Nat.add_mul];omega),hf,show(j+1)*s-s=j*s by rw[Nat.add_mul];omega,flat_set hf r j y (by simpa using h)]
end
section
variable {w:World} {base:Nat} {e:TypeId} {size:Nat} {v:Value} {n:Nat} {xs:List Value}
theorem ownsRow_at (h:w.ownsRow base e size v n xs) {g:Nat} (hg:v.ownBlock=some g) {j:Nat} {u:Value} (hu:xs[j]?=some u):w.cell? ⟨g,j,none⟩=some u:=by
 have:=h.cells hg j u hu;have hadd:(⟨g,0,none⟩:Addr).add j=⟨g,j,none⟩:=by unfold Addr.add;split <;> simp_all
 rwa [hadd] at this
theorem overAt_take (c:List Value) (o m:Nat):∀ ys:List Value,o+ys.length<=m->m<=c.length->(overAt c o ys).take m=overAt (c.take m) o ys:=by
 intro ys hm hc;refine List.ext_getElem? fun j=>?_
 rw[List.getElem?_take,overAt_get _ _ _ _ (by omega),overAt_get _ _ _ _ (by rw[List.length_take];omega),List.getElem?_take]
 by_cases hj:j<m
 ·rw[if_pos hj,if_pos hj]
 ·rw[if_neg hj,if_neg hj,if_neg (by omega)]
theorem ownsRow_putAt (h:w.ownsRow base e size v n xs) {g:Nat} (hg:v.ownBlock=some g) (o:Nat) (ys:List Value) (ho:o+ys.length<=xs.length):(putAt w g o ys).ownsRow base e size v n (overAt xs o ys):=by
 rcases h.2 with⟨rfl,_⟩ | ⟨g',cap,cur,rfl,hb,hgg,h1,h2,h3,h4⟩
 ·simp[Value.ownBlock] at hg
 ·simp only[Value.ownBlock,Option.some.injEq] at hg
  subst hg;have hx:=h.1;refine⟨by rw[overAt_length];exact h.1,.inr ⟨g',cap,(overAt cur.toList o ys).toArray,rfl,hb,putAt_blk ys o hgg,h1,h2,by simpa[overAt_length] using h3,?_⟩⟩;have hc:n*size<=cur.toList.length:=by simp[h3];exact Nat.mul_le_mul_right _ h1
  rw[List.toList_toArray,overAt_take _ _ _ _ (by omega) hc,h4]
theorem ownsRow_frozenAt (h:w.ownsRow base e size v n xs) {g:Nat} (hg:v.ownBlock=some g) (j:Nat):w.frozen? ⟨g,j,none⟩=false:=by
 rcases h.2 with⟨rfl,_⟩ | ⟨g',cap,cur,rfl,hb,hgg,_⟩
 ·simp[Value.ownBlock] at hg
 ·simp only[Value.ownBlock,Option.some.injEq] at hg
  subst hg;simp[World.frozen?,hgg]
theorem ownsRow_shape (h:w.ownsRow base e size v n xs):(v=.slice none 0 0/\n=0)\/∃ g cap,v=.slice (some ⟨g,0,none⟩) n cap/\base<=g/\g<w.heap.size:=by
 rcases h.2 with⟨rfl,hn⟩ | ⟨g,cap,cur,rfl,hb,hg,_⟩
 ·exact Or.inl ⟨rfl,hn⟩
 ·exact Or.inr ⟨g,cap,rfl,hb,(Array.getElem?_eq_some_iff.1 hg).1⟩
end
end
section
open Go.RowKit
section
variable {P:Program}
theorem run_make_wide (k:Nat) (t e:TypeId) (z:Value) (bytes:Nat) (ht:P.underlying t=some (.slice e)) (hinfo:(P.info? e).map (fun i=>(i.zero,i.size,i.bytes))=some (some z,k,bytes))
  (kl kc:IntKind) (n:Nat) (hbytes:bytes*n<=281474976710656) (h63:n<=9223372036854775807) (w:World) :
  (Instr.makeSlice t (.int kl (n:Int)) (.int kc (n:Int))).run P w=.ok (.slice (some ⟨w.heap.size,0,none⟩) n n) (w.alloc (.cells (madeCells z.cells (n*k)) e)):=by
 obtain⟨i,hi,hzz⟩:=Option.map_eq_some_iff.1 hinfo;simp only[Prod.mk.injEq] at hzz;obtain⟨hz,hs,hb⟩:=hzz;have hb':(i.bytes:Int)*(n:Int)<=281474976710656:=by
  have h:((i.bytes*n:Nat):Int)<=281474976710656:=by rw[hb];omega
  rwa [Int.natCast_mul] at h
 have hr:=run_make (P:=P) w t e i z ht hi hz kl kc n n (by omega) (Int.le_refl _) hb' (by omega);simp only[Int.toNat_natCast,hs] at hr;exact hr
end
theorem made_flat {α:Type} {f:α->List Value} {s:Nat} (hf:∀ x,(f x).length=s) (hs:0<s) (z:Array Value) (x:α) (hz:z.toList=f x) (n:Nat):(madeCells z (n*s)).toList=(List.replicate n x).flatMap f:=by
 have hlen:((List.replicate n x).flatMap f).length=n*s:=by rw[flat_length hf];simp
 have hzs:z.size=s:=by rw[<- Array.length_toList,hz,hf]
 refine List.ext_getElem? fun j=>?_
 by_cases hj:j<n*s
 ·have hjs:j % s<s:=Nat.mod_lt _ hs
  have hjd:j / s<n:=Nat.div_lt_of_lt_mul (by rw[Nat.mul_comm];exact hj);have h1:((List.replicate n x).flatMap f)[j / s*s+j % s]?=(f x)[j % s]?:=flat_get hf _ _ _ (by simp[hjd]) hjs;rw[Nat.div_add_mod'] at h1;rw[h1,<- hz];simp only[madeCells,Array.toList_map,Array.toList_range,List.getElem?_map,List.getElem?_range hj,Option.map_some,hzs];rw[Array.getElem?_toList,Array.getElem?_eq_getElem (by rw[hzs];exact hjs)]
  simp[hzs,hjs]
 ·rw[List.getElem?_eq_none (by simp[size_madeCells];omega),List.getElem?_eq_none (by rw[hlen];omega)]
theorem ownsRow_made {α:Type} {f:α->List Value} {s:Nat} (hf:∀ x,(f x).length=s) (hs:0<s) (z:Array Value) (x:α) (hz:z.toList=f x) (w:World) (base n:Nat) (e:TypeId) (hb:base<=w.heap.size) (hn:n<=maxLen) :
  (w.alloc (.cells (madeCells z (n*s)) e)).ownsRow base e s (.slice (some ⟨w.heap.size,0,none⟩) n n) n ((List.replicate n x).flatMap f) :=
 ⟨by rw[flat_length hf];simp,.inr ⟨w.heap.size,n,_,rfl,hb,Deep.blk_alloc_new w _,Nat.le_refl _,hn,by simp[size_madeCells],by rw[List.take_of_length_le (by simp[size_madeCells]),made_flat hf hs z x hz]⟩⟩
end
section
open Go.RowKit
structure RowT (P:Program) {α:Type} (f:α->List Value) (s:Nat) (tS e:TypeId) (bytes:Nat):Prop where
 len:∀ x,(f x).length=s
 one:∀ x,∀ v∈f x,v.oneCell'=true
 pos:0<s
 sl:P.underlying tS=some (.slice e)
 info:∃ z,(P.info? e).map (fun i=>(i.zero,i.size,i.bytes))=some (some z,s,bytes)/\z.cells.size=s
def SeqOwn {α:Type} (f:α->List Value) (s:Nat) (e:TypeId) (w:World) (base:Nat) (v:Value) (l:List α):Prop:=w.ownsRow base e s v l.length (l.flatMap f)
def SeqAt {α:Type} (f:α->List Value) (s:Nat) (w:World) (ao:Option Addr) (l:List α):Prop :=
 ∀ (i:Nat) x,l[i]?=some x->∃ b o,ao=some ⟨b,o,none⟩/\∀ (j:Nat) u,(f x)[j]?=some u->w.cell? ⟨b,o+i*s+j,none⟩=some u
section
variable {α:Type} {f:α->List Value} {s:Nat} {e tS:TypeId} {bytes:Nat} {P:Program}
theorem SeqAt.keeps {w w':World} {ao:Option Addr} {l:List α} (h:SeqAt f s w ao l) (k:Keeps w w'):SeqAt f s w' ao l:=fun i x hx=>by
 obtain⟨b,o,e,hc⟩:=h i x hx;exact⟨b,o,e,fun j u hu=>k _ _ (hc j u hu)⟩
theorem SeqOwn.form {w:World} {base:Nat} {v:Value} {l:List α} (h:SeqOwn f s e w base v l):∃ ao c,v=.slice ao l.length c:=by
 rcases ownsRow_shape h with⟨rfl,hn⟩ | ⟨g,cap,rfl,_⟩
 ·exact⟨none,0,by rw[hn]⟩
 ·exact⟨_,_,rfl⟩
theorem SeqOwn.at (hT:∀ x,(f x).length=s) {w:World} {base:Nat} {ao:Option Addr} {n c:Nat} {l:List α} (h:SeqOwn f s e w base (.slice ao n c) l):SeqAt f s w ao l:=fun i x hx=>by
 rcases ownsRow_shape h with⟨_,hn⟩ | ⟨g,cap,hv,_⟩
 ·have:l=[]:=List.eq_nil_of_length_eq_zero hn
  subst this
  simp at hx
 ·simp only[Value.slice.injEq] at hv
  obtain⟨rfl,rfl,rfl⟩:=hv;refine⟨g,0,rfl,fun j u hu=>?_⟩;have hj:j<s:=by rw[<- hT x];exact(List.getElem?_eq_some_iff.1 hu).1
  rw[Nat.zero_add];exact ownsRow_at h rfl ((flat_get hT l i j hx hj).trans hu)
theorem seqOwn_nil (w:World) (base:Nat):SeqOwn f s e w base (.slice none 0 0) []:=World.ownsRow_nil _ _ _ _
theorem seq_src (hT:∀ x,(f x).length=s) (hs:0<s) {w:World} {fa:Option Addr} {fs:List α} (h:SeqAt f s w fa fs) (hpos:0<fs.length):∃ ad,fa=some ad/\∀ j u,(fs.flatMap f)[j]?=some u->w.cell? (ad.add j)=some u:=by
 obtain⟨b,o,rfl,_⟩:=h 0 _ (List.getElem?_eq_getElem hpos);refine⟨_,rfl,fun j u hu=>?_⟩;have hj:j<fs.length*s:=by rw[<- flat_length hT];exact(List.getElem?_eq_some_iff.1 hu).1
 have hjs:j % s<s:=Nat.mod_lt _ hs;have hjd:j / s<fs.length:=Nat.div_lt_of_lt_mul (by rw[Nat.mul_comm];exact hj);have hx:=List.getElem?_eq_getElem hjd;obtain⟨b',o',e',hc⟩:=h (j / s) _ hx;simp only[Option.some.injEq,Addr.mk.injEq,and_true] at e';obtain⟨rfl,rfl⟩:=e';have h1:=flat_get hT fs (j / s) (j % s) hx hjs;rw[Nat.div_add_mod'] at h1;rw[h1] at hu;have h2:=hc _ _ hu;have hadd:(⟨b,o,none⟩:Addr).add j=⟨b,o+j,none⟩:=by unfold Addr.add;split <;> simp_all
 rw[hadd];rw[Nat.add_assoc,Nat.div_add_mod'] at h2;exact h2
theorem seq_one (T:RowT P f s tS e bytes) (l:List α):∀ u∈l.flatMap f,u.oneCell'=true:=fun u hu=>by
 obtain⟨x,_,hx⟩:=List.mem_flatMap.1 hu;exact T.one x u hx
theorem wpList_seq (T:RowT P f s tS e bytes) {w:World} {base:Nat} {v:Value} {l:List α} {ops:Array Oper} {rest:List Oper} {o:Oper} {a:Act} {Q:Exit->Act->World->Prop} (hgd:o.guard=none) (p q:Operand)
  (ho:o.op=.call { callee:=.builtin .append,args:=#[p,q],argTypes:=#[tS,tS] }) (hp:a.eval p=v) (hO:SeqOwn f s e w base v l) (hb:base<=w.heap.size)
  (fs:List α) (fa:Option Addr) (fc:Nat) (hq:a.eval q=.slice fa fs.length fc) (hfs:SeqAt f s w fa fs) (hpos:0<fs.length) (hl:(l.length+fs.length)*bytes<=140737488355328) (hl2:l.length+fs.length<=maxLen)
  (h:∀ g cap w',SeqOwn f s e w' base (.slice (some ⟨g,0,none⟩) (l.length+fs.length) cap) (l++fs)->w.grownBy w' v.ownBlock->Below base w w'->(v.ownBlock=some g\/g=w.heap.size)->wpList P ops Q rest (a.put o.dst (.slice (some ⟨g,0,none⟩) (l.length+fs.length) cap)) w') :
  wpList P ops Q (o :: rest) a w:=by
 obtain⟨z,hinfo,hzc⟩:=T.info;obtain⟨i0,hi0,hzz⟩:=Option.map_eq_some_iff.1 hinfo;simp only[Prod.mk.injEq] at hzz;obtain⟨hz0,hz1,hz2⟩:=hzz;obtain⟨ad,rfl,hsrc⟩:=seq_src T.len T.pos hfs hpos;refine wpList_append_lies _ hgd p q tS ho base e i0 z s bytes T.sl hi0 hz0 hz1 hz2 hzc T.pos v l.length (l.flatMap f) hp hO ad fs.length fc (fs.flatMap f) hq (flat_length T.len _) hsrc (seq_one T _) hpos hl2 hl hb w.heap.size rfl ?_
 intro g cap w' h1 h2 h3 _;refine h g cap w' ?_ h2 ((Below.refl _ _).grown h2 hb (fun j hj=>(World.ownsRow.lt hO j hj).1)) h3
 unfold SeqOwn
 rw[List.flatMap_append,List.length_append];exact h1
theorem step_seq (T:RowT P f s tS e bytes) {w:World} {base:Nat} {v:Value} {l:List α} {ops:Array Oper} {o:Oper} {a:Act} {K:Act->World->Prop} {Q:Exit->Act->World->Prop} {E:Prop} (hgd:o.guard=none) (p q:Operand)
  (ho:o.op=.call { callee:=.builtin .append,args:=#[p,q],argTypes:=#[tS,tS] }) (hp:a.eval p=v) (hO:SeqOwn f s e w base v l) (hb:base<=w.heap.size)
  (fs:List α) (fa:Option Addr) (fc:Nat) (hq:a.eval q=.slice fa fs.length fc) (hfs:SeqAt f s w fa fs) (hpos:0<fs.length) (hl:(l.length+fs.length)*bytes<=140737488355328) (hl2:l.length+fs.length<=maxLen)
  (h:∀ g cap w',SeqOwn f s e w' base (.slice (some ⟨g,0,none⟩) (l.length+fs.length) cap) (l++fs)->w.grownBy w' v.ownBlock->Below base w w'->(v.ownBlock=some g\/g=w.heap.size)->K (a.put o.dst (.slice (some ⟨g,0,none⟩) (l.length+fs.length) cap)) w') :
  if Region.wanted o (yielded ops a.tmps)=true then Oper.wp P o a w K Q else E:=by
 obtain⟨z,hinfo,hzc⟩:=T.info;obtain⟨i0,hi0,hzz⟩:=Option.map_eq_some_iff.1 hinfo;simp only[Prod.mk.injEq] at hzz;obtain⟨hz0,hz1,hz2⟩:=hzz;obtain⟨ad,rfl,hsrc⟩:=seq_src T.len T.pos hfs hpos;refine step_append_lies _ hgd p q tS ho base e i0 z s bytes T.sl hi0 hz0 hz1 hz2 hzc T.pos v l.length (l.flatMap f) hp hO ad fs.length fc (fs.flatMap f) hq (flat_length T.len _) hsrc (seq_one T _) hpos hl2 hl hb w.heap.size rfl ?_
 intro g cap w' h1 h2 h3 _;refine h g cap w' ?_ h2 ((Below.refl _ _).grown h2 hb (fun j hj=>(World.ownsRow.lt hO j hj).1)) h3
 unfold SeqOwn
 rw[List.flatMap_append,List.length_append];exact h1
theorem run_seq_zero {w:World} {base:Nat} {ty:TypeId} {n:Nat} {v:Value} {xs:List Value} (T:RowT P f s tS e bytes) (hown:w.ownsRow base e s v n xs) (fa:Option Addr) (fc:Nat) :
  (Builtin.append_ #[tS,tS] ty #[v,.slice fa 0 fc]).run P w=.ok v w:=by
 obtain⟨z,hinfo,hzc⟩:=T.info;obtain⟨i,hi,hzz⟩:=Option.map_eq_some_iff.1 hinfo;have ht:=T.sl;have hsrc:Src P i.size tS (.slice fa 0 fc) 0 [] w:=by
  cases fa with
  | none=>exact Src.ofNil w ht fc
  | some a=>exact Src.ofSlice w ht a 0 fc [] (by simp) (by simp) (by simp)
 rcases hown.2 with⟨rfl,rfl⟩ | ⟨g,cap,cur,rfl,_,_,h1,_⟩
 ·cases fa <;> simp[Builtin.append_,run_underlying ht,sizeOf,typeInfo,hi,Builtin.lenOf,Builtin.firstCells,loadCells,loadCellsFrom]
 ·have:=run_append_room_src (P:=P) w tS tS ty e i ht hi g 0 n cap (.slice fa 0 fc) 0 [] hsrc (by omega) (by simp) (by simp)
  rw[this];simp[World.setCells]
end
end
end Go.Proofs.YtepifccbbmdfcaaGreatDoor
