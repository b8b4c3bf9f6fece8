/- WOwn2. -/
import Derived.Deep.AppendLies
import Derived.Deep.AppendSrc
import Derived.Deep.Light
import Derived.Deep.LoopGhost
import Derived.WalkLawsBesides
import Derived.WalkSpells
import Derived.Test.YtihpkcccfgbcmaaGreatDoorCBHMake
namespace Go.Proofs.YtihpkcccfgbcmaaGreatDoor
section
open Go.RowKit
structure RowT (P:Program) {α:Type} (f:α->List Value) (s:Nat) (tS e:TypeId) (bytes:Nat):Prop where
 len:∀ x,(f x).length=s
 one:∀ x,∀ v∈f x,v.oneCell'=true
 pos:0<s
 sl:P.underlying tS=some (.slice e)
 info:∃ z,(P.info? e).map (fun i=>(i.zero,i.size,i.bytes))=some (some z,s,bytes)/\z.cells.size=s
def SeqOwn {α:Type} (f:α->List Value) (s:Nat) (e:TypeId) (w:World) (base:Nat) (v:Value) (l:List α):Prop:=w.ownsRow base e s v l.length (l.flatMap f)
def SeqAt {α:Type} (f:α->List Value) (s:Nat) (w:World) (ao:Option Addr) (l:List α):Prop :=
 ∀ (i:Nat) x,l[i]?=some x->∃ b o,ao=some ⟨b,o,none⟩/\∀ (j:Nat) u,(f x)[j]?=some u->w.cell? ⟨b,o+i*s+j,none⟩=some u
section
variable {α:Type} {f:α->List Value} {s:Nat} {e tS:TypeId} {bytes:Nat} {P:Program}
theorem SeqAt.keeps {w w':World} {ao:Option Addr} {l:List α} (h:SeqAt f s w ao l) (k:Keeps w w'):SeqAt f s w' ao l:=fun i x hx=>by
 obtain⟨b,o,e,hc⟩:=h i x hx;exact⟨b,o,e,fun j u hu=>k _ _ (hc j u hu)⟩
theorem SeqOwn.form {w:World} {base:Nat} {v:Value} {l:List α} (h:SeqOwn f s e w base v l):∃ ao c,v=.slice ao l.length c:=by
 rcases ownsRow_shape h with⟨rfl,hn⟩ | ⟨g,cap,rfl,_⟩
 ·exact⟨none,0,by rw[hn]⟩
 ·exact⟨_,_,rfl⟩
theorem SeqOwn.at (hT:∀ x,(f x).length=s) {w:World} {base:Nat} {ao:Option Addr} {n c:Nat} {l:List α} (h:SeqOwn f s e w base (.slice ao n c) l):SeqAt f s w ao l:=fun i x hx=>by
 rcases ownsRow_shape h with⟨_,hn⟩ | ⟨g,cap,hv,_⟩
 ·have:l=[]:=List.eq_nil_of_length_eq_zero hn
  subst this
  simp at hx
 ·simp only[Value.slice.injEq] at hv
  obtain⟨rfl,rfl,rfl⟩:=hv;refine⟨g,0,rfl,fun j u hu=>?_⟩;have hj:j<s:=by rw[<- hT x];exact(List.getElem?_eq_some_iff.1 hu).1
  rw[Nat.zero_add];exact ownsRow_at h rfl ((flat_get hT l i j hx hj).trans hu)
theorem SeqOwn.below {w w':World} {base:Nat} {v:Value} {l:List α} (h:SeqOwn f s e w base v l) (hb:Below w.heap.size w w'):SeqOwn f s e w' base v l:=by
 refine World.ownsRow.kept h (row:=none) ⟨hb.os,hb.tape,hb.output,hb.size,fun j hj _=>hb.block j hj⟩ ?_
 cases h0:v.ownBlock with
 | none=>exact Or.inl rfl
 | some g=>exact Or.inr (by simp)
theorem SeqOwn.grown {w w':World} {base:Nat} {v:Value} {l:List α} {row:Option Nat} (h:SeqOwn f s e w base v l) (hg:w.grownBy w' row) (hn:v.ownBlock=none\/v.ownBlock≠row):SeqOwn f s e w' base v l:=World.ownsRow.kept h hg hn
theorem SeqOwn.le {w:World} {base base':Nat} {v:Value} {l:List α} (h:SeqOwn f s e w base v l) (hb:base'<=base):SeqOwn f s e w base' v l:=by
 refine⟨h.1,?_⟩
 rcases h.2 with hn | ⟨g,cap,cur,h0,h1,h2⟩
 ·exact Or.inl hn
 ·exact Or.inr ⟨g,cap,cur,h0,by omega,h2⟩
theorem seqOwn_nil (w:World) (base:Nat):SeqOwn f s e w base (.slice none 0 0) []:=World.ownsRow_nil _ _ _ _
theorem seq_src (hT:∀ x,(f x).length=s) (hs:0<s) {w:World} {fa:Option Addr} {fs:List α} (h:SeqAt f s w fa fs) (hpos:0<fs.length):∃ ad,fa=some ad/\∀ j u,(fs.flatMap f)[j]?=some u->w.cell? (ad.add j)=some u:=by
 obtain⟨b,o,rfl,_⟩:=h 0 _ (List.getElem?_eq_getElem hpos);refine⟨_,rfl,fun j u hu=>?_⟩;have hj:j<fs.length*s:=by rw[<- flat_length hT];exact(List.getElem?_eq_some_iff.1 hu).1
 have hjs:j % s<s:=Nat.mod_lt _ hs;have hjd:j / s<fs.length:=Nat.div_lt_of_lt_mul (by rw[Nat.mul_comm];exact hj);have hx:=List.getElem?_eq_getElem hjd;obtain⟨b',o',e',hc⟩:=h (j / s) _ hx;simp only[Option.some.injEq,Addr.mk.injEq,and_true] at e';obtain⟨rfl,rfl⟩:=e';have h1:=flat_get hT fs (j / s) (j % s) hx hjs;rw[Nat.div_add_mod'] at h1;rw[h1] at hu;have h2:=hc _ _ hu;have hadd:(⟨b,o,none⟩:Addr).add j=⟨b,o+j,none⟩:=by unfold Addr.add;split <;> simp_all
 rw[hadd];rw[Nat.add_assoc,Nat.div_add_mod'] at h2;exact h2
theorem seq_one (T:RowT P f s tS e bytes) (l:List α):∀ u∈l.flatMap f,u.oneCell'=true:=fun u hu=>by
 obtain⟨x,_,hx⟩:=List.mem_flatMap.1 hu;exact T.one x u hx
theorem wpList_seq (T:RowT P f s tS e bytes) {w:World} {base:Nat} {v:Value} {l:List α} {ops:Array Oper} {rest:List Oper} {o:Oper} {a:Act} {Q:Exit->Act->World->Prop} (hgd:o.guard=none) (p q:Operand)
  (ho:o.op=.call { callee:=.builtin .append,args:=#[p,q],argTypes:=#[tS,tS] }) (hp:a.eval p=v) (hO:SeqOwn f s e w base v l) (hb:base<=w.heap.size)
  (fs:List α) (fa:Option Addr) (fc:Nat) (hq:a.eval q=.slice fa fs.length fc) (hfs:SeqAt f s w fa fs) (hpos:0<fs.length) (hl:(l.length+fs.length)*bytes<=140737488355328) (hl2:l.length+fs.length<=maxLen)
  (h:∀ g cap w',SeqOwn f s e w' base (.slice (some ⟨g,0,none⟩) (l.length+fs.length) cap) (l++fs)->w.grownBy w' v.ownBlock->Below base w w'->(v.ownBlock=some g\/g=w.heap.size)->wpList P ops Q rest (a.put o.dst (.slice (some ⟨g,0,none⟩) (l.length+fs.length) cap)) w') :
  wpList P ops Q (o :: rest) a w:=by
 obtain⟨z,hinfo,hzc⟩:=T.info;obtain⟨i0,hi0,hzz⟩:=Option.map_eq_some_iff.1 hinfo;simp only[Prod.mk.injEq] at hzz;obtain⟨hz0,hz1,hz2⟩:=hzz;obtain⟨ad,rfl,hsrc⟩:=seq_src T.len T.pos hfs hpos;refine wpList_append_lies _ hgd p q tS ho base e i0 z s bytes T.sl hi0 hz0 hz1 hz2 hzc T.pos v l.length (l.flatMap f) hp hO ad fs.length fc (fs.flatMap f) hq (flat_length T.len _) hsrc (seq_one T _) hpos hl2 hl hb w.heap.size rfl ?_
 intro g cap w' h1 h2 h3 _;refine h g cap w' ?_ h2 ((Below.refl _ _).grown h2 hb (fun j hj=>(World.ownsRow.lt hO j hj).1)) h3
 unfold SeqOwn
 rw[List.flatMap_append,List.length_append];exact h1
theorem step_seq (T:RowT P f s tS e bytes) {w:World} {base:Nat} {v:Value} {l:List α} {ops:Array Oper} {o:Oper} {a:Act} {K:Act->World->Prop} {Q:Exit->Act->World->Prop} {E:Prop} (hgd:o.guard=none) (p q:Operand)
  (ho:o.op=.call { callee:=.builtin .append,args:=#[p,q],argTypes:=#[tS,tS] }) (hp:a.eval p=v) (hO:SeqOwn f s e w base v l) (hb:base<=w.heap.size)
  (fs:List α) (fa:Option Addr) (fc:Nat) (hq:a.eval q=.slice fa fs.length fc) (hfs:SeqAt f s w fa fs) (hpos:0<fs.length) (hl:(l.length+fs.length)*bytes<=140737488355328) (hl2:l.length+fs.length<=maxLen)
  (h:∀ g cap w',SeqOwn f s e w' base (.slice (some ⟨g,0,none⟩) (l.length+fs.length) cap) (l++fs)->w.grownBy w' v.ownBlock->Below base w w'->(v.ownBlock=some g\/g=w.heap.size)->K (a.put o.dst (.slice (some ⟨g,0,none⟩) (l.length+fs.length) cap)) w') :
  if Region.wanted o (yielded ops a.tmps)=true then Oper.wp P o a w K Q else E:=by
 obtain⟨z,hinfo,hzc⟩:=T.info;obtain⟨i0,hi0,hzz⟩:=Option.map_eq_some_iff.1 hinfo;simp only[Prod.mk.injEq] at hzz;obtain⟨hz0,hz1,hz2⟩:=hzz;obtain⟨ad,rfl,hsrc⟩:=seq_src T.len T.pos hfs hpos;refine step_append_lies _ hgd p q tS ho base e i0 z s bytes T.sl hi0 hz0 hz1 hz2 hzc T.pos v l.length (l.flatMap f) hp hO ad fs.length fc (fs.flatMap f) hq (flat_length T.len _) hsrc (seq_one T _) hpos hl2 hl hb w.heap.size rfl ?_
 intro g cap w' h1 h2 h3 _;refine h g cap w' ?_ h2 ((Below.refl _ _).grown h2 hb (fun j hj=>(World.ownsRow.lt hO j hj).1)) h3
 unfold SeqOwn
 rw[List.flatMap_append,List.length_append];exact h1
theorem run_seq_zero {w:World} {base:Nat} {ty:TypeId} {n:Nat} {v:Value} {xs:List Value} (T:RowT P f s tS e bytes) (hown:w.ownsRow base e s v n xs) (fa:Option Addr) (fc:Nat) :
  (Builtin.append_ #[tS,tS] ty #[v,.slice fa 0 fc]).run P w=.ok v w:=by
 obtain⟨z,hinfo,hzc⟩:=T.info;obtain⟨i,hi,hzz⟩:=Option.map_eq_some_iff.1 hinfo;have ht:=T.sl;have hsrc:Src P i.size tS (.slice fa 0 fc) 0 [] w:=by
  cases fa with
  | none=>exact Src.ofNil w ht fc
  | some a=>exact Src.ofSlice w ht a 0 fc [] (by simp) (by simp) (by simp)
 rcases hown.2 with⟨rfl,rfl⟩ | ⟨g,cap,cur,rfl,_,_,h1,_⟩
 ·cases fa <;> simp[Builtin.append_,run_underlying ht,sizeOf,typeInfo,hi,Builtin.lenOf,Builtin.firstCells,loadCells,loadCellsFrom]
 ·have:=run_append_room_src (P:=P) w tS tS ty e i ht hi g 0 n cap (.slice fa 0 fc) 0 [] hsrc (by omega) (by simp) (by simp)
  rw[this];simp[World.setCells]
theorem wpList_seqCopy (T:RowT P f s tS e bytes) {w:World} {ops:Array Oper} {rest:List Oper} {o:Oper} {a:Act} {Q:Exit->Act->World->Prop} (hgd:o.guard=none) (p q:Operand)
  (ho:o.op=.call { callee:=.builtin .append,args:=#[p,q],argTypes:=#[tS,tS] }) (hp:a.eval p=.slice none 0 0)
  (fs:List α) (fa:Option Addr) (fc:Nat) (hq:a.eval q=.slice fa fs.length fc) (hfs:SeqAt f s w fa fs) (hl:fs.length*bytes<=140737488355328) (hl2:fs.length<=maxLen)
  (h:∀ va cap w',SeqOwn f s e w' w.heap.size (.slice va fs.length cap) fs->Below w.heap.size w w'->wpList P ops Q rest (a.put o.dst (.slice va fs.length cap)) w') :
  wpList P ops Q (o :: rest) a w:=by
 by_cases hpos:0<fs.length
 ·refine wpList_seq T hgd p q ho hp (l:=[]) (base:=w.heap.size) (seqOwn_nil _ _) (Nat.le_refl _) fs fa fc hq hfs hpos (by simpa using hl) (by simpa using hl2) ?_
  intro g cap w' hO _ hb _;simp only[List.length_nil,Nat.zero_add,List.nil_append] at hO ⊢;exact h _ _ _ hO hb
 ·have he:fs=[]:=List.eq_nil_of_length_eq_zero (by omega)
  subst he;refine wpList_plain hgd fun K hK=>?_
  have hr:=run_seq_zero (P:=P) (ty:=o.type) T (World.ownsRow_nil w w.heap.size e s) fa fc
  unfold Oper.wp execOp
  simp only[List.length_nil] at hq;simp only[ho,resolve,invoke,builtin,Sem.run_bind,Sem.run_pure,Result.andThen_ok,List.map_toArray,List.map_cons,List.map_nil,hp,hq,hr];exact hK _ _ (h none 0 w (seqOwn_nil _ _) (Below.refl _ _))
theorem step_seqCopy (T:RowT P f s tS e bytes) {w:World} {ops:Array Oper} {o:Oper} {a:Act} {K:Act->World->Prop} {Q:Exit->Act->World->Prop} {E:Prop} (hgd:o.guard=none) (p q:Operand)
  (ho:o.op=.call { callee:=.builtin .append,args:=#[p,q],argTypes:=#[tS,tS] }) (hp:a.eval p=.slice none 0 0)
  (fs:List α) (fa:Option Addr) (fc:Nat) (hq:a.eval q=.slice fa fs.length fc) (hfs:SeqAt f s w fa fs) (hl:fs.length*bytes<=140737488355328) (hl2:fs.length<=maxLen)
  (h:∀ va cap w',SeqOwn f s e w' w.heap.size (.slice va fs.length cap) fs->Below w.heap.size w w'->K (a.put o.dst (.slice va fs.length cap)) w') :
  if Region.wanted o (yielded ops a.tmps)=true then Oper.wp P o a w K Q else E:=by
 by_cases hpos:0<fs.length
 ·refine step_seq T hgd p q ho hp (l:=[]) (base:=w.heap.size) (seqOwn_nil _ _) (Nat.le_refl _) fs fa fc hq hfs hpos (by simpa using hl) (by simpa using hl2) ?_
  intro g cap w' hO _ hb _;simp only[List.length_nil,Nat.zero_add,List.nil_append] at hO ⊢;exact h _ _ _ hO hb
 ·have he:fs=[]:=List.eq_nil_of_length_eq_zero (by omega)
  subst he;have hw:Region.wanted o (yielded ops a.tmps)=true:=by simp[Region.wanted,hgd]
  rw[if_pos hw];have hr:=run_seq_zero (P:=P) (ty:=o.type) T (World.ownsRow_nil w w.heap.size e s) fa fc
  unfold Oper.wp execOp
  simp only[List.length_nil] at hq;simp only[ho,resolve,invoke,builtin,Sem.run_bind,Sem.run_pure,Result.andThen_ok,List.map_toArray,List.map_cons,List.map_nil,hp,hq,hr];exact h none 0 w (seqOwn_nil _ _) (Below.refl _ _)
end
end
section
open Go.RowKit
structure Fa where
 kind:Int
 par:Int
 M:Int
 oa:Option Addr
 on:Nat
 oc:Nat
 ra:Option Addr
 rn:Nat
 rc:Nat
 pc:Int
 ba:Option Addr
 bn:Nat
 bc:Nat
 fin:Int
def fAc (x:Fa):List Value:=[.int .i64 x.kind,.int .i64 x.par,.int .i64 x.M,.slice x.oa x.on x.oc,.slice x.ra x.rn x.rc,.int .i64 x.pc,.slice x.ba x.bn x.bc,.int .i64 x.fin]
def fVl (x:Vl):List Value:=[.int .i64 x.k,.int .i64 x.n]
def fTl (x:Int × Int):List Value:=[.int .i64 x.1,.int .i64 x.2]
theorem Tryz.rowAc:RowT Tryz.prog fAc 8 25 56 112:=⟨fun _=>rfl,fun x v hv=>by simp[fAc] at hv;rcases hv with h | h | h | h | h | h | h | h <;> rw[h] <;> rfl,by decide,Tryz.underlying25,_,(show(Tryz.prog.info? 56).map (fun i=>(i.zero,i.size,i.bytes))=some (some (.agg #[.int .i64 0,.int .i64 0,.int .i64 0,.slice none 0 0,.slice none 0 0,.int .i64 0,.slice none 0 0,.int .i64 0]),8,112) by kernel_rfl),rfl⟩
theorem Tryz.rowVl:RowT Tryz.prog fVl 2 54 66 16:=⟨fun _=>rfl,fun x v hv=>by simp[fVl] at hv;rcases hv with h | h <;> rw[h] <;> rfl,by decide,Tryz.underlying54,_,(show(Tryz.prog.info? 66).map (fun i=>(i.zero,i.size,i.bytes))=some (some (.agg #[.int .i64 0,.int .i64 0]),2,16) by kernel_rfl),rfl⟩
theorem Tryz.rowTl:RowT Tryz.prog fTl 2 26 43 16:=⟨fun _=>rfl,fun x v hv=>by simp[fTl] at hv;rcases hv with h | h <;> rw[h] <;> rfl,by decide,Tryz.underlying26,_,(show(Tryz.prog.info? 43).map (fun i=>(i.zero,i.size,i.bytes))=some (some (.agg #[.int .i64 0,.int .i64 0]),2,16) by kernel_rfl),rfl⟩
theorem seqVl_of {w:World} {ao:Option Addr} {l:List Vl} (h:ValsAt w ao l):SeqAt fVl 2 w ao l:=fun i x hx=>by
 obtain⟨b,o,e,h1,h2⟩:=h i x hx;refine⟨b,o,e,fun j u hu=>?_⟩
 match j,hu with
 | 0,hu=>simp[fVl] at hu;subst hu;exact h1
 | 1,hu=>simp[fVl] at hu;subst hu;exact h2
 | j+2,hu=>simp[fVl] at hu
theorem seqVl_to {w:World} {ao:Option Addr} {l:List Vl} (h:SeqAt fVl 2 w ao l):ValsAt w ao l:=fun i x hx=>by
 obtain⟨b,o,e,hc⟩:=h i x hx;exact⟨b,o,e,hc 0 _ rfl,hc 1 _ rfl⟩
theorem seqTl_to {w:World} {ao:Option Addr} {l:List (Int × Int)} (h:SeqAt fTl 2 w ao l) (hm:16*l.length<=140737488351232):ToldAt w ao l:=⟨fun i x hx=>by
 obtain⟨b,o,e,hc⟩:=h i x hx;exact⟨b,o,e,hc 0 _ rfl,hc 1 _ rfl⟩,hm⟩
end
section
open Go.RowKit
def put2 (w:World) (A:Nat) (x y:Value):World:=(w.setCell ⟨A,0,none⟩ x).setCell ⟨A,1,none⟩ y
theorem put2_blk {w:World} {A:Nat} {a b:Value} {t:TypeId} (h:w.heap[A]?=some (.cells #[a,b] t (0,0))) (x y:Value):(put2 w A x y).heap[A]?=some (.cells #[x,y] t (0,0)):=by
 have:=setCell_blk (setCell_blk h 0 x) 1 y
 simpa[put2] using this
theorem put2_other {w:World} {A k:Nat} (x y:Value) (h:k≠A):(put2 w A x y).heap[k]?=w.heap[k]? :=
 (Deep.blk_setCell_other _ ⟨A,1,none⟩ _ _ h).trans (Deep.blk_setCell_other _ ⟨A,0,none⟩ _ _ h)
theorem put2_below {B:Nat} {w0 w:World} (h:Below B w0 w) {A:Nat} (hA:B<=A) (x y:Value):Below B w0 (put2 w A x y):=(h.setCell hA _).setCell hA _
theorem put2_size (w:World) (A:Nat) (x y:Value):(put2 w A x y).heap.size=w.heap.size:=by simp[put2,World.setCell]
theorem two_blk {w:World} {A:Nat} {c:Array Value} {t:TypeId} (h:w.heap[A]?=some (.cells c t (0,0))) (j k:Nat) (x y:Value):((w.setCell ⟨A,j,none⟩ x).setCell ⟨A,k,none⟩ y).heap[A]?=some (.cells ((c.setIfInBounds j x).setIfInBounds k y) t (0,0)) :=
 setCell_blk (setCell_blk h j x) k y
theorem two_below {B:Nat} {w0 w:World} (h:Below B w0 w) {A:Nat} (hA:B<=A) (j k:Nat) (x y:Value):Below B w0 ((w.setCell ⟨A,j,none⟩ x).setCell ⟨A,k,none⟩ y):=(h.setCell hA _).setCell hA _
theorem two_size (w:World) (A j k:Nat) (x y:Value):((w.setCell ⟨A,j,none⟩ x).setCell ⟨A,k,none⟩ y).heap.size=w.heap.size:=by simp[World.setCell]
theorem two_other {w:World} {A B:Nat} (j k:Nat) (x y:Value) (h:B≠A):((w.setCell ⟨A,j,none⟩ x).setCell ⟨A,k,none⟩ y).heap[B]?=w.heap[B]? :=
 (Deep.blk_setCell_other _ ⟨A,k,none⟩ _ _ h).trans (Deep.blk_setCell_other _ ⟨A,j,none⟩ _ _ h)
end
section
open Go.RowKit
def vB (v:Value):List Nat:=match v.ownBlock with
 | some b=>[b]
 | none=>[]
theorem mem_vB {v:Value} {b:Nat}:b∈vB v↔v.ownBlock=some b:=by
 unfold vB
 cases h:v.ownBlock with
 | none=>simp
 | some c=>simp[eq_comm]
theorem ownsRow_at_block {w w':World} {base:Nat} {e:TypeId} {s n:Nat} {v:Value} {xs:List Value} (h:w.ownsRow base e s v n xs) (ha:∀ b∈vB v,w'.heap[b]?=w.heap[b]?):w'.ownsRow base e s v n xs :=
 ⟨h.1,by
  rcases h.2 with h0 | ⟨g,cap,cur,e1,hb,hg,hr⟩
  ·exact .inl h0
  ·exact .inr ⟨g,cap,cur,e1,hb,(ha g (by rw[mem_vB,e1];rfl)).trans hg,hr⟩⟩
def rowsB (rows:List (Value × Ob)):List Nat:=rows.flatMap fun p=>vB p.1
theorem HeapOwn.at_block {w w':World} {base:Nat} {v:Value} {rows:List (Value × Ob)} (h:HeapOwn w base v rows) (ha:∀ b∈vB v++rowsB rows,w'.heap[b]?=w.heap[b]?):HeapOwn w' base v rows :=
 ⟨ownsRow_at_block h.top (fun b hb=>ha b (List.mem_append_left _ hb)),
  fun i p hp=>⟨ownsRow_at_block (h.row i p hp).1 (fun b hb=>ha b (List.mem_append_right _ (List.mem_flatMap.2 ⟨p,List.mem_of_getElem? hp,hb⟩))),(h.row i p hp).2⟩,h.apart,h.many⟩
structure AcOwn (w:World) (base:Nat) (fa:Fa) (rows:List (Value × Ob)) (x:Ac):Prop where
 kind:fa.kind=x.kind
 par:fa.par=x.par
 M:fa.M=x.M
 on:fa.on=x.obs.length
 rn:fa.rn=x.regs.length
 pc:fa.pc=x.pc
 bn:fa.bn=x.box.length
 fin:fa.fin=x.fin
 obs:rows.map (·.2)=x.obs
 heap:HeapOwn w base (.slice fa.oa fa.on fa.oc) rows
 regs:SeqOwn fVl 2 66 w base (.slice fa.ra fa.rn fa.rc) x.regs
 box:SeqOwn fVl 2 66 w base (.slice fa.ba fa.bn fa.bc) x.box
def acFoot (fa:Fa) (rows:List (Value × Ob)):List Nat:=(vB (.slice fa.oa fa.on fa.oc)++rowsB rows)++(vB (.slice fa.ra fa.rn fa.rc)++vB (.slice fa.ba fa.bn fa.bc))
theorem AcOwn.at_block {w w':World} {base:Nat} {fa:Fa} {rows:List (Value × Ob)} {x:Ac} (h:AcOwn w base fa rows x) (ha:∀ b∈acFoot fa rows,w'.heap[b]?=w.heap[b]?):AcOwn w' base fa rows x :=
 { h with
  heap:=h.heap.at_block (fun b hb=>ha b (List.mem_append_left _ hb))
  regs:=ownsRow_at_block h.regs (fun b hb=>ha b (List.mem_append_right _ (List.mem_append_left _ hb)))
  box:=ownsRow_at_block h.box (fun b hb=>ha b (List.mem_append_right _ (List.mem_append_right _ hb))) }
def actsFoot (fl:List Fa) (rs:List (List (Value × Ob))):List Nat:=(List.zip fl rs).flatMap fun p=>acFoot p.1 p.2
structure WdOwn (w:World) (base Bw:Nat) (V:Wd) (av pv:Value) (fl:List Fa) (rs:List (List (Value × Ob))):Prop where
 box:w.heap[Bw]?=some (.cells #[av,pv] 28 (0,0))
 acts:SeqOwn fAc 8 56 w base av fl
 prints:SeqOwn fTl 2 43 w base pv V.prints
 flen:fl.length=V.acts.length
 rlen:rs.length=V.acts.length
 each:∀ (j:Nat) fa r x,fl[j]?=some fa->rs[j]?=some r->V.acts[j]?=some x->AcOwn w base fa r x
 apart0:(Bw :: (vB av++vB pv)).Nodup
 apart1:∀ (j:Nat) fa r,fl[j]?=some fa->rs[j]?=some r->(acFoot fa r).Nodup/\∀ b∈acFoot fa r,b∉Bw :: (vB av++vB pv)
 apart2:∀ (i j:Nat) fa r fb s,i≠j->fl[i]?=some fa->rs[i]?=some r->fl[j]?=some fb->rs[j]?=some s->∀ b∈acFoot fa r,b∉acFoot fb s
def wdFoot (Bw:Nat) (av pv:Value) (fl:List Fa) (rs:List (List (Value × Ob))):List Nat:=(Bw :: (vB av++vB pv))++actsFoot fl rs
theorem mem_actsFoot {fl:List Fa} {rs:List (List (Value × Ob))} {j:Nat} {fa:Fa} {r:List (Value × Ob)} (h1:fl[j]?=some fa) (h2:rs[j]?=some r) {b:Nat} (hb:b∈acFoot fa r):b∈actsFoot fl rs:=by
 refine List.mem_flatMap.2 ⟨(fa,r),?_,hb⟩;refine List.mem_of_getElem? (i:=j) ?_;simp[List.getElem?_zip_eq_some,h1,h2]
theorem WdOwn.at_block {w w':World} {base Bw:Nat} {V:Wd} {av pv:Value} {fl:List Fa} {rs:List (List (Value × Ob))} (h:WdOwn w base Bw V av pv fl rs) (ha:∀ b∈wdFoot Bw av pv fl rs,w'.heap[b]?=w.heap[b]?):WdOwn w' base Bw V av pv fl rs where
 box:=(ha Bw (by simp[wdFoot])).trans h.box
 acts:=ownsRow_at_block h.acts (fun b hb=>ha b (by simp only[wdFoot,List.mem_append,List.mem_cons];exact .inl (.inr (.inl hb))))
 prints:=ownsRow_at_block h.prints (fun b hb=>ha b (by simp only[wdFoot,List.mem_append,List.mem_cons];exact .inl (.inr (.inr hb))))
 flen:=h.flen
 rlen:=h.rlen
 each j fa r x h1 h2 h3:=(h.each j fa r x h1 h2 h3).at_block (fun b hb=>ha b (List.mem_append_right _ (mem_actsFoot h1 h2 hb)))
 apart0:=h.apart0
 apart1:=h.apart1
 apart2:=h.apart2
theorem ownsRow_blk_lt {w:World} {base:Nat} {e:TypeId} {s n:Nat} {v:Value} {xs:List Value} (h:w.ownsRow base e s v n xs):∀ b∈vB v,b<w.heap.size:=fun b hb=>(World.ownsRow.lt h b (mem_vB.1 hb)).2
theorem AcOwn.blk_lt {w:World} {base:Nat} {fa:Fa} {rows:List (Value × Ob)} {x:Ac} (h:AcOwn w base fa rows x):∀ b∈acFoot fa rows,b<w.heap.size:=fun b hb=>by
 simp only[acFoot,List.mem_append] at hb
 rcases hb with(hb | hb) | (hb | hb)
 ·exact ownsRow_blk_lt h.heap.top b hb
 ·obtain⟨p,hp,hb⟩:=List.mem_flatMap.1 hb
  obtain⟨i,hi,e⟩:=List.mem_iff_getElem.1 hp;exact ownsRow_blk_lt (h.heap.row i p (by rw[List.getElem?_eq_getElem hi,e])).1 b hb
 ·exact ownsRow_blk_lt h.regs b hb
 ·exact ownsRow_blk_lt h.box b hb
theorem WdOwn.blk_lt {w:World} {base Bw:Nat} {V:Wd} {av pv:Value} {fl:List Fa} {rs:List (List (Value × Ob))} (h:WdOwn w base Bw V av pv fl rs):∀ b∈wdFoot Bw av pv fl rs,b<w.heap.size:=fun b hb=>by
 simp only[wdFoot,List.mem_append,List.mem_cons] at hb
 rcases hb with(rfl | hb | hb) | hb
 ·exact(Array.getElem?_eq_some_iff.1 h.box).1
 ·exact ownsRow_blk_lt h.acts b hb
 ·exact ownsRow_blk_lt h.prints b hb
 ·obtain⟨⟨fa,r⟩,hp,hb⟩:=List.mem_flatMap.1 hb
  obtain⟨j,hj,e⟩:=List.mem_iff_getElem.1 hp;have hz:(List.zip fl rs)[j]?=some (fa,r):=by rw[List.getElem?_eq_getElem hj,e]
  obtain⟨h1,h2⟩:=List.getElem?_zip_eq_some.1 hz;have hjl:j<V.acts.length:=by rw[<- h.flen];exact(List.getElem?_eq_some_iff.1 h1).1
  obtain⟨x,hx⟩:=at_some hjl;exact(h.each j fa r x h1 h2 hx).blk_lt b hb
theorem WdOwn.below {w w':World} {base Bw:Nat} {V:Wd} {av pv:Value} {fl:List Fa} {rs:List (List (Value × Ob))} (h:WdOwn w base Bw V av pv fl rs) (hb:Below w.heap.size w w'):WdOwn w' base Bw V av pv fl rs :=
 h.at_block (fun b hb'=>hb.block b (h.blk_lt b hb'))
theorem WdOwn.replace {w w':World} {base Bw:Nat} {V:Wd} {av pv:Value} {fl:List Fa} {rs:List (List (Value × Ob))} (h:WdOwn w base Bw V av pv fl rs) {j:Nat} {fa fb:Fa} {r s:List (Value × Ob)} {y:Ac}
  (hfa:fl[j]?=some fa) (hr:rs[j]?=some r) (hrow:SeqOwn fAc 8 56 w' base av (fl.set j fb)) (hnew:AcOwn w' base fb s y)
  (hsame:∀ b∈wdFoot Bw av pv fl rs,b∉vB av->b∉acFoot fa r->w'.heap[b]?=w.heap[b]?) (hnd:(acFoot fb s).Nodup) (hin:∀ b∈acFoot fb s,b∈acFoot fa r\/b∉wdFoot Bw av pv fl rs) :
  WdOwn w' base Bw { V with acts:=V.acts.set j y } av pv (fl.set j fb) (rs.set j s):=by
 have hj:j<fl.length:=(List.getElem?_eq_some_iff.1 hfa).1;have hjr:j<rs.length:=(List.getElem?_eq_some_iff.1 hr).1;have hhead:∀ b∈Bw :: (vB av++vB pv),b∈wdFoot Bw av pv fl rs:=fun b hb=>List.mem_append_left _ hb
 have hget:∀ {i:Nat} {g:Fa} {t:List (Value × Ob)},(fl.set j fb)[i]?=some g->(rs.set j s)[i]?=some t->(i=j/\g=fb/\t=s)\/(i≠j/\fl[i]?=some g/\rs[i]?=some t):=fun {i g t} h1 h2=>by
  by_cases e:i=j
  ·subst e
   rw[List.getElem?_set,if_pos rfl,if_pos hj] at h1;rw[List.getElem?_set,if_pos rfl,if_pos hjr] at h2;simp only[Option.some.injEq] at h1 h2;exact .inl ⟨rfl,h1.symm,h2.symm⟩
  ·rw[List.getElem?_set,if_neg (fun h=>e h.symm)] at h1 h2
   exact .inr ⟨e,h1,h2⟩
 have hBw:w'.heap[Bw]?=w.heap[Bw]?:=hsame Bw (hhead Bw (by simp)) (fun hb=>by
  have:=h.apart0;simp only[List.nodup_cons,List.mem_append,not_or] at this
  exact this.1.1 hb) (fun hb=>(h.apart1 j fa r hfa hr).2 Bw hb (by simp))
 have hpv:∀ b∈vB pv,w'.heap[b]?=w.heap[b]?:=fun b hb=>hsame b (hhead b (by simp[hb])) (fun hb'=>by
  have:=(List.nodup_cons.1 h.apart0).2;exact(List.nodup_append.1 this).2.2 b hb' b hb rfl) (fun hb'=>(h.apart1 j fa r hfa hr).2 b hb' (by simp[hb]))
 have hoth:∀ (i:Nat) g t,i≠j->fl[i]?=some g->rs[i]?=some t->∀ b∈acFoot g t,w'.heap[b]?=w.heap[b]?:=fun i g t hij h1 h2 b hb=>hsame b (List.mem_append_right _ (mem_actsFoot h1 h2 hb)) (fun hb'=>(h.apart1 i g t h1 h2).2 b hb (by simp[hb'])) (h.apart2 i j g t fa r hij h1 h2 hfa hr b hb)
 refine⟨hBw.trans h.box,hrow,ownsRow_at_block h.prints hpv,by simp[h.flen],by simp[h.rlen],fun i g t x h1 h2 h3=>?_,h.apart0,fun i g t h1 h2=>?_,fun i i' g t g' t' hii h1 h2 h3 h4 b hb=>?_⟩
 ·rcases hget h1 h2 with⟨rfl,rfl,rfl⟩ | ⟨e,h1,h2⟩
  ·simp only at h3
   rw[List.getElem?_set,if_pos rfl,if_pos (by rw[<- h.flen];exact hj)] at h3;simp only[Option.some.injEq] at h3;subst h3;exact hnew
  ·simp only at h3
   rw[List.getElem?_set,if_neg (fun h=>e h.symm)] at h3;exact(h.each i g t x h1 h2 h3).at_block (hoth i g t e h1 h2)
 ·rcases hget h1 h2 with⟨rfl,rfl,rfl⟩ | ⟨e,h1,h2⟩
  ·refine⟨hnd,fun b hb hb'=>?_⟩
   rcases hin b hb with h5 | h5
   ·exact(h.apart1 i fa r hfa hr).2 b h5 hb'
   ·exact h5 (hhead b hb')
  ·exact h.apart1 i g t h1 h2
 ·intro hb'
  rcases hget h1 h2 with⟨rfl,rfl,rfl⟩ | ⟨e,q1,q2⟩
  ·rcases hget h3 h4 with⟨rfl,_,_⟩ | ⟨e',h3,h4⟩
   ·exact hii rfl
   ·rcases hin b hb with h5 | h5
    ·exact h.apart2 i i' fa r g' t' hii hfa hr h3 h4 b h5 hb'
    ·exact h5 (List.mem_append_right _ (mem_actsFoot h3 h4 hb'))
  ·rcases hget h3 h4 with⟨rfl,rfl,rfl⟩ | ⟨e',h3,h4⟩
   ·rcases hin b hb' with h5 | h5
    ·exact h.apart2 i i' g t fa r hii q1 q2 hfa hr b hb h5
    ·exact h5 (List.mem_append_right _ (mem_actsFoot q1 q2 hb))
   ·exact h.apart2 i i' g t g' t' hii q1 q2 h3 h4 b hb hb'
end
section
open Go.RowKit
theorem flat_set1 {α:Type} {f:α->List Value} {s:Nat} (hT:∀ x,(f x).length=s):∀ (l:List α) (i k:Nat) (x y:α) (u:Value),l[i]?=some x->k<s->f y=(f x).set k u->(l.flatMap f).set (i*s+k) u=(l.set i y).flatMap f
 | [],i,k,x,y,u,h,_,_=>by simp at h
 | a :: l,0,k,x,y,u,h,hk,he=>by
  simp only[List.getElem?_cons_zero,Option.some.injEq] at h;subst h;rw[List.flatMap_cons,List.set_cons_zero,List.flatMap_cons,he,Nat.zero_mul,Nat.zero_add,List.set_append_left _ _ (by rw[hT];exact hk)]
 | a :: l,i+1,k,x,y,u,h,hk,he=>by
  simp only[List.getElem?_cons_succ] at h;rw[List.flatMap_cons,List.set_cons_succ,List.flatMap_cons,List.set_append_right _ _ (by rw[hT,Nat.add_mul];omega),hT]
  congr 1
  rw[<- flat_set1 hT l i k x y u h hk he]
  congr 1
  rw[Nat.add_mul];omega
theorem SeqOwn.set1 {α:Type} {f:α->List Value} {s:Nat} {e:TypeId} (hT:∀ x,(f x).length=s) {w:World} {base g n c:Nat} {l:List α} (h:SeqOwn f s e w base (.slice (some ⟨g,0,none⟩) n c) l) {i k:Nat} {x y:α} {u:Value} (hx:l[i]?=some x) (hk:k<s) (he:f y=(f x).set k u) :
  SeqOwn f s e (w.setCell ⟨g,i*s+k,none⟩ u) base (.slice (some ⟨g,0,none⟩) n c) (l.set i y):=by
 unfold SeqOwn
 rw[<- flat_set1 hT l i k x y u hx hk he,List.length_set];exact ownsRow_set h rfl _ _
end
section
open Go.RowKit
structure Moved (w w':World) (F F':List Nat):Prop where
 os:w'.os=w.os
 tape:w'.tape=w.tape
 output:w'.output=w.output
 size:w.heap.size<=w'.heap.size
 keep:∀ b,b<w.heap.size->b∉F->w'.heap[b]?=w.heap[b]?
 sub:∀ b∈F',b∈F\/w.heap.size<=b
theorem Moved.trans {a b c:World} {F G H:List Nat} (h:Moved a b F G) (k:Moved b c G H):Moved a c F H :=
 ⟨k.os.trans h.os,k.tape.trans h.tape,k.output.trans h.output,Nat.le_trans h.size k.size,
  fun x hx hF=>(k.keep x (Nat.lt_of_lt_of_le hx h.size) (fun hG=>by rcases h.sub x hG with h1 | h1;exact hF h1;omega)).trans (h.keep x hx hF),
  fun x hx=>by
   rcases k.sub x hx with h1 | h1
   ·exact h.sub x h1
   ·exact .inr (Nat.le_trans h.size h1)⟩
theorem Moved.below {w w':World} {F F':List Nat} (h:Moved w w' F F') {B:Nat} (hB:B<=w.heap.size) (hF:∀ b∈F,B<=b):Below B w w' :=
 ⟨h.os,h.tape,h.output,h.size,fun k hk=>h.keep k (by omega) (fun hk'=>by have:=hF k hk';omega)⟩
theorem Moved.of_below {w w':World} {F:List Nat} (h:Below w.heap.size w w'):Moved w w' F F :=
 ⟨h.os,h.tape,h.output,h.size,fun b hb _=>h.block b hb,fun _ hb=>.inl hb⟩
theorem Moved.set (w:World) {F:List Nat} {g:Nat} (hg:g∈F) (j:Nat) (u:Value):Moved w (w.setCell ⟨g,j,none⟩ u) F F :=
 ⟨rfl,rfl,rfl,by simp[World.setCell],fun b _ hb=>Deep.blk_setCell_other _ ⟨g,j,none⟩ _ _ (fun e=>hb (by rw[e];exact hg)),fun _ hb=>.inl hb⟩
theorem set_same {α:Type} {l:List α} {j:Nat} {a:α} (h:l[j]?=some a):l.set j a=l:=by
 refine List.ext_getElem? fun i=>?_
 rw[List.getElem?_set]
 by_cases e:j=i
 ·subst e
  rw[if_pos rfl,if_pos (List.getElem?_eq_some_iff.1 h).1,h]
 ·rw[if_neg e]
section
variable {w:World} {base Bw:Nat} {V:Wd} {av pv:Value} {fl:List Fa} {rs:List (List (Value × Ob))} {j:Nat} {fa:Fa} {r:List (Value × Ob)} {x:Ac}
theorem WdOwn.setReg (h:WdOwn w base Bw V av pv fl rs) (hfa:fl[j]?=some fa) (hr:rs[j]?=some r) (hx:V.acts[j]?=some x) {R:Nat} (hra:fa.ra=some ⟨R,0,none⟩) {q:Nat} (hq:q<x.regs.length) (v:Vl) :
  WdOwn ((w.setCell ⟨R,q*2,none⟩ (.int .i64 v.k)).setCell ⟨R,q*2+1,none⟩ (.int .i64 v.n)) base Bw { V with acts:=V.acts.set j { x with regs:=x.regs.set q v } } av pv fl rs /\
   Moved w ((w.setCell ⟨R,q*2,none⟩ (.int .i64 v.k)).setCell ⟨R,q*2+1,none⟩ (.int .i64 v.n)) (wdFoot Bw av pv fl rs) (wdFoot Bw av pv fl rs):=by
 have hA:=h.each j fa r x hfa hr hx;have hRin:R∈vB (.slice fa.ra fa.rn fa.rc):=by rw[mem_vB,hra];rfl
 have hRf:R∈acFoot fa r:=List.mem_append_right _ (List.mem_append_left _ hRin);have hnd:=(h.apart1 j fa r hfa hr).1;have hRw:R∈wdFoot Bw av pv fl rs:=List.mem_append_right _ (mem_actsFoot hfa hr hRf);have hRav:R∉vB av:=fun hb=>(h.apart1 j fa r hfa hr).2 R hRf (by simp[hb])
 have hoth:∀ b,b≠R->((w.setCell ⟨R,q*2,none⟩ (.int .i64 v.k)).setCell ⟨R,q*2+1,none⟩ (.int .i64 v.n)).heap[b]?=w.heap[b]?:=fun b hb=>two_other (q*2) (q*2+1) _ _ hb
 have hn1:=List.nodup_append.1 hnd;have hn2:=List.nodup_append.1 hn1.2.1;obtain⟨o,ho⟩:=at_some hq;have hregs:=hA.regs;rw[hra] at hregs;have s1:=SeqOwn.set1 (f:=fVl) (s:=2) (fun _=>rfl) hregs (i:=q) (k:=0) (u:=.int .i64 v.k) (x:=o) (y:=⟨v.k,o.n⟩) ho (by omega) rfl;have s2:=SeqOwn.set1 (f:=fVl) (s:=2) (fun _=>rfl) s1 (i:=q) (k:=1) (u:=.int .i64 v.n) (x:=⟨v.k,o.n⟩) (y:=v) (by rw[List.getElem?_set,if_pos rfl,if_pos hq]) (by omega) rfl
 rw[List.set_set] at s2;have hnew:AcOwn ((w.setCell ⟨R,q*2,none⟩ (.int .i64 v.k)).setCell ⟨R,q*2+1,none⟩ (.int .i64 v.n)) base fa r { x with regs:=x.regs.set q v } :=
  { kind:=hA.kind,par:=hA.par,M:=hA.M,on:=hA.on,rn:=by rw[hA.rn];simp,pc:=hA.pc,bn:=hA.bn,fin:=hA.fin,obs:=hA.obs,heap:=hA.heap.at_block (fun b hb=>hoth b (fun e=>hn1.2.2 b hb R (List.mem_append_left _ hRin) e)),regs:=by rw[hra];exact s2,box:=ownsRow_at_block hA.box (fun b hb=>hoth b (fun e=>hn2.2.2 R hRin b hb e.symm)) }
 have hrow:SeqOwn fAc 8 56 ((w.setCell ⟨R,q*2,none⟩ (.int .i64 v.k)).setCell ⟨R,q*2+1,none⟩ (.int .i64 v.n)) base av (fl.set j fa):=by
  rw[set_same hfa];exact ownsRow_at_block h.acts (fun b hb=>hoth b (fun e=>hRav (by rw[<- e];exact hb)))
 have:=h.replace hfa hr hrow hnew (fun b _ _ hb=>hoth b (fun e=>hb (by rw[e];exact hRf))) hnd (fun b hb=>.inl hb);rw[set_same hfa,set_same hr] at this
 exact⟨this,(Moved.set w hRw _ _).trans (Moved.set _ hRw _ _)⟩
theorem WdOwn.setNum (h:WdOwn w base Bw V av pv fl rs) (hfa:fl[j]?=some fa) (hr:rs[j]?=some r) {g n c:Nat} (hav:av=.slice (some ⟨g,0,none⟩) n c) {k:Nat} (hk:k<8) {u:Value} {fb:Fa} {y:Ac}
  (hf:fAc fb=(fAc fa).set k u) (hfoot:acFoot fb r=acFoot fa r) (hnew:AcOwn w base fb r y) :
  WdOwn (w.setCell ⟨g,j*8+k,none⟩ u) base Bw { V with acts:=V.acts.set j y } av pv (fl.set j fb) rs/\Moved w (w.setCell ⟨g,j*8+k,none⟩ u) (wdFoot Bw av pv fl rs) (wdFoot Bw av pv (fl.set j fb) rs):=by
 have hgav:g∈vB av:=by rw[mem_vB,hav];rfl
 have hgw:g∈wdFoot Bw av pv fl rs:=List.mem_append_left _ (by simp[hgav]);have hoth:∀ b,b≠g->(w.setCell ⟨g,j*8+k,none⟩ u).heap[b]?=w.heap[b]?:=fun b hb=>Deep.blk_setCell_other _ ⟨g,j*8+k,none⟩ _ _ hb
 have hgf:∀ b∈acFoot fa r,b≠g:=fun b hb e=>(h.apart1 j fa r hfa hr).2 b hb (by rw[e];simp[hgav])
 have hrow0:=h.acts;rw[hav] at hrow0;have hrow:=SeqOwn.set1 (f:=fAc) (s:=8) (fun _=>rfl) hrow0 (i:=j) (k:=k) (u:=u) (x:=fa) (y:=fb) hfa hk hf;rw[<- hav] at hrow;have:=h.replace hfa hr hrow (hnew.at_block (fun b hb=>hoth b (hgf b (by rw[<- hfoot];exact hb)))) (fun b _ hb _=>hoth b (fun e=>hb (by rw[e];exact hgav))) (by rw[hfoot];exact(h.apart1 j fa r hfa hr).1) (fun b hb=>.inl (by rw[<- hfoot];exact hb))
 rw[set_same hr] at this
 refine⟨this,Moved.mk rfl rfl rfl (by simp[World.setCell]) (fun b _ hb=>hoth b (fun e=>hb (by rw[e];exact hgw))) (fun b hb=>?_)⟩;simp only[wdFoot,List.mem_append] at hb ⊢
 rcases hb with hb | hb
 ·exact .inl (.inl hb)
 ·obtain⟨⟨f',r'⟩,hp,hb⟩:=List.mem_flatMap.1 hb
  obtain⟨i,hi,e⟩:=List.mem_iff_getElem.1 hp;have hz:(List.zip (fl.set j fb) rs)[i]?=some (f',r'):=by rw[List.getElem?_eq_getElem hi,e]
  obtain⟨h1,h2⟩:=List.getElem?_zip_eq_some.1 hz;simp only at h1 h2 hb
  by_cases hij:j=i
  ·subst hij
   rw[List.getElem?_set,if_pos rfl,if_pos (List.getElem?_eq_some_iff.1 hfa).1] at h1;rw[hr] at h2;simp only[Option.some.injEq] at h1 h2;subst h1 h2;rw[hfoot] at hb;exact .inl (.inr (mem_actsFoot hfa hr hb))
  ·rw[List.getElem?_set,if_neg hij] at h1
   exact .inl (.inr (mem_actsFoot h1 h2 hb))
theorem HeapOwn.nodup {v:Value} {rows:List (Value × Ob)} (h:HeapOwn w base v rows):(vB v++rowsB rows).Nodup:=by
 have one:∀ u:Value,(vB u).Nodup:=fun u=>by unfold vB;split <;> simp
 refine List.nodup_append.2 ⟨one v,?_,fun a ha b hb e=>?_⟩
 ·have key:∀ l:List (Value × Ob),(∀ (i k:Nat) p q,l[i]?=some p->l[k]?=some q->i≠k->p.1.ownBlock=none\/p.1.ownBlock≠q.1.ownBlock)->(rowsB l).Nodup:=by
   intro l
   induction l with
   | nil=>intro _;simp[rowsB]
   | cons p l ih =>
    intro ha
    show(vB p.1++rowsB l).Nodup
    refine List.nodup_append.2 ⟨one p.1,ih (fun i k p' q' h1 h2 hik=>ha (i+1) (k+1) p' q' (by simpa using h1) (by simpa using h2) (by omega)),fun a ha' b hb e=>?_⟩;subst e;obtain⟨q,hq,hb⟩:=List.mem_flatMap.1 hb;obtain⟨i,hi,e⟩:=List.mem_iff_getElem.1 hq;have:=ha 0 (i+1) p q rfl (by simp[List.getElem?_eq_getElem hi,e]) (by omega);rw[mem_vB] at ha' hb;rw[ha',hb] at this
    simp at this
  exact key rows h.apart
 ·subst e
  obtain⟨q,hq,hb⟩:=List.mem_flatMap.1 hb;obtain⟨i,hi,e⟩:=List.mem_iff_getElem.1 hq;have hrow:=(h.row i q (by rw[List.getElem?_eq_getElem hi,e])).1;rw[mem_vB] at ha hb
  rcases owns_other h.top hrow (Ne.symm tne) with h1 | h1
  ·rw[h1] at ha;cases ha
  ·rw[ha,hb] at h1;exact h1 rfl
theorem WdOwn.setHeap (h:WdOwn w base Bw V av pv fl rs) (hfa:fl[j]?=some fa) (hr:rs[j]?=some r) (hx:V.acts[j]?=some x) {g n c:Nat} (hav:av=.slice (some ⟨g,0,none⟩) n c) {M:Int} {oa:Option Addr} {oc:Nat} {s:List (Value × Ob)} {l:List Ob} (hs:s.map (·.2)=l)
  (hH:HeapOwn w base (.slice oa l.length oc) s) (hfresh:∀ b∈vB (.slice oa l.length oc)++rowsB s,b∉wdFoot Bw av pv fl rs) :
  WdOwn ((w.setCell ⟨g,j*8+2,none⟩ (.int .i64 M)).setCell ⟨g,j*8+3,none⟩ (.slice oa l.length oc)) base Bw { V with acts:=V.acts.set j (x.heap M l) } av pv (fl.set j { fa with M:=M,oa:=oa,on:=l.length,oc:=oc }) (rs.set j s):=by
 have hA:=h.each j fa r x hfa hr hx;have hgav:g∈vB av:=by rw[mem_vB,hav];rfl
 have hoth:∀ b,b≠g->((w.setCell ⟨g,j*8+2,none⟩ (.int .i64 M)).setCell ⟨g,j*8+3,none⟩ (.slice oa l.length oc)).heap[b]?=w.heap[b]?:=fun b hb=>two_other _ _ _ _ hb
 have hgf:∀ b∈acFoot fa r,b≠g:=fun b hb e=>(h.apart1 j fa r hfa hr).2 b hb (by rw[e];simp[hgav])
 have hgn:∀ b∈vB (.slice oa l.length oc)++rowsB s,b≠g:=fun b hb e=>hfresh b hb (List.mem_append_left _ (by rw[e];simp[hgav]))
 have hrow0:=h.acts;rw[hav] at hrow0;have r1:=SeqOwn.set1 (f:=fAc) (s:=8) (fun _=>rfl) hrow0 (i:=j) (k:=2) (u:=.int .i64 M) (x:=fa) (y:={ fa with M:=M }) hfa (by omega) rfl;have r2:=SeqOwn.set1 (f:=fAc) (s:=8) (fun _=>rfl) r1 (i:=j) (k:=3) (u:=.slice oa l.length oc) (x:={ fa with M:=M }) (y:={ fa with M:=M,oa:=oa,on:=l.length,oc:=oc }) (by rw[List.getElem?_set,if_pos rfl,if_pos (List.getElem?_eq_some_iff.1 hfa).1]) (by omega) rfl
 rw[List.set_set,<- hav] at r2;have hnd:=(h.apart1 j fa r hfa hr).1;have hn1:=List.nodup_append.1 hnd;refine h.replace hfa hr r2 ⟨hA.kind,hA.par,rfl,rfl,hA.rn,hA.pc,hA.bn,hA.fin,hs,hH.at_block (fun b hb=>hoth b (hgn b hb)),ownsRow_at_block hA.regs (fun b hb=>hoth b (hgf b (List.mem_append_right _ (List.mem_append_left _ hb)))),ownsRow_at_block hA.box (fun b hb=>hoth b (hgf b (List.mem_append_right _ (List.mem_append_right _ hb))))⟩
  (fun b _ hb _=>hoth b (fun e=>hb (by rw[e];exact hgav))) ?_ (fun b hb=>?_)
 ·refine List.nodup_append.2 ⟨hH.nodup,hn1.2.1,fun a ha b hb e=>?_⟩
  subst e;exact hfresh a ha (List.mem_append_right _ (mem_actsFoot hfa hr (List.mem_append_right _ hb)))
 ·rcases List.mem_append.1 hb with hb | hb
  ·exact .inr (hfresh b hb)
  ·exact .inl (List.mem_append_right _ hb)
end
end
end Go.Proofs.YtihpkcccfgbcmaaGreatDoor
