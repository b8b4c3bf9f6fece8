/- WCopy. -/
import Derived.Test.YtihpkcccfgbcmaaGreatDoorCBVCheck
namespace Go.Proofs.YtihpkcccfgbcmaaGreatDoor
set_option maxRecDepth 100000
set_option maxHeartbeats 8000000
section
open Go.RowKit
section
variable {α:Type} {f:α->List Value} {s:Nat} {e tS:TypeId} {bytes:Nat} {P:Program}
theorem SeqOwn.lt {w:World} {base g n c o:Nat} {l:List α} (h:SeqOwn f s e w base (.slice (some ⟨g,o,none⟩) n c) l):base<=g/\g<w.heap.size:=by
 rcases ownsRow_shape h with⟨hv,_⟩ | ⟨g',cap,hv,h1,h2⟩
 ·simp at hv
 ·simp only[Value.slice.injEq,Option.some.injEq,Addr.mk.injEq,and_true] at hv
  rw[hv.1.1];exact⟨h1,h2⟩
end
end
section
open Go.RowKit
theorem seqTl_of {w:World} {ao:Option Addr} {l:List (Int × Int)} (h:ToldAt w ao l):SeqAt fTl 2 w ao l:=fun i x hx=>by
 obtain⟨b,o,e,h1,h2⟩:=h.cell i x hx;refine⟨b,o,e,fun j u hu=>?_⟩
 match j,hu with
 | 0,hu=>simp[fTl] at hu;subst hu;exact h1
 | 1,hu=>simp[fTl] at hu;subst hu;exact h2
 | j+2,hu=>simp[fTl] at hu
end
section
open Go.RowKit
theorem in_any (n lo hi:Int) (w:World) :
  Calls Tryz.prog 67 #[.int .i64 n,.int .i64 lo,.int .i64 hi] w fun e w'=>e=.returned (.bool (decide (lo<=n) && decide (n<=hi)))/\w=w':=by
 go_enter Tryz.func67,Tryz.ntmps67
 go_wp2
 all_goals
  go_ret
  refine⟨ret_bool ?_,rfl⟩
  go_light
  simp[*] <;> omega
end
section
open Go.RowKit
section
variable {α:Type} {f:α->List Value} {s:Nat} {e tS:TypeId} {bytes:Nat} {P:Program}
theorem run_copied (T:RowT P f s tS e bytes) (ty:TypeId) (l:List α) (la:Option Addr) (lc:Nat) (w:World) (hS:SeqAt f s w la l) (z:Array Value) (hz:z.size=l.length*s) :
  (Builtin.copy_ #[tS,tS] ty #[.slice (some ⟨w.heap.size,0,none⟩) l.length l.length,.slice la l.length lc]).run P (w.alloc (.cells z e))=.ok (goInt l.length) ((w.alloc (.cells z e)).setRow w.heap.size (l.flatMap f).toArray):=by
 obtain⟨zv,hinfo,_⟩:=T.info;have hsz:(P.info? e).map (·.size)=some s:=by
  obtain⟨i,hi,hzz⟩:=Option.map_eq_some_iff.1 hinfo;simp only[Prod.mk.injEq] at hzz;rw[hi];simp[hzz.2.1]
 refine run_copy_full s _ tS tS ty e T.sl hsz w.heap.size l.length l.length la lc z e (Deep.blk_alloc_new w _) (l.flatMap f) (flat_length T.len _) (by rw[hz,flat_length T.len]) (fun h0=>?_) (seq_one T _);obtain⟨ad,rfl,hsrc⟩:=seq_src T.len T.pos (hS.keeps (Keeps.alloc w (.cells z e))) h0;exact⟨ad,rfl,hsrc⟩
theorem own_copied (T:RowT P f s tS e bytes) (l:List α) (w:World) (z:Array Value) (hl:l.length<=maxLen):SeqOwn f s e ((w.alloc (.cells z e)).setRow w.heap.size (l.flatMap f).toArray) w.heap.size (.slice (some ⟨w.heap.size,0,none⟩) l.length l.length) l :=
 ⟨flat_length T.len _,.inr ⟨w.heap.size,l.length,_,rfl,Nat.le_refl _,setRow_heap _ _ _ _ _ _ (Deep.blk_alloc_new w _),Nat.le_refl _,hl,by simp[flat_length T.len],by
  exact List.take_of_length_le (by rw[flat_length T.len l];exact Nat.le_refl _)⟩⟩
end
theorem madeCells_size (z:Array Value) (n:Nat):(madeCells z n).size=n:=by simp[madeCells]
theorem copiedVals_any (l:List Vl) (la:Option Addr) (lc:Nat) (w:World) (hS:SeqAt fVl 2 w la l) (hl:16*l.length<=140737488351232) :
  Calls Tryz.prog 61 #[.slice la l.length lc] w fun e w'=>∃ g,e=.returned (.slice (some ⟨g,0,none⟩) l.length l.length)/\w.heap.size<=g/\SeqOwn fVl 2 66 w' w.heap.size (.slice (some ⟨g,0,none⟩) l.length l.length) l/\Below w.heap.size w w':=by
 have hmx:maxLen=9223372036854775807:=rfl;have hmk:=run_make_wide (P:=Tryz.prog) 2 54 66 _ 16 Tryz.underlying54 (show(Tryz.prog.info? 66).map (fun i=>(i.zero,i.size,i.bytes))=some (some (.agg #[.int .i64 0,.int .i64 0]),2,16) by kernel_rfl) .i64 .i64 l.length (by omega) (by omega);have hcp:=run_copied Tryz.rowVl 3 l la lc w hS (madeCells (Value.cells (.agg #[.int .i64 0,.int .i64 0])) (l.length*2)) (madeCells_size _ _)
 have hO:=own_copied Tryz.rowVl l w (madeCells (Value.cells (.agg #[.int .i64 0,.int .i64 0])) (l.length*2)) (by omega);have hb:=below_setRow (below_box w (.cells (madeCells (Value.cells (.agg #[.int .i64 0,.int .i64 0])) (l.length*2)) 66)) (Nat.le_refl _) (l.flatMap fVl).toArray;generalize hZ:madeCells (Value.cells (.agg #[.int .i64 0,.int .i64 0])) (l.length*2)=Z at *;have HO:Aside (SeqOwn fVl 2 66 ((w.alloc (.cells Z 66)).setRow w.heap.size (l.flatMap fVl).toArray) w.heap.size (.slice (some ⟨w.heap.size,0,none⟩) l.length l.length) l/\Below w.heap.size w ((w.alloc (.cells Z 66)).setRow w.heap.size (l.flatMap fVl).toArray)):=⟨hO,hb⟩
 clear hO hb hZ hS;generalize l.length=L at *
 go_enter Tryz.func61,Tryz.ntmps61
 go_wp2
 go_ret
 exact⟨_,rfl,Nat.le_refl _,HO.out.1,HO.out.2⟩
theorem copiedTold_any (l:List (Int × Int)) (la:Option Addr) (lc:Nat) (w:World) (hS:SeqAt fTl 2 w la l) (hl:16*l.length<=140737488351232) :
  Calls Tryz.prog 62 #[.slice la l.length lc] w fun e w'=>∃ g,e=.returned (.slice (some ⟨g,0,none⟩) l.length l.length)/\w.heap.size<=g/\SeqOwn fTl 2 43 w' w.heap.size (.slice (some ⟨g,0,none⟩) l.length l.length) l/\Below w.heap.size w w':=by
 have hmx:maxLen=9223372036854775807:=rfl;have hmk:=run_make_wide (P:=Tryz.prog) 2 26 43 _ 16 Tryz.underlying26 (show(Tryz.prog.info? 43).map (fun i=>(i.zero,i.size,i.bytes))=some (some (.agg #[.int .i64 0,.int .i64 0]),2,16) by kernel_rfl) .i64 .i64 l.length (by omega) (by omega);have hcp:=run_copied Tryz.rowTl 3 l la lc w hS (madeCells (Value.cells (.agg #[.int .i64 0,.int .i64 0])) (l.length*2)) (madeCells_size _ _)
 have hO:=own_copied Tryz.rowTl l w (madeCells (Value.cells (.agg #[.int .i64 0,.int .i64 0])) (l.length*2)) (by omega);have hb:=below_setRow (below_box w (.cells (madeCells (Value.cells (.agg #[.int .i64 0,.int .i64 0])) (l.length*2)) 43)) (Nat.le_refl _) (l.flatMap fTl).toArray;generalize hZ:madeCells (Value.cells (.agg #[.int .i64 0,.int .i64 0])) (l.length*2)=Z at *;have HO:Aside (SeqOwn fTl 2 43 ((w.alloc (.cells Z 43)).setRow w.heap.size (l.flatMap fTl).toArray) w.heap.size (.slice (some ⟨w.heap.size,0,none⟩) l.length l.length) l/\Below w.heap.size w ((w.alloc (.cells Z 43)).setRow w.heap.size (l.flatMap fTl).toArray)):=⟨hO,hb⟩
 clear hO hb hZ hS;generalize l.length=L at *
 go_enter Tryz.func62,Tryz.ntmps62
 go_wp2
 go_ret
 exact⟨_,rfl,Nat.le_refl _,HO.out.1,HO.out.2⟩
theorem copiedActs_any (l:List Fa) (la:Option Addr) (lc:Nat) (w:World) (hS:SeqAt fAc 8 w la l) (hl:112*l.length<=140737488351232) :
  Calls Tryz.prog 59 #[.slice la l.length lc] w fun e w'=>∃ g,e=.returned (.slice (some ⟨g,0,none⟩) l.length l.length)/\w.heap.size<=g/\SeqOwn fAc 8 56 w' w.heap.size (.slice (some ⟨g,0,none⟩) l.length l.length) l/\Below w.heap.size w w':=by
 have hmx:maxLen=9223372036854775807:=rfl;have hmk:=run_make_wide (P:=Tryz.prog) 8 25 56 _ 112 Tryz.underlying25 (show(Tryz.prog.info? 56).map (fun i=>(i.zero,i.size,i.bytes))=some (some (.agg #[.int .i64 0,.int .i64 0,.int .i64 0,.slice none 0 0,.slice none 0 0,.int .i64 0,.slice none 0 0,.int .i64 0]),8,112) by kernel_rfl) .i64 .i64 l.length (by omega) (by omega);have hcp:=run_copied Tryz.rowAc 3 l la lc w hS (madeCells (Value.cells (.agg #[.int .i64 0,.int .i64 0,.int .i64 0,.slice none 0 0,.slice none 0 0,.int .i64 0,.slice none 0 0,.int .i64 0])) (l.length*8)) (madeCells_size _ _)
 have hO:=own_copied Tryz.rowAc l w (madeCells (Value.cells (.agg #[.int .i64 0,.int .i64 0,.int .i64 0,.slice none 0 0,.slice none 0 0,.int .i64 0,.slice none 0 0,.int .i64 0])) (l.length*8)) (by omega);have hb:=below_setRow (below_box w (.cells (madeCells (Value.cells (.agg #[.int .i64 0,.int .i64 0,.int .i64 0,.slice none 0 0,.slice none 0 0,.int .i64 0,.slice none 0 0,.int .i64 0])) (l.length*8)) 56)) (Nat.le_refl _) (l.flatMap fAc).toArray
 generalize hZ:madeCells (Value.cells (.agg #[.int .i64 0,.int .i64 0,.int .i64 0,.slice none 0 0,.slice none 0 0,.int .i64 0,.slice none 0 0,.int .i64 0])) (l.length*8)=Z at *;have HO:Aside (SeqOwn fAc 8 56 ((w.alloc (.cells Z 56)).setRow w.heap.size (l.flatMap fAc).toArray) w.heap.size (.slice (some ⟨w.heap.size,0,none⟩) l.length l.length) l/\Below w.heap.size w ((w.alloc (.cells Z 56)).setRow w.heap.size (l.flatMap fAc).toArray)):=⟨hO,hb⟩
 clear hO hb hZ hS;generalize l.length=L at *
 go_enter Tryz.func59,Tryz.ntmps59
 go_wp2
 go_ret
 exact⟨_,rfl,Nat.le_refl _,HO.out.1,HO.out.2⟩
end
section
open Go.RowKit
theorem cin_any (n lo hi:Int) (w:World) :
  Calls Tryz.prog 67 #[.int .i64 n,.int .i64 lo,.int .i64 hi] w fun e w'=>e=.returned (.bool (decide (lo<=n) && decide (n<=hi)))/\w'=w:=by
 go_enter Tryz.func67,Tryz.ntmps67
 go_wp2
 all_goals
  go_ret
  refine⟨cret_bool ?_,rfl⟩
  go_light
  simp[*] <;> omega
end
section
open Go.RowKit
theorem refHasB_any (op:Int) (w:World) :
  Calls Tryz.prog 145 #[.int .i64 op] w fun e w'=>e=.returned (.bool (bOf op))/\w'=w:=by
 go_enter Tryz.func145,Tryz.ntmps145
 go_wp2_with (go_at_call 67;refine(cin_any _ _ _ _).mono ?_;rintro e w' ⟨rfl,rfl⟩)
 all_goals
  go_ret
  refine⟨cret_bool ?_,rfl⟩
  go_light
  simp_all [bOf]
end
section
open Go.RowKit
structure SameFa (fa:Fa) (x:Ac):Prop where
 kind:fa.kind=x.kind
 par:fa.par=x.par
 M:fa.M=x.M
 on:fa.on=x.obs.length
 rn:fa.rn=x.regs.length
 pc:fa.pc=x.pc
 bn:fa.bn=x.box.length
 fin:fa.fin=x.fin
 rlen:16*x.regs.length<=140737488351232
 blen:16*x.box.length<=140737488351232
structure Points (w:World) (fa:Fa) (x:Ac):Prop where
 same:SameFa fa x
 obs:ObsAt w fa.oa x.obs
 regs:ValsAt w fa.ra x.regs
 box:ValsAt w fa.ba x.box
theorem Points.keeps {w w':World} {fa:Fa} {x:Ac} (h:Points w fa x) (k:Keeps w w'):Points w' fa x:=⟨h.same,h.obs.keeps k,h.regs.keeps k,h.box.keeps k⟩
theorem acts_rows {w:World} {ao:Option Addr} {l:List Ac} (h:ActsAt w ao l):∃ fl:List Fa,fl.length=l.length/\SeqAt fAc 8 w ao fl/\∀ (j:Nat) fa x,fl[j]?=some fa->l[j]?=some x->Points w fa x:=by
 obtain⟨F,hF⟩:∃ F:Nat->Fa,∀ i,i<l.length->∀ x,l[i]?=some x->(∃ b o,ao=some ⟨b,o,none⟩/\∀ (j:Nat) u,(fAc (F i))[j]?=some u->w.cell? ⟨b,o+i*8+j,none⟩=some u)/\Points w (F i) x:=by
  have:∀ i,∃ fa:Fa,i<l.length->∀ x,l[i]?=some x->(∃ b o,ao=some ⟨b,o,none⟩/\∀ (j:Nat) u,(fAc fa)[j]?=some u->w.cell? ⟨b,o+i*8+j,none⟩=some u)/\Points w fa x:=fun i=>by
   by_cases hi:i<l.length
   ·obtain⟨x,hx⟩:=at_some hi
    obtain⟨b,o,oa,oc,ra,rc,ba,bc,e,A⟩:=h.cell i x hx;refine⟨⟨x.kind,x.par,x.M,oa,x.obs.length,oc,ra,x.regs.length,rc,x.pc,ba,x.box.length,bc,x.fin⟩,fun _ y hy=>?_⟩;rw[hx] at hy;simp only[Option.some.injEq] at hy;subst hy;refine⟨⟨b,o,e,fun j u hu=>?_⟩,⟨⟨rfl,rfl,rfl,rfl,rfl,rfl,rfl,rfl,A.rlen,A.blen⟩,A.obs,A.regs,A.box⟩⟩
    match j,hu with
    | 0,hu=>simp[fAc] at hu;subst hu;exact A.c0
    | 1,hu=>simp[fAc] at hu;subst hu;exact A.c1
    | 2,hu=>simp[fAc] at hu;subst hu;exact A.c2
    | 3,hu=>simp[fAc] at hu;subst hu;exact A.c3
    | 4,hu=>simp[fAc] at hu;subst hu;exact A.c4
    | 5,hu=>simp[fAc] at hu;subst hu;exact A.c5
    | 6,hu=>simp[fAc] at hu;subst hu;exact A.c6
    | 7,hu=>simp[fAc] at hu;subst hu;exact A.c7
    | j+8,hu=>simp[fAc] at hu
   ·exact⟨⟨0,0,0,none,0,0,none,0,0,0,none,0,0,0⟩,fun h=>absurd h hi⟩
  exact⟨fun i=>(this i).choose,fun i hi=>(this i).choose_spec hi⟩
 have get:∀ {j:Nat} {fa:Fa},((List.range l.length).map F)[j]?=some fa->j<l.length/\F j=fa:=fun {j fa} hj=>by
  rw[List.getElem?_map] at hj;obtain⟨k,hk,e⟩:=Option.map_eq_some_iff.1 hj;obtain⟨hlt,e2⟩:=List.getElem?_eq_some_iff.1 hk;simp at hlt e2;subst e2;exact⟨hlt,e⟩
 refine⟨(List.range l.length).map F,by simp,fun i fa hi=>?_,fun j fa x hj hx=>?_⟩
 ·obtain⟨hlt,rfl⟩:=get hi
  obtain⟨x,hx⟩:=at_some hlt;exact(hF i hlt x hx).1
 ·obtain⟨hlt,rfl⟩:=get hj
  exact(hF j hlt x hx).2
def Agree (B:Nat) (a b:World):Prop:=a.heap.size<=b.heap.size/\∀ k,B<=k->k<a.heap.size->b.heap[k]?=a.heap[k]?
theorem Agree.trans {B:Nat} {a b c:World} (h:Agree B a b) (k:Agree B b c):Agree B a c:=⟨Nat.le_trans h.1 k.1,fun j h1 h2=>(k.2 j h1 (Nat.lt_of_lt_of_le h2 h.1)).trans (h.2 j h1 h2)⟩
theorem Agree.below {B:Nat} {a b:World} (h:Below a.heap.size a b):Agree B a b:=⟨h.size,fun k _ hk=>h.block k hk⟩
theorem Agree.set {B g:Nat} (a:World) (hg:g<B) (j:Nat) (u:Value):Agree B a (a.setCell ⟨g,j,none⟩ u):=⟨by simp[World.setCell],fun k hk _=>Deep.blk_setCell_other _ ⟨g,j,none⟩ _ _ (by show k≠g;omega)⟩
theorem ownsRow_agree {w w':World} {B:Nat} {e:TypeId} {s n:Nat} {v:Value} {xs:List Value} (h:w.ownsRow B e s v n xs) (ha:Agree B w w'):w'.ownsRow B e s v n xs :=
 ⟨h.1,by
  rcases h.2 with h0 | ⟨g,cap,cur,e1,hb,hg,hr⟩
  ·exact .inl h0
  ·exact .inr ⟨g,cap,cur,e1,hb,(ha.2 g hb (Array.getElem?_eq_some_iff.1 hg).1).trans hg,hr⟩⟩
theorem HeapOwn.agree {w w':World} {B:Nat} {v:Value} {rows:List (Value × Ob)} (h:HeapOwn w B v rows) (ha:Agree B w w'):HeapOwn w' B v rows :=
 ⟨ownsRow_agree h.top ha,fun i p hp=>⟨ownsRow_agree (h.row i p hp).1 ha,(h.row i p hp).2⟩,h.apart,h.many⟩
end
end Go.Proofs.YtihpkcccfgbcmaaGreatDoor
