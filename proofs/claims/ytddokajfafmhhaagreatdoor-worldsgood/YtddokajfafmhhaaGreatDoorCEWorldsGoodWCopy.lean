/- HAppG WRow WCopied WCopy. -/
import Derived.Test.YtddokajfafmhhaaGreatDoorCBHClone
namespace Go.Proofs.YtddokajfafmhhaaGreatDoor
set_option maxRecDepth 100000
set_option maxHeartbeats 8000000
section
open Go.RowKit
section
variable {α:Type} {f:α→List Value} {s:Nat} {e tS:TypeId} {bytes:Nat} {P:Program}
theorem SeqOwn.lt {w:World} {base g n c o:Nat} {l:List α} (h:SeqOwn f s e w base (.slice (some ⟨g,o,none⟩) n c) l):base≤g∧g < w.heap.size:=by
 rcases ownsRow_shape h with ⟨hv,_⟩ | ⟨g',cap,hv,h1,h2⟩
 ·simp at hv
 ·simp only [Value.slice.injEq,Option.some.injEq,Addr.mk.injEq,and_true] at hv
  rw [hv.1.1]
  exact ⟨h1,h2⟩
end
end
section
open Go.RowKit
theorem seqTl_of {w:World} {ao:Option Addr} {l:List (Int × Int)} (h:ToldAt w ao l):SeqAt fTl 2 w ao l:=fun i x hx=>by
 obtain ⟨b,o,e,h1,h2⟩:=h.cell i x hx
 refine ⟨b,o,e,fun j u hu=>?_⟩
 match j,hu with
 | 0,hu=>simp [fTl] at hu;subst hu;exact h1
 | 1,hu=>simp [fTl] at hu;subst hu;exact h2
 | j+2,hu=>simp [fTl] at hu
end
section
open Go.RowKit
section
variable {α:Type} {f:α→List Value} {s:Nat} {e tS:TypeId} {bytes:Nat} {P:Program}
theorem run_copied (T:RowT P f s tS e bytes) (ty:TypeId) (l:List α) (la:Option Addr) (lc:Nat) (w:World) (hS:SeqAt f s w la l) (z:Array Value) (hz:z.size=l.length*s) :
  (Builtin.copy_ #[tS,tS] ty #[.slice (some ⟨w.heap.size,0,none⟩) l.length l.length,.slice la l.length lc]).run P (w.alloc (.cells z e))=.ok (goInt l.length) ((w.alloc (.cells z e)).setRow w.heap.size (l.flatMap f).toArray):=by
 obtain ⟨zv,hinfo,_⟩:=T.info
 have hsz:(P.info? e).map (·.size)=some s:=by
  obtain ⟨i,hi,hzz⟩:=Option.map_eq_some_iff.1 hinfo
  simp only [Prod.mk.injEq] at hzz
  rw [hi];simp [hzz.2.1]
 refine run_copy_full s _ tS tS ty e T.sl hsz w.heap.size l.length l.length la lc z e (Deep.blk_alloc_new w _) (l.flatMap f) (flat_length T.len _) (by rw [hz,flat_length T.len]) (fun h0=>?_) (seq_one T _)
 obtain ⟨ad,rfl,hsrc⟩:=seq_src T.len T.pos (hS.keeps (Keeps.alloc w (.cells z e))) h0
 exact ⟨ad,rfl,hsrc⟩
theorem own_copied (T:RowT P f s tS e bytes) (l:List α) (w:World) (z:Array Value) (hl:l.length≤maxLen):SeqOwn f s e ((w.alloc (.cells z e)).setRow w.heap.size (l.flatMap f).toArray) w.heap.size (.slice (some ⟨w.heap.size,0,none⟩) l.length l.length) l :=
 ⟨flat_length T.len _,.inr ⟨w.heap.size,l.length,_,rfl,Nat.le_refl _,setRow_heap _ _ _ _ _ _ (Deep.blk_alloc_new w _),Nat.le_refl _,hl,by simp [flat_length T.len],by
  exact List.take_of_length_le (by rw [flat_length T.len l];exact Nat.le_refl _)⟩⟩
end
theorem madeCells_size (z:Array Value) (n:Nat):(madeCells z n).size=n:=by simp [madeCells]
theorem copiedVals_any (l:List Vl) (la:Option Addr) (lc:Nat) (w:World) (hS:SeqAt fVl 2 w la l) (hl:16*l.length≤140737488351232) :
  Calls Tryz.prog 39 #[.slice la l.length lc] w fun e w'=>∃ g,e=.returned (.slice (some ⟨g,0,none⟩) l.length l.length)∧w.heap.size≤g∧SeqOwn fVl 2 86 w' w.heap.size (.slice (some ⟨g,0,none⟩) l.length l.length) l∧Below w.heap.size w w':=by
 have hmx:maxLen=9223372036854775807:=rfl
 have hmk:=run_make_wide (P:=Tryz.prog) 2 40 86 _ 16 Tryz.underlying40 (show (Tryz.prog.info? 86).map (fun i=>(i.zero,i.size,i.bytes))=some (some (.agg #[.int .i64 0,.int .i64 0]),2,16) by kernel_rfl) .i64 .i64 l.length (by omega) (by omega)
 have hcp:=run_copied Tryz.rowVl 3 l la lc w hS (madeCells (Value.cells (.agg #[.int .i64 0,.int .i64 0])) (l.length*2)) (madeCells_size _ _)
 have hO:=own_copied Tryz.rowVl l w (madeCells (Value.cells (.agg #[.int .i64 0,.int .i64 0])) (l.length*2)) (by omega)
 have hb:=below_setRow (below_box w (.cells (madeCells (Value.cells (.agg #[.int .i64 0,.int .i64 0])) (l.length*2)) 86)) (Nat.le_refl _) (l.flatMap fVl).toArray
 generalize hZ:madeCells (Value.cells (.agg #[.int .i64 0,.int .i64 0])) (l.length*2)=Z at *
 have HO:Aside (SeqOwn fVl 2 86 ((w.alloc (.cells Z 86)).setRow w.heap.size (l.flatMap fVl).toArray) w.heap.size (.slice (some ⟨w.heap.size,0,none⟩) l.length l.length) l∧Below w.heap.size w ((w.alloc (.cells Z 86)).setRow w.heap.size (l.flatMap fVl).toArray)):=⟨hO,hb⟩
 clear hO hb hZ hS
 generalize l.length=L at *
 go_enter Tryz.func39,Tryz.ntmps39
 go_wp2
 go_ret
 exact ⟨_,rfl,Nat.le_refl _,HO.out.1,HO.out.2⟩
theorem copiedTold_any (l:List (Int × Int)) (la:Option Addr) (lc:Nat) (w:World) (hS:SeqAt fTl 2 w la l) (hl:16*l.length≤140737488351232) :
  Calls Tryz.prog 40 #[.slice la l.length lc] w fun e w'=>∃ g,e=.returned (.slice (some ⟨g,0,none⟩) l.length l.length)∧w.heap.size≤g∧SeqOwn fTl 2 71 w' w.heap.size (.slice (some ⟨g,0,none⟩) l.length l.length) l∧Below w.heap.size w w':=by
 have hmx:maxLen=9223372036854775807:=rfl
 have hmk:=run_make_wide (P:=Tryz.prog) 2 27 71 _ 16 Tryz.underlying27 (show (Tryz.prog.info? 71).map (fun i=>(i.zero,i.size,i.bytes))=some (some (.agg #[.int .i64 0,.int .i64 0]),2,16) by kernel_rfl) .i64 .i64 l.length (by omega) (by omega)
 have hcp:=run_copied Tryz.rowTl 3 l la lc w hS (madeCells (Value.cells (.agg #[.int .i64 0,.int .i64 0])) (l.length*2)) (madeCells_size _ _)
 have hO:=own_copied Tryz.rowTl l w (madeCells (Value.cells (.agg #[.int .i64 0,.int .i64 0])) (l.length*2)) (by omega)
 have hb:=below_setRow (below_box w (.cells (madeCells (Value.cells (.agg #[.int .i64 0,.int .i64 0])) (l.length*2)) 71)) (Nat.le_refl _) (l.flatMap fTl).toArray
 generalize hZ:madeCells (Value.cells (.agg #[.int .i64 0,.int .i64 0])) (l.length*2)=Z at *
 have HO:Aside (SeqOwn fTl 2 71 ((w.alloc (.cells Z 71)).setRow w.heap.size (l.flatMap fTl).toArray) w.heap.size (.slice (some ⟨w.heap.size,0,none⟩) l.length l.length) l∧Below w.heap.size w ((w.alloc (.cells Z 71)).setRow w.heap.size (l.flatMap fTl).toArray)):=⟨hO,hb⟩
 clear hO hb hZ hS
 generalize l.length=L at *
 go_enter Tryz.func40,Tryz.ntmps40
 go_wp2
 go_ret
 exact ⟨_,rfl,Nat.le_refl _,HO.out.1,HO.out.2⟩
theorem copiedActs_any (l:List Fa) (la:Option Addr) (lc:Nat) (w:World) (hS:SeqAt fAc 8 w la l) (hl:112*l.length≤140737488351232) :
  Calls Tryz.prog 37 #[.slice la l.length lc] w fun e w'=>∃ g,e=.returned (.slice (some ⟨g,0,none⟩) l.length l.length)∧w.heap.size≤g∧SeqOwn fAc 8 42 w' w.heap.size (.slice (some ⟨g,0,none⟩) l.length l.length) l∧Below w.heap.size w w':=by
 have hmx:maxLen=9223372036854775807:=rfl
 have hmk:=run_make_wide (P:=Tryz.prog) 8 26 42 _ 112 Tryz.underlying26 (show (Tryz.prog.info? 42).map (fun i=>(i.zero,i.size,i.bytes))=some (some (.agg #[.int .i64 0,.int .i64 0,.int .i64 0,.slice none 0 0,.slice none 0 0,.int .i64 0,.slice none 0 0,.int .i64 0]),8,112) by kernel_rfl) .i64 .i64 l.length (by omega) (by omega)
 have hcp:=run_copied Tryz.rowAc 3 l la lc w hS (madeCells (Value.cells (.agg #[.int .i64 0,.int .i64 0,.int .i64 0,.slice none 0 0,.slice none 0 0,.int .i64 0,.slice none 0 0,.int .i64 0])) (l.length*8)) (madeCells_size _ _)
 have hO:=own_copied Tryz.rowAc l w (madeCells (Value.cells (.agg #[.int .i64 0,.int .i64 0,.int .i64 0,.slice none 0 0,.slice none 0 0,.int .i64 0,.slice none 0 0,.int .i64 0])) (l.length*8)) (by omega)
 have hb:=below_setRow (below_box w (.cells (madeCells (Value.cells (.agg #[.int .i64 0,.int .i64 0,.int .i64 0,.slice none 0 0,.slice none 0 0,.int .i64 0,.slice none 0 0,.int .i64 0])) (l.length*8)) 42)) (Nat.le_refl _) (l.flatMap fAc).toArray
 generalize hZ:madeCells (Value.cells (.agg #[.int .i64 0,.int .i64 0,.int .i64 0,.slice none 0 0,.slice none 0 0,.int .i64 0,.slice none 0 0,.int .i64 0])) (l.length*8)=Z at *
 have HO:Aside (SeqOwn fAc 8 42 ((w.alloc (.cells Z 42)).setRow w.heap.size (l.flatMap fAc).toArray) w.heap.size (.slice (some ⟨w.heap.size,0,none⟩) l.length l.length) l∧Below w.heap.size w ((w.alloc (.cells Z 42)).setRow w.heap.size (l.flatMap fAc).toArray)):=⟨hO,hb⟩
 clear hO hb hZ hS
 generalize l.length=L at *
 go_enter Tryz.func37,Tryz.ntmps37
 go_wp2
 go_ret
 exact ⟨_,rfl,Nat.le_refl _,HO.out.1,HO.out.2⟩
end
section
open Go.RowKit
structure SameFa (fa:Fa) (x:Ac):Prop where
 kind:fa.kind=x.kind
 par:fa.par=x.par
 M:fa.M=x.M
 on:fa.on=x.obs.length
 rn:fa.rn=x.regs.length
 pc:fa.pc=x.pc
 bn:fa.bn=x.box.length
 fin:fa.fin=x.fin
 rlen:16*x.regs.length≤140737488351232
 blen:16*x.box.length≤140737488351232
structure Points (w:World) (fa:Fa) (x:Ac):Prop where
 same:SameFa fa x
 obs:ObsAt w fa.oa x.obs
 regs:ValsAt w fa.ra x.regs
 box:ValsAt w fa.ba x.box
theorem Points.keeps {w w':World} {fa:Fa} {x:Ac} (h:Points w fa x) (k:Keeps w w'):Points w' fa x:=⟨h.same,h.obs.keeps k,h.regs.keeps k,h.box.keeps k⟩
theorem acts_rows {w:World} {ao:Option Addr} {l:List Ac} (h:ActsAt w ao l):∃ fl:List Fa,fl.length=l.length∧SeqAt fAc 8 w ao fl∧∀ (j:Nat) fa x,fl[j]?=some fa→l[j]?=some x→Points w fa x:=by
 obtain ⟨F,hF⟩:∃ F:Nat→Fa,∀ i,i < l.length→∀ x,l[i]?=some x→(∃ b o,ao=some ⟨b,o,none⟩∧∀ (j:Nat) u,(fAc (F i))[j]?=some u→w.cell? ⟨b,o+i*8+j,none⟩=some u)∧Points w (F i) x:=by
  have:∀ i,∃ fa:Fa,i < l.length→∀ x,l[i]?=some x→(∃ b o,ao=some ⟨b,o,none⟩∧∀ (j:Nat) u,(fAc fa)[j]?=some u→w.cell? ⟨b,o+i*8+j,none⟩=some u)∧Points w fa x:=fun i=>by
   by_cases hi:i < l.length
   ·obtain ⟨x,hx⟩:=at_some hi
    obtain ⟨b,o,oa,oc,ra,rc,ba,bc,e,A⟩:=h.cell i x hx
    refine ⟨⟨x.kind,x.par,x.M,oa,x.obs.length,oc,ra,x.regs.length,rc,x.pc,ba,x.box.length,bc,x.fin⟩,fun _ y hy=>?_⟩
    rw [hx] at hy
    simp only [Option.some.injEq] at hy
    subst hy
    refine ⟨⟨b,o,e,fun j u hu=>?_⟩,⟨⟨rfl,rfl,rfl,rfl,rfl,rfl,rfl,rfl,A.rlen,A.blen⟩,A.obs,A.regs,A.box⟩⟩
    match j,hu with
    | 0,hu=>simp [fAc] at hu;subst hu;exact A.c0
    | 1,hu=>simp [fAc] at hu;subst hu;exact A.c1
    | 2,hu=>simp [fAc] at hu;subst hu;exact A.c2
    | 3,hu=>simp [fAc] at hu;subst hu;exact A.c3
    | 4,hu=>simp [fAc] at hu;subst hu;exact A.c4
    | 5,hu=>simp [fAc] at hu;subst hu;exact A.c5
    | 6,hu=>simp [fAc] at hu;subst hu;exact A.c6
    | 7,hu=>simp [fAc] at hu;subst hu;exact A.c7
    | j+8,hu=>simp [fAc] at hu
   ·exact ⟨⟨0,0,0,none,0,0,none,0,0,0,none,0,0,0⟩,fun h=>absurd h hi⟩
  exact ⟨fun i=>(this i).choose,fun i hi=>(this i).choose_spec hi⟩
 have get:∀ {j:Nat} {fa:Fa},((List.range l.length).map F)[j]?=some fa→j < l.length∧F j=fa:=fun {j fa} hj=>by
  rw [List.getElem?_map] at hj
  obtain ⟨k,hk,e⟩:=Option.map_eq_some_iff.1 hj
  obtain ⟨hlt,e2⟩:=List.getElem?_eq_some_iff.1 hk
  simp at hlt e2
  subst e2
  exact ⟨hlt,e⟩
 refine ⟨(List.range l.length).map F,by simp,fun i fa hi=>?_,fun j fa x hj hx=>?_⟩
 ·obtain ⟨hlt,rfl⟩:=get hi
  obtain ⟨x,hx⟩:=at_some hlt
  exact (hF i hlt x hx).1
 ·obtain ⟨hlt,rfl⟩:=get hj
  exact (hF j hlt x hx).2
theorem rows_acts {w:World} {ao:Option Addr} {l:List Ac} {fl:List Fa} (hn:fl.length=l.length) (hS:SeqAt fAc 8 w ao fl) (hP:∀ (j:Nat) fa x,fl[j]?=some fa→l[j]?=some x→Points w fa x) (hm:112*l.length≤140737488351232):ActsAt w ao l :=
 ⟨fun i x hx=>by
  have hi:i < fl.length:=by rw [hn];exact (List.getElem?_eq_some_iff.1 hx).1
  obtain ⟨fa,hfa⟩:=at_some hi
  obtain ⟨b,o,e,hc⟩:=hS i fa hfa
  have P:=hP i fa x hfa hx
  obtain ⟨kind,par,M,oa,on,oc,ra,rn,rc,pc,ba,bn,bc,fin⟩:=fa
  obtain ⟨⟨rfl,rfl,rfl,rfl,rfl,rfl,rfl,rfl,rl,bl⟩,h1,h2,h3⟩:=P
  exact ⟨b,o,oa,oc,ra,rc,ba,bc,e,hc 0 _ rfl,hc 1 _ rfl,hc 2 _ rfl,hc 3 _ rfl,hc 4 _ rfl,hc 5 _ rfl,hc 6 _ rfl,hc 7 _ rfl,h1,h2,h3,rl,bl⟩,hm⟩
def Agree (B:Nat) (a b:World):Prop:=a.heap.size≤b.heap.size∧∀ k,B≤k→k < a.heap.size→b.heap[k]?=a.heap[k]?
theorem Agree.trans {B:Nat} {a b c:World} (h:Agree B a b) (k:Agree B b c):Agree B a c:=⟨Nat.le_trans h.1 k.1,fun j h1 h2=>(k.2 j h1 (Nat.lt_of_lt_of_le h2 h.1)).trans (h.2 j h1 h2)⟩
theorem Agree.below {B:Nat} {a b:World} (h:Below a.heap.size a b):Agree B a b:=⟨h.size,fun k _ hk=>h.block k hk⟩
theorem Agree.set {B g:Nat} (a:World) (hg:g < B) (j:Nat) (u:Value):Agree B a (a.setCell ⟨g,j,none⟩ u):=⟨by simp [World.setCell],fun k hk _=>Deep.blk_setCell_other _ ⟨g,j,none⟩ _ _ (by show k≠g;omega)⟩
theorem ownsRow_agree {w w':World} {B:Nat} {e:TypeId} {s n:Nat} {v:Value} {xs:List Value} (h:w.ownsRow B e s v n xs) (ha:Agree B w w'):w'.ownsRow B e s v n xs :=
 ⟨h.1,by
  rcases h.2 with h0 | ⟨g,cap,cur,e1,hb,hg,hr⟩
  ·exact .inl h0
  ·exact .inr ⟨g,cap,cur,e1,hb,(ha.2 g hb (Array.getElem?_eq_some_iff.1 hg).1).trans hg,hr⟩⟩
theorem HeapOwn.agree {w w':World} {B:Nat} {v:Value} {rows:List (Value × Ob)} (h:HeapOwn w B v rows) (ha:Agree B w w'):HeapOwn w' B v rows :=
 ⟨ownsRow_agree h.top ha,fun i p hp=>⟨ownsRow_agree (h.row i p hp).1 ha,(h.row i p hp).2⟩,h.apart,h.many⟩
structure Owned (w:World) (B:Nat) (fa:Fa) (x:Ac):Prop where
 same:SameFa fa x
 obs:∃ rows,rows.map (·.2)=x.obs∧HeapOwn w B (.slice fa.oa fa.on fa.oc) rows
 regs:SeqOwn fVl 2 86 w B (.slice fa.ra fa.rn fa.rc) x.regs
 box:SeqOwn fVl 2 86 w B (.slice fa.ba fa.bn fa.bc) x.box
theorem Owned.agree {w w':World} {B:Nat} {fa:Fa} {x:Ac} (h:Owned w B fa x) (ha:Agree B w w'):Owned w' B fa x:=by
 obtain ⟨rows,hr,hO⟩:=h.obs
 exact ⟨h.same,⟨rows,hr,hO.agree ha⟩,ownsRow_agree h.regs ha,ownsRow_agree h.box ha⟩
theorem Owned.points {w:World} {B:Nat} {fa:Fa} {x:Ac} (h:Owned w B fa x):Points w fa x:=by
 obtain ⟨rows,hr,hO⟩:=h.obs
 refine ⟨h.same,?_,seqVl_to (SeqOwn.at (f:=fVl) (s:=2) (fun _=>rfl) h.regs),seqVl_to (SeqOwn.at (f:=fVl) (s:=2) (fun _=>rfl) h.box)⟩
 rw [← hr]
 exact hO.obs.2
def CpMid (W:World) (acts:List Ac) (fl:List Fa) (g B L:Nat) (i:Nat) (wr:World):Prop :=
 ∃ fl':List Fa,fl'.length=L∧SeqOwn fAc 8 42 wr W.heap.size (.slice (some ⟨g,0,none⟩) L L) fl'∧(∀ (j:Nat) fa x,j < i→fl'[j]?=some fa→acts[j]?=some x→Owned wr B fa x)∧(∀ j,i≤j→fl'[j]?=fl[j]?)∧Below W.heap.size W wr∧B≤wr.heap.size
theorem copy_any (aa pa:Option Addr) (ac pc:Nat) (V:Wd) (w:World) (ha:ActsAt w aa V.acts) (hp:ToldAt w pa V.prints) :
  Calls Tryz.prog 14 #[.agg #[.slice aa V.acts.length ac,.slice pa V.prints.length pc]] w fun e w'=>∃ ga gp,e=.returned (.agg #[.slice (some ⟨ga,0,none⟩) V.acts.length V.acts.length,.slice (some ⟨gp,0,none⟩) V.prints.length V.prints.length])∧Below w.heap.size w w'∧ActsAt w' (some ⟨ga,0,none⟩) V.acts∧ToldAt w' (some ⟨gp,0,none⟩) V.prints:=by
 obtain ⟨B0,B1,k1,b1,s1⟩:=boxes2 w (.cells #[.slice aa V.acts.length ac,.slice pa V.prints.length pc] 29) (.cells #[.slice none 0 0,.slice none 0 0] 29)
 obtain ⟨fl,hfl,hS,hPt⟩:=acts_rows ha
 have hm:=ha.many
 have hm2:=hp.many
 obtain ⟨L,hL⟩:∃ L,L=V.acts.length:=⟨_,rfl⟩
 obtain ⟨K,hK⟩:∃ K,K=V.prints.length:=⟨_,rfl⟩
 have HL:Aside (L=V.acts.length∧K=V.prints.length∧fl.length=L):=⟨hL,hK,hfl.trans hL.symm⟩
 rw [← hL] at hm B0 B1 k1 b1 s1 ⊢
 rw [← hK] at hm2 B0 B1 k1 b1 s1 ⊢
 clear hL hK hfl
 go_enter Tryz.func14,Tryz.ntmps14
 go_wp2_with fail
 generalize (w.alloc (.cells #[.slice aa L ac,.slice pa K pc] 29)).alloc (.cells #[.slice none 0 0,.slice none 0 0] 29)=W at *
 have hcp:=copiedActs_any fl aa ac W (hS.keeps k1) (by rw [HL.out.2.2];exact hm)
 rw [HL.out.2.2] at hcp
 refine hcp.mono ?_
 rintro e w1 ⟨g,rfl,hg,hO,hb1⟩
 have hPW:∀ (j:Nat) fa x,fl[j]?=some fa→V.acts[j]?=some x→Points W fa x:=fun j fa x h1 h2=>(hPt j fa x h1 h2).keeps k1
 have HMid:Aside (CpMid W V.acts fl g w1.heap.size L 0 w1):=⟨fl,HL.out.2.2,hO,fun j fa x hj=>by omega,fun j _=>rfl,hb1,Nat.le_refl _⟩
 have hgl:g < w1.heap.size:=(hO.lt).2
 have HPW:Aside (∀ (j:Nat) fa x,fl[j]?=some fa→V.acts[j]?=some x→Points W fa x):=hPW
 clear hO hb1 hPt hS hcp hPW ha
 generalize w1.heap.size=B at *
 go_wp2_with fail
 go_loopg [11] L (fun gg s11 wr=>∃ i:Nat,i≤L∧gg=L - i∧s11=.int .i64 i∧CpMid W V.acts fl g B L i wr)
 case atStart=>exact ⟨0,Nat.zero_le _,rfl,rfl,HMid.out⟩
 case round =>
  obtain ⟨i,hi,rfl,rfl,hmid⟩:=hrel
  clear HMid
  obtain ⟨fl',hlen,hO,hown,hrest,hbr,hB⟩:=hmid
  have HX:Aside (fl'.length=L∧(∀ (j:Nat) fa x,j < i→fl'[j]?=some fa→V.acts[j]?=some x→Owned wr B fa x)∧(∀ j,i≤j→fl'[j]?=fl[j]?)):=⟨hlen,hown,hrest⟩
  clear hlen hown hrest
  by_cases hiL:i < L
  ·have hiz:(i:Int) < (L:Int):=by omega
   obtain ⟨fa,hfa⟩:=at_some (l:=fl') (i:=i) (by rw [HX.out.1];exact hiL)
   obtain ⟨x,hx⟩:=at_some (l:=V.acts) (i:=i) (by rw [← HL.out.1];exact hiL)
   have hPx:=HPW.out i fa x (by rw [← HX.out.2.2 i (Nat.le_refl _)];exact hfa) hx
   obtain ⟨kind,par,M,oa,on,oc,ra,rn,rc,pc',ba,bn,bc,fin⟩:=fa
   obtain ⟨kind',par',M',obs,regs,pc2,box,fin'⟩:=x
   obtain ⟨⟨h1,h2,h3,h4,h5,h6,h7,h8,hrl,hbl⟩,vo,vr,vb⟩:=hPx
   simp only at h1 h2 h3 h4 h5 h6 h7 h8 hrl hbl vo vr vb
   subst h1 h2 h3 h4 h5 h6 h7 h8
   have HF:Aside (fl'[i]?=some ⟨kind,par,M,oa,obs.length,oc,ra,regs.length,rc,pc',ba,box.length,bc,fin⟩∧V.acts[i]?=some ⟨kind,par,M,obs,regs,pc',box,fin⟩):=⟨hfa,hx⟩
   clear hfa hx
   obtain ⟨b',o',e',hc⟩:=SeqOwn.at (f:=fAc) (s:=8) (fun _=>rfl) hO i _ HF.out.1
   simp only [Option.some.injEq,Addr.mk.injEq,and_true] at e'
   obtain ⟨rfl,rfl⟩:=e'
   have i0:=hc 0 _ rfl
   have i1:=hc 1 _ rfl
   have i2:=hc 2 _ rfl
   have i3:=hc 3 _ rfl
   have i4:=hc 4 _ rfl
   have i5:=hc 5 _ rfl
   have i6:=hc 6 _ rfl
   have i7:=hc 7 _ rfl
   simp only [Nat.zero_add,Nat.add_zero] at i0 i1 i2 i3 i4 i5 i6 i7
   clear hc
   obtain ⟨E0,kx,bx,sx⟩:=boxes1 wr (.cells #[.int .i64 kind,.int .i64 par,.int .i64 M,.slice oa obs.length oc,.slice ra regs.length rc,.int .i64 pc',.slice ba box.length bc,.int .i64 fin] 42)
   go_upto_region 5 with fail
   clear i0 i1 i2 i3 i4 i5 i6 i7
   generalize wr.alloc (.cells #[.int .i64 kind,.int .i64 par,.int .i64 M,.slice oa obs.length oc,.slice ra regs.length rc,.int .i64 pc',.slice ba box.length bc,.int .i64 fin] 42)=Wx at *
   have hOx:=hO.below bx
   have agx:Agree B wr Wx:=Agree.below bx
   have bWx:=hbr.trans (bx.mono hbr.size)
   have e2:=cell_blk E0 2
   have e3:=cell_blk E0 3
   simp at e2 e3
   go_wp2_with fail
   refine (clone_any M oa oc obs Wx (vo.keeps (Keeps.below bWx))).mono ?_
   rintro e w2 ⟨g2,rows,rfl,hrows,hH,hb2⟩
   have hO2:=hOx.below hb2
   have ag2:=agx.trans (Agree.below hb2)
   have bW2:=bWx.trans (hb2.mono bWx.size)
   have E2:=(hb2.block _ (by omega)).trans E0
   have hH2:=hH.le (base':=B) (by omega)
   have hs2:wr.heap.size < w2.heap.size:=by have:=hb2.size;omega
   obtain ⟨b',o',e',hc⟩:=SeqOwn.at (f:=fAc) (s:=8) (fun _=>rfl) hO2 i _ HF.out.1
   simp only [Option.some.injEq,Addr.mk.injEq,and_true] at e'
   obtain ⟨rfl,rfl⟩:=e'
   have j2:=hc 2 _ rfl
   have j3:=hc 3 _ rfl
   simp only [Nat.zero_add] at j2 j3
   have z2:=ownsRow_frozen hO2 rfl (i*8+2)
   have z3:=ownsRow_frozen hO2 rfl (i*8+3)
   clear hc hOx agx bWx E0 hH hb2 e2 e3 kx bx sx
   go_upto_region 6 with fail
   have hO3:=SeqOwn.set1 (f:=fAc) (s:=8) (fun _=>rfl) (SeqOwn.set1 (f:=fAc) (s:=8) (fun _=>rfl) hO2 (k:=2) (u:=.int .i64 M) (y:=⟨kind,par,M,oa,obs.length,oc,ra,regs.length,rc,pc',ba,box.length,bc,fin⟩) HF.out.1 (by omega) rfl) (i:=i) (k:=3) (u:=(.slice (some ⟨g2,0,none⟩) obs.length obs.length)) (x:=⟨kind,par,M,oa,obs.length,oc,ra,regs.length,rc,pc',ba,box.length,bc,fin⟩) (y:=⟨kind,par,M,some ⟨g2,0,none⟩,obs.length,obs.length,ra,regs.length,rc,pc',ba,box.length,bc,fin⟩) (by rw [List.getElem?_set,if_pos rfl,if_pos (by rw [HX.out.1];exact hiL)]) (by omega) rfl
   rw [List.set_set] at hO3
   have ag3:=ag2.trans ((Agree.set w2 hgl (i*8+2) (.int .i64 M)).trans (Agree.set _ hgl (i*8+3) (.slice (some ⟨g2,0,none⟩) obs.length obs.length)))
   have hH3:=hH2.agree ((Agree.set w2 hgl (i*8+2) (.int .i64 M)).trans (Agree.set _ hgl (i*8+3) (.slice (some ⟨g2,0,none⟩) obs.length obs.length)))
   have bW3:=two_below bW2 hg (i*8+2) (i*8+3) (.int .i64 M) (.slice (some ⟨g2,0,none⟩) obs.length obs.length)
   have E3:=(two_other (i*8+2) (i*8+3) (.int .i64 M) (.slice (some ⟨g2,0,none⟩) obs.length obs.length) (show wr.heap.size≠g by omega)).trans E2
   have s3:=two_size w2 g (i*8+2) (i*8+3) (.int .i64 M) (.slice (some ⟨g2,0,none⟩) obs.length obs.length)
   have hs3:wr.heap.size < ((w2.setCell ⟨g,i*8+2,none⟩ (.int .i64 M)).setCell ⟨g,i*8+3,none⟩ (.slice (some ⟨g2,0,none⟩) obs.length obs.length)).heap.size:=by rw [s3];exact hs2
   clear s3 j2 j3 z2 z3 hO2 ag2 hH2 bW2 E2 hs2
   generalize (w2.setCell ⟨g,i*8+2,none⟩ (.int .i64 M)).setCell ⟨g,i*8+3,none⟩ (.slice (some ⟨g2,0,none⟩) obs.length obs.length)=W3 at *
   have e4:=cell_blk E3 4
   simp at e4
   go_wp2_with fail
   refine (copiedVals_any regs ra rc W3 (seqVl_of (vr.keeps (Keeps.below bW3))) hrl).mono ?_
   rintro e w4 ⟨gr,rfl,hgr,hR,hb4⟩
   have q1:=hO3.below hb4
   have r1:SeqOwn fVl 2 86 w4 B (.slice (some ⟨gr,0,none⟩) regs.length regs.length) regs:=ownsRow_le hR (by have:=ag3.1;omega)
   have bA1:=bW3.trans (hb4.mono bW3.size)
   have aA1:Agree B W3 w4:=Agree.below hb4
   have EA1:=(hb4.block _ hs3).trans E3
   have sA1:wr.heap.size < w4.heap.size:=Nat.lt_of_lt_of_le hs3 hb4.size
   obtain ⟨b',o',e',hc⟩:=SeqOwn.at (f:=fAc) (s:=8) (fun _=>rfl) q1 i ⟨kind,par,M,some ⟨g2,0,none⟩,obs.length,obs.length,ra,regs.length,rc,pc',ba,box.length,bc,fin⟩ (by rw [List.getElem?_set,if_pos rfl,if_pos (by rw [HX.out.1];exact hiL)])
   simp only [Option.some.injEq,Addr.mk.injEq,and_true] at e'
   obtain ⟨rfl,rfl⟩:=e'
   have jA:=hc 4 _ rfl
   simp only [Nat.zero_add] at jA
   have zA:=ownsRow_frozen q1 rfl (i*8+4)
   clear hc hR bW3 E3 hs3 hO3 e4
   go_upto_region 7 with fail
   have hO5:=SeqOwn.set1 (f:=fAc) (s:=8) (fun _=>rfl) q1 (i:=i) (k:=4) (u:=(.slice (some ⟨gr,0,none⟩) regs.length regs.length)) (x:=⟨kind,par,M,some ⟨g2,0,none⟩,obs.length,obs.length,ra,regs.length,rc,pc',ba,box.length,bc,fin⟩) (y:=⟨kind,par,M,some ⟨g2,0,none⟩,obs.length,obs.length,some ⟨gr,0,none⟩,regs.length,regs.length,pc',ba,box.length,bc,fin⟩) (by rw [List.getElem?_set,if_pos rfl,if_pos (by rw [HX.out.1];exact hiL)]) (by omega) rfl
   rw [List.set_set] at hO5
   have aB1:=aA1.trans (Agree.set w4 hgl (i*8+4) (.slice (some ⟨gr,0,none⟩) regs.length regs.length))
   have ag5:=ag3.trans aB1
   have bW5:Below W.heap.size W (w4.setCell ⟨g,i*8+4,none⟩ (.slice (some ⟨gr,0,none⟩) regs.length regs.length)):=bA1.setCell hg _
   have E5:=(Deep.blk_setCell_other w4 ⟨g,i*8+4,none⟩ (.slice (some ⟨gr,0,none⟩) regs.length regs.length) _ (show wr.heap.size≠g by omega)).trans EA1
   have hR5:=ownsRow_agree r1 (Agree.set w4 hgl (i*8+4) (.slice (some ⟨gr,0,none⟩) regs.length regs.length))
   have hH5:=hH3.agree aB1
   have hs5:wr.heap.size < (w4.setCell ⟨g,i*8+4,none⟩ (.slice (some ⟨gr,0,none⟩) regs.length regs.length)).heap.size:=by rw [show (w4.setCell ⟨g,i*8+4,none⟩ (.slice (some ⟨gr,0,none⟩) regs.length regs.length)).heap.size=w4.heap.size by simp [World.setCell]];exact sA1
   clear q1 r1 bA1 aA1 EA1 sA1 jA zA aB1 ag3
   generalize w4.setCell ⟨g,i*8+4,none⟩ (.slice (some ⟨gr,0,none⟩) regs.length regs.length)=W5 at *
   have e6:=cell_blk E5 6
   simp at e6
   go_wp2_with fail
   refine (copiedVals_any box ba bc W5 (seqVl_of (vb.keeps (Keeps.below bW5))) hbl).mono ?_
   rintro e w6 ⟨gb,rfl,hgb,hX,hb6⟩
   have q2:=hO5.below hb6
   have r2:SeqOwn fVl 2 86 w6 B (.slice (some ⟨gb,0,none⟩) box.length box.length) box:=ownsRow_le hX (by have:=ag5.1;omega)
   have bA2:=bW5.trans (hb6.mono bW5.size)
   have aA2:Agree B W5 w6:=Agree.below hb6
   have EA2:=(hb6.block _ hs5).trans E5
   have sA2:wr.heap.size < w6.heap.size:=Nat.lt_of_lt_of_le hs5 hb6.size
   obtain ⟨b',o',e',hc⟩:=SeqOwn.at (f:=fAc) (s:=8) (fun _=>rfl) q2 i ⟨kind,par,M,some ⟨g2,0,none⟩,obs.length,obs.length,some ⟨gr,0,none⟩,regs.length,regs.length,pc',ba,box.length,bc,fin⟩ (by rw [List.getElem?_set,if_pos rfl,if_pos (by rw [HX.out.1];exact hiL)])
   simp only [Option.some.injEq,Addr.mk.injEq,and_true] at e'
   obtain ⟨rfl,rfl⟩:=e'
   have jA:=hc 6 _ rfl
   simp only [Nat.zero_add] at jA
   have zA:=ownsRow_frozen q2 rfl (i*8+6)
   clear hc hX bW5 E5 hs5 hO5 e6
   go_upto_region 8 with fail
   have hO7:=SeqOwn.set1 (f:=fAc) (s:=8) (fun _=>rfl) q2 (i:=i) (k:=6) (u:=(.slice (some ⟨gb,0,none⟩) box.length box.length)) (x:=⟨kind,par,M,some ⟨g2,0,none⟩,obs.length,obs.length,some ⟨gr,0,none⟩,regs.length,regs.length,pc',ba,box.length,bc,fin⟩) (y:=⟨kind,par,M,some ⟨g2,0,none⟩,obs.length,obs.length,some ⟨gr,0,none⟩,regs.length,regs.length,pc',some ⟨gb,0,none⟩,box.length,box.length,fin⟩) (by rw [List.getElem?_set,if_pos rfl,if_pos (by rw [HX.out.1];exact hiL)]) (by omega) rfl
   rw [List.set_set] at hO7
   have aB2:=aA2.trans (Agree.set w6 hgl (i*8+6) (.slice (some ⟨gb,0,none⟩) box.length box.length))
   have ag7:=ag5.trans aB2
   have bW7:Below W.heap.size W (w6.setCell ⟨g,i*8+6,none⟩ (.slice (some ⟨gb,0,none⟩) box.length box.length)):=bA2.setCell hg _
   have E7:=(Deep.blk_setCell_other w6 ⟨g,i*8+6,none⟩ (.slice (some ⟨gb,0,none⟩) box.length box.length) _ (show wr.heap.size≠g by omega)).trans EA2
   have hX7:=ownsRow_agree r2 (Agree.set w6 hgl (i*8+6) (.slice (some ⟨gb,0,none⟩) box.length box.length))
   have hH7:=hH5.agree aB2
   have hR7:=ownsRow_agree hR5 aB2
   have hs7:wr.heap.size < (w6.setCell ⟨g,i*8+6,none⟩ (.slice (some ⟨gb,0,none⟩) box.length box.length)).heap.size:=by rw [show (w6.setCell ⟨g,i*8+6,none⟩ (.slice (some ⟨gb,0,none⟩) box.length box.length)).heap.size=w6.heap.size by simp [World.setCell]];exact sA2
   clear q2 r2 bA2 aA2 EA2 sA2 jA zA aB2 ag5
   generalize w6.setCell ⟨g,i*8+6,none⟩ (.slice (some ⟨gb,0,none⟩) box.length box.length)=W7 at *
   have HMid:Aside (CpMid W V.acts fl g B L (i+1) W7):=by
    refine ⟨_,?_,hO7,fun j fa x hj hfa hx=>?_,fun j hj=>?_,bW7,by have:=ag7.1;omega⟩
    ·rw [List.length_set];exact HX.out.1
    ·by_cases hji:j=i
     ·subst hji
      rw [List.getElem?_set,if_pos rfl,if_pos (by rw [HX.out.1];exact hiL)] at hfa
      rw [HF.out.2] at hx
      simp only [Option.some.injEq] at hfa hx
      subst hfa hx
      exact ⟨⟨rfl,rfl,rfl,rfl,rfl,rfl,rfl,rfl,hrl,hbl⟩,⟨rows,hrows,hH7⟩,hR7,hX7⟩
     ·rw [List.getElem?_set,if_neg (fun h=>hji h.symm)] at hfa
      exact (HX.out.2.1 j fa x (by omega) hfa hx).agree ag7
    ·rw [List.getElem?_set,if_neg (by omega)]
     exact HX.out.2.2 j (by omega)
   clear hO7 hH7 hR7 hX7 ag7 bW7 E7 hs7 hO vo vr vb hrows
   go_wp2_with fail
   go_roundg (L - (i+1))
   case measure=>go_light;omega
   case rel=>go_light;exact ⟨i+1,by omega,rfl,by go_num,HMid.out⟩
  ·obtain rfl:i=L:=by omega
   have c1:=Keeps.below hbr _ (.slice pa K pc) (cell_blk B0 1)
   have hpr:=(hp.keeps k1).keeps (Keeps.below hbr)
   have hW1:w.heap.size+1 < W.heap.size:=by omega
   have N1:=(hbr.block _ hW1).trans B1
   have hsr:=hbr.size
   clear B0 B1 hp k1 s1
   go_wp2_with fail
   have hcp:=copiedTold_any V.prints pa pc wr (seqTl_of hpr) (by rw [← HL.out.2.1];exact hm2)
   rw [← HL.out.2.1] at hcp
   refine hcp.mono ?_
   rintro e w6 ⟨gp,rfl,hgp,hTl,hb6⟩
   have N6:=(hb6.block _ (by omega)).trans N1
   have e0:=cell_blk N6 0
   have e1:=cell_blk N6 1
   have g0:=fz_blk N6 0
   have g1:=fz_blk N6 1
   simp at e0 e1
   have bF:=put2_below (b1.trans ((hbr.trans (hb6.mono hbr.size)).mono b1.size)) (Nat.le_succ _) (A:=w.heap.size+1) (.slice (some ⟨g,0,none⟩) i i) (.slice (some ⟨gp,0,none⟩) K K)
   have ag:∀ Q,w.heap.size+1 < Q→Agree Q w6 (put2 w6 (w.heap.size+1) (.slice (some ⟨g,0,none⟩) i i) (.slice (some ⟨gp,0,none⟩) K K)):=fun Q hQ=>(Agree.set w6 hQ 0 (.slice (some ⟨g,0,none⟩) i i)).trans (Agree.set _ hQ 1 (.slice (some ⟨gp,0,none⟩) K K))
   have hO6:=ownsRow_agree hO ((Agree.below hb6).trans (ag _ hW1))
   have hT6:=ownsRow_agree hTl (ag _ (by omega))
   have M:=put2_blk N6 (.slice (some ⟨g,0,none⟩) i i) (.slice (some ⟨gp,0,none⟩) K K)
   have hown:∀ (j:Nat) fa x,fl'[j]?=some fa→V.acts[j]?=some x→Points (put2 w6 (w.heap.size+1) (.slice (some ⟨g,0,none⟩) i i) (.slice (some ⟨gp,0,none⟩) K K)) fa x:=fun j fa x hfa hx=>by
    have hj:j < i:=by rw [HL.out.1];exact (List.getElem?_eq_some_iff.1 hx).1
    exact ((HX.out.2.1 j fa x hj hfa hx).agree ((Agree.below hb6).trans (ag B (by omega)))).points
   have HFin:Aside (ActsAt (put2 w6 (w.heap.size+1) (.slice (some ⟨g,0,none⟩) i i) (.slice (some ⟨gp,0,none⟩) K K)) (some ⟨g,0,none⟩) V.acts∧ToldAt (put2 w6 (w.heap.size+1) (.slice (some ⟨g,0,none⟩) i i) (.slice (some ⟨gp,0,none⟩) K K)) (some ⟨gp,0,none⟩) V.prints) :=
    ⟨rows_acts (HX.out.1.trans HL.out.1) (SeqOwn.at (f:=fAc) (s:=8) (fun _=>rfl) hO6) hown (by rw [← HL.out.1];exact hm),seqTl_to (SeqOwn.at (f:=fTl) (s:=2) (fun _=>rfl) hT6) (by rw [← HL.out.2.1];exact hm2)⟩
   clear hO6 hT6 hown ag hO hTl hpr hcp N1 N6 c1 hb6 hbr
   go_wp2_with fail
   change bodyPost _ _ _ _ _ (put2 w6 (w.heap.size+1) (.slice (some ⟨g,0,none⟩) i i) (.slice (some ⟨gp,0,none⟩) K K))
   generalize put2 w6 (w.heap.size+1) (.slice (some ⟨g,0,none⟩) i i) (.slice (some ⟨gp,0,none⟩) K K)=WF at *
   have m0:=cell_blk M 0
   have m1:=cell_blk M 1
   simp at m0 m1
   exact bodyPost_ret (v:=.agg #[.slice (some ⟨g,0,none⟩) i i,.slice (some ⟨gp,0,none⟩) K K]) (by simp [results,Tryz.results14,go_sem,m0,m1]) rfl ⟨g,gp,rfl,bF,HFin.out.1,HFin.out.2⟩
end
end Go.Proofs.YtddokajfafmhhaaGreatDoor
