/- HAlloc. -/
import Derived.Test.YtepifccbbmdfcaaGreatDoorCBAGet
namespace Go.Proofs.YtepifccbbmdfcaaGreatDoor
set_option maxRecDepth 100000
set_option maxHeartbeats 8000000
section
open Go.RowKit
structure CloneMid (w wr:World) (M:Int) (sv:Value) (L:Nat) (l:List Ob) (i:Nat):Prop where
 below:Below w.heap.size w wr
 box:wr.heap[w.heap.size]?=some (.cells #[.int .i64 M,sv] 47 (0,0))
 res:wr.heap[w.heap.size+1]?=some (.cells #[.int .i64 0,.slice none 0 0] 47 (0,0))
 own:∃ rows,HeapOwn wr (w.heap.size+1+1) (.slice (some ⟨w.heap.size+1+1,0,none⟩) L L) rows/\rows.length=L/\∀ j,j<i->(rows[j]?).map (·.2)=l[j]?
theorem cloneMid_start (w:World) (M:Int) (sv:Value) (L:Nat) (l:List Ob) (hL:32*L<=140737488351232) :
  CloneMid w (((w.alloc (Obj.cells #[Value.int IntKind.i64 M,sv] 47)).alloc (Obj.cells #[Value.int IntKind.i64 0,Value.slice none 0 0] 47)).alloc (Obj.cells (madeCells #[Value.slice none 0 0,Value.bool false] (L*2)) 92)) M sv L l 0:=by
 refine⟨((((Below.refl _ _).alloc (Nat.le_refl _) _).alloc (by simp) _).alloc (by simp;omega) _),?_,?_,⟨List.replicate L (.slice none 0 0,⟨[],false⟩),?_,List.length_replicate,fun j hj=>absurd hj (Nat.not_lt_zero _)⟩⟩
 ·rw[Deep.blk_alloc_lt _ _ _ (by simp;omega),Deep.blk_alloc_lt _ _ _ (by simp)]
  exact Deep.blk_alloc_new w _
 ·rw[Deep.blk_alloc_lt _ _ _ (by simp)]
  have:=Deep.blk_alloc_new (w.alloc (Obj.cells #[Value.int IntKind.i64 M,sv] 47)) (Obj.cells #[Value.int IntKind.i64 0,Value.slice none 0 0] 47)
  simpa using this
 ·have:=heap_made ((w.alloc (Obj.cells #[Value.int IntKind.i64 M,sv] 47)).alloc (Obj.cells #[Value.int IntKind.i64 0,Value.slice none 0 0] 47)) (w.heap.size+1+1) L (by simp) hL
  simpa using this
theorem CloneMid.slot {w wr:World} {M:Int} {sv:Value} {L:Nat} {l:List Ob} {i:Nat} (h:CloneMid w wr M sv L l i) (hi:i<L) :
  ∃ (va:Option Addr) (vb vc:Nat) (d:Bool),(∀ o,(wr.alloc o).cell? ⟨w.heap.size+1+1,i*2,none⟩=some (.slice va vb vc))/\(∀ o,(wr.alloc o).cell? ⟨w.heap.size+1+1,i*2+1,none⟩=some (.bool d)) /\
   (∀ o o',((wr.alloc o).alloc o').cell? ⟨w.heap.size+1+1,i*2,none⟩=some (.slice va vb vc))/\(∀ o o',((wr.alloc o).alloc o').cell? ⟨w.heap.size+1+1,i*2+1,none⟩=some (.bool d)) /\
   (∀ o j,(wr.alloc o).frozen? ⟨w.heap.size+1+1,j,none⟩=false)/\(∀ o o' j,((wr.alloc o).alloc o').frozen? ⟨w.heap.size+1+1,j,none⟩=false):=by
 obtain⟨rows,hO,hl,_⟩:=h.own;obtain⟨⟨rv,ob⟩,hp⟩:=at_some (l:=rows) (i:=i) (by omega);obtain⟨fa,fc,hf⟩:=(hO.row i _ hp).1.form;simp only at hf;subst hf;refine⟨fa,ob.fs.length,fc,ob.dead,fun o=>?_,fun o=>?_,fun o o'=>?_,fun o o'=>?_,fun o j=>?_,fun o o' j=>?_⟩
 ·exact ownsRow_cell (hO.alloc o).top rfl (by simp[obCells,pairs_fst,hp,obPair])
 ·exact ownsRow_cell (hO.alloc o).top rfl (by simp[obCells,pairs_snd,hp,obPair])
 ·exact ownsRow_cell ((hO.alloc o).alloc o').top rfl (by simp[obCells,pairs_fst,hp,obPair])
 ·exact ownsRow_cell ((hO.alloc o).alloc o').top rfl (by simp[obCells,pairs_snd,hp,obPair])
 ·exact ownsRow_frozen (hO.alloc o).top rfl j
 ·exact ownsRow_frozen ((hO.alloc o).alloc o').top rfl j
def cloneW (w wr:World) (i:Nat) (fa:Option Addr) (F fc:Nat) (dead:Bool):World :=
 ((((wr.alloc (Obj.cells #[Value.slice fa F fc,Value.bool dead] 92)).alloc (Obj.cells (madeCells #[Value.int IntKind.i64 0,Value.int IntKind.i64 0] (F*2)) 66)).setCell
  ⟨w.heap.size+1+1,i*2,none⟩ (Value.slice (some ⟨wr.heap.size+1,0,none⟩) F F)).setCell ⟨w.heap.size+1+1,i*2+1,none⟩ (Value.bool dead)).drew
theorem CloneMid.step {w wr:World} {M:Int} {sv:Value} {L:Nat} {l:List Ob} {i:Nat} (h:CloneMid w wr M sv L l i) (hi:i<L) {fs:List Vl} {dead:Bool} (hv:l[i]?=some ⟨fs,dead⟩) {fa:Option Addr} (fc:Nat) (hfs:ValsAt w fa fs)
  (hfl:16*fs.length<=140737488351232) :
  (cloneW w wr i fa fs.length fc dead).cell? ⟨w.heap.size+1+1,i*2,none⟩=some (.slice (some ⟨wr.heap.size+1,0,none⟩) fs.length fs.length) /\
  (cloneW w wr i fa fs.length fc dead).cell? ⟨wr.heap.size,0,none⟩=some (.slice fa fs.length fc) /\
  (∃ w',(Builtin.copy_ #[48,48] 3 #[.slice (some ⟨wr.heap.size+1,0,none⟩) fs.length fs.length,.slice fa fs.length fc]).run Tryz.prog (cloneW w wr i fa fs.length fc dead).drew=.ok (goInt fs.length) w'/\CloneMid w w' M sv L l (i+1)):=by
 obtain⟨rows,hO,hl,hd⟩:=h.own;have hb:=h.below;have hs:w.heap.size+1+1<=w.heap.size+1+1/\w.heap.size+1+1<wr.heap.size:=hO.top.lt _ rfl;have hO2:=(hO.alloc (Obj.cells #[Value.slice fa fs.length fc,Value.bool dead] 92)).alloc (Obj.cells (madeCells #[Value.int IntKind.i64 0,Value.int IntKind.i64 0] (fs.length*2)) 66);have hvals:=vals_made (wr.alloc (Obj.cells #[Value.slice fa fs.length fc,Value.bool dead] 92)) (w.heap.size+1+1) fs.length (by simp;omega) (by unfold maxLen;omega)
 simp only[Deep.nblk_alloc] at hvals;have hO3:=hO2.store (i:=i) (by omega) (.slice (some ⟨wr.heap.size+1,0,none⟩) fs.length fs.length) ⟨zeroVals fs.length,dead⟩ hvals (by simpa[zeroVals] using hfl) (fun j q hq hj=>Or.inr (fun e=>by
  have h1:=((hO.row j q hq).1.lt _ e.symm).2;have h2:wr.heap.size+1<wr.heap.size:=h1;omega))
 have hO4:HeapOwn (cloneW w wr i fa fs.length fc dead) (w.heap.size+1+1) (.slice (some ⟨w.heap.size+1+1,0,none⟩) L L) (rows.set i (.slice (some ⟨wr.heap.size+1,0,none⟩) fs.length fs.length,⟨zeroVals fs.length,dead⟩)):=hO3.below (Below.refl _ _).drew;have hgt:(rows.set i (Value.slice (some ⟨wr.heap.size+1,0,none⟩) fs.length fs.length,(⟨zeroVals fs.length,dead⟩:Ob)))[i]?=some (Value.slice (some ⟨wr.heap.size+1,0,none⟩) fs.length fs.length,⟨zeroVals fs.length,dead⟩):=by
  rw[List.getElem?_set,if_pos rfl,if_pos (by omega)]
 have old:∀ k,k<wr.heap.size+1->k≠w.heap.size+1+1->(cloneW w wr i fa fs.length fc dead).heap[k]?=(wr.alloc (Obj.cells #[Value.slice fa fs.length fc,Value.bool dead] 92)).heap[k]?:=fun k hk hne=>by
  show((((wr.alloc (Obj.cells #[Value.slice fa fs.length fc,Value.bool dead] 92)).alloc _).setCell _ _).setCell _ _).heap[k]?=_
  rw[Deep.blk_setCell_other _ _ _ _ hne,Deep.blk_setCell_other _ _ _ _ hne,Deep.blk_alloc_lt _ _ _ (by simp;omega)]
 have hbel:Below w.heap.size w (cloneW w wr i fa fs.length fc dead) :=
  ((((hb.alloc hb.size _).alloc (by simp;omega) _).setCell (by show w.heap.size<=w.heap.size+1+1;omega) _).setCell (by show w.heap.size<=w.heap.size+1+1;omega) _).drew
 have bwr:Below wr.heap.size wr (wr.alloc (Obj.cells #[Value.slice fa fs.length fc,Value.bool dead] 92)):=below_box _ _;have hfs':ValsAt (cloneW w wr i fa fs.length fc dead).drew fa fs:=hfs.keeps (Keeps.below hbel.drew);refine⟨?_,?_,?_⟩
 ·exact ownsRow_cell hO4.top rfl (by simp[obCells,pairs_fst,obPair,hl,hi])
 ·have e1:=old wr.heap.size (by omega) (by omega)
  rw[Deep.blk_alloc_new] at e1;simp[World.cell?,e1]
 ·refine⟨_,run_copy_full 2 _ 48 48 3 66 Tryz.underlying48 Tryz.sizeV (wr.heap.size+1) fs.length fs.length fa fc (madeCells #[Value.int IntKind.i64 0,Value.int IntKind.i64 0] (fs.length*2)) 66 ?_ (valCells fs) (valCells_length _) (by rw[valCells_length,size_madeCells]) (fun hn=>vals_src hfs' hn) (valCells_one _),?_⟩
  ·show((((wr.alloc (Obj.cells #[Value.slice fa fs.length fc,Value.bool dead] 92)).alloc _).setCell _ _).setCell _ _).heap[wr.heap.size+1]?=_
   rw[Deep.blk_setCell_other _ _ _ _ (by show wr.heap.size+1≠w.heap.size+1+1;omega),Deep.blk_setCell_other _ _ _ _ (by show wr.heap.size+1≠w.heap.size+1+1;omega)];have:=Deep.blk_alloc_new (wr.alloc (Obj.cells #[Value.slice fa fs.length fc,Value.bool dead] 92)) (Obj.cells (madeCells #[Value.int IntKind.i64 0,Value.int IntKind.i64 0] (fs.length*2)) 66)
   simpa using this
  ·have hO5:=(hO4.below (Below.refl _ _).drew).fill hgt fs (by simp[zeroVals])
   refine⟨below_setRow hbel.drew (by omega) _,?_,?_,⟨_,hO5,by rw[List.length_set,List.length_set];exact hl,fun j hj=>?_⟩⟩
   ·rw[setRow_other _ _ _ _ (by omega)]
    exact(old _ (by omega) (by omega)).trans ((bwr.block _ (by omega)).trans h.box)
   ·rw[setRow_other _ _ _ _ (by omega)]
    exact(old _ (by omega) (by omega)).trans ((bwr.block _ (by omega)).trans h.res)
   ·by_cases e:j=i
    ·subst e
     rw[List.getElem?_set,if_pos rfl,if_pos (by simp;omega),hv]
     rfl
    ·rw[List.getElem?_set,if_neg (Ne.symm e),List.getElem?_set,if_neg (Ne.symm e)]
     exact hd j (by omega)
theorem clone_any (M:Int) (ao:Option Addr) (cap:Nat) (l:List Ob) (w:World) (h:ObsAt w ao l) :
  Calls Tryz.prog 54 #[.agg #[.int .i64 M,.slice ao l.length cap]] w fun e w'=>∃ g rows,e=.returned (.agg #[.int .i64 M,.slice (some ⟨g,0,none⟩) l.length l.length])/\rows.map (·.2)=l/\HeapOwn w' w.heap.size (.slice (some ⟨g,0,none⟩) l.length l.length) rows/\Below w.heap.size w w':=by
 have hm:=h.many;obtain⟨L,hL⟩:∃ L,L=l.length:=⟨_,rfl⟩;have HL:Aside (L=l.length):=hL;rw[<- hL] at hm ⊢;clear hL;have hmk:=run_make_rowk (P:=Tryz.prog) 2 45 92 _ 32 Tryz.underlying45 Tryz.infoO .i64 .i64 L (by omega) (by omega)
 go_enter Tryz.func54,Tryz.ntmps54
 go_wp2
 clear hmk;have hstart:Aside (CloneMid w (((w.alloc (Obj.cells #[Value.int IntKind.i64 M,Value.slice ao L cap] 47)).alloc (Obj.cells #[Value.int IntKind.i64 0,Value.slice none 0 0] 47)).alloc (Obj.cells (madeCells #[Value.slice none 0 0,Value.bool false] (L*2)) 92)) M (.slice ao L cap) L l 0):=cloneMid_start w M _ L l hm
 go_loopg [13,4,5] L (fun g s13 s4 s5 wr=>∃ i:Nat,i<=L/\g=L-i/\s13=.int .i64 i/\CloneMid w wr M (.slice ao L cap) L l i)
 case atStart=>exact⟨0,Nat.zero_le _,rfl,rfl,hstart.out⟩
 case round =>
  obtain⟨i,hi,rfl,rfl,hmid⟩:=hrel;clear hstart
  by_cases hiL:i<L
  ·have hiz:(i:Int)<(L:Int):=by omega
   obtain⟨⟨fs,dead⟩,hv⟩:=at_some (l:=l) (i:=i) (by rw[<- HL.out];exact hiL);obtain⟨b,o,fa,fc,rfl,c1,c2,hfs,hfl⟩:=h.cell i _ hv;have hb:=hmid.below;replace c1:=Keeps.below hb _ _ c1;replace c2:=Keeps.below hb _ _ c2;simp only at c1 c2 hfs hfl;have HV:Aside (l[i]?=some ⟨fs,dead⟩):=hv;clear hv;obtain⟨F,hF⟩:∃ F,F=fs.length:=⟨_,rfl⟩;have HF:Aside (F=fs.length):=hF;rw[<- hF] at c1 hfl;clear hF;have hmk:=run_make_rowk (P:=Tryz.prog) 2 48 66 _ 16 Tryz.underlying48 Tryz.infoV .i64 .i64 F (by omega) (by omega)
   obtain⟨va,vb,vc,vd,s1,s2,s3,s4,s5,s6⟩:=hmid.slot hiL;have hstep:=hmid.step hiL HV.out fc hfs (by rw[<- HF.out];exact hfl);rw[<- HF.out] at hstep;have HST:Aside (((cloneW w wr i fa F fc dead).cell? ⟨w.heap.size+1+1,i*2,none⟩=some (.slice (some ⟨wr.heap.size+1,0,none⟩) F F) /\
  (cloneW w wr i fa F fc dead).cell? ⟨wr.heap.size,0,none⟩=some (.slice fa F fc) /\
  (∃ w',(Builtin.copy_ #[48,48] 3 #[.slice (some ⟨wr.heap.size+1,0,none⟩) F F,.slice fa F fc]).run Tryz.prog (cloneW w wr i fa F fc dead).drew=.ok (goInt F) w'/\CloneMid w w' M (.slice (some ⟨b,o,none⟩) L cap) L l (i+1)))):=hstep
   clear hstep;go_wp2
   go_region
   clear s1 s2 s3 s4 s5 s6 hmk hmid hfs c1 c2
   change Exit.then _ _ _ _ (cloneW w wr i fa F fc dead)
   obtain⟨t1,t2,w',hrun,hmid2⟩:=HST.out;clear HST;generalize cloneW w wr i fa F fc dead=W5 at *;have HRUN:Aside ((Builtin.copy_ #[48,48] 3 #[.slice (some ⟨wr.heap.size+1,0,none⟩) F F,.slice fa F fc]).run Tryz.prog W5.drew=.ok (goInt F) w'):=hrun;clear hrun;go_wp2
   go_region_law (refine step_copy rfl (.tmp 32) (.tmp 34) 48 48 rfl (.slice (some ⟨wr.heap.size+1,0,none⟩) F F) (.slice fa F fc) (by simp[Act.eval]) (by simp[Act.eval]) _ _ HRUN.out ?_)
   all_goals
    clear HRUN t1 t2;go_wp2
    go_roundg (L-(i+1))
    case measure=>go_light;omega
    case rel=>go_light;exact⟨i+1,by omega,rfl,by go_num,hmid2⟩
  ·obtain rfl:i=L:=by omega
   have c1:wr.cell? ⟨w.heap.size,0,none⟩=some (.int .i64 M):=by simp[World.cell?,hmid.box]
   have r1:wr.cell? ⟨w.heap.size+1,0,none⟩=some (.int .i64 0):=by simp[World.cell?,hmid.res]
   have r2:wr.cell? ⟨w.heap.size+1,1,none⟩=some (.slice none 0 0):=by simp[World.cell?,hmid.res]
   have r3:∀ j,wr.frozen? ⟨w.heap.size+1,j,none⟩=false:=fun j=>by simp[World.frozen?,hmid.res]
   go_wp2
   obtain⟨rows,hO,hl,hd⟩:=hmid.own;have m1:=setCell_blk (setCell_blk hmid.res 0 (.int .i64 M)) 1 (.slice (some ⟨w.heap.size+1+1,0,none⟩) i i);have m2:((wr.setCell ⟨w.heap.size+1,0,none⟩ (.int .i64 M)).setCell ⟨w.heap.size+1,1,none⟩ (.slice (some ⟨w.heap.size+1+1,0,none⟩) i i)).cell? ⟨w.heap.size+1,0,none⟩=some (.int .i64 M):=by simp[World.cell?,m1]
   have m3:((wr.setCell ⟨w.heap.size+1,0,none⟩ (.int .i64 M)).setCell ⟨w.heap.size+1,1,none⟩ (.slice (some ⟨w.heap.size+1+1,0,none⟩) i i)).cell? ⟨w.heap.size+1,1,none⟩=some (.slice (some ⟨w.heap.size+1+1,0,none⟩) i i):=by simp[World.cell?,m1]
   refine bodyPost_ret (v:=.agg #[.int .i64 M,.slice (some ⟨w.heap.size+1+1,0,none⟩) i i]) (by simp[results,Tryz.results54,go_sem,m2,m3]) rfl ⟨_,rows,rfl,?_,?_,?_⟩
   ·refine List.ext_getElem? fun j=>?_
    rw[List.getElem?_map]
    by_cases hj:j<i
    ·exact hd j hj
    ·rw[List.getElem?_eq_none (by omega),List.getElem?_eq_none (by rw[<- HL.out];omega)]
     rfl
   ·refine(HeapOwn.le ?_ (by omega:w.heap.size<=w.heap.size+1+1))
    exact(hO.setLow (by show w.heap.size+1<w.heap.size+1+1;omega) _).setLow (by show w.heap.size+1<w.heap.size+1+1;omega) _
   ·exact(hmid.below.setCell (by show w.heap.size<=w.heap.size+1;omega) _).setCell (by show w.heap.size<=w.heap.size+1;omega) _
end
section
open Go.RowKit
theorem heapOwn_nil (w:World) (base:Nat):HeapOwn w base (.slice none 0 0) []:=⟨World.ownsRow_nil _ _ _ _,fun i p hp=>by simp at hp,fun i j p q hp=>by simp at hp,by simp⟩
theorem four_cells {W:World} {N1 N2:Nat} {a0 a1 b0 b1:Value} {t1 t2:TypeId} (h1:W.heap[N1]?=some (.cells #[a0,a1] t1 (0,0))) (h2:W.heap[N2]?=some (.cells #[b0,b1] t2 (0,0))) (hne:N1≠N2) (x y u v:Value) :
  ((((W.setCell ⟨N1,0,none⟩ x).setCell ⟨N1,1,none⟩ y).setCell ⟨N2,0,none⟩ u).setCell ⟨N2,1,none⟩ v).cell? ⟨N1,0,none⟩=some x/\((((W.setCell ⟨N1,0,none⟩ x).setCell ⟨N1,1,none⟩ y).setCell ⟨N2,0,none⟩ u).setCell ⟨N2,1,none⟩ v).cell? ⟨N1,1,none⟩=some y /\
  ((((W.setCell ⟨N1,0,none⟩ x).setCell ⟨N1,1,none⟩ y).setCell ⟨N2,0,none⟩ u).setCell ⟨N2,1,none⟩ v).cell? ⟨N2,0,none⟩=some u/\((((W.setCell ⟨N1,0,none⟩ x).setCell ⟨N1,1,none⟩ y).setCell ⟨N2,0,none⟩ u).setCell ⟨N2,1,none⟩ v).cell? ⟨N2,1,none⟩=some v:=by
 have m1:=setCell_blk (setCell_blk h1 0 x) 1 y;have m2:((((W.setCell ⟨N1,0,none⟩ x).setCell ⟨N1,1,none⟩ y).setCell ⟨N2,0,none⟩ u).setCell ⟨N2,1,none⟩ v).heap[N1]?=some (.cells #[x,y] t1 (0,0)):=by
  rw[Deep.blk_setCell_other _ _ _ _ hne,Deep.blk_setCell_other _ _ _ _ hne,m1];simp
 have m3:((W.setCell ⟨N1,0,none⟩ x).setCell ⟨N1,1,none⟩ y).heap[N2]?=some (.cells #[b0,b1] t2 (0,0)):=by
  rw[Deep.blk_setCell_other _ _ _ _ (Ne.symm hne),Deep.blk_setCell_other _ _ _ _ (Ne.symm hne),h2]
 have m4:=setCell_blk (setCell_blk m3 0 u) 1 v;refine⟨by simp[World.cell?,m2],by simp[World.cell?,m2],?_,?_⟩ <;> simp[World.cell?,m4]
theorem alloc_any (M:Int) (ao:Option Addr) (cap:Nat) (l:List Ob) (n:Int) (w:World) (h:ObsAt w ao l) :
  Calls Tryz.prog 122 #[.agg #[.int .i64 M,.slice ao l.length cap],.int .i64 n] w fun e w'=>∃ va vc,e=.returned (.tuple #[.agg #[.int .i64 (allocS M l n).M,.slice va (allocS M l n).obs.length vc],.agg #[.int .i64 (allocS M l n).k,.int .i64 (allocS M l n).n],.int .i64 (allocS M l n).e]) /\
   Below w.heap.size w w'/\∃ rows,rows.map (·.2)=(allocS M l n).obs/\HeapOwn w' w.heap.size (.slice va (allocS M l n).obs.length vc) rows:=by
 have hm:=h.many;obtain⟨r,hr⟩:∃ r,r=allocS M l n:=⟨_,rfl⟩;have HR:Aside (r=allocS M l n):=hr;rw[<- hr];clear hr;obtain⟨L,hL⟩:∃ L,L=l.length:=⟨_,rfl⟩;have HL:Aside (L=l.length):=hL;rw[<- hL] at hm ⊢;clear hL
 go_enter Tryz.func122,Tryz.ntmps122
 go_wp2_with fail
 have N0:(((w.alloc (Obj.cells #[Value.int IntKind.i64 M,Value.slice ao L cap] 47)).alloc (Obj.cells #[Value.int IntKind.i64 0,Value.slice none 0 0] 47)).alloc (Obj.cells #[Value.int IntKind.i64 0,Value.int IntKind.i64 0] 66)).heap[w.heap.size]?=some (.cells #[Value.int IntKind.i64 M,Value.slice ao L cap] 47 (0,0)):=by
  rw[Deep.blk_alloc_lt _ _ _ (by simp;omega),Deep.blk_alloc_lt _ _ _ (by simp)];exact Deep.blk_alloc_new w _
 have N1:(((w.alloc (Obj.cells #[Value.int IntKind.i64 M,Value.slice ao L cap] 47)).alloc (Obj.cells #[Value.int IntKind.i64 0,Value.slice none 0 0] 47)).alloc (Obj.cells #[Value.int IntKind.i64 0,Value.int IntKind.i64 0] 66)).heap[w.heap.size+1]?=some (.cells #[Value.int IntKind.i64 0,Value.slice none 0 0] 47 (0,0)):=by
  rw[Deep.blk_alloc_lt _ _ _ (by simp)];have:=Deep.blk_alloc_new (w.alloc (Obj.cells #[Value.int IntKind.i64 M,Value.slice ao L cap] 47)) (Obj.cells #[Value.int IntKind.i64 0,Value.slice none 0 0] 47)
  simpa using this
 have N2:(((w.alloc (Obj.cells #[Value.int IntKind.i64 M,Value.slice ao L cap] 47)).alloc (Obj.cells #[Value.int IntKind.i64 0,Value.slice none 0 0] 47)).alloc (Obj.cells #[Value.int IntKind.i64 0,Value.int IntKind.i64 0] 66)).heap[w.heap.size+1+1]?=some (.cells #[Value.int IntKind.i64 0,Value.int IntKind.i64 0] 66 (0,0)):=by
  have:=Deep.blk_alloc_new ((w.alloc (Obj.cells #[Value.int IntKind.i64 M,Value.slice ao L cap] 47)).alloc (Obj.cells #[Value.int IntKind.i64 0,Value.slice none 0 0] 47)) (Obj.cells #[Value.int IntKind.i64 0,Value.int IntKind.i64 0] 66)
  simpa using this
 have k1:=((Keeps.alloc w (Obj.cells #[Value.int IntKind.i64 M,Value.slice ao L cap] 47)).trans (Keeps.alloc _ (Obj.cells #[Value.int IntKind.i64 0,Value.slice none 0 0] 47))).trans (Keeps.alloc _ (Obj.cells #[Value.int IntKind.i64 0,Value.int IntKind.i64 0] 66));have b1:Below w.heap.size w (((w.alloc (Obj.cells #[Value.int IntKind.i64 M,Value.slice ao L cap] 47)).alloc (Obj.cells #[Value.int IntKind.i64 0,Value.slice none 0 0] 47)).alloc (Obj.cells #[Value.int IntKind.i64 0,Value.int IntKind.i64 0] 66)):=(((Below.refl _ _).alloc (Nat.le_refl _) _).alloc (by simp) _).alloc (by simp;omega) _
 have hs0:w.heap.size+1+1+1=(((w.alloc (Obj.cells #[Value.int IntKind.i64 M,Value.slice ao L cap] 47)).alloc (Obj.cells #[Value.int IntKind.i64 0,Value.slice none 0 0] 47)).alloc (Obj.cells #[Value.int IntKind.i64 0,Value.int IntKind.i64 0] 66)).heap.size:=by simp
 generalize ((w.alloc (Obj.cells #[Value.int IntKind.i64 M,Value.slice ao L cap] 47)).alloc (Obj.cells #[Value.int IntKind.i64 0,Value.slice none 0 0] 47)).alloc (Obj.cells #[Value.int IntKind.i64 0,Value.int IntKind.i64 0] 66)=W at *;have hck:=check_any M ao cap l none 0 [] W (h.keeps k1) (fun i v hi=>by simp at hi) (by simp);rw[<- HL.out] at hck;refine hck.mono ?_;clear hck;rintro e w1 ⟨rfl,hb⟩;replace N0:=(hb.block _ (by omega)).trans N0
 replace N1:=(hb.block _ (by omega)).trans N1;replace N2:=(hb.block _ (by omega)).trans N2;replace b1:=b1.trans (hb.mono (by omega));replace k1:=k1.trans (Keeps.below hb);replace hs0:w.heap.size+1+1+1<=w1.heap.size:=Nat.le_trans (Nat.le_of_eq hs0) hb.size;clear hb;clear W;have p0:w1.cell? ⟨w.heap.size,0,none⟩=some (.int .i64 M):=by simp[World.cell?,N0]
 have p1:w1.cell? ⟨w.heap.size,1,none⟩=some (.slice ao L cap):=by simp[World.cell?,N0]
 have c0:w1.cell? ⟨w.heap.size+1,0,none⟩=some (.int .i64 0):=by simp[World.cell?,N1]
 have c1:w1.cell? ⟨w.heap.size+1,1,none⟩=some (.slice none 0 0):=by simp[World.cell?,N1]
 have c2:w1.cell? ⟨w.heap.size+1+1,0,none⟩=some (.int .i64 0):=by simp[World.cell?,N2]
 have c3:w1.cell? ⟨w.heap.size+1+1,1,none⟩=some (.int .i64 0):=by simp[World.cell?,N2]
 have f1:∀ j,w1.frozen? ⟨w.heap.size+1,j,none⟩=false:=fun j=>by simp[World.frozen?,N1]
 have f2:∀ j,w1.frozen? ⟨w.heap.size+1+1,j,none⟩=false:=fun j=>by simp[World.frozen?,N2]
 obtain⟨m1,m2,m3,m4⟩:=four_cells N1 N2 (by omega) (.int .i64 0) (.slice none 0 0) (.int .i64 0) (.int .i64 0);have bz:Below w.heap.size w ((((w1.setCell ⟨w.heap.size+1,0,none⟩ (.int .i64 0)).setCell ⟨w.heap.size+1,1,none⟩ (.slice none 0 0)).setCell ⟨w.heap.size+1+1,0,none⟩ (.int .i64 0)).setCell ⟨w.heap.size+1+1,1,none⟩ (.int .i64 0)) :=
  (((b1.setCell (by show w.heap.size<=w.heap.size+1;omega) _).setCell (by show w.heap.size<=w.heap.size+1;omega) _).setCell (by show w.heap.size<=w.heap.size+1+1;omega) _).setCell (by show w.heap.size<=w.heap.size+1+1;omega) _
 have BZ:Aside (_/\_/\_/\_/\_):=⟨m1,m2,m3,m4,bz⟩;clear m1 m2 m3 m4 bz
 cases hq:hMay M l [] with
 | false =>
  have HE:Aside (r=⟨0,[],0,0,8⟩):=by show r=_;rw[HR.out,allocS,if_pos hq]
  clear HR;simp only[erS_false];go_wp2
  obtain⟨m1,m2,m3,m4,bz⟩:=BZ.out;refine bodyPost_ret (v:=.tuple #[.agg #[.int .i64 0,.slice none 0 0],.agg #[.int .i64 0,.int .i64 0],.int .i64 8]) (by simp[results,Tryz.results122,go_sem,m1,m2,m3,m4]) rfl ⟨none,0,by rw[HE.out];rfl,bz,[],by rw[HE.out];rfl,by rw[HE.out];exact heapOwn_nil _ _⟩
 | true =>
  simp only[erS_true]
  cases hn:(decide (1<=n) && decide (n<=4)) with
  | false =>
   have HE:Aside (r=⟨0,[],0,0,2⟩):=by show r=_;rw[HR.out,allocS,if_neg (by simp[hq]),if_pos hn]
   clear HR
   go_wp2_with (go_at_call 146;refine(isFieldCount_any _ _).mono ?_;rintro e w' ⟨rfl,rfl⟩;rw[hn])
   obtain⟨m1,m2,m3,m4,bz⟩:=BZ.out;refine bodyPost_ret (v:=.tuple #[.agg #[.int .i64 0,.slice none 0 0],.agg #[.int .i64 0,.int .i64 0],.int .i64 2]) (by simp[results,Tryz.results122,go_sem,m1,m2,m3,m4]) rfl ⟨none,0,by rw[HE.out];rfl,bz,[],by rw[HE.out];rfl,by rw[HE.out];exact heapOwn_nil _ _⟩
  | true =>
   by_cases hLM:(L:Int)=M
   ·have HE:Aside (r=⟨0,[],0,0,7⟩):=by show r=_;rw[HR.out,allocS,if_neg (by simp[hq]),if_neg (by simp[hn]),if_pos (by rw[<- HL.out];exact hLM)]
    have heq:((L:Int) == M)=true:=by simp[hLM]
    clear HR hLM
    go_wp2_with (go_at_call 146;refine(isFieldCount_any _ _).mono ?_;rintro e w' ⟨rfl,rfl⟩;rw[hn])
    obtain⟨m1,m2,m3,m4,bz⟩:=BZ.out;refine bodyPost_ret (v:=.tuple #[.agg #[.int .i64 0,.slice none 0 0],.agg #[.int .i64 0,.int .i64 0],.int .i64 7]) (by simp[results,Tryz.results122,go_sem,m1,m2,m3,m4]) rfl ⟨none,0,by rw[HE.out];rfl,bz,[],by rw[HE.out];rfl,by rw[HE.out];exact heapOwn_nil _ _⟩
   ·have heq:((L:Int) == M)=false:=by simp[hLM]
    have hn1:1<=n:=by simp at hn;omega
    have hn4:n<=4:=by simp at hn;omega
    have hL60:L<=60:=by
     have:=hq;simp[hMay,mMay,<- HL.out] at this
     omega
    obtain⟨F,rfl⟩:=Int.eq_ofNat_of_zero_le (show 0<=n by omega);have HE:Aside (r=⟨M,l++[⟨zeroVals F,false⟩],2,L,0⟩):=by show r=_;rw[HR.out,allocS,if_neg (by simp[hq]),if_neg (by simp[hn]),if_neg (by rw[<- HL.out];exact hLM),<- HL.out];rfl
    clear HR hLM BZ hq
    go_wp2_with (first | (go_at_call 146;refine(isFieldCount_any _ _).mono ?_;rintro e w' ⟨rfl,rfl⟩;rw[hn]) | fail)
    have hcl:=clone_any M ao cap l w1 (h.keeps k1);rw[<- HL.out] at hcl;refine hcl.mono ?_;clear hcl;rintro e w2 ⟨g,rows,rfl,hrows,hO,hb2⟩;have HROWS:Aside (rows.map (·.2)=l):=hrows;clear hrows;replace N0:=(hb2.block _ (by omega)).trans N0;replace N1:=(hb2.block _ (by omega)).trans N1;replace N2:=(hb2.block _ (by omega)).trans N2;replace b1:=b1.trans (hb2.mono (by omega));replace hO:=hO.le (by omega:w.heap.size+1+1+1<=w1.heap.size)
    replace hs0:w.heap.size+1+1+1<=w2.heap.size:=Nat.le_trans hs0 hb2.size;clear hb2 p0 p1 c0 c1 c2 c3 f1 f2 k1 heq hn;have p0:w2.cell? ⟨w.heap.size,0,none⟩=some (.int .i64 M):=by simp[World.cell?,N0]
    have p1:w2.cell? ⟨w.heap.size,1,none⟩=some (.slice ao L cap):=by simp[World.cell?,N0]
    have f0:∀ j,w2.frozen? ⟨w.heap.size,j,none⟩=false:=fun j=>by simp[World.frozen?,N0]
    go_wp2
    have M0:((w2.setCell ⟨w.heap.size,0,none⟩ (.int .i64 M)).setCell ⟨w.heap.size,1,none⟩ (.slice (some ⟨g,0,none⟩) L L)).heap[w.heap.size]?=some (.cells #[.int .i64 M,.slice (some ⟨g,0,none⟩) L L] 47 (0,0)):=by
     rw[setCell_blk (setCell_blk N0 0 (.int .i64 M)) 1 (.slice (some ⟨g,0,none⟩) L L)];simp
    have M1:((w2.setCell ⟨w.heap.size,0,none⟩ (.int .i64 M)).setCell ⟨w.heap.size,1,none⟩ (.slice (some ⟨g,0,none⟩) L L)).heap[w.heap.size+1]?=some (.cells #[.int .i64 0,.slice none 0 0] 47 (0,0)):=by
     rw[Deep.blk_setCell_other _ _ _ _ (by show w.heap.size+1≠w.heap.size;omega),Deep.blk_setCell_other _ _ _ _ (by show w.heap.size+1≠w.heap.size;omega),N1]
    have M2:((w2.setCell ⟨w.heap.size,0,none⟩ (.int .i64 M)).setCell ⟨w.heap.size,1,none⟩ (.slice (some ⟨g,0,none⟩) L L)).heap[w.heap.size+1+1]?=some (.cells #[.int .i64 0,.int .i64 0] 66 (0,0)):=by
     rw[Deep.blk_setCell_other _ _ _ _ (by show w.heap.size+1+1≠w.heap.size;omega),Deep.blk_setCell_other _ _ _ _ (by show w.heap.size+1+1≠w.heap.size;omega),N2]
    have hO3:=(hO.setLow (a:=⟨w.heap.size,0,none⟩) (by show w.heap.size<_;omega) (.int .i64 M)).setLow (a:=⟨w.heap.size,1,none⟩) (by show w.heap.size<_;omega) (.slice (some ⟨g,0,none⟩) L L);have b3:Below w.heap.size w ((w2.setCell ⟨w.heap.size,0,none⟩ (.int .i64 M)).setCell ⟨w.heap.size,1,none⟩ (.slice (some ⟨g,0,none⟩) L L)):=(b1.setCell (Nat.le_refl _) _).setCell (Nat.le_refl _) _;have hs3:w.heap.size+1+1+1<=((w2.setCell ⟨w.heap.size,0,none⟩ (.int .i64 M)).setCell ⟨w.heap.size,1,none⟩ (.slice (some ⟨g,0,none⟩) L L)).heap.size:=by simpa[World.setCell] using hs0
    clear hO b1 hs0 N0 N1 N2 p0 p1 f0;generalize (w2.setCell ⟨w.heap.size,0,none⟩ (.int .i64 M)).setCell ⟨w.heap.size,1,none⟩ (.slice (some ⟨g,0,none⟩) L L)=w3 at *;have p1:w3.cell? ⟨w.heap.size,1,none⟩=some (.slice (some ⟨g,0,none⟩) L L):=by simp[World.cell?,M0]
    have f0:∀ j,w3.frozen? ⟨w.heap.size,j,none⟩=false:=fun j=>by simp[World.frozen?,M0]
    have hmk:=run_make_rowk (P:=Tryz.prog) 2 48 66 _ 16 Tryz.underlying48 Tryz.infoV .i64 .i64 F (by omega) (by omega);have hlen:rows.length=L:=by rw[HL.out,<- HROWS.out,List.length_map]
    refine wp_region_need (fun j=>j != 8) (fun w'=>w'.cell? ⟨w.heap.size,1,none⟩=some (.slice (some ⟨g,0,none⟩) L L)) (by kernel_rfl) p1 (fun hS=>?_);refine tkN 0 hS ?_;refine tkN 1 hS ?_;refine tkN 2 hS ?_;refine stN 3 (fun K hK=>?_);go_simp;refine hK.out _ _ (fun _=>Keeps.alloc _ _ _ _ hS) ?_;replace hS:(w3.alloc (Obj.cells (madeCells #[.int .i64 0,.int .i64 0] (F*2)) 66)).drew.cell? ⟨w.heap.size,1,none⟩=some (.slice (some ⟨g,0,none⟩) L L):=Keeps.alloc _ _ _ _ hS
    clear hK;refine tkN 4 hS ?_;refine wpAnyN_one (i:=5) (by kernel_rfl) rfl (fun K2 hK2=>?_);simp only[List.getElem_toArray,List.getElem_cons_zero,List.getElem_cons_succ];go_simp;refine hK2.out _ _ (fun _=>Keeps.alloc (w3.alloc (Obj.cells (madeCells #[.int .i64 0,.int .i64 0] (F*2)) 66)).drew _ _ _ hS) ?_;clear hK2;have hvm:=vals_made w3 (w.heap.size+1+1+1) F hs3 (by unfold maxLen;omega);refine wpAnyN_one (i:=6) (by kernel_rfl) rfl (fun K3 hK3=>?_)
    refine step_pushOb (w:=(w3.alloc (Obj.cells (madeCells #[.int .i64 0,.int .i64 0] (F*2)) 66)).drew) (by rfl) _ _ (by rfl) (by rfl) ((hO3.alloc _).below (Below.refl _ _).drew) (by show w.heap.size+1+1+1<=(w3.alloc _).heap.size;simp;omega) (.slice (some ⟨w3.heap.size,0,none⟩) F F) ⟨zeroVals F,false⟩ rfl hvm (by simp[zeroVals];omega)
     (fun j q hq=>Or.inr (fun e=>by
      have h1:=(World.ownsRow.lt (hO3.row j q hq).1 _ e.symm).2;have h2:w3.heap.size<w3.heap.size:=h1;omega)) (by omega) (by simp[Act.eval]) ?_
    intro g2 gc w4 hO4 hb4 hgx;clear hgx;have hb4':Below (w.heap.size+1+1+1) w3 w4:=(((Below.refl _ _).alloc hs3 _).drew).trans hb4;have hS4:w4.cell? ⟨w.heap.size,1,none⟩=some (.slice (some ⟨g,0,none⟩) L L):=(hb4'.cell (p:=⟨w.heap.size,1,none⟩) (by show w.heap.size<_;omega)).trans p1;refine hK3.out _ _ (fun _=>hS4) ?_;replace hS:=hS4;clear hK3;simp only[Act.put,List.getElem_toArray,List.getElem_cons_zero,List.getElem_cons_succ,List.setIfInBounds_toArray,List.set_cons_zero,List.set_cons_succ]
    refine tkN 7 hS ?_;have hfz:∀ j,w4.frozen? ⟨w.heap.size,j,none⟩=false:=fun j=>(hb4'.frozen (p:=⟨w.heap.size,j,none⟩) (by show w.heap.size<_;omega)).trans (f0 j)
    refine wpAnyN_one (i:=8) (by kernel_rfl) rfl (fun K4 hK4=>?_);simp only[List.getElem_toArray,List.getElem_cons_zero,List.getElem_cons_succ];go_simp;refine hK4.out _ _ (fun h=>absurd h (by decide)) ?_;clear hK4;refine dnN ?_;have hs4:=Nat.le_trans hs3 hb4'.size;rw[hlen] at hO4;have O0:(w4.setCell ⟨w.heap.size,1,none⟩ (.slice (some ⟨g2,0,none⟩) (L+1) gc)).heap[w.heap.size]?=some (.cells #[.int .i64 M,.slice (some ⟨g2,0,none⟩) (L+1) gc] 47 (0,0)):=by
     rw[setCell_blk ((hb4'.block _ (by omega)).trans M0) 1 (.slice (some ⟨g2,0,none⟩) (L+1) gc)];simp
    have O1:(w4.setCell ⟨w.heap.size,1,none⟩ (.slice (some ⟨g2,0,none⟩) (L+1) gc)).heap[w.heap.size+1]?=some (.cells #[.int .i64 0,.slice none 0 0] 47 (0,0)):=by
     rw[Deep.blk_setCell_other _ _ _ _ (by show w.heap.size+1≠w.heap.size;omega)];exact(hb4'.block _ (by omega)).trans M1
    have O2:(w4.setCell ⟨w.heap.size,1,none⟩ (.slice (some ⟨g2,0,none⟩) (L+1) gc)).heap[w.heap.size+1+1]?=some (.cells #[.int .i64 0,.int .i64 0] 66 (0,0)):=by
     rw[Deep.blk_setCell_other _ _ _ _ (by show w.heap.size+1+1≠w.heap.size;omega)];exact(hb4'.block _ (by omega)).trans M2
    have hO5:=hO4.setLow (a:=⟨w.heap.size,1,none⟩) (by show w.heap.size<_;omega) (.slice (some ⟨g2,0,none⟩) (L+1) gc);have b5:Below w.heap.size w (w4.setCell ⟨w.heap.size,1,none⟩ (.slice (some ⟨g2,0,none⟩) (L+1) gc)):=(b3.trans (hb4'.mono (by omega))).setCell (Nat.le_refl _) _;clear hb4 hb4' hO4 hS4 hS hfz hvm hmk p1 f0 hO3 b3 hs3 M0 M1 M2;generalize w4.setCell ⟨w.heap.size,1,none⟩ (.slice (some ⟨g2,0,none⟩) (L+1) gc)=w5 at *
    have p0:w5.cell? ⟨w.heap.size,0,none⟩=some (.int .i64 M):=by simp[World.cell?,O0]
    have p1:w5.cell? ⟨w.heap.size,1,none⟩=some (.slice (some ⟨g2,0,none⟩) (L+1) gc):=by simp[World.cell?,O0]
    have c0:w5.cell? ⟨w.heap.size+1,0,none⟩=some (.int .i64 0):=by simp[World.cell?,O1]
    have c1:w5.cell? ⟨w.heap.size+1,1,none⟩=some (.slice none 0 0):=by simp[World.cell?,O1]
    have c2:w5.cell? ⟨w.heap.size+1+1,0,none⟩=some (.int .i64 0):=by simp[World.cell?,O2]
    have c3:w5.cell? ⟨w.heap.size+1+1,1,none⟩=some (.int .i64 0):=by simp[World.cell?,O2]
    have f1:∀ j,w5.frozen? ⟨w.heap.size+1,j,none⟩=false:=fun j=>by simp[World.frozen?,O1]
    have f2:∀ j,w5.frozen? ⟨w.heap.size+1+1,j,none⟩=false:=fun j=>by simp[World.frozen?,O2]
    go_wp2
    obtain⟨m1,m2,m3,m4⟩:=four_cells O1 O2 (by omega) (.int .i64 M) (.slice (some ⟨g2,0,none⟩) (L+1) gc) (.int .i64 2) (.int .i64 L);have hol:r.obs.length=L+1:=by rw[HE.out];simp[HL.out]
    refine bodyPost_ret (v:=.tuple #[.agg #[.int .i64 M,.slice (some ⟨g2,0,none⟩) (L+1) gc],.agg #[.int .i64 2,.int .i64 L],.int .i64 0]) (by simp[results,Tryz.results122,go_sem,m1,m2,m3,m4]) rfl ⟨some ⟨g2,0,none⟩,gc,by rw[hol,HE.out],?_,rows++[(.slice (some ⟨w3.heap.size,0,none⟩) F F,⟨zeroVals F,false⟩)],by rw[HE.out,List.map_append,HROWS.out];rfl,?_⟩
    ·exact(((b5.setCell (by show w.heap.size<=w.heap.size+1;omega) _).setCell (by show w.heap.size<=w.heap.size+1;omega) _).setCell (by show w.heap.size<=w.heap.size+1+1;omega) _).setCell (by show w.heap.size<=w.heap.size+1+1;omega) _
    ·rw[hol]
     refine HeapOwn.le (base:=w.heap.size+1+1+1) ?_ (by omega);exact(((hO5.setLow (by show w.heap.size+1<_;omega) _).setLow (by show w.heap.size+1<_;omega) _).setLow (by show w.heap.size+1+1<_;omega) _).setLow (by show w.heap.size+1+1<_;omega) _
end
end Go.Proofs.YtepifccbbmdfcaaGreatDoor
