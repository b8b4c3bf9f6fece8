/- JTopBad. -/
import Derived.Test.YtepifccbbmdfcaaGreatDoorCETopBadHOpen
namespace Go.Proofs.YtepifccbbmdfcaaGreatDoor
set_option maxRecDepth 100000
set_option maxHeartbeats 8000000
section
open Go.ChangeShapes Go.WideShapes Go.ChangeAt Go.RowKit Go.Deep
structure RawTypes (P:Program) (tRR tR tN:TypeId) (r0 r1 r2 r3:Field):Prop where
 hRR:P.underlying tRR=some (.slice tR)
 cR:P.cellsOf tR=4
 hR:P.underlying tR=some (.struct #[r0,r1,r2,r3])
 hr0:r0.type=tN/\r0.offset=0
 hr1:r1.type=tN/\r1.offset=1
 hr2:r2.type=tN/\r2.offset=2
 hr3:r3.type=tN/\r3.offset=3
 hN:P.underlying tN=some (.int .i64)
 cN:P.cellsOf tN=1
 bR:P.bytesOf tR=32
section
variable {H:Type} {enc:TypeId × Value->H} {P:Program} {w:World} {base:Nat} {spare:Nat->Bool} {held:Bool}
variable {tRR tR tN:TypeId} {r0 r1 r2 r3:Field}
theorem open_rawc (T:RawTypes P tRR tR tN r0 r1 r2 r3) {fuel:Nat} {cs:List Value} {x:DataW H × List MemPlace} (h:DataW.trod enc P w base spare held fuel tR cs=some x) :
  ∃ a b c d:Int,cs=[.int .i64 a,.int .i64 b,.int .i64 c,.int .i64 d]/\fit64 a/\fit64 b/\fit64 c/\fit64 d:=by
 obtain⟨y0,y1,y2,y3,n,_,hl,g0,g1,g2,g3⟩:=Joins.trod_struct4 T.hR h;rw[T.cR] at hl
 match cs,hl with
 | [c0,c1,c2,c3],_ =>
  rw[T.hr0.1,T.hr0.2,T.cN] at g0;rw[T.hr1.1,T.hr1.2,T.cN] at g1;rw[T.hr2.1,T.hr2.2,T.cN] at g2;rw[T.hr3.1,T.hr3.2,T.cN] at g3;obtain⟨a0,e0,_,w0⟩:=DataW.trod_int T.hN g0;obtain⟨a1,e1,_,w1⟩:=DataW.trod_int T.hN g1;obtain⟨a2,e2,_,w2⟩:=DataW.trod_int T.hN g2;obtain⟨a3,e3,_,w3⟩:=DataW.trod_int T.hN g3;simp at e0 e1 e2 e3;subst e0 e1 e2 e3;exact⟨a0,a1,a2,a3,rfl,bounds_i64 w0,bounds_i64 w1,bounds_i64 w2,bounds_i64 w3⟩
theorem open_raws (T:RawTypes P tRR tR tN r0 r1 r2 r3) {v:Value} {d:DataW H} {p:List MemPlace} {r:Reach} {b0:Nat} (hv:Value.okWide P w r b0 tRR v) (h:DataW.Trod enc P w base (fun _=>true) held tRR v d p)
  (hsz:∀ n∈d.weights P tRR,n<=reachBytes) :
  ∃ (ao:Option Addr) (l:List Rw) (cap:Nat),v=.slice ao l.length cap/\RawsAt w ao l/\32*l.length<=140737488351232:=by
 obtain⟨a0,n0,c0,rfl⟩:=okWide_slice T.hRR hv;obtain⟨fuel,hf⟩:=h
 rcases open_slice T.hRR hf with⟨hcs,hx⟩ | ⟨a,len,cap,m,n,D,Pl,hcs,_,hl,hm,hmm,hx,hel⟩
 ·simp only[Value.cells,List.cons.injEq,and_true,Value.slice.injEq] at hcs
  obtain⟨rfl,rfl,rfl⟩:=hcs;exact⟨none,[],0,rfl,fun i v hi=>by simp at hi,by show 32*0<=140737488351232;omega⟩
 ·simp only[Value.cells,List.cons.injEq,and_true,Value.slice.injEq] at hcs
  obtain⟨rfl,rfl,rfl⟩:=hcs
  try simp only[if_true] at hmm
  rw[T.cR] at hel;obtain⟨z,hz⟩:=choose_lt (α:=Int × Int × Int × Int) (n:=m) (p:=fun i z=>w.cells? base (a.add (i*4)) 4=some [.int .i64 z.1,.int .i64 z.2.1,.int .i64 z.2.2.1,.int .i64 z.2.2.2]/\fit64 z.1/\fit64 z.2.1/\fit64 z.2.2.1/\fit64 z.2.2.2) (fun i hi=>by
   obtain⟨cs',hc,ht⟩:=hel i hi;obtain⟨a,b,c,d,rfl,hq⟩:=open_rawc T ht;exact⟨(a,b,c,d),hc,hq⟩)
  refine⟨some a,(List.range n0).map (fun i=>⟨(z i).1,(z i).2.1,(z i).2.2.1,(z i).2.2.2⟩),c0,by simp,fun i v hi=>?_,?_⟩
  ·obtain⟨hi',rfl⟩:=getElem?_ofRange hi
   obtain⟨_,_,hc0⟩:=World.cells?_some (hz 0 (by omega)).1;obtain⟨_,_,hc⟩:=World.cells?_some (hz i (by omega)).1;obtain⟨b,o,sp⟩:=a;have hsp:sp=none:=by
    have:=World.cell?_spot ((hc0 0 (by omega)).trans rfl)
    simpa[Addr.add] using this
   subst hsp;have d0:=hc 0 (by omega);have d1:=hc 1 (by omega);have d2:=hc 2 (by omega);have d3:=hc 3 (by omega);rw[add_plain,add_plain] at d0 d1 d2 d3;have e0:w.cell? ⟨b,o+i*4,none⟩=some (.int .i64 (z i).1):=by simpa using d0
   exact⟨b,o,rfl,World.block_lt_of_cell? _ _ e0,e0,by simpa using d1,by simpa using d2,by simpa using d3,(hz i (by omega)).2⟩
  ·have hx':d=(d,p).1:=rfl
   rw[hx',hx] at hsz;have:=hsz ((((List.range n0).map D).length+((List.range (m-n0)).map fun j=>D (n0+j)).length)*P.bytesOf tR) (by simp[DataW.weights,T.hRR]);simp only[List.length_map,List.length_range,T.bR,reach_eq] at this ⊢
   omega
end
theorem Tryz.cellsR:Tryz.prog.cellsOf 94=4:=by kernel_rfl
theorem Tryz.bytesR:Tryz.prog.bytesOf 94=32:=by kernel_rfl
theorem rawTypes:∃ r0 r1 r2 r3,RawTypes Tryz.prog 57 94 3 r0 r1 r2 r3 :=
 ⟨_,_,_,_,Tryz.underlying57,Tryz.cellsR,Tryz.underlying94,⟨rfl,rfl⟩,⟨rfl,rfl⟩,⟨rfl,rfl⟩,⟨rfl,rfl⟩,Tryz.underlying3,Tryz.cellsN,Tryz.bytesR⟩
end
section
open Go.ChangeShapes Go.WideShapes Go.ChangeAt Go.RowKit
theorem and_up {a b:Bool} (ha:a=true) (hb:b=true):(a && b)=true:=by rw[ha,hb];rfl
theorem topBad_facts:joinedFacts Tryz.prog 8 Tryz.f8 Rows.topBadSpec Rows.topBadRow=true:=by
 unfold joinedFacts
 refine and_up ?_ (by as_aux_lemma=>kernel_rfl);refine and_up ?_ (by as_aux_lemma=>kernel_rfl);refine and_up ?_ (by as_aux_lemma=>kernel_rfl);refine and_up ?_ (by as_aux_lemma=>kernel_rfl);refine and_up ?_ (by as_aux_lemma=>kernel_rfl);refine and_up ?_ (by as_aux_lemma=>kernel_rfl);refine and_up ?_ (by as_aux_lemma=>kernel_rfl);refine and_up ?_ (by as_aux_lemma=>kernel_rfl);refine and_up ?_ (by as_aux_lemma=>kernel_rfl)
 refine and_up ?_ (by as_aux_lemma=>kernel_rfl);refine and_up ?_ (by as_aux_lemma=>kernel_rfl);refine and_up ?_ (by as_aux_lemma=>kernel_rfl);refine and_up ?_ (by as_aux_lemma=>kernel_rfl);refine and_up ?_ (by as_aux_lemma=>kernel_rfl);refine and_up ?_ (by as_aux_lemma=>kernel_rfl);refine and_up ?_ (by as_aux_lemma=>kernel_rfl);refine and_up ?_ (by as_aux_lemma=>kernel_rfl);refine and_up ?_ (by as_aux_lemma=>kernel_rfl)
 refine and_up ?_ (by as_aux_lemma=>kernel_rfl);refine and_up ?_ (by as_aux_lemma=>kernel_rfl);refine and_up ?_ (by as_aux_lemma=>kernel_rfl);refine and_up ?_ (by as_aux_lemma=>kernel_rfl);refine and_up ?_ (by as_aux_lemma=>kernel_rfl);refine and_up ?_ (by as_aux_lemma=>kernel_rfl);refine and_up ?_ (by as_aux_lemma=>kernel_rfl);refine and_up ?_ (by as_aux_lemma=>kernel_rfl);refine and_up ?_ (by as_aux_lemma=>kernel_rfl)
 refine and_up ?_ (by as_aux_lemma=>kernel_rfl);refine and_up ?_ (by as_aux_lemma=>kernel_rfl);refine and_up ?_ (by as_aux_lemma=>kernel_rfl);refine and_up ?_ (by as_aux_lemma=>kernel_rfl)
 as_aux_lemma=>kernel_rfl
end
end Go.Proofs.YtepifccbbmdfcaaGreatDoor
