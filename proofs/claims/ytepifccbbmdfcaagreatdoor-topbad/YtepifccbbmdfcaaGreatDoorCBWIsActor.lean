/- WIsActor. -/
import Derived.Test.YtepifccbbmdfcaaGreatDoorCBHAlloc
namespace Go.Proofs.YtepifccbbmdfcaaGreatDoor
set_option maxRecDepth 100000
set_option maxHeartbeats 8000000
section
open Go.RowKit
theorem vals_two (w:World) (k n k' n':Int) (t:TypeId):ValsAt (w.alloc (.cells #[.int .i64 k,.int .i64 n,.int .i64 k',.int .i64 n'] t)) (some ⟨w.heap.size,0,none⟩) [⟨k,n⟩,⟨k',n'⟩]:=fun i v hi=>by
 match i,hi with
 | 0,hi =>
  simp at hi;subst hi;exact⟨_,_,rfl,by simp,by simp⟩
 | 1,hi =>
  simp at hi;subst hi;exact⟨_,_,rfl,by simp,by simp⟩
theorem set_any (M:Int) (ao:Option Addr) (cap:Nat) (l:List Ob) (k n f xk xn:Int) (w:World) (h:ObsAt w ao l) :
  Calls Tryz.prog 152 #[.agg #[.int .i64 M,.slice ao l.length cap],.agg #[.int .i64 k,.int .i64 n],.int .i64 f,.agg #[.int .i64 xk,.int .i64 xn]] w fun e w' =>
   ∃ va vc,e=.returned (.tuple #[.agg #[.int .i64 (setS M l ⟨k,n⟩ f ⟨xk,xn⟩).1,.slice va (setS M l ⟨k,n⟩ f ⟨xk,xn⟩).2.1.length vc],.int .i64 (setS M l ⟨k,n⟩ f ⟨xk,xn⟩).2.2])/\Below w.heap.size w w' /\
    ∃ rows,rows.map (·.2)=(setS M l ⟨k,n⟩ f ⟨xk,xn⟩).2.1/\HeapOwn w' w.heap.size (.slice va (setS M l ⟨k,n⟩ f ⟨xk,xn⟩).2.1.length vc) rows:=by
 have hm:=h.many;obtain⟨r,hr⟩:∃ r,r=setS M l ⟨k,n⟩ f ⟨xk,xn⟩:=⟨_,rfl⟩;have HR:Aside (r=setS M l ⟨k,n⟩ f ⟨xk,xn⟩):=hr;rw[<- hr];clear hr;obtain⟨L,hL⟩:∃ L,L=l.length:=⟨_,rfl⟩;have HL:Aside (L=l.length):=hL;rw[<- hL] at hm ⊢;clear hL
 go_enter Tryz.func152,Tryz.ntmps152
 go_wp2_with fail
 have HB:=boxes5 w (Obj.cells #[.int .i64 M,.slice ao L cap] 47) (Obj.cells #[.int .i64 k,.int .i64 n] 66) (Obj.cells #[.int .i64 xk,.int .i64 xn] 66) (Obj.cells #[.int .i64 0,.slice none 0 0] 47) (Obj.cells #[.int .i64 k,.int .i64 n,.int .i64 xk,.int .i64 xn] 66);have hv1:=vals_two ((((w.alloc (Obj.cells #[.int .i64 M,.slice ao L cap] 47)).alloc (Obj.cells #[.int .i64 k,.int .i64 n] 66)).alloc (Obj.cells #[.int .i64 xk,.int .i64 xn] 66)).alloc (Obj.cells #[.int .i64 0,.slice none 0 0] 47)) k n xk xn 66
 simp only[Deep.nblk_alloc] at hv1;generalize ((((w.alloc (Obj.cells #[.int .i64 M,.slice ao L cap] 47)).alloc (Obj.cells #[.int .i64 k,.int .i64 n] 66)).alloc (Obj.cells #[.int .i64 xk,.int .i64 xn] 66)).alloc (Obj.cells #[.int .i64 0,.slice none 0 0] 47)).alloc (Obj.cells #[.int .i64 k,.int .i64 n,.int .i64 xk,.int .i64 xn] 66)=W at *;obtain⟨N0,N1,N2,N3,N4,k1,b1,hs⟩:=HB;clear N4;have hck:=check_any M ao cap l _ 2 [⟨k,n⟩,⟨xk,xn⟩] W (h.keeps k1) hv1 (by simp)
 rw[<- HL.out] at hck;refine hck.mono ?_;clear hck;rintro e w1 ⟨rfl,hb⟩;replace N0:=(hb.block _ (by omega)).trans N0;replace N1:=(hb.block _ (by omega)).trans N1;replace N2:=(hb.block _ (by omega)).trans N2;replace N3:=(hb.block _ (by omega)).trans N3;replace b1:=b1.trans (hb.mono (by omega));replace k1:=k1.trans (Keeps.below hb);replace hs:w.heap.size+1+1+1+1<=w1.heap.size:=by have:=hb.size;omega
 clear hb hv1;clear W;have c2:w1.cell? ⟨w.heap.size+1+1+1,0,none⟩=some (.int .i64 0):=by simp[World.cell?,N3]
 have c3:w1.cell? ⟨w.heap.size+1+1+1,1,none⟩=some (.slice none 0 0):=by simp[World.cell?,N3]
 have f2:∀ j,w1.frozen? ⟨w.heap.size+1+1+1,j,none⟩=false:=fun j=>by simp[World.frozen?,N3]
 cases hq:hMay M l [⟨k,n⟩,⟨xk,xn⟩] with
 | false =>
  have HE:Aside (r=(0,[],8)):=by show r=_;rw[HR.out,setS,if_pos hq]
  clear HR;simp only[erS_false];go_wp2
  obtain⟨m1,m2⟩:=two_cells N3 (.int .i64 0) (.slice none 0 0);refine bodyPost_ret (v:=.tuple #[.agg #[.int .i64 0,.slice none 0 0],.int .i64 8]) (by simp[results,Tryz.results152,go_sem,m1,m2]) rfl ⟨none,0,by rw[HE.out];rfl,?_,[],by rw[HE.out];rfl,by rw[HE.out];exact heapOwn_nil _ _⟩;exact(b1.setCell (by show w.heap.size<=w.heap.size+1+1+1;omega) _).setCell (by show w.heap.size<=w.heap.size+1+1+1;omega) _
 | true =>
  simp only[erS_true];have hvm:=hMay_vMay hq (v:=⟨k,n⟩) (by simp);have p0:w1.cell? ⟨w.heap.size,0,none⟩=some (.int .i64 M):=by simp[World.cell?,N0]
  have p1:w1.cell? ⟨w.heap.size,1,none⟩=some (.slice ao L cap):=by simp[World.cell?,N0]
  have p2:w1.cell? ⟨w.heap.size+1,0,none⟩=some (.int .i64 k):=by simp[World.cell?,N1]
  have p3:w1.cell? ⟨w.heap.size+1,1,none⟩=some (.int .i64 n):=by simp[World.cell?,N1]
  go_wp2_with fail
  have hcf:=checkField_any M ao cap l k n f w1 (h.keeps k1) hvm;rw[<- HL.out] at hcf;refine hcf.mono ?_;clear hcf;rintro e w2 ⟨rfl,hb2⟩;replace N0:=(hb2.block _ (by omega)).trans N0;replace N1:=(hb2.block _ (by omega)).trans N1;replace N2:=(hb2.block _ (by omega)).trans N2;replace N3:=(hb2.block _ (by omega)).trans N3;replace b1:=b1.trans (hb2.mono (by omega));replace k1:=k1.trans (Keeps.below hb2)
  replace hs:w.heap.size+1+1+1+1<=w2.heap.size:=by have:=hb2.size;omega
  clear hb2 p0 p1 p2 p3 c2 c3 f2;have p0:w2.cell? ⟨w.heap.size,0,none⟩=some (.int .i64 M):=by simp[World.cell?,N0]
  have p1:w2.cell? ⟨w.heap.size,1,none⟩=some (.slice ao L cap):=by simp[World.cell?,N0]
  have c2:w2.cell? ⟨w.heap.size+1+1+1,0,none⟩=some (.int .i64 0):=by simp[World.cell?,N3]
  have c3:w2.cell? ⟨w.heap.size+1+1+1,1,none⟩=some (.slice none 0 0):=by simp[World.cell?,N3]
  have f2:∀ j,w2.frozen? ⟨w.heap.size+1+1+1,j,none⟩=false:=fun j=>by simp[World.frozen?,N3]
  by_cases he:fieldErr l ⟨k,n⟩ f=0
  ·obtain⟨hk2,p,q,ob,x,hp,hqf,hob,hx,hdead⟩:=field_there hvm he
   simp only at hk2 hp;have HE:Aside (r=(M,l.set p ⟨ob.fs.set q ⟨xk,xn⟩,ob.dead⟩,0)):=by show r=_;rw[HR.out,setS,if_neg (by simp[hq]),if_neg (by simp[he])];simp[setObs,hp,hqf,hob]
   rw[he];clear he hq HR hvm;subst hk2 hp hqf
   go_wp2_with fail
   have hcl:=clone_any M ao cap l w2 (h.keeps k1);rw[<- HL.out] at hcl;refine hcl.mono ?_;clear hcl;rintro e w3 ⟨g,rows,rfl,hrows,hO,hb3⟩;replace N0:=(hb3.block _ (by omega)).trans N0;replace N1:=(hb3.block _ (by omega)).trans N1;replace N2:=(hb3.block _ (by omega)).trans N2;replace N3:=(hb3.block _ (by omega)).trans N3;replace b1:=b1.trans (hb3.mono (by omega));replace hO:=hO.le hs;replace hs:w.heap.size+1+1+1+1<=w3.heap.size:=by have:=hb3.size;omega
   clear hb3 p0 p1 c2 c3 f2;have p0:w3.cell? ⟨w.heap.size,0,none⟩=some (.int .i64 M):=by simp[World.cell?,N0]
   have p1:w3.cell? ⟨w.heap.size,1,none⟩=some (.slice ao L cap):=by simp[World.cell?,N0]
   have f0:∀ j,w3.frozen? ⟨w.heap.size,j,none⟩=false:=fun j=>by simp[World.frozen?,N0]
   have HROWS:Aside (rows.map (·.2)=l):=hrows;have hlen:Aside (rows.length=L):=by show rows.length=L;rw[HL.out,<- hrows,List.length_map]
   have hpL:p<L:=by rw[HL.out];exact(List.getElem?_eq_some_iff.1 hob).1
   obtain⟨⟨rv,ob'⟩,hpr⟩:=at_some (l:=rows) (i:=p) (by rw[hlen.out];exact hpL);have hoo:ob'=ob:=by
    have e1:(rows.map (·.2))[p]?=some ob':=by simp[hpr]
    rw[hrows,hob] at e1;exact(Option.some.inj e1).symm
   subst hoo;have hqlt:q<ob'.fs.length:=(List.getElem?_eq_some_iff.1 hx).1;obtain⟨g',gc,hrv⟩:∃ g' gc,rv=.slice (some ⟨g',0,none⟩) ob'.fs.length gc:=by
    rcases ownsRow_form (hO.row p _ hpr).1 with⟨_,hn⟩ | ⟨g',gc,hg',_⟩
    ·simp only at hn;omega
    ·exact⟨g',gc,hg'⟩
   subst hrv;clear hrows;go_wp2
   have HO3:=(hO.setLow (a:=⟨w.heap.size,0,none⟩) (by show w.heap.size<_;omega) (.int .i64 M)).setLow (a:=⟨w.heap.size,1,none⟩) (by show w.heap.size<_;omega) (.slice (some ⟨g,0,none⟩) L L);have M0:((w3.setCell ⟨w.heap.size,0,none⟩ (.int .i64 M)).setCell ⟨w.heap.size,1,none⟩ (.slice (some ⟨g,0,none⟩) L L)).heap[w.heap.size]?=some (.cells #[.int .i64 M,.slice (some ⟨g,0,none⟩) L L] 47 (0,0)):=by
    rw[setCell_blk (setCell_blk N0 0 (.int .i64 M)) 1 (.slice (some ⟨g,0,none⟩) L L)];simp
   have MM:∀ j x,j≠w.heap.size->w3.heap[j]?=some x->((w3.setCell ⟨w.heap.size,0,none⟩ (.int .i64 M)).setCell ⟨w.heap.size,1,none⟩ (.slice (some ⟨g,0,none⟩) L L)).heap[j]?=some x:=fun j x hj hx=>by
    rw[Deep.blk_setCell_other _ _ _ _ hj,Deep.blk_setCell_other _ _ _ _ hj,hx]
   have M1:=MM _ _ (by omega) N1;have M2:=MM _ _ (by omega) N2;have M3:=MM _ _ (by omega) N3;have b3:Below w.heap.size w ((w3.setCell ⟨w.heap.size,0,none⟩ (.int .i64 M)).setCell ⟨w.heap.size,1,none⟩ (.slice (some ⟨g,0,none⟩) L L)):=(b1.setCell (Nat.le_refl _) _).setCell (Nat.le_refl _) _;clear MM hO b1 N0 N1 N2 N3 p0 p1 f0;generalize (w3.setCell ⟨w.heap.size,0,none⟩ (.int .i64 M)).setCell ⟨w.heap.size,1,none⟩ (.slice (some ⟨g,0,none⟩) L L)=w4 at *
   have p1:w4.cell? ⟨w.heap.size,1,none⟩=some (.slice (some ⟨g,0,none⟩) L L):=by simp[World.cell?,M0]
   have p2:w4.cell? ⟨w.heap.size+1,1,none⟩=some (.int .i64 p):=by simp[World.cell?,M1]
   have p3:w4.cell? ⟨w.heap.size+1+1,0,none⟩=some (.int .i64 xk):=by simp[World.cell?,M2]
   have p4:w4.cell? ⟨w.heap.size+1+1,1,none⟩=some (.int .i64 xn):=by simp[World.cell?,M2]
   have d1:w4.cell? ⟨g,p*2,none⟩=some (.slice (some ⟨g',0,none⟩) ob'.fs.length gc):=ownsRow_cell HO3.top rfl (by simp[obCells,pairs_fst,hpr,obPair]);have hrow:=(HO3.row p _ hpr).1;obtain⟨x0k,x0n⟩:=x;have d2:w4.cell? ⟨g',q*2,none⟩=some (.int .i64 x0k):=ownsRow_cell hrow rfl (by simp[valCells,pairs_fst,hx,valPair]);have d3:w4.cell? ⟨g',q*2+1,none⟩=some (.int .i64 x0n):=ownsRow_cell hrow rfl (by simp[valCells,pairs_snd,hx,valPair])
   have d4:∀ j,w4.frozen? ⟨g',j,none⟩=false:=fun j=>ownsRow_frozen hrow rfl j
   have hpz:(p:Int)<(L:Int):=by omega
   have hqz:(q:Int)<(ob'.fs.length:Int):=by omega
   have HX:Aside (ob'.fs[q]?=some ⟨x0k,x0n⟩/\rows[p]?=some (.slice (some ⟨g',0,none⟩) ob'.fs.length gc,ob')):=⟨hx,hpr⟩;clear hx hrow hob hpr
   go_region
   obtain⟨hx,hpr⟩:=HX.out;have hg':w.heap.size+1+1+1+1<=g':=(World.ownsRow.lt (HO3.row p _ hpr).1 g' rfl).1;have HO5:HeapOwn ((w4.setCell ⟨g',q*2,none⟩ (.int .i64 xk)).setCell ⟨g',q*2+1,none⟩ (.int .i64 xn)).drew (w.heap.size+1+1+1+1) (.slice (some ⟨g,0,none⟩) L L) (rows.set p (.slice (some ⟨g',0,none⟩) ob'.fs.length gc,⟨ob'.fs.set q ⟨xk,xn⟩,ob'.dead⟩)) :=
    (HO3.setField hpr q ⟨xk,xn⟩).below (Below.refl _ _).drew
   have b5:Below w.heap.size w ((w4.setCell ⟨g',q*2,none⟩ (.int .i64 xk)).setCell ⟨g',q*2+1,none⟩ (.int .i64 xn)).drew:=((b3.setCell (by show w.heap.size<=g';omega) _).setCell (by show w.heap.size<=g';omega) _).drew;have O0:((w4.setCell ⟨g',q*2,none⟩ (.int .i64 xk)).setCell ⟨g',q*2+1,none⟩ (.int .i64 xn)).drew.heap[w.heap.size]?=some (.cells #[.int .i64 M,.slice (some ⟨g,0,none⟩) L L] 47 (0,0)):=by
    show((w4.setCell ⟨g',q*2,none⟩ (.int .i64 xk)).setCell ⟨g',q*2+1,none⟩ (.int .i64 xn)).heap[w.heap.size]?=_
    rw[Deep.blk_setCell_other _ _ _ _ (by show w.heap.size≠g';omega),Deep.blk_setCell_other _ _ _ _ (by show w.heap.size≠g';omega),M0]
   have O3:((w4.setCell ⟨g',q*2,none⟩ (.int .i64 xk)).setCell ⟨g',q*2+1,none⟩ (.int .i64 xn)).drew.heap[w.heap.size+1+1+1]?=some (.cells #[.int .i64 0,.slice none 0 0] 47 (0,0)):=by
    show((w4.setCell ⟨g',q*2,none⟩ (.int .i64 xk)).setCell ⟨g',q*2+1,none⟩ (.int .i64 xn)).heap[w.heap.size+1+1+1]?=_
    rw[Deep.blk_setCell_other _ _ _ _ (by show w.heap.size+1+1+1≠g';omega),Deep.blk_setCell_other _ _ _ _ (by show w.heap.size+1+1+1≠g';omega),M3]
   clear p1 p2 p3 p4 d1 d2 d3 d4 M0 M1 M2 M3 HO3 b3;generalize ((w4.setCell ⟨g',q*2,none⟩ (.int .i64 xk)).setCell ⟨g',q*2+1,none⟩ (.int .i64 xn)).drew=w5 at *;have p0:w5.cell? ⟨w.heap.size,0,none⟩=some (.int .i64 M):=by simp[World.cell?,O0]
   have p1:w5.cell? ⟨w.heap.size,1,none⟩=some (.slice (some ⟨g,0,none⟩) L L):=by simp[World.cell?,O0]
   have c2:w5.cell? ⟨w.heap.size+1+1+1,0,none⟩=some (.int .i64 0):=by simp[World.cell?,O3]
   have c3:w5.cell? ⟨w.heap.size+1+1+1,1,none⟩=some (.slice none 0 0):=by simp[World.cell?,O3]
   have f2:∀ j,w5.frozen? ⟨w.heap.size+1+1+1,j,none⟩=false:=fun j=>by simp[World.frozen?,O3]
   have hol:Aside (r.2.1.length=L):=by show r.2.1.length=L;rw[HE.out];simp[HL.out]
   have hmap:Aside ((rows.set p (Value.slice (some ⟨g',0,none⟩) ob'.fs.length gc,(⟨ob'.fs.set q ⟨xk,xn⟩,ob'.dead⟩:Ob))).map (·.2)=r.2.1):=by show List.map _ _=_;rw[HE.out,List.map_set,HROWS.out]
   clear hx hpr;go_wp2
   obtain⟨m1,m2⟩:=two_cells O3 (.int .i64 M) (.slice (some ⟨g,0,none⟩) L L);refine bodyPost_ret (v:=.tuple #[.agg #[.int .i64 M,.slice (some ⟨g,0,none⟩) L L],.int .i64 0]) (by simp[results,Tryz.results152,go_sem,m1,m2]) rfl ⟨some ⟨g,0,none⟩,L,by rw[hol.out,HE.out],?_,_,hmap.out,?_⟩
   ·exact(b5.setCell (by show w.heap.size<=w.heap.size+1+1+1;omega) _).setCell (by show w.heap.size<=w.heap.size+1+1+1;omega) _
   ·rw[hol.out]
    refine HeapOwn.le (base:=w.heap.size+1+1+1+1) ?_ (by omega);exact(HO5.setLow (by show w.heap.size+1+1+1<_;omega) _).setLow (by show w.heap.size+1+1+1<_;omega) _
  ·have HE:Aside (r=(0,[],fieldErr l ⟨k,n⟩ f)):=by show r=_;rw[HR.out,setS,if_neg (by simp[hq]),if_pos he]
   have hne:(fieldErr l ⟨k,n⟩ f != 0)=true:=by simp[he]
   clear HR he hq;go_wp2
   obtain⟨m1,m2⟩:=two_cells N3 (.int .i64 0) (.slice none 0 0);refine bodyPost_ret (v:=.tuple #[.agg #[.int .i64 0,.slice none 0 0],.int .i64 (fieldErr l ⟨k,n⟩ f)]) (by simp[results,Tryz.results152,go_sem,m1,m2]) rfl ⟨none,0,by rw[HE.out];rfl,?_,[],by rw[HE.out];rfl,by rw[HE.out];exact heapOwn_nil _ _⟩;exact(b1.setCell (by show w.heap.size<=w.heap.size+1+1+1;omega) _).setCell (by show w.heap.size<=w.heap.size+1+1+1;omega) _
end
section
open Go.RowKit
theorem aput_any (op a b n kind:Int) (w:World) {base Bw:Nat} {V:Wd} {av pv:Value} {fl:List Fa} {rs:List (List (Value × Ob))} (h:WdOwn w base Bw V av pv fl rs) {j:Nat} {x:Ac} (hx:V.acts[j]?=some x) {g nn c:Nat} (hav:av=.slice (some ⟨g,0,none⟩) nn c) (h8:x.regs.length=8) (ha:0<=a/\a<=7) (hb:0<=b/\b<=7) :
  Calls Tryz.prog 112 #[.pointer (some ⟨g,j*8,none⟩),.agg #[.int .i64 op,.int .i64 a,.int .i64 b,.int .i64 n],.int .i64 kind] w fun e w'=>e=.returned (.int .i64 (putsS x ⟨op,a,b,n⟩ kind).2)/\∃ fl' rs',WdOwn w' base Bw { V with acts:=V.acts.set j (putsS x ⟨op,a,b,n⟩ kind).1 } av pv fl' rs'/\Moved w w' (wdFoot Bw av pv fl rs) (wdFoot Bw av pv fl' rs'):=by
 obtain⟨qa,va,rfl,hqa,hva,era⟩:=reg_of ha h8;obtain⟨qb,vb,rfl,hqb,hvb,erb⟩:=reg_of hb h8;obtain⟨N0,k1,b1,s1⟩:=boxes1 w (.cells #[.int .i64 op,.int .i64 qa,.int .i64 qb,.int .i64 n] 43);have h1:=h.below b1;obtain⟨R,fa,r,rc,hfa,hr,hra,k4,kq,kf,hRl,_⟩:=h1.regAt hav hx h8;obtain⟨oa,oc,_,_,_,_,_,k2,k3,hO⟩:=h1.heapAt hav hx;obtain⟨ra1,ra2⟩:=kq qa _ hva;obtain⟨rb1,rb2⟩:=kq qb _ hvb;have kfg:=h1.fz hav;have HRK:Aside (putsS x ⟨op,qa,qb,n⟩ kind=if (setS x.M x.obs va n vb).2.2≠0 then (x,faultS (setS x.M x.obs va n vb).2.2) else if vb.k≠kind then (x,8) else (x.heap (setS x.M x.obs va n vb).1 (setS x.M x.obs va n vb).2.1,0)):=by
  show putsS x ⟨op,qa,qb,n⟩ kind=_
  simp only[putsS,era,erb]
 generalize putsS x ⟨op,qa,qb,n⟩ kind=RK at *;have hza:(qa:Int)<8:=by omega
 have hzb:(qb:Int)<8:=by omega
 have HW:Aside (WdOwn w base Bw V av pv fl rs):=h;have HAV:Aside (av=.slice (some ⟨g,0,none⟩) nn c):=hav;have hgl:g<w.heap.size:=(World.ownsRow.lt h.acts g (by rw[hav];rfl)).2;have HM:Aside (∀ w',Below w.heap.size w w'->Moved w w' (wdFoot Bw av pv fl rs) (wdFoot Bw av pv fl rs)):=fun w' hb'=>Moved.of_below hb'
 go_enter Tryz.func112,Tryz.ntmps112
 go_upto_region 1 with fail
 generalize w.alloc (.cells #[.int .i64 op,.int .i64 qa,.int .i64 qb,.int .i64 n] 43)=W at *;have e1:W.cell? ⟨w.heap.size,1,none⟩=some (.int .i64 qa):=cell_blk N0 1;have e2:W.cell? ⟨w.heap.size,2,none⟩=some (.int .i64 qb):=cell_blk N0 2;have e3:W.cell? ⟨w.heap.size,3,none⟩=some (.int .i64 n):=cell_blk N0 3;obtain⟨yk,yn⟩:=vb;obtain⟨xk,xn⟩:=va;simp only at ra1 ra2 rb1 rb2 HRK;clear h h1 N0 hav kq;obtain⟨GR,hGR⟩:∃ GR,GR=setS x.M x.obs ⟨xk,xn⟩ n ⟨yk,yn⟩:=⟨_,rfl⟩
 rw[<- hGR] at HRK;have hset:=fun w' (hb:Below W.heap.size W w')=>set_any x.M oa oc x.obs xk xn n yk yn w' (hO.keeps (Keeps.below hb))
 rw[<- hGR] at hset;clear hGR;generalize x.M=XM at *;generalize x.obs.length=XL at *;obtain⟨gM,gl,ge⟩:=GR;simp only at hset HRK;have hSof:∀ w',Below W.heap.size W w'->(w'.cell? ⟨w.heap.size,2,none⟩=some (.int .i64 qb)/\w'.cell? ⟨g,j*8+4,none⟩=some (.slice (some ⟨R,0,none⟩) 8 rc)/\w'.cell? ⟨R,qb*2,none⟩=some (.int .i64 yk)/\w'.cell? ⟨R,qb*2+1,none⟩=some (.int .i64 yn)):=fun w' hb'=>⟨Keeps.below hb' _ _ e2,Keeps.below hb' _ _ k4,Keeps.below hb' _ _ rb1,Keeps.below hb' _ _ rb2⟩
 go_cut [7] (fun s7 wc=>∃ Q:Nat,s7=.pointer (some ⟨Q,0,none⟩)/\Below W.heap.size W wc/\W.heap.size<=Q/\wc.heap[Q]?=some (.cells #[.int .i64 yk,.int .i64 yn] 66 (0,0)))
 case first =>
  have hB:Below W.heap.size W W.drew:=(Below.refl _ _).drew;refine wp_region_need (fun _=>true) (fun w'=>w'.cell? ⟨w.heap.size,2,none⟩=some (.int .i64 qb)/\w'.cell? ⟨g,j*8+4,none⟩=some (.slice (some ⟨R,0,none⟩) 8 rc)/\w'.cell? ⟨R,qb*2,none⟩=some (.int .i64 yk)/\w'.cell? ⟨R,qb*2+1,none⟩=some (.int .i64 yn)) (by kernel_rfl) (hSof _ hB) (fun hS=>?_);generalize W.drew=wc0 at hS hB  ⊢;refine tkN 0 hS ?_
  refine tkN 1 hS ?_;refine tkN 2 hS ?_;refine tkN 3 hS ?_;refine tkN 4 hS ?_;refine tkN 5 hS ?_;refine tkN 6 hS ?_;refine tkN 7 hS ?_;refine stN 8 (fun K hK=>?_);go_simp;have hbn:=below_box wc0 (Obj.cells #[.int .i64 0,.int .i64 0] 66);have mQ:=Deep.blk_alloc_new wc0 (Obj.cells #[.int .i64 0,.int .i64 0] 66);have xQ:W.heap.size<=wc0.heap.size:=hB.size
  try have daQ:TT<=wc0.heap.size:=sT
  generalize wc0.alloc (Obj.cells #[.int .i64 0,.int .i64 0] 66)=wc1 at hbn mQ ⊢;obtain⟨Q,hG⟩:∃ Q,Q=wc0.heap.size:=⟨_,rfl⟩;rw[<- hG] at mQ xQ ⊢
  try rw[<- hG] at daQ
  clear hG;have hBn:Below W.heap.size W wc1:=hB.trans (hbn.mono hB.size);refine otN hK (hSof _ hBn) ?_;replace hS:=hSof _ hBn;clear hK;replace hB:=hBn;clear hBn hbn;refine stN 9 (fun K hK=>?_);have c0:=cellBlk mQ 0;have c1:=cellBlk mQ 1;have cf:∀ j,wc1.frozen? ⟨Q,j,none⟩=false:=fun j=>by simp[World.frozen?,mQ]
  simp at c0 c1;go_simp;have hBn:=two_below hB xQ 0 1 (.int .i64 yk) (.int .i64 yn);replace mQ:=two_blk mQ 0 1 (.int .i64 yk) (.int .i64 yn);clear c0 c1 cf;generalize (wc1.setCell ⟨Q,0,none⟩ (.int .i64 yk)).setCell ⟨Q,1,none⟩ (.int .i64 yn)=wc2 at *;refine otN hK (hSof _ hBn) ?_;replace hS:=hSof _ hBn;clear hK;replace hB:=hBn;clear hBn;refine dnN ?_
  go_wp2_with fail
  go_meet
  case rel=>exact⟨Q,rfl,hB,xQ,mQ⟩
 case rest =>
  obtain⟨Q,rfl,hBc,xQ,mQ⟩:=hcut;replace hset:=fun w' (hb:Below wc.heap.size wc w')=>hset w' (hBc.trans (hb.mono hBc.size))
  have HB:Aside (Below w.heap.size w wc):=b1.trans (hBc.mono b1.size);have hgl2:=Nat.lt_of_lt_of_le hgl (b1.trans (hBc.mono b1.size)).size;have sWc:=(b1.trans (hBc.mono b1.size)).size;replace e1:=Keeps.below hBc _ _ e1;replace e3:=Keeps.below hBc _ _ e3;replace k2:=Keeps.below hBc _ _ k2;replace k3:=Keeps.below hBc _ _ k3;replace k4:=Keeps.below hBc _ _ k4;replace ra1:=Keeps.below hBc _ _ ra1;replace ra2:=Keeps.below hBc _ _ ra2
  replace kfg:∀ i,wc.frozen? ⟨g,i,none⟩=false:=fun i=>(hBc.frozen (by have:=b1.size;simp;omega)).trans (kfg i)
  have g0:wc.cell? ⟨Q,0,none⟩=some (.int .i64 yk):=cell_blk mQ 0;have g1:wc.cell? ⟨Q,1,none⟩=some (.int .i64 yn):=cell_blk mQ 1;clear hSof hBc hO e2 rb1 rb2 mQ kf b1 k1 s1
  go_upto_region 2 with fail
  have hSof:∀ w',Below wc.heap.size wc w'->(w'.cell? ⟨w.heap.size,1,none⟩=some (.int .i64 qa)/\w'.cell? ⟨w.heap.size,3,none⟩=some (.int .i64 n)/\w'.cell? ⟨g,j*8+2,none⟩=some (.int .i64 XM)/\w'.cell? ⟨g,j*8+3,none⟩=some (.slice oa XL oc)/\w'.cell? ⟨g,j*8+4,none⟩=some (.slice (some ⟨R,0,none⟩) 8 rc)/\w'.cell? ⟨R,qa*2,none⟩=some (.int .i64 xk)/\w'.cell? ⟨R,qa*2+1,none⟩=some (.int .i64 xn)/\w'.cell? ⟨Q,0,none⟩=some (.int .i64 yk)/\w'.cell? ⟨Q,1,none⟩=some (.int .i64 yn)):=fun w' hb'=>⟨Keeps.below hb' _ _ e1,Keeps.below hb' _ _ e3,Keeps.below hb' _ _ k2,Keeps.below hb' _ _ k3,Keeps.below hb' _ _ k4,Keeps.below hb' _ _ ra1,Keeps.below hb' _ _ ra2,Keeps.below hb' _ _ g0,Keeps.below hb' _ _ g1⟩
  generalize hWc:wc=W2 at *;clear hWc
  go_cut [8,9] (fun s8 s9 wc=>∃ G va vc BB rows,s8=.pointer (some ⟨G,0,none⟩)/\s9=.int .i64 ge/\Below W2.heap.size W2 wc/\W2.heap.size<=G/\wc.heap[G]?=some (.cells #[.int .i64 gM,.slice va gl.length vc] 47 (0,0))/\W2.heap.size<=BB/\rows.map (·.2)=gl/\HeapOwn wc BB (.slice va gl.length vc) rows)
  case first =>
   have hB:Below W2.heap.size W2 W2.drew:=(Below.refl _ _).drew;refine wp_region_need (fun _=>true) (fun w'=>w'.cell? ⟨w.heap.size,1,none⟩=some (.int .i64 qa)/\w'.cell? ⟨w.heap.size,3,none⟩=some (.int .i64 n)/\w'.cell? ⟨g,j*8+2,none⟩=some (.int .i64 XM)/\w'.cell? ⟨g,j*8+3,none⟩=some (.slice oa XL oc)/\w'.cell? ⟨g,j*8+4,none⟩=some (.slice (some ⟨R,0,none⟩) 8 rc)/\w'.cell? ⟨R,qa*2,none⟩=some (.int .i64 xk)/\w'.cell? ⟨R,qa*2+1,none⟩=some (.int .i64 xn)/\w'.cell? ⟨Q,0,none⟩=some (.int .i64 yk)/\w'.cell? ⟨Q,1,none⟩=some (.int .i64 yn)) (by kernel_rfl) (hSof _ hB) (fun hS=>?_)
   generalize W2.drew=wc0 at hS hB  ⊢;refine tkN 0 hS ?_;refine tkN 1 hS ?_;refine tkN 2 hS ?_;refine tkN 3 hS ?_;refine tkN 4 hS ?_;refine tkN 5 hS ?_;refine tkN 6 hS ?_;refine tkN 7 hS ?_;refine tkN 8 hS ?_;refine tkN 9 hS ?_;refine tkN 10 hS ?_;refine tkN 11 hS ?_;refine tkN 12 hS ?_;refine tkN 13 hS ?_;refine tkN 14 hS ?_;refine twN 15 19 (fun K hK=>?_) (fun K hK=>?_)
   ·go_simp
    refine(hset wc0 hB).mono ?_;rintro e wc1 ⟨va,vc,rfl,hbn,rows,hrows,hO⟩;obtain⟨BB,hBB⟩:∃ BB,BB=wc0.heap.size:=⟨_,rfl⟩
    try have dcG:G<wc0.heap.size:=(Array.getElem?_eq_some_iff.1 mG).1
    try rw[<- hBB] at dcG
    rw[<- hBB] at hO;have sB:W2.heap.size<=BB:=by rw[hBB];exact hB.size
    clear hBB;obtain⟨TT,hTT⟩:∃ TT,TT=wc1.heap.size:=⟨_,rfl⟩;have thO:=fun b hb=>(hO.blk_le b hb).2
    rw[<- hTT] at thO;have sT:TT<=wc1.heap.size:=Nat.le_of_eq hTT;clear hTT;have hBn:Below W2.heap.size W2 wc1:=hB.trans (hbn.mono hB.size);refine otN hK (hSof _ hBn) ?_;replace hS:=hSof _ hBn;clear hK;replace hB:=hBn;clear hBn hbn;refine tkN 16 hS ?_;refine tkN 17 hS ?_;refine tkN 18 hS ?_;refine stN 19 (fun K hK=>?_);go_simp;have hbn:=below_box wc1 (Obj.cells #[.int .i64 0,.slice none 0 0] 47);have mG:=Deep.blk_alloc_new wc1 (Obj.cells #[.int .i64 0,.slice none 0 0] 47)
    have xG:W2.heap.size<=wc1.heap.size:=hB.size
    try have daG:TT<=wc1.heap.size:=sT
    generalize wc1.alloc (Obj.cells #[.int .i64 0,.slice none 0 0] 47)=wc2 at hbn mG ⊢;obtain⟨G,hG⟩:∃ G,G=wc1.heap.size:=⟨_,rfl⟩;rw[<- hG] at mG xG ⊢
    try rw[<- hG] at daG
    clear hG;have hBn:Below W2.heap.size W2 wc2:=hB.trans (hbn.mono hB.size);refine otN hK (hSof _ hBn) ?_;replace hS:=hSof _ hBn;clear hK;replace hO:=hO.below hbn;replace sT:=Nat.le_trans sT hbn.size;replace hB:=hBn;clear hBn hbn;refine stN 20 (fun K hK=>?_);have c0:=cellBlk mG 0;have c1:=cellBlk mG 1;have cf:∀ j,wc2.frozen? ⟨G,j,none⟩=false:=fun j=>by simp[World.frozen?,mG]
    simp at c0 c1;go_simp;have hBn:=two_below hB xG 0 1 (.int .i64 gM) (.slice va gl.length vc);replace mG:=two_blk mG 0 1 (.int .i64 gM) (.slice va gl.length vc);replace hO:=hO.at_block (fun b hb=>two_other 0 1 (.int .i64 gM) (.slice va gl.length vc) (show b≠G by have hq1:=thO b hb;have hq2:=(hO.blk_le b hb).1;omega));clear c0 c1 cf;generalize (wc2.setCell ⟨G,0,none⟩ (.int .i64 gM)).setCell ⟨G,1,none⟩ (.slice va gl.length vc)=wc3 at *
    refine otN hK (hSof _ hBn) ?_;replace hS:=hSof _ hBn;clear hK;replace hB:=hBn;clear hBn;refine tkN 21 hS ?_;refine dnN ?_
    go_wp2_with fail
    go_meet
    case rel=>exact⟨G,va,vc,BB,rows,rfl,rfl,hB,xG,mG,sB,hrows,hO⟩
   ·go_simp
    have hbn:=below_box wc0 (Obj.cells #[.int .i64 0,.slice none 0 0] 47);have mG:=Deep.blk_alloc_new wc0 (Obj.cells #[.int .i64 0,.slice none 0 0] 47);have xG:W2.heap.size<=wc0.heap.size:=hB.size
    try have daG:TT<=wc0.heap.size:=sT
    generalize wc0.alloc (Obj.cells #[.int .i64 0,.slice none 0 0] 47)=wc1 at hbn mG ⊢;obtain⟨G,hG⟩:∃ G,G=wc0.heap.size:=⟨_,rfl⟩;rw[<- hG] at mG xG ⊢
    try rw[<- hG] at daG
    clear hG;have hBn:Below W2.heap.size W2 wc1:=hB.trans (hbn.mono hB.size);refine otN hK (hSof _ hBn) ?_;replace hS:=hSof _ hBn;clear hK;replace hB:=hBn;clear hBn hbn;refine stN 15 (fun K hK=>?_);go_simp;refine(hset wc1 hB).mono ?_;rintro e wc2 ⟨va,vc,rfl,hbn,rows,hrows,hO⟩;obtain⟨BB,hBB⟩:∃ BB,BB=wc1.heap.size:=⟨_,rfl⟩
    try have dcG:G<wc1.heap.size:=(Array.getElem?_eq_some_iff.1 mG).1
    try rw[<- hBB] at dcG
    rw[<- hBB] at hO;have sB:W2.heap.size<=BB:=by rw[hBB];exact hB.size
    clear hBB;obtain⟨TT,hTT⟩:∃ TT,TT=wc2.heap.size:=⟨_,rfl⟩;have thO:=fun b hb=>(hO.blk_le b hb).2
    rw[<- hTT] at thO;have sT:TT<=wc2.heap.size:=Nat.le_of_eq hTT;clear hTT;have hBn:Below W2.heap.size W2 wc2:=hB.trans (hbn.mono hB.size);refine otN hK (hSof _ hBn) ?_;replace hS:=hSof _ hBn;clear hK;replace mG:=(hbn.block _ (Array.getElem?_eq_some_iff.1 mG).1).trans mG;replace hB:=hBn;clear hBn hbn;refine tkN 16 hS ?_;refine tkN 17 hS ?_;refine tkN 18 hS ?_;refine stN 20 (fun K hK=>?_);have c0:=cellBlk mG 0
    have c1:=cellBlk mG 1;have cf:∀ j,wc2.frozen? ⟨G,j,none⟩=false:=fun j=>by simp[World.frozen?,mG]
    simp at c0 c1;go_simp;have hBn:=two_below hB xG 0 1 (.int .i64 gM) (.slice va gl.length vc);replace mG:=two_blk mG 0 1 (.int .i64 gM) (.slice va gl.length vc);replace hO:=hO.at_block (fun b hb=>two_other 0 1 (.int .i64 gM) (.slice va gl.length vc) (show b≠G by have hq1:=thO b hb;have hq2:=(hO.blk_le b hb).1;omega));clear c0 c1 cf;generalize (wc2.setCell ⟨G,0,none⟩ (.int .i64 gM)).setCell ⟨G,1,none⟩ (.slice va gl.length vc)=wc3 at *
    refine otN hK (hSof _ hBn) ?_;replace hS:=hSof _ hBn;clear hK;replace hB:=hBn;clear hBn;refine tkN 21 hS ?_;refine dnN ?_
    go_wp2_with fail
    go_meet
    case rel=>exact⟨G,va,vc,BB,rows,rfl,rfl,hB,xG,mG,sB,hrows,hO⟩
  case rest =>
   obtain⟨G,va,vc,BB,rows,rfl,rfl,hBc,xG,mG,sB,hrows,hO⟩:=hcut;replace HB:Aside (Below w.heap.size w wc):=HB.out.trans (hBc.mono HB.out.size);replace k2:=Keeps.below hBc _ _ k2;replace k3:=Keeps.below hBc _ _ k3;replace g0:=Keeps.below hBc _ _ g0;replace g1:=Keeps.below hBc _ _ g1;replace kfg:∀ i,wc.frozen? ⟨g,i,none⟩=false:=fun i=>(hBc.frozen (by simpa using hgl2)).trans (kfg i)
   have G0:wc.cell? ⟨G,0,none⟩=some (.int .i64 gM):=cell_blk mG 0;have G1:wc.cell? ⟨G,1,none⟩=some (.slice va gl.length vc):=cell_blk mG 1;clear hSof e1 e3 k4 ra1 ra2 hset mG hBc
   by_cases hge:ge=0
   rotate_left
   ·have q0:(ge != 0)=true:=by simp[hge]
    have hRK:RK=(x,faultS ge):=by rw[HRK.out,if_pos hge]
    subst hRK;have HF:Aside ((if ge=2 then (4:Int) else 8)=faultS ge):=rfl
    go_wp2_with (go_at_call 151;refine(fault_any _ _).mono ?_;rintro e w' ⟨rfl,hw'⟩;replace hw':=hw'.symm;subst hw';rw[HF.out])
    go_ret
    exact⟨rfl,_,_,HW.out.same hx HB.out,HM.out _ HB.out⟩
   subst hge
   by_cases hgk:yk=kind
   rotate_left
   ·have q0:(yk != kind)=true:=by simp[hgk]
    have hRK:RK=(x,8):=by rw[HRK.out,if_neg (by simp),if_pos hgk]
    subst hRK;go_wp2
    go_ret
    exact⟨rfl,_,_,HW.out.same hx HB.out,HM.out _ HB.out⟩
   subst hgk;have hRK:RK=(x.heap gM gl,0):=by rw[HRK.out,if_neg (by simp),if_neg (by simp)]
   subst hRK;have hz:=HW.out.newHeap HB.out hfa hr hx HAV.out (M:=gM) hrows rfl hO (by have:=HB.out.size;omega);have HZ:Aside (∃ fl' rs',WdOwn ((wc.setCell ⟨g,j*8+2,none⟩ (.int .i64 gM)).setCell ⟨g,j*8+3,none⟩ (.slice va gl.length vc)) base Bw { V with acts:=V.acts.set j (x.heap gM gl) } av pv fl' rs'/\Moved w ((wc.setCell ⟨g,j*8+2,none⟩ (.int .i64 gM)).setCell ⟨g,j*8+3,none⟩ (.slice va gl.length vc)) (wdFoot Bw av pv fl rs) (wdFoot Bw av pv fl' rs')):=⟨_,_,hz.1,hz.2⟩
   clear hz hO hrows;go_wp2
   go_ret
   exact⟨rfl,HZ.out⟩
end
section
open Go.RowKit
def RowAt (w:World) (ao:Option Addr) (n:Nat) (x:Nat->Nat->Int):Prop :=
 ∀ i,i<n->∃ b o,ao=some ⟨b,o,none⟩/\∀ f,f<4->w.cell? ⟨b,o+i*4+f,none⟩=some (.int .i64 (x i f))
theorem RowAt.keeps {w w':World} {ao:Option Addr} {n:Nat} {x:Nat->Nat->Int} (h:RowAt w ao n x) (k:Keeps w w'):RowAt w' ao n x:=fun i hi=>by
 obtain⟨b,o,e,hc⟩:=h i hi;exact⟨b,o,e,fun f hf=>k _ _ (hc f hf)⟩
structure ProgAt (w:World) (ao:Option Addr) (G:Nat) (A:Nat->Option Addr) (L C:Nat->Nat) (X:Nat->Nat->Nat->Int):Prop where
 outer:∀ r,r<G->∃ b o,ao=some ⟨b,o,none⟩/\w.cell? ⟨b,o+r,none⟩=some (.slice (A r) (L r) (C r))
 rows:∀ r,r<G->RowAt w (A r) (L r) (X r)
 many:24*G<=281474976710656
 long:∀ r,r<G->32*L r<=281474976710656
 fits:∀ r,r<G->∀ i,i<L r->∀ f,f<4->-9223372036854775808<=X r i f/\X r i f<=9223372036854775807
theorem ProgAt.keeps {w w':World} {ao:Option Addr} {G:Nat} {A:Nat->Option Addr} {L C:Nat->Nat} {X:Nat->Nat->Nat->Int} (h:ProgAt w ao G A L C X) (k:Keeps w w'):ProgAt w' ao G A L C X :=
 ⟨fun r hr=>by obtain⟨b,o,e,hc⟩:=h.outer r hr;exact⟨b,o,e,k _ _ hc⟩,fun r hr=>(h.rows r hr).keeps k,h.many,h.long,h.fits⟩
end
section
open Go.RowKit
theorem roots_any (kind par M pc fin:Int) (oa ra ba:Option Addr) (O oc rc bc:Nat) (regs box:List Vl) (w:World) (hr:ValsAt w ra regs) (hb:ValsAt w ba box) (hrl:16*regs.length<=140737488351232) (hbl:box.length<=6) :
  Calls Tryz.prog 79 #[.agg #[.int .i64 kind,.int .i64 par,.int .i64 M,.slice oa O oc,.slice ra regs.length rc,.int .i64 pc,.slice ba box.length bc,.int .i64 fin]] w fun e w'=>∃ va vc,e=.returned (.slice va (regs.length+box.length) vc)/\ValsAt w' va (regs++box)/\Below w.heap.size w w':=by
 obtain⟨N0,N1,k1,b1,s1⟩:=boxes2 w (.cells #[.int .i64 kind,.int .i64 par,.int .i64 M,.slice oa O oc,.slice ra regs.length rc,.int .i64 pc,.slice ba box.length bc,.int .i64 fin] 50) (.cells #[.slice ra regs.length rc,.slice ba box.length bc] 48);have c0:=cell_blk N1 0;have c1:=cell_blk N1 1;have hC:=concat_any (w.heap.size+1) ra ba rc bc regs box _ c0 c1 (hr.keeps k1) (hb.keeps k1) hrl hbl;have HC:Aside (Calls Tryz.prog 121 #[.slice (some ⟨w.heap.size+1,0,none⟩) 2 2] _ _):=hC
 clear hC c0 c1 N0 N1 k1 hr hb;generalize regs.length=R at *;generalize box.length=X at *
 go_enter Tryz.func79,Tryz.ntmps79
 go_wp2_with fail
 refine Calls.mono HC.out ?_;rintro e w' ⟨va,vc,rfl,hv,hb'⟩;go_wp2
 go_ret
 exact⟨va,vc,rfl,hv,b1.trans (hb'.mono b1.size)⟩
end
end Go.Proofs.YtepifccbbmdfcaaGreatDoor
