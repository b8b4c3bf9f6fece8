/- JParentsTold. -/
import Derived.Deep.Modes
import Derived.Test.YtepifccbbmdfcaaGreatDoorCBProgV
namespace Go.Proofs.YtepifccbbmdfcaaGreatDoor
set_option maxRecDepth 100000
set_option maxHeartbeats 8000000
section
def noIns:Ins:=⟨0,0,0,0⟩
section
variable {bs:List Int} {k k1 k2 k3:Nat} {q a b n er:Int}
end
end
section
open Go.RowKit
theorem AcAt.keeps {w w':World} {b o:Nat} {x:Ac} {oa ra ba:Option Addr} {oc rc bc:Nat} (h:AcAt w b o x oa oc ra rc ba bc) (k:Keeps w w'):AcAt w' b o x oa oc ra rc ba bc :=
 ⟨k _ _ h.c0,k _ _ h.c1,k _ _ h.c2,k _ _ h.c3,k _ _ h.c4,k _ _ h.c5,k _ _ h.c6,k _ _ h.c7,h.obs.keeps k,h.regs.keeps k,h.box.keeps k,h.rlen,h.blen⟩
theorem ActsAt.keeps {w w':World} {ao:Option Addr} {l:List Ac} (h:ActsAt w ao l) (k:Keeps w w'):ActsAt w' ao l :=
 ⟨fun i x hi=>by
  obtain⟨b,o,oa,oc,ra,rc,ba,bc,e,h1⟩:=h.cell i x hi;exact⟨b,o,oa,oc,ra,rc,ba,bc,e,h1.keeps k⟩,h.many⟩
theorem ToldAt.keeps {w w':World} {ao:Option Addr} {l:List (Int × Int)} (h:ToldAt w ao l) (k:Keeps w w'):ToldAt w' ao l :=
 ⟨fun i x hi=>by
  obtain⟨b,o,e,h1,h2⟩:=h.cell i x hi;exact⟨b,o,e,k _ _ h1,k _ _ h2⟩,h.many⟩
end
section
open Go.RowKit
section
variable {α:Type} {f:α->List Value} {s:Nat} {e tS:TypeId} {bytes:Nat} {P:Program}
theorem SeqOwn.below {w w':World} {base:Nat} {v:Value} {l:List α} (h:SeqOwn f s e w base v l) (hb:Below w.heap.size w w'):SeqOwn f s e w' base v l:=by
 refine World.ownsRow.kept h (row:=none) ⟨hb.os,hb.tape,hb.output,hb.size,fun j hj _=>hb.block j hj⟩ ?_
 cases h0:v.ownBlock with
 | none=>exact Or.inl rfl
 | some g=>exact Or.inr (by simp)
end
end
section
def lenOf (rows:List (List Ins)) (r:Nat):Nat:=(rows.getD r []).length
def xOf (rows:List (List Ins)) (r i f:Nat):Int:=fld ((rows.getD r []).getD i noIns) f
end
section
open Go.RowKit
def endsR (j:Nat):List Ins:=[[⟨19,0,0,0⟩],[⟨8,2,1,2⟩,⟨0,0,0,0⟩],[⟨10,2,1,0⟩,⟨0,0,0,0⟩],[⟨1,2,0,1099511627776⟩,⟨2,2,2,0⟩,⟨0,0,0,0⟩],[⟨7,2,0,1⟩,⟨11,2,0,0⟩,⟨12,0,2,0⟩,⟨6,0,0,-3⟩],[⟨7,2,0,1⟩,⟨8,3,2,0⟩,⟨0,0,0,0⟩]].getD j []
def firstR:List Ins:=[⟨8,2,1,1⟩,⟨5,2,0,4⟩,⟨8,3,1,0⟩,⟨15,3,0,0⟩,⟨15,2,0,0⟩,⟨7,4,0,1⟩,⟨17,5,4,1⟩,⟨13,1,5,0⟩,⟨0,0,0,0⟩]
def parA:List Ax:=⟨3,0,0,0⟩ :: (List.replicate 12 ⟨1,0,0,0⟩++List.replicate 40 ⟨1,1,0,0⟩++List.replicate 6 ⟨1,0,0,0⟩)
def howR (j:Nat):Int:=[1,4,3,7,5,2].getD j 0
def parW (j:Nat):Wd × Int:=runWS 2 (lenOf [firstR,endsR j]) (xOf [firstR,endsR j]) 10 parA
theorem par_ok:∀ j,j<6->(parW j).2=0/\2<=(parW j).1.acts.length/\((parW j).1.at 1).fin=howR j/\((parW j).1.at 1).obs=[]/\2<=(parW j).1.prints.length/\(parW j).1.prints[0]?=some (0,1)/\(parW j).1.prints[1]?=some (0,howR j):=by decide +kernel
end
section
open Go.RowKit
def insCells (l:List Ins):List Value:=l.flatMap fun x=>[.int .i64 x.op,.int .i64 x.a,.int .i64 x.b,.int .i64 x.n]
theorem insCells_get:∀ (l:List Ins) (i f:Nat),i<l.length->f<4->(insCells l)[i*4+f]?=some (.int .i64 (fld (l.getD i noIns) f))
 | x :: l,0,f,_,hf=>by
  match f,hf with
  | 0,_=>rfl
  | 1,_=>rfl
  | 2,_=>rfl
  | 3,_=>rfl
 | x :: l,i+1,f,hi,hf=>by
  have:=insCells_get l i f (by simpa using hi) hf
  show([Value.int .i64 x.op,.int .i64 x.a,.int .i64 x.b,.int .i64 x.n]++insCells l)[(i+1)*4+f]?=_
  rw[List.getElem?_append_right (by simp;omega)];simp only[List.length_cons,List.length_nil];rw[show(i+1)*4+f-(0+1+1+1+1)=i*4+f by omega,this];simp
def fIns (x:Ins):List Value:=[.int .i64 x.op,.int .i64 x.a,.int .i64 x.b,.int .i64 x.n]
def KindsAt (w:World) (ao:Option Addr) (rows:List (List Ins)):Prop :=
 ∀ (r:Nat) l,rows[r]?=some l->∃ b o ra rc,ao=some ⟨b,o,none⟩/\w.cell? ⟨b,o+r,none⟩=some (.slice ra l.length rc)/\SeqAt fIns 4 w ra l
theorem KindsAt.keeps {w w':World} {ao:Option Addr} {rows:List (List Ins)} (h:KindsAt w ao rows) (k:Keeps w w'):KindsAt w' ao rows:=fun r l hl=>by
 obtain⟨b,o,ra,rc,e,h1,h2⟩:=h r l hl;exact⟨b,o,ra,rc,e,k _ _ h1,h2.keeps k⟩
def insFit (x:Ins):Prop:=∀ f,f<4->-9223372036854775808<=fld x f/\fld x f<=9223372036854775807
theorem rowAt_seq {w:World} {ra:Option Addr} {l:List Ins} (h:SeqAt fIns 4 w ra l):RowAt w ra l.length (fun i f=>fld (l.getD i noIns) f):=fun i hi=>by
 have hx:=List.getElem?_eq_getElem hi;obtain⟨b,o,e,hc⟩:=h i _ hx;refine⟨b,o,e,fun f hf=>?_⟩;have eg:l.getD i noIns=l[i]:=by simp[List.getD_eq_getElem?_getD,hx]
 show w.cell? ⟨b,o+i*4+f,none⟩=some (.int .i64 (fld (l.getD i noIns) f))
 rw[eg];refine hc f _ ?_
 match f,hf with
 | 0,_=>rfl
 | 1,_=>rfl
 | 2,_=>rfl
 | 3,_=>rfl
theorem kinds_choose {w:World} {ao:Option Addr} {rows:List (List Ins)} (h:KindsAt w ao rows):∃ (A:Nat->Option Addr) (C:Nat->Nat),∀ r,r<rows.length->(∃ b o,ao=some ⟨b,o,none⟩/\w.cell? ⟨b,o+r,none⟩=some (.slice (A r) (rows.getD r []).length (C r)))/\SeqAt fIns 4 w (A r) (rows.getD r []):=by
 have hp:∀ r,∃ p:Option Addr × Nat,r<rows.length->(∃ b o,ao=some ⟨b,o,none⟩/\w.cell? ⟨b,o+r,none⟩=some (.slice p.1 (rows.getD r []).length p.2))/\SeqAt fIns 4 w p.1 (rows.getD r []):=fun r=>by
  by_cases hr:r<rows.length
  ·have hx:=List.getElem?_eq_getElem hr
   have eg:rows.getD r []=rows[r]:=by simp[List.getD_eq_getElem?_getD,hx]
   obtain⟨b,o,ra,rc,e,h1,h2⟩:=h r _ hx;exact⟨(ra,rc),fun _=>⟨⟨b,o,e,by rw[eg];exact h1⟩,by rw[eg];exact h2⟩⟩
  ·exact⟨(none,0),fun h=>absurd h hr⟩
 refine⟨fun r=>(hp r).choose.1,fun r=>(hp r).choose.2,fun r hr=>?_⟩;exact(hp r).choose_spec hr
theorem prog_of {w:World} {ao:Option Addr} {rows:List (List Ins)} (h:KindsAt w ao rows) (hm:rows.length<=1000000) (hl:∀ l∈rows,l.length<=1000000/\∀ x∈l,insFit x):∃ A C,ProgAt w ao rows.length A (lenOf rows) C (xOf rows):=by
 obtain⟨A,C,hAC⟩:=kinds_choose h;have hin:∀ r,r<rows.length->rows.getD r []∈rows:=fun r hr=>by
  have hx:=List.getElem?_eq_getElem hr;have eg:rows.getD r []=rows[r]:=by simp[List.getD_eq_getElem?_getD,hx]
  rw[eg];exact List.getElem_mem hr
 refine⟨A,C,fun r hr=>(hAC r hr).1,fun r hr=>rowAt_seq (hAC r hr).2,by omega,fun r hr=>?_,fun r hr i hi f hf=>?_⟩
 ·have:=(hl _ (hin r hr)).1
  unfold lenOf
  omega
 ·have hx:=List.getElem?_eq_getElem (show i<(rows.getD r []).length from hi)
  have eg:(rows.getD r []).getD i noIns=(rows.getD r [])[i]'hi:=by rw[List.getD_eq_getElem?_getD,hx];rfl
  have:=(hl _ (hin r hr)).2 _ (List.getElem_mem hi)
  unfold xOf
  rw[eg];exact this f hf
end
section
open Go.RowKit
theorem ins_lit {w:World} {B n:Nat} {c:Array Value} {t:TypeId} (h:w.heap[B]?=some (.cells c t (0,0))) (l:List Ins) (hn:l.length=n) (hc:c.toList=l.flatMap fIns) (hs:c.size=n*4) (hm:n<=maxLen):SeqAt fIns 4 w (some ⟨B,0,none⟩) l:=by
 have k:=ownsRow_lit (base:=0) h (Nat.zero_le _) hs hm;rw[hc,<- hn] at k;exact SeqOwn.at (f:=fIns) (s:=4) (fun _=>rfl) k
theorem kinds_two {w:World} {B:Nat} {a b:List Ins} {aa ba:Option Addr} {ac bc:Nat} {t:TypeId} (h:w.heap[B]?=some (.cells #[.slice aa a.length ac,.slice ba b.length bc] t (0,0))) (ha:SeqAt fIns 4 w aa a) (hb:SeqAt fIns 4 w ba b):KindsAt w (some ⟨B,0,none⟩) [a,b]:=fun r l hl=>by
 match r,hl with
 | 0,hl=>simp at hl;subst hl;exact⟨B,0,aa,ac,rfl,by rw[cellBlk h];rfl,ha⟩
 | 1,hl=>simp at hl;subst hl;exact⟨B,0,ba,bc,rfl,by rw[cellBlk h];rfl,hb⟩
 | r+2,hl=>simp at hl
theorem blk_up {w:World} {k:Nat} {x:Obj} (h:w.heap[k]?=some x) (o:Obj):(w.alloc o).heap[k]?=some x:=((below_box w o).block k (Array.getElem?_eq_some_iff.1 h).1).trans h
end
section
def pick (n many:Int):Int:=(if n<0 then -(n+1) else n) % many
theorem pick_bd {n many:Int} (h:0<many):0<=pick n many/\pick n many<many:=⟨Int.emod_nonneg _ (by omega),Int.emod_lt_of_pos _ h⟩
def fit64 (n:Int):Prop:=-9223372036854775808<=n/\n<=9223372036854775807
end
section
open Go.RowKit
theorem picked_any (n many:Int) (w:World) (h1:-9223372036854775808<=n) (h2:n<=9223372036854775807) (hm:0<many) (hm':many<=1000000) :
  Calls Tryz.prog 9 #[.int .i64 n,.int .i64 many] w fun e w'=>e=.returned (.int .i64 (pick n many))/\w=w':=by
 by_cases hn:n<0
 ·have hP:pick n many=(-(n+1)) % many:=by simp[pick,hn]
  rw[hP];clear hP
  go_enter Tryz.func9,Tryz.ntmps9
  go_wp2
  go_ret
  exact⟨ret_num (by first | rfl | (rw[<- Int.tmod_eq_emod_of_nonneg (by omega),Int.neg_tmod]) | skip),rfl⟩
 ·have hP:pick n many=n % many:=by simp[pick,hn]
  have hd:decide (n<0)=false:=by simp;omega
  rw[hP];clear hP
  go_enter Tryz.func9,Tryz.ntmps9
  go_wp2
  go_ret
  exact⟨ret_num (by first | rfl | (rw[<- Int.tmod_eq_emod_of_nonneg (by omega),Int.neg_tmod]) | skip),rfl⟩
end
section
open Go.RowKit
def fAx (x:Ax):List Value:=[.int .i64 x.kind,.int .i64 x.who,.int .i64 x.n,.int .i64 x.m]
theorem Tryz.rowAx:RowT Tryz.prog fAx 4 23 27 32:=⟨fun _=>rfl,fun x v hv=>by simp[fAx] at hv;rcases hv with h | h | h | h <;> rw[h] <;> rfl,by decide,Tryz.underlying23,_,(show(Tryz.prog.info? 27).map (fun i=>(i.zero,i.size,i.bytes))=some (some (.agg #[.int .i64 0,.int .i64 0,.int .i64 0,.int .i64 0]),4,32) by kernel_rfl),rfl⟩
theorem seqAx_to {w:World} {ao:Option Addr} {l:List Ax} (h:SeqAt fAx 4 w ao l):AxsAt w ao l:=fun i a hi=>by
 obtain⟨b,o,e,hc⟩:=h i a hi;exact⟨b,o,e,hc 0 _ rfl,hc 1 _ rfl,hc 2 _ rfl,hc 3 _ rfl⟩
theorem seqAx_new (w:World) (x:Ax) (t:TypeId) (B:Nat) (hB:B=w.heap.size):SeqAt fAx 4 (w.alloc (.cells #[.int .i64 x.kind,.int .i64 x.who,.int .i64 x.n,.int .i64 x.m] t)) (some ⟨B,0,none⟩) [x]:=fun i y hy=>by
 match i,hy with
 | 0,hy =>
  simp at hy;subst hy;refine⟨B,0,rfl,fun j u hu=>?_⟩;rw[cellBlk (by rw[hB];exact Deep.blk_alloc_new w _)]
  simpa[fAx] using hu
 | i+1,hy=>simp at hy
end
section
open Go.RowKit
def insFc (x:Ins):Bool:=(decide (-4398046511104<=x.op) && decide (x.op<=4398046511104)) && ((decide (-4398046511104<=x.a) && decide (x.a<=4398046511104)) && ((decide (-4398046511104<=x.b) && decide (x.b<=4398046511104)) && (decide (-4398046511104<=x.n) && decide (x.n<=4398046511104))))
def fitC (r:List (List Ins)):Bool:=r.all (fun l=>decide (l.length<=1000) && l.all insFc)
theorem fitC_of {r:List (List Ins)} (h:fitC r=true):∀ l∈r,l.length<=1000000/\∀ x∈l,insFit x:=by
 simp only[fitC,Bool.and_eq_true,decide_eq_true_eq,List.all_eq_true] at h;intro l hl;obtain⟨h1,h2⟩:=h l hl;refine⟨by omega,fun x hx f hf=>?_⟩;have:=h2 x hx;simp only[insFc,Bool.and_eq_true,decide_eq_true_eq] at this
 match f,hf with
 | 0,_=>show -9223372036854775808<=x.op/\x.op<=9223372036854775807;omega
 | 1,_=>show -9223372036854775808<=x.a/\x.a<=9223372036854775807;omega
 | 2,_=>show -9223372036854775808<=x.b/\x.b<=9223372036854775807;omega
 | 3,_=>show -9223372036854775808<=x.n/\x.n<=9223372036854775807;omega
end
section
open Go.RowKit
theorem seven_up (w:World) (o0 o1 o2 o3 o4 o5 o6:Obj) {W:World} (hW:W=((((((w.alloc o0).alloc o1).alloc o2).alloc o3).alloc o4).alloc o5).alloc o6) :
  (W.heap[w.heap.size]?=some o0/\W.heap[w.heap.size+1]?=some o1/\W.heap[w.heap.size+1+1]?=some o2/\W.heap[w.heap.size+1+1+1]?=some o3/\W.heap[w.heap.size+1+1+1+1]?=some o4/\W.heap[w.heap.size+1+1+1+1+1]?=some o5/\W.heap[w.heap.size+1+1+1+1+1+1]?=some o6)/\Below w.heap.size w W:=by
 have sz:∀ (v:World) o,(v.alloc o).heap.size=v.heap.size+1:=fun v o=>(boxes1 v o).2.2.2
 have n:=fun(v:World) o=>Deep.blk_alloc_new v o
 subst hW;refine⟨⟨?_,?_,?_,?_,?_,?_,?_⟩,?_⟩
 ·exact blk_up (blk_up (blk_up (blk_up (blk_up (blk_up (n w o0) o1) o2) o3) o4) o5) o6
 ·have h:=n (w.alloc o0) o1
  rw[sz] at h;exact blk_up (blk_up (blk_up (blk_up (blk_up h o2) o3) o4) o5) o6
 ·have h:=n ((w.alloc o0).alloc o1) o2
  rw[sz,sz] at h;exact blk_up (blk_up (blk_up (blk_up h o3) o4) o5) o6
 ·have h:=n (((w.alloc o0).alloc o1).alloc o2) o3
  rw[sz,sz,sz] at h;exact blk_up (blk_up (blk_up h o4) o5) o6
 ·have h:=n ((((w.alloc o0).alloc o1).alloc o2).alloc o3) o4
  rw[sz,sz,sz,sz] at h;exact blk_up (blk_up h o5) o6
 ·have h:=n (((((w.alloc o0).alloc o1).alloc o2).alloc o3).alloc o4) o5
  rw[sz,sz,sz,sz,sz] at h;exact blk_up h o6
 ·have h:=n ((((((w.alloc o0).alloc o1).alloc o2).alloc o3).alloc o4).alloc o5) o6
  rw[sz,sz,sz,sz,sz,sz] at h;exact h
 ·have h0:=below_box w o0
  have h1:=h0.alloc h0.size o1;have h2:=h1.alloc h1.size o2;have h3:=h2.alloc h2.size o3;have h4:=h3.alloc h3.size o4;have h5:=h4.alloc h4.size o5;exact h5.alloc h5.size o6
theorem par_fits:∀ k,k<6->fitC [firstR,endsR k]=true:=by decide +kernel
def parP (a b c:Nat):List Ax:=⟨3,0,0,0⟩ :: (List.replicate a ⟨1,0,0,0⟩++List.replicate b ⟨1,1,0,0⟩++List.replicate c ⟨1,0,0,0⟩)
theorem parP_next1 (a:Nat):parP (a+1) 0 0=parP a 0 0++[⟨1,0,0,0⟩]:=by simp[parP,List.replicate_succ']
theorem parP_next2 (a b:Nat):parP a (b+1) 0=parP a b 0++[⟨1,1,0,0⟩]:=by simp[parP,List.replicate_succ']
theorem parP_next3 (a b c:Nat):parP a b (c+1)=parP a b c++[⟨1,0,0,0⟩]:=by simp[parP,List.replicate_succ']
theorem parP_len (a b c:Nat):(parP a b c).length=1+(a+b+c):=by simp[parP];omega
theorem parentsTold_any (n:Int) (w:World) (hT:TabAt 0 w) (hn:fit64 n) :
  Calls Tryz.prog 4 #[.int .i64 n] w fun e w'=>e=.returned (.bool true)/\Below w.heap.size w w':=by
 have hp6:=pick_bd (n:=n) (many:=6) (by omega);obtain⟨k,hk⟩:=Int.eq_ofNat_of_zero_le hp6.1;have hk6:k<6:=by omega
 have HPAR:Aside (_):=par_ok k hk6;have hmx:maxLen=9223372036854775807:=rfl
 go_enter Tryz.func4,Tryz.ntmps4
 go_upto_region 2 with fail
 generalize hW:((((((w.alloc (.cells #[.int .i64 19,.int .i64 0,.int .i64 0,.int .i64 0] 43)).alloc (.cells #[.int .i64 8,.int .i64 2,.int .i64 1,.int .i64 2,.int .i64 0,.int .i64 0,.int .i64 0,.int .i64 0] 43)).alloc (.cells #[.int .i64 10,.int .i64 2,.int .i64 1,.int .i64 0,.int .i64 0,.int .i64 0,.int .i64 0,.int .i64 0] 43)).alloc (.cells #[.int .i64 1,.int .i64 2,.int .i64 0,.int .i64 1099511627776,.int .i64 2,.int .i64 2,.int .i64 2,.int .i64 0,.int .i64 0,.int .i64 0,.int .i64 0,.int .i64 0] 43)).alloc (.cells #[.int .i64 7,.int .i64 2,.int .i64 0,.int .i64 1,.int .i64 11,.int .i64 2,.int .i64 0,.int .i64 0,.int .i64 12,.int .i64 0,.int .i64 2,.int .i64 0,.int .i64 6,.int .i64 0,.int .i64 0,.int .i64 (-3)] 43)).alloc (.cells #[.int .i64 7,.int .i64 2,.int .i64 0,.int .i64 1,.int .i64 8,.int .i64 3,.int .i64 2,.int .i64 0,.int .i64 0,.int .i64 0,.int .i64 0,.int .i64 0] 43)).alloc (.cells #[.slice (some ⟨w.heap.size,0,none⟩) 1 1,.slice (some ⟨w.heap.size+1,0,none⟩) 2 2,.slice (some ⟨w.heap.size+1+1,0,none⟩) 2 2,.slice (some ⟨w.heap.size+1+1+1,0,none⟩) 3 3,.slice (some ⟨w.heap.size+1+1+1+1,0,none⟩) 4 4,.slice (some ⟨w.heap.size+1+1+1+1+1,0,none⟩) 3 3] 44)=W
 obtain⟨⟨M0,M1,M2,M3,M4,M5,M6⟩,hB⟩:=seven_up w _ _ _ _ _ _ _ hW.symm;clear hW;have HM:Aside (∀ k,k<6->∃ B,W.cell? ⟨w.heap.size+1+1+1+1+1+1,k,none⟩=some (.slice (some ⟨B,0,none⟩) (endsR k).length (endsR k).length)/\SeqAt fIns 4 W (some ⟨B,0,none⟩) (endsR k)):=fun k hk=>by
  have h:k=0\/k=1\/k=2\/k=3\/k=4\/k=5:=by omega
  rcases h with rfl | rfl | rfl | rfl | rfl | rfl
  ·exact⟨_,cell_blk M6 0,ins_lit M0 _ (n:=1) rfl rfl rfl (by omega)⟩
  ·exact⟨_,cell_blk M6 1,ins_lit M1 _ (n:=2) rfl rfl rfl (by omega)⟩
  ·exact⟨_,cell_blk M6 2,ins_lit M2 _ (n:=2) rfl rfl rfl (by omega)⟩
  ·exact⟨_,cell_blk M6 3,ins_lit M3 _ (n:=3) rfl rfl rfl (by omega)⟩
  ·exact⟨_,cell_blk M6 4,ins_lit M4 _ (n:=4) rfl rfl rfl (by omega)⟩
  ·exact⟨_,cell_blk M6 5,ins_lit M5 _ (n:=3) rfl rfl rfl (by omega)⟩
 clear M0 M1 M2 M3 M4 M5 M6;generalize w.heap.size+1+1+1+1+1+1=E at *
 go_upto_region 3 with fail
 have NH:=Deep.blk_alloc_new W (.cells #[.int .i64 1,.int .i64 4,.int .i64 3,.int .i64 7,.int .i64 5,.int .i64 2] 3);have bh:=below_box W (.cells #[.int .i64 1,.int .i64 4,.int .i64 3,.int .i64 7,.int .i64 5,.int .i64 2] 3);generalize W.alloc (.cells #[.int .i64 1,.int .i64 4,.int .i64 3,.int .i64 7,.int .i64 5,.int .i64 2] 3)=W1 at *;have kh:Keeps W W1:=Keeps.below bh;have hB1:=hB.trans (bh.mono hB.size)
 clear bh hB;generalize W.heap.size=H at *;have HH:Aside (∀ k,k<6->W1.cell? ⟨H,k,none⟩=some (.int .i64 (howR k))):=fun k hk=>by
  have h:k=0\/k=1\/k=2\/k=3\/k=4\/k=5:=by omega
  rcases h with rfl | rfl | rfl | rfl | rfl | rfl <;> exact cell_blk NH _
 obtain⟨B,hE,hS⟩:=HM.out k hk6;have hC:=HH.out k hk6;replace hE:=kh _ _ hE;replace hS:=hS.keeps kh;clear HM HH NH kh
 go_wp2_with fail
 refine(picked_any n 6 W1 hn.1 hn.2 (by omega) (by omega)).mono ?_;rintro e w' ⟨rfl,rfl⟩;rw[hk];have NF:=Deep.blk_alloc_new W1 (.cells #[.int .i64 8,.int .i64 2,.int .i64 1,.int .i64 1,.int .i64 5,.int .i64 2,.int .i64 0,.int .i64 4,.int .i64 8,.int .i64 3,.int .i64 1,.int .i64 0,.int .i64 15,.int .i64 3,.int .i64 0,.int .i64 0,.int .i64 15,.int .i64 2,.int .i64 0,.int .i64 0,.int .i64 7,.int .i64 4,.int .i64 0,.int .i64 1,.int .i64 17,.int .i64 5,.int .i64 4,.int .i64 1,.int .i64 13,.int .i64 1,.int .i64 5,.int .i64 0,.int .i64 0,.int .i64 0,.int .i64 0,.int .i64 0] 43)
 have bf:=below_box W1 (.cells #[.int .i64 8,.int .i64 2,.int .i64 1,.int .i64 1,.int .i64 5,.int .i64 2,.int .i64 0,.int .i64 4,.int .i64 8,.int .i64 3,.int .i64 1,.int .i64 0,.int .i64 15,.int .i64 3,.int .i64 0,.int .i64 0,.int .i64 15,.int .i64 2,.int .i64 0,.int .i64 0,.int .i64 7,.int .i64 4,.int .i64 0,.int .i64 1,.int .i64 17,.int .i64 5,.int .i64 4,.int .i64 1,.int .i64 13,.int .i64 1,.int .i64 5,.int .i64 0,.int .i64 0,.int .i64 0,.int .i64 0,.int .i64 0] 43)
 have hF:SeqAt fIns 4 (W1.alloc (.cells #[.int .i64 8,.int .i64 2,.int .i64 1,.int .i64 1,.int .i64 5,.int .i64 2,.int .i64 0,.int .i64 4,.int .i64 8,.int .i64 3,.int .i64 1,.int .i64 0,.int .i64 15,.int .i64 3,.int .i64 0,.int .i64 0,.int .i64 15,.int .i64 2,.int .i64 0,.int .i64 0,.int .i64 7,.int .i64 4,.int .i64 0,.int .i64 1,.int .i64 17,.int .i64 5,.int .i64 4,.int .i64 1,.int .i64 13,.int .i64 1,.int .i64 5,.int .i64 0,.int .i64 0,.int .i64 0,.int .i64 0,.int .i64 0] 43)) (some ⟨W1.heap.size,0,none⟩) firstR:=ins_lit NF _ (n:=9) rfl rfl rfl (by omega)
 replace hE:=Keeps.below bf _ _ hE;replace hC:=Keeps.below bf _ _ hC;replace hS:=hS.keeps (Keeps.below bf);have hB2:=hB1.trans (bf.mono hB1.size);have hkz:(k:Int)<6:=by omega
 clear NF bf hB1
 go_upto_region 5 with fail
 generalize W1.alloc (.cells #[.int .i64 8,.int .i64 2,.int .i64 1,.int .i64 1,.int .i64 5,.int .i64 2,.int .i64 0,.int .i64 4,.int .i64 8,.int .i64 3,.int .i64 1,.int .i64 0,.int .i64 15,.int .i64 3,.int .i64 0,.int .i64 0,.int .i64 15,.int .i64 2,.int .i64 0,.int .i64 0,.int .i64 7,.int .i64 4,.int .i64 0,.int .i64 1,.int .i64 17,.int .i64 5,.int .i64 4,.int .i64 1,.int .i64 13,.int .i64 1,.int .i64 5,.int .i64 0,.int .i64 0,.int .i64 0,.int .i64 0,.int .i64 0] 43)=W2 at *
 generalize W1.heap.size=F at *;generalize hEL:(endsR k).length=EL at *;have HEL:Aside ((endsR k).length=EL):=hEL;clear hEL;obtain⟨NP0,NP,_,cb,cs⟩:=boxes2 W2 (.cells #[.slice (some ⟨F,0,none⟩) 9 9,.slice (some ⟨B,0,none⟩) EL EL] 44) (.cells #[.slice (some ⟨W2.heap.size,0,none⟩) 2 2] 38);have hKd:KindsAt ((W2.alloc (.cells #[.slice (some ⟨F,0,none⟩) 9 9,.slice (some ⟨B,0,none⟩) EL EL] 44)).alloc (.cells #[.slice (some ⟨W2.heap.size,0,none⟩) 2 2] 38)) (some ⟨W2.heap.size,0,none⟩) [firstR,endsR k]:=by
  refine kinds_two (t:=44) (aa:=some ⟨F,0,none⟩) (ac:=9) (ba:=some ⟨B,0,none⟩) (bc:=EL) ?_ (hF.keeps (Keeps.below cb)) (hS.keeps (Keeps.below cb));rw[HEL.out];exact NP0
 have p0:=cell_blk NP 0;have hC3:=Keeps.below cb _ _ hC;have hB3:=hB2.trans (cb.mono hB2.size)
 go_upto_region 6 with fail
 clear NP0 NP cb cs hB2 hF hS hE hC;generalize (W2.alloc (.cells #[.slice (some ⟨F,0,none⟩) 9 9,.slice (some ⟨B,0,none⟩) EL EL] 44)).alloc (.cells #[.slice (some ⟨W2.heap.size,0,none⟩) 2 2] 38)=W3 at *;have HKD:Aside (KindsAt W3 (some ⟨W2.heap.size,0,none⟩) [firstR,endsR k]):=hKd;have HC3:Aside (W3.cell? ⟨H,k,none⟩=some (.int .i64 (howR k))):=hC3;have HB3:Aside (Below w.heap.size w W3):=hB3;clear hKd hC3 hB3
 generalize W2.heap.size=PB at *;obtain⟨N0,_,b1,s1⟩:=boxes1 W3 (.cells #[.int .i64 3,.int .i64 0,.int .i64 0,.int .i64 0] 27);have hO0:SeqOwn fAx 4 27 (W3.alloc (.cells #[.int .i64 3,.int .i64 0,.int .i64 0,.int .i64 0] 27)) W3.heap.size (.slice (some ⟨W3.heap.size,0,none⟩) 1 1) (parP 0 0 0):=ownsRow_lit (n:=1) N0 (Nat.le_refl _) rfl (by omega)
 go_upto_region 7 with fail
 generalize W3.alloc (.cells #[.int .i64 3,.int .i64 0,.int .i64 0,.int .i64 0] 27)=W4 at *;have HO0:Aside (SeqOwn fAx 4 27 W4 W3.heap.size (.slice (some ⟨W3.heap.size,0,none⟩) 1 1) (parP 0 0 0)):=hO0;have HB4:Aside (Below W3.heap.size W3 W4):=b1;clear hO0 N0 b1 s1
 go_wp2_with fail
 go_loopg [57,8] 12 (fun gg s57 s8 wr=>∃ (j:Nat) (oa:Option Addr) (oc:Nat),j<=12/\gg=12-j/\s57=.int .i64 j/\s8=.slice oa (1+j) oc/\Aside (SeqOwn fAx 4 27 wr W3.heap.size (.slice oa (1+j) oc) (parP j 0 0))/\Aside (Below W3.heap.size W3 wr))
 case atStart=>exact⟨0,some ⟨W3.heap.size,0,none⟩,1,Nat.zero_le _,rfl,rfl,rfl,HO0,HB4⟩
 case round =>
  obtain⟨j0,oa0,oc0,hj0,rfl,rfl,rfl,HO,HB⟩:=hrel;clear HO0 HB4;obtain⟨wL0,hw0⟩:∃ v,v=wr:=⟨_,rfl⟩;subst hw0
  by_cases hjL0:j0<12
  ·have hjz:(j0:Int)<12:=by omega
   have bx:=below_box wL0 (.cells #[.int .i64 1,.int .i64 0,.int .i64 0,.int .i64 0] 27);have hsn:=seqAx_new wL0 (⟨1,0,0,0⟩:Ax) 27 wL0.heap.size rfl;have hO3:=HO.out.below bx;have hsz:=HB.out.size;have hB3:=HB.out.trans (bx.mono hsz);have htl:=parP_len j0 0 0;have sx:(wL0.alloc (.cells #[.int .i64 1,.int .i64 0,.int .i64 0,.int .i64 0] 27)).heap.size=wL0.heap.size+1:=by simp
   go_upto_region 10 with(first | (at_builtin;refine wpList_seq Tryz.rowAx rfl _ _ (by rfl) (v:=.slice oa0 (1+j0) oc0) (by simp[Act.eval]) hO3 (by omega) [(⟨1,0,0,0⟩:Ax)] (some ⟨wL0.heap.size,0,none⟩) 1 (by simp[Act.eval]) hsn (by simp) (by simp[parP_len];omega) (by simp[parP_len];omega) ?_;rintro g cap w5 hO4 hg4 hb4 hB4) | fail)
   have hO5:Aside (SeqOwn fAx 4 27 w5 W3.heap.size (.slice (some ⟨g,0,none⟩) (1+(j0+1)) cap) (parP (j0+1) 0 0)):=by
    show SeqOwn _ _ _ _ _ _ _
    have e:(parP j0 0 0).length+[(⟨1,0,0,0⟩:Ax)].length=1+(j0+1):=by simp[parP_len];try omega
    rw[e] at hO4;rw[parP_next1];exact hO4
   have hB5:Aside (Below W3.heap.size W3 w5):=hB3.trans hb4;clear hO4 hO3 hB3 hg4 hb4 hB4 hsn bx htl;go_wp2
   go_roundg (12-(j0+1))
   case measure=>go_light;omega
   case rel=>go_light;exact⟨j0+1,some ⟨g,0,none⟩,cap,by omega,rfl,by go_num,(by simp;try omega),hO5,hB5⟩
  ·have hge:¬ (j0:Int)<12:=by omega
   have hjk:j0=12:=by omega
   subst hjk;have HOO0:Aside (SeqOwn fAx 4 27 wL0 W3.heap.size (.slice oa0 (1+12) oc0) (parP 12 0 0)):=HO;have HBB0:Aside (Below W3.heap.size W3 wL0):=HB;clear HO HB
   go_wp2_with fail
   go_loopg [64,8] 40 (fun gg s64 s8 wr=>∃ (j:Nat) (oa:Option Addr) (oc:Nat),j<=40/\gg=40-j/\s64=.int .i64 j/\s8=.slice oa (1+12+j) oc/\Aside (SeqOwn fAx 4 27 wr W3.heap.size (.slice oa (1+12+j) oc) (parP 12 j 0))/\Aside (Below W3.heap.size W3 wr))
   case atStart=>exact⟨0,oa0,oc0,Nat.zero_le _,rfl,rfl,rfl,HOO0,HBB0⟩
   case round =>
    obtain⟨j1,oa1,oc1,hj1,rfl,rfl,rfl,HO,HB⟩:=hrel;clear HOO0 HBB0;obtain⟨wL1,hw1⟩:∃ v,v=wr:=⟨_,rfl⟩;subst hw1
    by_cases hjL1:j1<40
    ·have hjz:(j1:Int)<40:=by omega
     have bx:=below_box wL1 (.cells #[.int .i64 1,.int .i64 1,.int .i64 0,.int .i64 0] 27);have hsn:=seqAx_new wL1 (⟨1,1,0,0⟩:Ax) 27 wL1.heap.size rfl;have hO3:=HO.out.below bx;have hsz:=HB.out.size;have hB3:=HB.out.trans (bx.mono hsz);have htl:=parP_len 12 j1 0;have sx:(wL1.alloc (.cells #[.int .i64 1,.int .i64 1,.int .i64 0,.int .i64 0] 27)).heap.size=wL1.heap.size+1:=by simp
     go_upto_region 14 with(first | (at_builtin;refine wpList_seq Tryz.rowAx rfl _ _ (by rfl) (v:=.slice oa1 (1+12+j1) oc1) (by simp[Act.eval]) hO3 (by omega) [(⟨1,1,0,0⟩:Ax)] (some ⟨wL1.heap.size,0,none⟩) 1 (by simp[Act.eval]) hsn (by simp) (by simp[parP_len];omega) (by simp[parP_len];omega) ?_;rintro g cap w5 hO4 hg4 hb4 hB4) | fail)
     have hO5:Aside (SeqOwn fAx 4 27 w5 W3.heap.size (.slice (some ⟨g,0,none⟩) (1+12+(j1+1)) cap) (parP 12 (j1+1) 0)):=by
      show SeqOwn _ _ _ _ _ _ _
      have e:(parP 12 j1 0).length+[(⟨1,1,0,0⟩:Ax)].length=1+12+(j1+1):=by simp[parP_len];try omega
      rw[e] at hO4;rw[parP_next2];exact hO4
     have hB5:Aside (Below W3.heap.size W3 w5):=hB3.trans hb4;clear hO4 hO3 hB3 hg4 hb4 hB4 hsn bx htl;go_wp2
     go_roundg (40-(j1+1))
     case measure=>go_light;omega
     case rel=>go_light;exact⟨j1+1,some ⟨g,0,none⟩,cap,by omega,rfl,by go_num,(by simp;try omega),hO5,hB5⟩
    ·have hge:¬ (j1:Int)<40:=by omega
     have hjk:j1=40:=by omega
     subst hjk;have HOO1:Aside (SeqOwn fAx 4 27 wL1 W3.heap.size (.slice oa1 (1+12+40) oc1) (parP 12 40 0)):=HO;have HBB1:Aside (Below W3.heap.size W3 wL1):=HB;clear HO HB
     go_wp2_with fail
     go_loopg [71,8] 6 (fun gg s71 s8 wr=>∃ (j:Nat) (oa:Option Addr) (oc:Nat),j<=6/\gg=6-j/\s71=.int .i64 j/\s8=.slice oa (1+12+40+j) oc/\Aside (SeqOwn fAx 4 27 wr W3.heap.size (.slice oa (1+12+40+j) oc) (parP 12 40 j))/\Aside (Below W3.heap.size W3 wr))
     case atStart=>exact⟨0,oa1,oc1,Nat.zero_le _,rfl,rfl,rfl,HOO1,HBB1⟩
     case round =>
      obtain⟨j2,oa2,oc2,hj2,rfl,rfl,rfl,HO,HB⟩:=hrel;clear HOO1 HBB1;obtain⟨wL2,hw2⟩:∃ v,v=wr:=⟨_,rfl⟩;subst hw2
      by_cases hjL2:j2<6
      ·have hjz:(j2:Int)<6:=by omega
       have bx:=below_box wL2 (.cells #[.int .i64 1,.int .i64 0,.int .i64 0,.int .i64 0] 27);have hsn:=seqAx_new wL2 (⟨1,0,0,0⟩:Ax) 27 wL2.heap.size rfl;have hO3:=HO.out.below bx;have hsz:=HB.out.size;have hB3:=HB.out.trans (bx.mono hsz);have htl:=parP_len 12 40 j2;have sx:(wL2.alloc (.cells #[.int .i64 1,.int .i64 0,.int .i64 0,.int .i64 0] 27)).heap.size=wL2.heap.size+1:=by simp
       go_upto_region 18 with(first | (at_builtin;refine wpList_seq Tryz.rowAx rfl _ _ (by rfl) (v:=.slice oa2 (1+12+40+j2) oc2) (by simp[Act.eval]) hO3 (by omega) [(⟨1,0,0,0⟩:Ax)] (some ⟨wL2.heap.size,0,none⟩) 1 (by simp[Act.eval]) hsn (by simp) (by simp[parP_len];omega) (by simp[parP_len];omega) ?_;rintro g cap w5 hO4 hg4 hb4 hB4) | fail)
       have hO5:Aside (SeqOwn fAx 4 27 w5 W3.heap.size (.slice (some ⟨g,0,none⟩) (1+12+40+(j2+1)) cap) (parP 12 40 (j2+1))):=by
        show SeqOwn _ _ _ _ _ _ _
        have e:(parP 12 40 j2).length+[(⟨1,0,0,0⟩:Ax)].length=1+12+40+(j2+1):=by simp[parP_len];try omega
        rw[e] at hO4;rw[parP_next3];exact hO4
       have hB5:Aside (Below W3.heap.size W3 w5):=hB3.trans hb4;clear hO4 hO3 hB3 hg4 hb4 hB4 hsn bx htl;go_wp2
       go_roundg (6-(j2+1))
       case measure=>go_light;omega
       case rel=>go_light;exact⟨j2+1,some ⟨g,0,none⟩,cap,by omega,rfl,by go_num,(by simp;try omega),hO5,hB5⟩
      ·have hge:¬ (j2:Int)<6:=by omega
       have hjk:j2=6:=by omega
       subst hjk;have HOO2:Aside (SeqOwn fAx 4 27 wL2 W3.heap.size (.slice oa2 (1+12+40+6) oc2) (parP 12 40 6)):=HO;have HBB2:Aside (Below W3.heap.size W3 wL2):=HB;clear HO HB;have hKL:=HKD.out.keeps (Keeps.below HBB2.out);obtain⟨A,C,hPA⟩:=prog_of hKL (by simp) (fitC_of (par_fits k hk6));have hWL:=HB3.out.trans (HBB2.out.mono HB3.out.size);have p1:wL2.cell? ⟨PB+1,0,none⟩=some (.slice (some ⟨PB,0,none⟩) 2 2):=Keeps.below HBB2.out _ _ p0
       have hCL:=Keeps.below HBB2.out _ _ HC3.out;have hAX:AxsAt wL2 oa2 (parP 12 40 6):=seqAx_to (HOO2.out.at Tryz.rowAx.len);have hr:Calls Tryz.prog 10 #[.agg #[.slice (some ⟨PB,0,none⟩) 2 2],.int .i64 10,.slice oa2 59 oc2] wL2 fun e w'=>WAns wL2 w' (parW k) e:=run_any (some ⟨PB,0,none⟩) 2 2 A (lenOf [firstR,endsR k]) C (xOf [firstR,endsR k]) 10 oa2 oc2 (parP 12 40 6) wL2 (hT.keeps (Keeps.below hWL)) hPA (hAX.keeps (Keeps.refl _)) (by rw[parP_len];omega)
       generalize parW k=R at *;obtain⟨V,ee⟩:=R;obtain⟨h0,h1,h2,h3,h4,h5,h6⟩:=HPAR.out;simp only at h0 h1 h2 h3 h4 h5 h6;subst h0;clear HPAR hAX hPA hKL p0 HKD HB3 HBB2 HOO2 HC3
       go_wp2_with fail
       refine hr.mono ?_;rintro e w2 ⟨aa,ac,pa,pc,rfl,hb2,hVA,hVP,_⟩
       dsimp only at hVA hVP ⊢
       have hW2:=hWL.trans (hb2.mono hWL.size);obtain⟨NW,_,cb,cs⟩:=boxes1 w2 (.cells #[.slice aa V.acts.length ac,.slice pa V.prints.length pc] 32);have hW3:=hW2.trans (cb.mono hW2.size);replace hCL:=Keeps.below cb _ _ (Keeps.below hb2 _ _ hCL);replace hVA:=hVA.keeps (Keeps.below cb);replace hVP:=hVP.keeps (Keeps.below cb);obtain⟨x,hx⟩:=at_some (l:=V.acts) (i:=1) (by omega);have hxe:V.at 1=x:=by unfold Wd.at;simp[hx]
       rw[hxe] at h2 h3;generalize V.acts.length=LA at *;generalize V.prints.length=LP at *
       go_upto_region 20 with fail
       generalize w2.alloc (.cells #[.slice aa LA ac,.slice pa LP pc] 32)=wZ at *;have z0:wZ.cell? ⟨w2.heap.size,0,none⟩=some (.slice aa LA ac):=cell_blk NW 0;have z1:wZ.cell? ⟨w2.heap.size,1,none⟩=some (.slice pa LP pc):=cell_blk NW 1;obtain⟨ub,uo,xo,xoc,xr,xrc,xb,xbc,rfl,hac⟩:=hVA.cell 1 x hx;obtain⟨vb,vo,rfl,t0,t1⟩:=hVP.cell 0 _ h5;obtain⟨vb',vo',he,t2,t3⟩:=hVP.cell 1 _ h6;simp only[Option.some.injEq,Addr.mk.injEq,and_true] at he
       obtain⟨rfl,rfl⟩:=he;have u3:=hac.c3;have u7:=hac.c7;rw[h2] at u7;rw[h3] at u3;have hfin:howR k≠0:=by
        have h:k=0\/k=1\/k=2\/k=3\/k=4\/k=5:=by omega
        rcases h with rfl | rfl | rfl | rfl | rfl | rfl <;> decide
       have hl2:¬ (LA:Int)<2:=by omega
       have hl3:(2:Int)<=(LP:Int):=by omega
       have hl4:(1:Int)<(LA:Int):=by omega
       have hl5:(0:Int)<(LP:Int):=by omega
       have hl6:(1:Int)<(LP:Int):=by omega
       generalize howR k=HK at *;generalize w2.heap.size=Q at *;clear hx h5 h6 h2 h3 hVA hVP hac NW cs cb hxe h1 h4;simp only[List.length_nil,Nat.one_mul] at u3 u7 t2 t3
       go_upto_region 22 with fail
       have t0':wZ.cell? ⟨vb,vo,none⟩=some (.int .i64 0):=by simpa using t0
       have t1':wZ.cell? ⟨vb,vo+1,none⟩=some (.int .i64 1):=by simpa using t1
       clear t0 t1
       go_quiet (fail)
       go_wp2
       go_ret
       exact⟨rfl,below_drewN hW3 _⟩
theorem parentsTold_walk (n0:Int) (w:World) (hT:TabAt 0 w) (h0:-9223372036854775808<=n0/\n0<=9223372036854775807) :
  Calls Tryz.prog 4 #[.int .i64 n0] w fun e w'=>e=.returned (.bool true)/\Below w.heap.size w w' :=
 parentsTold_any n0 w hT h0
end
section
open Go.ChangeShapes Go.WideShapes Go.ChangeAt Go.RowKit
theorem and_up {a b:Bool} (ha:a=true) (hb:b=true):(a && b)=true:=by rw[ha,hb];rfl
theorem parentsTold_facts:joinedFacts Tryz.prog 4 Tryz.f4 Rows.parentsToldSpec Rows.parentsToldRow=true:=by
 unfold joinedFacts
 refine and_up ?_ (by as_aux_lemma=>kernel_rfl);refine and_up ?_ (by as_aux_lemma=>kernel_rfl);refine and_up ?_ (by as_aux_lemma=>kernel_rfl);refine and_up ?_ (by as_aux_lemma=>kernel_rfl);refine and_up ?_ (by as_aux_lemma=>kernel_rfl);refine and_up ?_ (by as_aux_lemma=>kernel_rfl);refine and_up ?_ (by as_aux_lemma=>kernel_rfl);refine and_up ?_ (by as_aux_lemma=>kernel_rfl);refine and_up ?_ (by as_aux_lemma=>kernel_rfl)
 refine and_up ?_ (by as_aux_lemma=>kernel_rfl);refine and_up ?_ (by as_aux_lemma=>kernel_rfl);refine and_up ?_ (by as_aux_lemma=>kernel_rfl);refine and_up ?_ (by as_aux_lemma=>kernel_rfl);refine and_up ?_ (by as_aux_lemma=>kernel_rfl);refine and_up ?_ (by as_aux_lemma=>kernel_rfl);refine and_up ?_ (by as_aux_lemma=>kernel_rfl);refine and_up ?_ (by as_aux_lemma=>kernel_rfl);refine and_up ?_ (by as_aux_lemma=>kernel_rfl)
 refine and_up ?_ (by as_aux_lemma=>kernel_rfl);refine and_up ?_ (by as_aux_lemma=>kernel_rfl);refine and_up ?_ (by as_aux_lemma=>kernel_rfl);refine and_up ?_ (by as_aux_lemma=>kernel_rfl);refine and_up ?_ (by as_aux_lemma=>kernel_rfl);refine and_up ?_ (by as_aux_lemma=>kernel_rfl);refine and_up ?_ (by as_aux_lemma=>kernel_rfl);refine and_up ?_ (by as_aux_lemma=>kernel_rfl);refine and_up ?_ (by as_aux_lemma=>kernel_rfl)
 refine and_up ?_ (by as_aux_lemma=>kernel_rfl);refine and_up ?_ (by as_aux_lemma=>kernel_rfl);refine and_up ?_ (by as_aux_lemma=>kernel_rfl);refine and_up ?_ (by as_aux_lemma=>kernel_rfl)
 as_aux_lemma=>kernel_rfl
end
end Go.Proofs.YtepifccbbmdfcaaGreatDoor
