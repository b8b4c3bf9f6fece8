/- TEchoS. -/
import Derived.Deep.Modes
import Derived.Test.YtepifccbbmdfcaaGreatDoorCBHOpen
namespace Go.Proofs.YtepifccbbmdfcaaGreatDoor
set_option maxRecDepth 100000
set_option maxHeartbeats 8000000
section
def noIns:Ins:=⟨0,0,0,0⟩
section
variable {bs:List Int} {k k1 k2 k3:Nat} {q a b n er:Int}
end
end
section
open Go.RowKit
theorem ToldAt.keeps {w w':World} {ao:Option Addr} {l:List (Int × Int)} (h:ToldAt w ao l) (k:Keeps w w'):ToldAt w' ao l :=
 ⟨fun i x hi=>by
  obtain⟨b,o,e,h1,h2⟩:=h.cell i x hi;exact⟨b,o,e,k _ _ h1,k _ _ h2⟩,h.many⟩
end
section
open Go.RowKit
section
variable {α:Type} {f:α->List Value} {s:Nat} {e tS:TypeId} {bytes:Nat} {P:Program}
theorem SeqOwn.below {w w':World} {base:Nat} {v:Value} {l:List α} (h:SeqOwn f s e w base v l) (hb:Below w.heap.size w w'):SeqOwn f s e w' base v l:=by
 refine World.ownsRow.kept h (row:=none) ⟨hb.os,hb.tape,hb.output,hb.size,fun j hj _=>hb.block j hj⟩ ?_
 cases h0:v.ownBlock with
 | none=>exact Or.inl rfl
 | some g=>exact Or.inr (by simp)
end
end
section
def lenOf (rows:List (List Ins)) (r:Nat):Nat:=(rows.getD r []).length
def xOf (rows:List (List Ins)) (r i f:Nat):Int:=fld ((rows.getD r []).getD i noIns) f
end
section
def echoR:List (List Ins):=[
 [⟨8,2,1,0⟩,⟨15,2,0,0⟩,⟨8,3,0,0⟩,⟨5,3,0,3⟩,⟨13,1,3,0⟩,⟨0,0,0,0⟩,⟨7,4,0,1⟩,⟨1,5,0,0⟩,⟨9,4,5,0⟩,⟨17,3,4,1⟩,⟨9,0,3,0⟩,⟨13,1,3,0⟩,⟨0,0,0,0⟩],
 [⟨8,2,1,1⟩,⟨8,3,0,0⟩,⟨2,3,2,0⟩,⟨9,0,3,0⟩,⟨15,3,0,0⟩,⟨0,0,0,0⟩]]
end
section
open Go.RowKit
def insCells (l:List Ins):List Value:=l.flatMap fun x=>[.int .i64 x.op,.int .i64 x.a,.int .i64 x.b,.int .i64 x.n]
theorem insCells_get:∀ (l:List Ins) (i f:Nat),i<l.length->f<4->(insCells l)[i*4+f]?=some (.int .i64 (fld (l.getD i noIns) f))
 | x :: l,0,f,_,hf=>by
  match f,hf with
  | 0,_=>rfl
  | 1,_=>rfl
  | 2,_=>rfl
  | 3,_=>rfl
 | x :: l,i+1,f,hi,hf=>by
  have:=insCells_get l i f (by simpa using hi) hf
  show([Value.int .i64 x.op,.int .i64 x.a,.int .i64 x.b,.int .i64 x.n]++insCells l)[(i+1)*4+f]?=_
  rw[List.getElem?_append_right (by simp;omega)];simp only[List.length_cons,List.length_nil];rw[show(i+1)*4+f-(0+1+1+1+1)=i*4+f by omega,this];simp
def fIns (x:Ins):List Value:=[.int .i64 x.op,.int .i64 x.a,.int .i64 x.b,.int .i64 x.n]
def KindsAt (w:World) (ao:Option Addr) (rows:List (List Ins)):Prop :=
 ∀ (r:Nat) l,rows[r]?=some l->∃ b o ra rc,ao=some ⟨b,o,none⟩/\w.cell? ⟨b,o+r,none⟩=some (.slice ra l.length rc)/\SeqAt fIns 4 w ra l
def insFit (x:Ins):Prop:=∀ f,f<4->-9223372036854775808<=fld x f/\fld x f<=9223372036854775807
theorem rowAt_seq {w:World} {ra:Option Addr} {l:List Ins} (h:SeqAt fIns 4 w ra l):RowAt w ra l.length (fun i f=>fld (l.getD i noIns) f):=fun i hi=>by
 have hx:=List.getElem?_eq_getElem hi;obtain⟨b,o,e,hc⟩:=h i _ hx;refine⟨b,o,e,fun f hf=>?_⟩;have eg:l.getD i noIns=l[i]:=by simp[List.getD_eq_getElem?_getD,hx]
 show w.cell? ⟨b,o+i*4+f,none⟩=some (.int .i64 (fld (l.getD i noIns) f))
 rw[eg];refine hc f _ ?_
 match f,hf with
 | 0,_=>rfl
 | 1,_=>rfl
 | 2,_=>rfl
 | 3,_=>rfl
theorem kinds_choose {w:World} {ao:Option Addr} {rows:List (List Ins)} (h:KindsAt w ao rows):∃ (A:Nat->Option Addr) (C:Nat->Nat),∀ r,r<rows.length->(∃ b o,ao=some ⟨b,o,none⟩/\w.cell? ⟨b,o+r,none⟩=some (.slice (A r) (rows.getD r []).length (C r)))/\SeqAt fIns 4 w (A r) (rows.getD r []):=by
 have hp:∀ r,∃ p:Option Addr × Nat,r<rows.length->(∃ b o,ao=some ⟨b,o,none⟩/\w.cell? ⟨b,o+r,none⟩=some (.slice p.1 (rows.getD r []).length p.2))/\SeqAt fIns 4 w p.1 (rows.getD r []):=fun r=>by
  by_cases hr:r<rows.length
  ·have hx:=List.getElem?_eq_getElem hr
   have eg:rows.getD r []=rows[r]:=by simp[List.getD_eq_getElem?_getD,hx]
   obtain⟨b,o,ra,rc,e,h1,h2⟩:=h r _ hx;exact⟨(ra,rc),fun _=>⟨⟨b,o,e,by rw[eg];exact h1⟩,by rw[eg];exact h2⟩⟩
  ·exact⟨(none,0),fun h=>absurd h hr⟩
 refine⟨fun r=>(hp r).choose.1,fun r=>(hp r).choose.2,fun r hr=>?_⟩;exact(hp r).choose_spec hr
theorem prog_of {w:World} {ao:Option Addr} {rows:List (List Ins)} (h:KindsAt w ao rows) (hm:rows.length<=1000000) (hl:∀ l∈rows,l.length<=1000000/\∀ x∈l,insFit x):∃ A C,ProgAt w ao rows.length A (lenOf rows) C (xOf rows):=by
 obtain⟨A,C,hAC⟩:=kinds_choose h;have hin:∀ r,r<rows.length->rows.getD r []∈rows:=fun r hr=>by
  have hx:=List.getElem?_eq_getElem hr;have eg:rows.getD r []=rows[r]:=by simp[List.getD_eq_getElem?_getD,hx]
  rw[eg];exact List.getElem_mem hr
 refine⟨A,C,fun r hr=>(hAC r hr).1,fun r hr=>rowAt_seq (hAC r hr).2,by omega,fun r hr=>?_,fun r hr i hi f hf=>?_⟩
 ·have:=(hl _ (hin r hr)).1
  unfold lenOf
  omega
 ·have hx:=List.getElem?_eq_getElem (show i<(rows.getD r []).length from hi)
  have eg:(rows.getD r []).getD i noIns=(rows.getD r [])[i]'hi:=by rw[List.getD_eq_getElem?_getD,hx];rfl
  have:=(hl _ (hin r hr)).2 _ (List.getElem_mem hi)
  unfold xOf
  rw[eg];exact this f hf
end
section
open Go.RowKit
theorem ins_lit {w:World} {B n:Nat} {c:Array Value} {t:TypeId} (h:w.heap[B]?=some (.cells c t (0,0))) (l:List Ins) (hn:l.length=n) (hc:c.toList=l.flatMap fIns) (hs:c.size=n*4) (hm:n<=maxLen):SeqAt fIns 4 w (some ⟨B,0,none⟩) l:=by
 have k:=ownsRow_lit (base:=0) h (Nat.zero_le _) hs hm;rw[hc,<- hn] at k;exact SeqOwn.at (f:=fIns) (s:=4) (fun _=>rfl) k
theorem kinds_two {w:World} {B:Nat} {a b:List Ins} {aa ba:Option Addr} {ac bc:Nat} {t:TypeId} (h:w.heap[B]?=some (.cells #[.slice aa a.length ac,.slice ba b.length bc] t (0,0))) (ha:SeqAt fIns 4 w aa a) (hb:SeqAt fIns 4 w ba b):KindsAt w (some ⟨B,0,none⟩) [a,b]:=fun r l hl=>by
 match r,hl with
 | 0,hl=>simp at hl;subst hl;exact⟨B,0,aa,ac,rfl,by rw[cellBlk h];rfl,ha⟩
 | 1,hl=>simp at hl;subst hl;exact⟨B,0,ba,bc,rfl,by rw[cellBlk h];rfl,hb⟩
 | r+2,hl=>simp at hl
theorem blk_up {w:World} {k:Nat} {x:Obj} (h:w.heap[k]?=some x) (o:Obj):(w.alloc o).heap[k]?=some x:=((below_box w o).block k (Array.getElem?_eq_some_iff.1 h).1).trans h
theorem echo_any (w:World):Calls Tryz.prog 11 #[] w fun e w'=>∃ ao,e=.returned (.agg #[.slice ao 2 2])/\Below w.heap.size w w'/\KindsAt w' ao echoR:=by
 obtain⟨N0,_,b1,s1⟩:=boxes1 w (.cells #[.slice none 0 0] 38)
 go_enter Tryz.func11,Tryz.ntmps11
 go_upto_region 1 with fail
 generalize w.alloc (.cells #[.slice none 0 0] 38)=W at *;have e0:=fun o1 o2 o3=>blk_up (blk_up (blk_up N0 o1) o2) o3
 have c0:∀ o1 o2 o3,(((W.alloc o1).alloc o2).alloc o3).cell? ⟨w.heap.size,0,none⟩=some (.slice none 0 0):=fun o1 o2 o3=>cell_blk (e0 o1 o2 o3) 0
 have cf:∀ o1 o2 o3 i,(((W.alloc o1).alloc o2).alloc o3).frozen? ⟨w.heap.size,i,none⟩=false:=fun o1 o2 o3 i=>fz_blk (e0 o1 o2 o3) i
 have sv:∀ v,(W.setCell ⟨w.heap.size,0,none⟩ v).heap.size=w.heap.size+1:=fun v=>by rw[<- s1];simp
 have NV:=fun v=>setCell_blk N0 0 v
 have z0:∀ o1 o2 o3 v,((((W.setCell ⟨w.heap.size,0,none⟩ v).alloc o1).alloc o2).alloc o3).cell? ⟨w.heap.size,0,none⟩=some v:=fun o1 o2 o3 v=>by
  have:=cell_blk (blk_up (blk_up (blk_up (NV v) o1) o2) o3) 0
  simpa using this
 have hbw:∀ o1 o2 o3 v,Below w.heap.size w ((((W.setCell ⟨w.heap.size,0,none⟩ v).alloc o1).alloc o2).alloc o3):=fun o1 o2 o3 v=>by
  have h0:Below w.heap.size w (W.setCell ⟨w.heap.size,0,none⟩ v):=b1.setCell (Nat.le_refl _) _;have h1:=h0.alloc h0.size o1;have h2:=h1.alloc h1.size o2;exact h2.alloc h2.size o3
 have E1:∀ o1 o2 o3 v,((((W.setCell ⟨w.heap.size,0,none⟩ v).alloc o1).alloc o2).alloc o3).heap[w.heap.size+1]?=some o1:=fun o1 o2 o3 v=>by
  have h:=Deep.blk_alloc_new (W.setCell ⟨w.heap.size,0,none⟩ v) o1;rw[sv] at h;exact blk_up (blk_up h o2) o3
 have E2:∀ o1 o2 o3 v,((((W.setCell ⟨w.heap.size,0,none⟩ v).alloc o1).alloc o2).alloc o3).heap[w.heap.size+1+1]?=some o2:=fun o1 o2 o3 v=>by
  have h:=Deep.blk_alloc_new ((W.setCell ⟨w.heap.size,0,none⟩ v).alloc o1) o2;have e:((W.setCell ⟨w.heap.size,0,none⟩ v).alloc o1).heap.size=w.heap.size+1+1:=by rw[<- sv v];simp[World.alloc]
  rw[e] at h;exact blk_up h o3
 have E3:∀ o1 o2 o3 v,((((W.setCell ⟨w.heap.size,0,none⟩ v).alloc o1).alloc o2).alloc o3).heap[w.heap.size+1+1+1]?=some o3:=fun o1 o2 o3 v=>by
  have h:=Deep.blk_alloc_new (((W.setCell ⟨w.heap.size,0,none⟩ v).alloc o1).alloc o2) o3;have e:(((W.setCell ⟨w.heap.size,0,none⟩ v).alloc o1).alloc o2).heap.size=w.heap.size+1+1+1:=by rw[<- sv v];simp[World.alloc]
  rw[e] at h;exact h
 go_wp2
 refine bodyPost_ret (v:=.agg #[.slice (some ⟨w.heap.size+1+1+1,0,none⟩) 2 2]) (by simp[results,Tryz.results11,go_sem,z0]) rfl ?_;have hmx:maxLen=9223372036854775807:=rfl;refine⟨_,rfl,hbw _ _ _ _,?_⟩;exact kinds_two (E3 _ _ _ _) (ins_lit (E1 _ _ _ _) _ (n:=13) rfl rfl rfl (by omega)) (ins_lit (E2 _ _ _ _) _ (n:=6) rfl rfl rfl (by omega))
end
section
open Go.RowKit
theorem equalTold_any (aa ab:Option Addr) (ca cb:Nat) (l:List (Int × Int)) (w:World) (ha:ToldAt w aa l) (hb:ToldAt w ab l) :
  Calls Tryz.prog 12 #[.slice aa l.length ca,.slice ab l.length cb] w fun e w'=>e=.returned (.bool true)/\∃ n,w'=w.drewN n:=by
 have hl:=ha.many;obtain⟨L,hL⟩:∃ L,L=l.length:=⟨_,rfl⟩;have HL:Aside (L=l.length):=hL;rw[<- hL] at hl ⊢;clear hL
 go_enter Tryz.func12,Tryz.ntmps12
 go_wp2
 go_loopg [13,5] L (fun g s13 s5 wr=>∃ i n:Nat,i<=L/\g=L-i/\s13=.int .i64 i/\wr=w.drewN n)
 case atStart=>exact⟨0,0,Nat.zero_le _,rfl,rfl,rfl⟩
 case round =>
  obtain⟨i,n,hi,rfl,rfl,rfl⟩:=hrel
  by_cases hiL:i<L
  ·have hiz:(i:Int)<(L:Int):=by omega
   obtain⟨⟨vk,vn⟩,hv⟩:=at_some (l:=l) (i:=i) (by rw[<- HL.out];exact hiL);obtain⟨ba,oa,rfl,a1,a2⟩:=ha.cell i _ hv;obtain⟨bb,ob,rfl,b1,b2⟩:=hb.cell i _ hv;simp only at a1 a2 b1 b2;clear hv;go_wp2
   go_quiet (fail)
   go_wp2
   go_roundg (L-(i+1))
   case measure=>go_light;omega
   case rel=>go_light;exact⟨i+1,_,by omega,rfl,by go_num,rfl⟩
  ·go_wp2
   go_ret
   exact⟨rfl,_,rfl⟩
end
section
def pick (n many:Int):Int:=(if n<0 then -(n+1) else n) % many
theorem pick_bd {n many:Int} (h:0<many):0<=pick n many/\pick n many<many:=⟨Int.emod_nonneg _ (by omega),Int.emod_lt_of_pos _ h⟩
def fit64 (n:Int):Prop:=-9223372036854775808<=n/\n<=9223372036854775807
end
section
open Go.RowKit
theorem picked_any (n many:Int) (w:World) (h1:-9223372036854775808<=n) (h2:n<=9223372036854775807) (hm:0<many) (hm':many<=1000000) :
  Calls Tryz.prog 9 #[.int .i64 n,.int .i64 many] w fun e w'=>e=.returned (.int .i64 (pick n many))/\w=w':=by
 by_cases hn:n<0
 ·have hP:pick n many=(-(n+1)) % many:=by simp[pick,hn]
  rw[hP];clear hP
  go_enter Tryz.func9,Tryz.ntmps9
  go_wp2
  go_ret
  exact⟨ret_num (by first | rfl | (rw[<- Int.tmod_eq_emod_of_nonneg (by omega),Int.neg_tmod]) | skip),rfl⟩
 ·have hP:pick n many=n % many:=by simp[pick,hn]
  have hd:decide (n<0)=false:=by simp;omega
  rw[hP];clear hP
  go_enter Tryz.func9,Tryz.ntmps9
  go_wp2
  go_ret
  exact⟨ret_num (by first | rfl | (rw[<- Int.tmod_eq_emod_of_nonneg (by omega),Int.neg_tmod]) | skip),rfl⟩
end
section
open Go.RowKit
def fAx (x:Ax):List Value:=[.int .i64 x.kind,.int .i64 x.who,.int .i64 x.n,.int .i64 x.m]
theorem Tryz.rowAx:RowT Tryz.prog fAx 4 23 27 32:=⟨fun _=>rfl,fun x v hv=>by simp[fAx] at hv;rcases hv with h | h | h | h <;> rw[h] <;> rfl,by decide,Tryz.underlying23,_,(show(Tryz.prog.info? 27).map (fun i=>(i.zero,i.size,i.bytes))=some (some (.agg #[.int .i64 0,.int .i64 0,.int .i64 0,.int .i64 0]),4,32) by kernel_rfl),rfl⟩
theorem seqAx_to {w:World} {ao:Option Addr} {l:List Ax} (h:SeqAt fAx 4 w ao l):AxsAt w ao l:=fun i a hi=>by
 obtain⟨b,o,e,hc⟩:=h i a hi;exact⟨b,o,e,hc 0 _ rfl,hc 1 _ rfl,hc 2 _ rfl,hc 3 _ rfl⟩
theorem seqAx_new (w:World) (x:Ax) (t:TypeId) (B:Nat) (hB:B=w.heap.size):SeqAt fAx 4 (w.alloc (.cells #[.int .i64 x.kind,.int .i64 x.who,.int .i64 x.n,.int .i64 x.m] t)) (some ⟨B,0,none⟩) [x]:=fun i y hy=>by
 match i,hy with
 | 0,hy =>
  simp at hy;subst hy;refine⟨B,0,rfl,fun j u hu=>?_⟩;rw[cellBlk (by rw[hB];exact Deep.blk_alloc_new w _)]
  simpa[fAx] using hu
 | i+1,hy=>simp at hy
end
section
open Go.RowKit
def insFc (x:Ins):Bool:=(decide (-4398046511104<=x.op) && decide (x.op<=4398046511104)) && ((decide (-4398046511104<=x.a) && decide (x.a<=4398046511104)) && ((decide (-4398046511104<=x.b) && decide (x.b<=4398046511104)) && (decide (-4398046511104<=x.n) && decide (x.n<=4398046511104))))
def fitC (r:List (List Ins)):Bool:=r.all (fun l=>decide (l.length<=1000) && l.all insFc)
theorem fitC_of {r:List (List Ins)} (h:fitC r=true):∀ l∈r,l.length<=1000000/\∀ x∈l,insFit x:=by
 simp only[fitC,Bool.and_eq_true,decide_eq_true_eq,List.all_eq_true] at h;intro l hl;obtain⟨h1,h2⟩:=h l hl;refine⟨by omega,fun x hx f hf=>?_⟩;have:=h2 x hx;simp only[insFc,Bool.and_eq_true,decide_eq_true_eq] at this
 match f,hf with
 | 0,_=>show -9223372036854775808<=x.op/\x.op<=9223372036854775807;omega
 | 1,_=>show -9223372036854775808<=x.a/\x.a<=9223372036854775807;omega
 | 2,_=>show -9223372036854775808<=x.b/\x.b<=9223372036854775807;omega
 | 3,_=>show -9223372036854775808<=x.n/\x.n<=9223372036854775807;omega
theorem echo_fits:fitC echoR=true:=by decide +kernel
end
section
theorem ref_may {n p:Nat} (h:p<n):vMay n ⟨2,p⟩=true:=by
 simp[vMay];omega
theorem numE_may {m:Int} {n:Int} (h:-1099511627776<=n/\n<=1099511627776):vMay m (numV n)=true:=by simp[vMay,numV,h]
theorem lt_at {l:List Ob} {p:Nat} {o:Ob} (h:l[p]?=some o):p<l.length:=(List.getElem?_eq_some_iff.1 h).1
theorem ferr_at {l:List Ob} {p f:Nat} {fs:List Vl} {x:Vl} (hp:l[p]?=some ⟨fs,false⟩) (hf:fs[f]?=some x):fieldErr l ⟨2,p⟩ f=0:=by
 have:=(List.getElem?_eq_some_iff.1 hf).1;simp only[fieldErr,Int.toNat_natCast,hp];simp;omega
theorem get_at {M:Int} {l:List Ob} {p f:Nat} {fs:List Vl} {x:Vl} (hm:hMay M l []=true) (hp:l[p]?=some ⟨fs,false⟩) (hf:fs[f]?=some x):getS M l ⟨2,p⟩ f=(x,0):=by
 have h1:hMay M l [⟨2,p⟩]=true:=hm1 hm (fun v hv=>by simp at hv;subst hv;exact ref_may (lt_at hp))
 unfold getS
 rw[if_neg (by simp[h1]),ferr_at hp hf,if_neg (by simp)];simp only[Int.toNat_natCast,hp,hf]
theorem set_at' {M:Int} {l:List Ob} {p f:Nat} {fs:List Vl} {x y:Vl} (hm:hMay M l []=true) (hp:l[p]?=some ⟨fs,false⟩) (hf:fs[f]?=some y) (hx:vMay l.length x=true):setS M l ⟨2,p⟩ f x=(M,l.set p ⟨fs.set f x,false⟩,0):=by
 have h1:hMay M l [⟨2,p⟩,x]=true:=hm1 hm (fun v hv=>by
  simp at hv
  rcases hv with rfl | rfl
  ·exact ref_may (lt_at hp)
  ·exact hx)
 unfold setS
 rw[if_neg (by simp[h1]),ferr_at hp hf,if_neg (by simp)];simp only[Int.toNat_natCast,setObs,hp]
theorem set_may' {M:Int} {l:List Ob} {p f:Nat} {fs:List Vl} {x:Vl} (hm:hMay M l []=true) (hp:l[p]?=some ⟨fs,false⟩) (hx:vMay l.length x=true):hMay M (l.set p ⟨fs.set f x,false⟩) []=true:=by
 have h:=hMay_parts.1 hm;refine hMay_parts.2 ⟨by simpa using h.1,fun u hu=>?_,by simp⟩;rw[List.length_set]
 rcases List.mem_or_eq_of_mem_set hu with hu | rfl
 ·exact h.2.1 u hu
 ·have:=h.2.1 _ (List.mem_of_getElem? hp)
  simp only[oMay,Bool.false_eq_true,if_false,List.length_set,Bool.and_eq_true] at this ⊢
  refine⟨this.1,List.all_eq_true.2 fun y hy=>?_⟩
  rcases List.mem_or_eq_of_mem_set hy with hy | rfl
  ·exact List.all_eq_true.1 this.2 y hy
  ·exact hx
theorem app_may {M:Int} {l:List Ob} {o:Ob} (hm:hMay M l []=true) (hl:(l.length:Int)<M) (ho:oMay (l.length+1:Nat) o=true):hMay M (l++[o]) []=true:=by
 have h:=hMay_parts.1 hm;refine hMay_parts.2 ⟨by simp;omega,fun u hu=>?_,by simp⟩;rw[List.length_append,List.length_singleton];simp at hu
 rcases hu with hu | rfl
 ·exact oMay_mono (h.2.1 u hu) (by omega)
 ·exact ho
theorem alloc_at {M:Int} {l:List Ob} {n:Nat} (hm:hMay M l []=true) (hl:(l.length:Int)<M) (hn:1<=n/\n<=4):allocS M l n=⟨M,l++[⟨zeroVals n,false⟩],2,l.length,0⟩:=by
 unfold allocS
 rw[if_neg (by simp[hm]),if_neg (by simp;omega),if_neg (by omega)]
 rfl
theorem visits_nums {o:List Int}:∀ {fs:List Vl},(∀ v∈fs,v.k≠2)->visits o fs=o
 | [],_=>rfl
 | v :: r,h=>by
  show visits (visit o v) r=o
  have e:visit o v=o:=by unfold visit;rw[if_neg (h v (by simp))]
  rw[e];exact visits_nums fun u hu=>h u (by simp[hu])
theorem reach_at {l:List Ob} {p:Nat} {fs:List Vl} (hp:l[p]?=some ⟨fs,false⟩) (hn:∀ v∈fs,v.k≠2):reach l [⟨2,p⟩]=[(p:Int)]:=by
 unfold reach
 have e:visits [] [⟨2,(p:Int)⟩]=[(p:Int)]:=by simp[visits,visit]
 rw[e,bfs_step (p:=(p:Int)) l rfl (by omega)];have ef:fieldsOf l (p:Int)=fs:=by simp[fieldsOf,hp]
 rw[ef,visits_nums hn];exact bfs_end l _ [(p:Int)]
theorem obAt_at {l:List Ob} {p:Nat} {o:Ob} (hp:l[p]?=some o):obAt l (p:Int)=o:=by simp[obAt,hp]
theorem dead_at {a:Ac} {p:Nat} {fs:List Vl} (hp:a.obs[p]?=some ⟨fs,false⟩) (hn:∀ v∈fs,v.k≠2):leadsDead a ⟨2,p⟩=false:=by
 unfold leadsDead
 rw[reach_at hp hn];simp[obAt_at hp]
theorem tr_at {M M':Int} {l l':List Ob} {p:Nat} {fs:List Vl} (hm:hMay M l []=true) (hm':hMay M' l' []=true) (hp:l[p]?=some ⟨fs,false⟩) (hn:∀ v∈fs,v.k≠2) (hl:(l'.length:Int)<M') :
  transferS M l ⟨2,p⟩ M' l' true=⟨M,l.set p ⟨[],true⟩,M',l'++[⟨fs,false⟩],⟨2,l'.length⟩,0⟩:=by
 have h1:hMay M l [⟨2,p⟩]=true:=hm1 hm (fun v hv=>by simp at hv;subst hv;exact ref_may (lt_at hp));have e:trS M l ⟨2,p⟩ M' l'=([(p:Int)],0):=by
  unfold trS
  rw[reach_at hp hn,if_pos (by simp[h1,hm']),if_neg (by simp[obAt_at hp]),if_neg (by simp;omega)]
 unfold transferS
 rw[e,if_pos rfl];have em:fs.map (mvV [(p:Int)] l'.length)=fs:=by
  conv=>rhs;rw[<- List.map_id fs]
  exact List.map_congr_left fun v hv=>by unfold mvV;rw[if_neg (hn v hv)];rfl
 simp[buryL,mvObs,mvO,obAt_at hp,em,mvV]
theorem bury_may' {M:Int} {l:List Ob} {p:Nat} (hm:hMay M l []=true):hMay M (l.set p ⟨[],true⟩) []=true:=by
 have:=bury_may (ps:=[(p:Int)]) hm (by simp)
 simpa[buryL] using this
def eX:Nat->Nat->Nat->Int:=xOf echoR
theorem eI0_0:insAt eX 0 0=⟨8,2,1,0⟩:=rfl
theorem eI0_1:insAt eX 0 1=⟨15,2,0,0⟩:=rfl
theorem eI0_2:insAt eX 0 2=⟨8,3,0,0⟩:=rfl
theorem eI0_3:insAt eX 0 3=⟨5,3,0,3⟩:=rfl
theorem eI0_4:insAt eX 0 4=⟨13,1,3,0⟩:=rfl
theorem eI0_5:insAt eX 0 5=⟨0,0,0,0⟩:=rfl
theorem eI0_6:insAt eX 0 6=⟨7,4,0,1⟩:=rfl
theorem eI0_7:insAt eX 0 7=⟨1,5,0,0⟩:=rfl
theorem eI0_8:insAt eX 0 8=⟨9,4,5,0⟩:=rfl
theorem eI0_9:insAt eX 0 9=⟨17,3,4,1⟩:=rfl
theorem eI0_10:insAt eX 0 10=⟨9,0,3,0⟩:=rfl
theorem eI0_11:insAt eX 0 11=⟨13,1,3,0⟩:=rfl
theorem eI0_12:insAt eX 0 12=⟨0,0,0,0⟩:=rfl
theorem eI1_0:insAt eX 1 0=⟨8,2,1,1⟩:=rfl
theorem eI1_1:insAt eX 1 1=⟨8,3,0,0⟩:=rfl
theorem eI1_2:insAt eX 1 2=⟨2,3,2,0⟩:=rfl
theorem eI1_3:insAt eX 1 3=⟨9,0,3,0⟩:=rfl
theorem eI1_4:insAt eX 1 4=⟨15,3,0,0⟩:=rfl
theorem eI1_5:insAt eX 1 5=⟨0,0,0,0⟩:=rfl
def rw0:List Vl:=rg ⟨2,0⟩ nilV nilV nilV nilV nilV
theorem give_at {a:Ac} {n:Int} {l:List Ob} {p:Nat} (h:allocS a.M a.obs n=⟨12,l,2,p,0⟩):giveS a n=(a.heap 12 l,some ⟨2,p⟩):=by simp[giveS,h]
theorem told_at {a:Ac} {x y:Int} (hM:a.M=12) (hm:hMay 12 a.obs []=true) (hl:a.obs.length<12):toldS a x y={ a with obs:=a.obs++[⟨[numV x,numV y],false⟩],box:=a.box++[⟨2,a.obs.length⟩] }:=by
 have hg:giveS a 2=(a.heap 12 (a.obs++[⟨zeroVals 2,false⟩]),some ⟨2,a.obs.length⟩):=give_at (by rw[hM];exact alloc_at (n:=2) hm (by omega) (by omega))
 unfold toldS
 rw[hg];simp[Ac.heap,setObs,zeroVals,List.replicate,hM]
theorem tell1 {l0 r0 p0 P} {i n:Int} (hm:hMay 12 l0 []=true) (hl:l0.length<12) :
  actS eX (W1 l0 r0 p0 [] P) ⟨3,0,i,n⟩=W1 (l0++[⟨[numV i,numV n],false⟩]) r0 p0 [⟨2,l0.length⟩] P:=by
 have ht:=fun(a:Ac) (x y:Int) h1 h2 h3=>told_at (a:=a) (x:=x) (y:=y) h1 h2 h3
 simp[actS,W1,tellS,takesS,livesS,Wd.at,Wd.put];rw[ht _ _ _ rfl hm hl]
 rfl
theorem take1 {l0 x q P}:actS eX (W1 l0 (rg x nilV nilV nilV nilV nilV) (-1) [q] P) ⟨1,0,0,0⟩=W1 l0 (rg x q nilV nilV nilV nilV) 0 [] P:=by
 simp[actS,W1,stepS,livesS,Wd.at,Wd.put,takeS,rg,Ac.put]
theorem s1_0 {l0 x c d P} {fs:List Vl} {p:Nat} {n:Int} (hm:hMay 12 l0 []=true) (hp:l0[p]?=some ⟨fs,false⟩) (hf:fs[0]?=some (numV n)) :
  actS eX (W1 l0 (rg x ⟨2,p⟩ c d nilV nilV) 0 [] P) ⟨1,0,0,0⟩=W1 l0 (rg x ⟨2,p⟩ (numV n) d nilV nilV) 1 [] P:=by
 have hg:getS 12 l0 ⟨2,(p:Int)⟩ 0=(numV n,0):=get_at hm hp hf;simp[actS,W1,stepS,livesS,Wd.at,Wd.put,doneS,performS,aloneS,Ac.reg,Ac.put,rg,nextS,eI0_0,getsS,hg,numV]
theorem s1_1 {l0 x b d P} {n:Int} (hP:P.length<500) :
  actS eX (W1 l0 (rg x b (numV n) d nilV nilV) 1 [] P) ⟨1,0,0,0⟩=W1 l0 (rg x b (numV n) d nilV nilV) 2 [] (P++[(0,n)]):=by
 simp[actS,W1,stepS,livesS,Wd.at,Wd.put,doneS,performS,Ac.reg,rg,nextS,eI0_1,reportS,hP,numV]
theorem s1_2 {l0 b c d P} {fs:List Vl} {n:Int} (hm:hMay 12 l0 []=true) (hp:l0[0]?=some ⟨fs,false⟩) (hf:fs[0]?=some (numV n)) :
  actS eX (W1 l0 (rg ⟨2,0⟩ b c d nilV nilV) 2 [] P) ⟨1,0,0,0⟩=W1 l0 (rg ⟨2,0⟩ b c (numV n) nilV nilV) 3 [] P:=by
 have hg:getS 12 l0 ⟨2,0⟩ 0=(numV n,0):=get_at (p:=0) (f:=0) hm hp hf;simp[actS,W1,stepS,livesS,Wd.at,Wd.put,doneS,performS,aloneS,Ac.reg,Ac.put,rg,nextS,eI0_2,getsS,hg,numV]
theorem tell2 {l0 r0 p0 l1 r1 p1 b1 P} {i n:Int} (hm:hMay 12 l0 []=true) (hl:l0.length<12) :
  actS eX (W2 l0 r0 p0 [] l1 r1 p1 b1 P) ⟨3,0,i,n⟩=W2 (l0++[⟨[numV i,numV n],false⟩]) r0 p0 [⟨2,l0.length⟩] l1 r1 p1 b1 P:=by
 have ht:=fun(a:Ac) (x y:Int) h1 h2 h3=>told_at (a:=a) (x:=x) (y:=y) h1 h2 h3
 simp[actS,W2,tellS,takesS,livesS,Wd.at,Wd.put];rw[ht _ _ _ rfl hm hl]
 rfl
theorem take2 {l0 x q l1 r1 p1 b1 P}:actS eX (W2 l0 (rg x nilV nilV nilV nilV nilV) (-1) [q] l1 r1 p1 b1 P) ⟨1,0,0,0⟩=W2 l0 (rg x q nilV nilV nilV nilV) 0 [] l1 r1 p1 b1 P:=by
 simp[actS,W2,stepS,livesS,Wd.at,Wd.put,takeS,rg,Ac.put]
theorem s2_0 {l0 x c d l1 r1 p1 b1 P} {fs:List Vl} {p:Nat} {n:Int} (hm:hMay 12 l0 []=true) (hp:l0[p]?=some ⟨fs,false⟩) (hf:fs[0]?=some (numV n)) :
  actS eX (W2 l0 (rg x ⟨2,p⟩ c d nilV nilV) 0 [] l1 r1 p1 b1 P) ⟨1,0,0,0⟩=W2 l0 (rg x ⟨2,p⟩ (numV n) d nilV nilV) 1 [] l1 r1 p1 b1 P:=by
 have hg:getS 12 l0 ⟨2,(p:Int)⟩ 0=(numV n,0):=get_at hm hp hf;simp[actS,W2,stepS,livesS,Wd.at,Wd.put,doneS,performS,aloneS,Ac.reg,Ac.put,rg,nextS,eI0_0,getsS,hg,numV]
theorem s2_1 {l0 x b d l1 r1 p1 b1 P} {n:Int} (hP:P.length<500) :
  actS eX (W2 l0 (rg x b (numV n) d nilV nilV) 1 [] l1 r1 p1 b1 P) ⟨1,0,0,0⟩=W2 l0 (rg x b (numV n) d nilV nilV) 2 [] l1 r1 p1 b1 (P++[(0,n)]):=by
 simp[actS,W2,stepS,livesS,Wd.at,Wd.put,doneS,performS,Ac.reg,rg,nextS,eI0_1,reportS,hP,numV]
theorem s2_2 {l0 b c d l1 r1 p1 b1 P} {fs:List Vl} {n:Int} (hm:hMay 12 l0 []=true) (hp:l0[0]?=some ⟨fs,false⟩) (hf:fs[0]?=some (numV n)) :
  actS eX (W2 l0 (rg ⟨2,0⟩ b c d nilV nilV) 2 [] l1 r1 p1 b1 P) ⟨1,0,0,0⟩=W2 l0 (rg ⟨2,0⟩ b c (numV n) nilV nilV) 3 [] l1 r1 p1 b1 P:=by
 have hg:getS 12 l0 ⟨2,0⟩ 0=(numV n,0):=get_at (p:=0) (f:=0) hm hp hf;simp[actS,W2,stepS,livesS,Wd.at,Wd.put,doneS,performS,aloneS,Ac.reg,Ac.put,rg,nextS,eI0_2,getsS,hg,numV]
theorem s1_3 {l0 a b c P}:actS eX (W1 l0 (rg a b c (numV 0) nilV nilV) 3 [] P) ⟨1,0,0,0⟩=W1 l0 (rg a b c (numV 0) nilV nilV) 6 [] P:=by
 simp[actS,W1,stepS,livesS,Wd.at,Wd.put,doneS,performS,aloneS,Ac.reg,rg,nextS,eI0_3,numV]
theorem s2_3 {l0 a b c l1 r1 p1 b1 P}:actS eX (W2 l0 (rg a b c (numV 1) nilV nilV) 3 [] l1 r1 p1 b1 P) ⟨1,0,0,0⟩=W2 l0 (rg a b c (numV 1) nilV nilV) 4 [] l1 r1 p1 b1 P:=by
 simp[actS,W2,stepS,livesS,Wd.at,Wd.put,doneS,performS,aloneS,Ac.reg,rg,nextS,eI0_3,numV]
theorem idle2 {l0 r0 l1 r1 p1 b1 P}:actS eX (W2 l0 r0 (-1) [] l1 r1 p1 b1 P) ⟨1,0,0,0⟩=W2 l0 r0 (-1) [] l1 r1 p1 b1 P:=by
 simp[actS,W2,stepS,livesS,Wd.at,Wd.put,takeS]
theorem send_at {l0 x c e f pc pe l1 r1 p1 P} {fs:List Vl} {p:Nat} (hm:hMay 12 l0 []=true) (hp:l0[p]?=some ⟨fs,false⟩) (hn:∀ v∈fs,v.k≠2) (hm1:hMay 12 l1 []=true) (hl1:l1.length<12) (hi:insAt eX 0 pc=⟨13,1,3,0⟩) (hpc:pc≠-1) (he:pe=pc+1) :
  actS eX (W2 l0 (rg x ⟨2,p⟩ c (numV 1) e f) pc [] l1 r1 p1 [] P) ⟨1,0,0,0⟩=W2 (l0.set p ⟨[],true⟩) (rg x nilV c (numV 1) e f) pe [] (l1++[⟨fs,false⟩]) r1 p1 [⟨2,l1.length⟩] P:=by
 have ht:=tr_at (M:=12) (M':=12) hm hm1 hp hn (by omega);have hd:=fun(a:Ac) (ha:a.obs=l0)=>dead_at (a:=a) (p:=p) (by rw[ha];exact hp) hn
 subst he;simp[actS,W2,stepS,livesS,Wd.at,Wd.put,doneS,performS,Ac.reg,rg,nextS,hi,hpc,sendS,numV];rw[hd _ rfl];simp[goneS,takesS,livesS,Wd.at,deliverS,trW,Ac.reg,ht,arriveS,Wd.put,Ac.heap,Ac.push,Ac.put]
theorem s2_5 {l0 a b c d e f l1 r1 p1 b1 P pc} {n:Int} (hi:insAt eX 0 pc=⟨0,0,0,0⟩) (hpc:pc≠-1) (ha:a=⟨2,n⟩) :
  actS eX (W2 l0 (rg a b c d e f) pc [] l1 r1 p1 b1 P) ⟨1,0,0,0⟩=W2 l0 (rg a nilV nilV nilV nilV nilV) (-1) [] l1 r1 p1 b1 P:=by
 subst ha;simp[actS,W2,stepS,livesS,Wd.at,Wd.put,doneS,performS,aloneS,Ac.reg,rg,nextS,hi,hpc,keep1]
theorem s1_6 {l0 a b c d P} (hm:hMay 12 l0 []=true) (hl:l0.length<12) :
  actS eX (W1 l0 (rg a b c d nilV nilV) 6 [] P) ⟨1,0,0,0⟩=W1 (l0++[⟨[nilV],false⟩]) (rg a b c d ⟨2,l0.length⟩ nilV) 7 [] P:=by
 have hg:=fun(y:Ac) (h1:y.M=12) (h2:y.obs=l0)=>(give_at (a:=y) (n:=1) (l:=l0++[⟨zeroVals 1,false⟩]) (p:=l0.length) (by rw[h1,h2];exact alloc_at (n:=1) hm (by omega) (by omega)))
 simp[actS,W1,stepS,livesS,Wd.at,Wd.put,doneS,performS,aloneS,Ac.reg,rg,nextS,eI0_6,makeS];rw[hg _ rfl rfl];simp[Ac.put,Ac.heap,zeroVals,nilV,List.replicate]
theorem s1_7 {l0 a b c d e P}:actS eX (W1 l0 (rg a b c d e nilV) 7 [] P) ⟨1,0,0,0⟩=W1 l0 (rg a b c d e (numV 0)) 8 [] P:=by
 simp[actS,W1,stepS,livesS,Wd.at,Wd.put,doneS,performS,aloneS,Ac.put,rg,nextS,eI0_7]
theorem s1_8 {l0 a b c d P} {p:Nat} {fs:List Vl} {y:Vl} (hm:hMay 12 l0 []=true) (hp:l0[p]?=some ⟨fs,false⟩) (hf:fs[0]?=some y) :
  actS eX (W1 l0 (rg a b c d ⟨2,p⟩ (numV 0)) 8 [] P) ⟨1,0,0,0⟩=W1 (l0.set p ⟨fs.set 0 (numV 0),false⟩) (rg a b c d ⟨2,p⟩ (numV 0)) 9 [] P:=by
 have hs:setS 12 l0 ⟨2,(p:Int)⟩ 0 (numV 0)=(12,l0.set p ⟨fs.set 0 (numV 0),false⟩,0):=set_at' (f:=0) hm hp hf (numE_may (by omega));have hk:(numV 0).k=1:=rfl;simp[actS,W1,stepS,livesS,Wd.at,Wd.put,doneS,performS,aloneS,Ac.reg,rg,nextS,eI0_8,putsS,hs,hk,Ac.heap]
theorem s1_9 {l0 a b c d f P} {p:Nat} {fs:List Vl} (hm:hMay 12 l0 []=true) (hp:l0[p]?=some ⟨fs,false⟩) (hn:∀ v∈fs,v.k≠2) :
  actS eX (W1 l0 (rg a b c d ⟨2,p⟩ f) 9 [] P) ⟨1,0,0,0⟩=W2 (l0.set p ⟨[],true⟩) (rg a b c (numV 1) nilV f) 10 [] [⟨fs,false⟩] rw0 (-1) [] P:=by
 have ht:=tr_at (M:=12) (M':=12) (l':=[]) hm rfl hp hn (by simp);simp[actS,W1,stepS,livesS,Wd.at,Wd.put,doneS,performS,Ac.reg,rg,nextS,eI0_9,spawnS,ht,W2,Ac.heap,Ac.put,beginS,rw0,numV]
theorem s2_10 {l0 b c e f l1 r1 p1 b1 P} {fs:List Vl} {y:Vl} (hm:hMay 12 l0 []=true) (hp:l0[0]?=some ⟨fs,false⟩) (hf:fs[0]?=some y) :
  actS eX (W2 l0 (rg ⟨2,0⟩ b c (numV 1) e f) 10 [] l1 r1 p1 b1 P) ⟨1,0,0,0⟩=W2 (l0.set 0 ⟨fs.set 0 (numV 1),false⟩) (rg ⟨2,0⟩ b c (numV 1) e f) 11 [] l1 r1 p1 b1 P:=by
 have hs:setS 12 l0 ⟨2,0⟩ 0 (numV 1)=(12,l0.set 0 ⟨fs.set 0 (numV 1),false⟩,0):=set_at' (p:=0) (f:=0) hm hp hf (numE_may (by omega));have hk:(numV 1).k=1:=rfl;simp[actS,W2,stepS,livesS,Wd.at,Wd.put,doneS,performS,aloneS,Ac.reg,rg,nextS,eI0_10,putsS,hs,hk,Ac.heap]
theorem takeB {l0 r0 p0 b0 l1 x q P}:actS eX (W2 l0 r0 p0 b0 l1 (rg x nilV nilV nilV nilV nilV) (-1) [q] P) ⟨1,1,0,0⟩=W2 l0 r0 p0 b0 l1 (rg x q nilV nilV nilV nilV) 0 [] P:=by
 simp[actS,W2,stepS,livesS,Wd.at,Wd.put,takeS,rg,Ac.put]
theorem b_0 {l0 r0 p0 b0 l1 x c d P} {fs:List Vl} {p:Nat} {n:Int} (hm:hMay 12 l1 []=true) (hp:l1[p]?=some ⟨fs,false⟩) (hf:fs[1]?=some (numV n)) :
  actS eX (W2 l0 r0 p0 b0 l1 (rg x ⟨2,p⟩ c d nilV nilV) 0 [] P) ⟨1,1,0,0⟩=W2 l0 r0 p0 b0 l1 (rg x ⟨2,p⟩ (numV n) d nilV nilV) 1 [] P:=by
 have hg:getS 12 l1 ⟨2,(p:Int)⟩ 1=(numV n,0):=get_at (f:=1) hm hp hf;simp[actS,W2,stepS,livesS,Wd.at,Wd.put,doneS,performS,aloneS,Ac.reg,Ac.put,rg,nextS,eI1_0,getsS,hg,numV]
theorem b_1 {l0 r0 p0 b0 l1 b c d P} {fs:List Vl} {n:Int} (hm:hMay 12 l1 []=true) (hp:l1[0]?=some ⟨fs,false⟩) (hf:fs[0]?=some (numV n)) :
  actS eX (W2 l0 r0 p0 b0 l1 (rg ⟨2,0⟩ b c d nilV nilV) 1 [] P) ⟨1,1,0,0⟩=W2 l0 r0 p0 b0 l1 (rg ⟨2,0⟩ b c (numV n) nilV nilV) 2 [] P:=by
 have hg:getS 12 l1 ⟨2,0⟩ 0=(numV n,0):=get_at (p:=0) (f:=0) hm hp hf;simp[actS,W2,stepS,livesS,Wd.at,Wd.put,doneS,performS,aloneS,Ac.reg,Ac.put,rg,nextS,eI1_1,getsS,hg,numV]
theorem b_2 {l0 r0 p0 b0 l1 a b P} {n s:Int} (hs:isW (s+n)=true) :
  actS eX (W2 l0 r0 p0 b0 l1 (rg a b (numV n) (numV s) nilV nilV) 2 [] P) ⟨1,1,0,0⟩=W2 l0 r0 p0 b0 l1 (rg a b (numV n) (numV (s+n)) nilV nilV) 3 [] P:=by
 simp[actS,W2,stepS,livesS,Wd.at,Wd.put,doneS,performS,aloneS,Ac.reg,Ac.put,rg,nextS,eI1_2,reckonS,resultS,hs,numV]
theorem b_3 {l0 r0 p0 b0 l1 b c P} {n:Int} {fs:List Vl} {y:Vl} (hm:hMay 12 l1 []=true) (hp:l1[0]?=some ⟨fs,false⟩) (hf:fs[0]?=some y) (hn:-1099511627776<=n/\n<=1099511627776) :
  actS eX (W2 l0 r0 p0 b0 l1 (rg ⟨2,0⟩ b c (numV n) nilV nilV) 3 [] P) ⟨1,1,0,0⟩=W2 l0 r0 p0 b0 (l1.set 0 ⟨fs.set 0 (numV n),false⟩) (rg ⟨2,0⟩ b c (numV n) nilV nilV) 4 [] P:=by
 have hs:setS 12 l1 ⟨2,0⟩ 0 (numV n)=(12,l1.set 0 ⟨fs.set 0 (numV n),false⟩,0):=set_at' (p:=0) (f:=0) hm hp hf (numE_may hn);have hk:(numV n).k=1:=rfl;simp[actS,W2,stepS,livesS,Wd.at,Wd.put,doneS,performS,aloneS,Ac.reg,rg,nextS,eI1_3,putsS,hs,hk,Ac.heap]
theorem b_4 {l0 r0 p0 b0 l1 a b c P} {n:Int} (hP:P.length<500) :
  actS eX (W2 l0 r0 p0 b0 l1 (rg a b c (numV n) nilV nilV) 4 [] P) ⟨1,1,0,0⟩=W2 l0 r0 p0 b0 l1 (rg a b c (numV n) nilV nilV) 5 [] (P++[(1,n)]):=by
 simp[actS,W2,stepS,livesS,Wd.at,Wd.put,doneS,performS,Ac.reg,rg,nextS,eI1_4,reportS,hP,numV]
theorem b_5 {l0 r0 p0 b0 l1 b c d P} {n:Int} :
  actS eX (W2 l0 r0 p0 b0 l1 (rg ⟨2,n⟩ b c d nilV nilV) 5 [] P) ⟨1,1,0,0⟩=W2 l0 r0 p0 b0 l1 (rg ⟨2,n⟩ nilV nilV nilV nilV nilV) (-1) [] P:=by
 simp[actS,W2,stepS,livesS,Wd.at,Wd.put,doneS,performS,aloneS,Ac.reg,rg,nextS,eI1_5,keep1]
end
end Go.Proofs.YtepifccbbmdfcaaGreatDoor
