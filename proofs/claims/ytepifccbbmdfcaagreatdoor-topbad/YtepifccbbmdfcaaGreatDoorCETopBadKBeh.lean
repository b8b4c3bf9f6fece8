/- KBeh. -/
import Derived.Test.YtepifccbbmdfcaaGreatDoorCETopBadKInstr
namespace Go.Proofs.YtepifccbbmdfcaaGreatDoor
set_option maxRecDepth 100000
set_option maxHeartbeats 8000000
section
open Go.RowKit
def insCells (l:List Ins):List Value:=l.flatMap fun x=>[.int .i64 x.op,.int .i64 x.a,.int .i64 x.b,.int .i64 x.n]
theorem insCells_get:∀ (l:List Ins) (i f:Nat),i<l.length->f<4->(insCells l)[i*4+f]?=some (.int .i64 (fld (l.getD i noIns) f))
 | x :: l,0,f,_,hf=>by
  match f,hf with
  | 0,_=>rfl
  | 1,_=>rfl
  | 2,_=>rfl
  | 3,_=>rfl
 | x :: l,i+1,f,hi,hf=>by
  have:=insCells_get l i f (by simpa using hi) hf
  show([Value.int .i64 x.op,.int .i64 x.a,.int .i64 x.b,.int .i64 x.n]++insCells l)[(i+1)*4+f]?=_
  rw[List.getElem?_append_right (by simp;omega)];simp only[List.length_cons,List.length_nil];rw[show(i+1)*4+f-(0+1+1+1+1)=i*4+f by omega,this];simp
def fIns (x:Ins):List Value:=[.int .i64 x.op,.int .i64 x.a,.int .i64 x.b,.int .i64 x.n]
theorem Tryz.rowIns:RowT Tryz.prog fIns 4 44 43 32:=⟨fun _=>rfl,fun x v hv=>by simp[fIns] at hv;rcases hv with h | h | h | h <;> rw[h] <;> rfl,by decide,Tryz.underlying44,_,(show(Tryz.prog.info? 43).map (fun i=>(i.zero,i.size,i.bytes))=some (some (.agg #[.int .i64 0,.int .i64 0,.int .i64 0,.int .i64 0]),4,32) by kernel_rfl),rfl⟩
def KindsAt (w:World) (ao:Option Addr) (rows:List (List Ins)):Prop :=
 ∀ (r:Nat) l,rows[r]?=some l->∃ b o ra rc,ao=some ⟨b,o,none⟩/\w.cell? ⟨b,o+r,none⟩=some (.slice ra l.length rc)/\SeqAt fIns 4 w ra l
def insFit (x:Ins):Prop:=∀ f,f<4->-9223372036854775808<=fld x f/\fld x f<=9223372036854775807
theorem rowAt_seq {w:World} {ra:Option Addr} {l:List Ins} (h:SeqAt fIns 4 w ra l):RowAt w ra l.length (fun i f=>fld (l.getD i noIns) f):=fun i hi=>by
 have hx:=List.getElem?_eq_getElem hi;obtain⟨b,o,e,hc⟩:=h i _ hx;refine⟨b,o,e,fun f hf=>?_⟩;have eg:l.getD i noIns=l[i]:=by simp[List.getD_eq_getElem?_getD,hx]
 show w.cell? ⟨b,o+i*4+f,none⟩=some (.int .i64 (fld (l.getD i noIns) f))
 rw[eg];refine hc f _ ?_
 match f,hf with
 | 0,_=>rfl
 | 1,_=>rfl
 | 2,_=>rfl
 | 3,_=>rfl
theorem kinds_choose {w:World} {ao:Option Addr} {rows:List (List Ins)} (h:KindsAt w ao rows):∃ (A:Nat->Option Addr) (C:Nat->Nat),∀ r,r<rows.length->(∃ b o,ao=some ⟨b,o,none⟩/\w.cell? ⟨b,o+r,none⟩=some (.slice (A r) (rows.getD r []).length (C r)))/\SeqAt fIns 4 w (A r) (rows.getD r []):=by
 have hp:∀ r,∃ p:Option Addr × Nat,r<rows.length->(∃ b o,ao=some ⟨b,o,none⟩/\w.cell? ⟨b,o+r,none⟩=some (.slice p.1 (rows.getD r []).length p.2))/\SeqAt fIns 4 w p.1 (rows.getD r []):=fun r=>by
  by_cases hr:r<rows.length
  ·have hx:=List.getElem?_eq_getElem hr
   have eg:rows.getD r []=rows[r]:=by simp[List.getD_eq_getElem?_getD,hx]
   obtain⟨b,o,ra,rc,e,h1,h2⟩:=h r _ hx;exact⟨(ra,rc),fun _=>⟨⟨b,o,e,by rw[eg];exact h1⟩,by rw[eg];exact h2⟩⟩
  ·exact⟨(none,0),fun h=>absurd h hr⟩
 refine⟨fun r=>(hp r).choose.1,fun r=>(hp r).choose.2,fun r hr=>?_⟩;exact(hp r).choose_spec hr
theorem prog_of {w:World} {ao:Option Addr} {rows:List (List Ins)} (h:KindsAt w ao rows) (hm:rows.length<=1000000) (hl:∀ l∈rows,l.length<=1000000/\∀ x∈l,insFit x):∃ A C,ProgAt w ao rows.length A (lenOf rows) C (xOf rows):=by
 obtain⟨A,C,hAC⟩:=kinds_choose h;have hin:∀ r,r<rows.length->rows.getD r []∈rows:=fun r hr=>by
  have hx:=List.getElem?_eq_getElem hr;have eg:rows.getD r []=rows[r]:=by simp[List.getD_eq_getElem?_getD,hx]
  rw[eg];exact List.getElem_mem hr
 refine⟨A,C,fun r hr=>(hAC r hr).1,fun r hr=>rowAt_seq (hAC r hr).2,by omega,fun r hr=>?_,fun r hr i hi f hf=>?_⟩
 ·have:=(hl _ (hin r hr)).1
  unfold lenOf
  omega
 ·have hx:=List.getElem?_eq_getElem (show i<(rows.getD r []).length from hi)
  have eg:(rows.getD r []).getD i noIns=(rows.getD r [])[i]'hi:=by rw[List.getD_eq_getElem?_getD,hx];rfl
  have:=(hl _ (hin r hr)).2 _ (List.getElem_mem hi)
  unfold xOf
  rw[eg];exact this f hf
end
section
open Go.RowKit
theorem seqIns_new (w:World) (x:Ins) (t:TypeId) (B:Nat) (hB:B=w.heap.size):SeqAt fIns 4 (w.alloc (.cells #[.int .i64 x.op,.int .i64 x.a,.int .i64 x.b,.int .i64 x.n] t)) (some ⟨B,0,none⟩) [x]:=fun i y hy=>by
 match i,hy with
 | 0,hy =>
  simp at hy;subst hy;refine⟨B,0,rfl,fun j u hu=>?_⟩;rw[cellBlk (by rw[hB];exact Deep.blk_alloc_new w _)]
  simpa[fIns] using hu
 | i+1,hy=>simp at hy
theorem insFit_of {x:Ins} (h:insB1 x):insFit x:=fun f hf=>by
 obtain⟨h1,h2,h3,h4⟩:=h
 match f,hf with
 | 0,_=>show -9223372036854775808<=x.op/\x.op<=9223372036854775807;omega
 | 1,_=>show -9223372036854775808<=x.a/\x.a<=9223372036854775807;omega
 | 2,_=>show -9223372036854775808<=x.b/\x.b<=9223372036854775807;omega
 | 3,_=>show -9223372036854775808<=x.n/\x.n<=9223372036854775807;omega
theorem done_bd:insB1 doneI:=by unfold insB1 doneI;simp
theorem kinds3 {w:World} {B:Nat} {a b c:List Ins} {aa ba ca:Option Addr} {ac bc cc:Nat} {t:TypeId} (h:w.heap[B]?=some (.cells #[.slice aa a.length ac,.slice ba b.length bc,.slice ca c.length cc] t (0,0))) (ha:SeqAt fIns 4 w aa a) (hb:SeqAt fIns 4 w ba b) (hc:SeqAt fIns 4 w ca c):KindsAt w (some ⟨B,0,none⟩) [a,b,c]:=fun r l hl=>by
 match r,hl with
 | 0,hl=>simp at hl;subst hl;exact⟨B,0,aa,ac,rfl,by rw[cellBlk h];rfl,ha⟩
 | 1,hl=>simp at hl;subst hl;exact⟨B,0,ba,bc,rfl,by rw[cellBlk h];rfl,hb⟩
 | 2,hl=>simp at hl;subst hl;exact⟨B,0,ca,cc,rfl,by rw[cellBlk h];rfl,hc⟩
 | r+3,hl=>simp at hl
theorem right_any (l:List Ins) (la:Option Addr) (lc:Nat) (w:World) (hS:SeqAt fIns 4 w la l) (hl:l.length<=1000) (hbd:∀ x∈l,insB1 x) (hT:TabAt 0 w) :
  Calls Tryz.prog 71 #[.slice la l.length lc] w fun e w'=>e=.returned (.bool (rightS l))/\Below w.heap.size w w':=by
 obtain⟨R,hR⟩:∃ R,R=rightS l:=⟨_,rfl⟩;have HR:Aside (R=rightS l):=hR;rw[<- hR];clear hR
 go_enter Tryz.func71,Tryz.ntmps71
 go_upto_region 2 with fail
 obtain⟨N0,k1,b1,s1⟩:=boxes1 w (Obj.cells #[.int .i64 0,.int .i64 0,.int .i64 0,.int .i64 0] 43);have hD:=seqIns_new w doneI 43 w.heap.size rfl;have hD1:SeqAt fIns 4 (w.alloc (Obj.cells #[.int .i64 0,.int .i64 0,.int .i64 0,.int .i64 0] 43)) (some ⟨w.heap.size,0,none⟩) [doneI]:=hD;clear hD;generalize w.alloc (Obj.cells #[.int .i64 0,.int .i64 0,.int .i64 0,.int .i64 0] 43)=W at *;have hsq:=hS.keeps k1
 have hmx:maxLen=9223372036854775807:=rfl
 go_wp2_with (first
  | (at_builtin;refine wpList_seqCopy Tryz.rowIns rfl _ _ (by rfl) (by rfl) l la lc (by simp[Act.eval]) hsq (by omega) (by omega) ?_;rintro va vc w2 hO hb2;have hO2:=hO.below (below_box w2 (Obj.cells #[.int .i64 0,.int .i64 0,.int .i64 0,.int .i64 0] 43));have hsz2:=hb2.size;have hD2:=seqIns_new w2 doneI 43 w2.heap.size rfl)
  | (at_builtin;refine wpList_seq Tryz.rowIns rfl _ _ (by rfl) (v:=.slice va l.length vc) (by simp[Act.eval]) hO2 (by simp;omega) [doneI] (some ⟨w2.heap.size,0,none⟩) 1 (by simp[Act.eval]) hD2 (by simp) (by simp;omega) (by simp;omega) ?_;rintro g cap w3 hO3 hg3 hb3 hg4)
  | fail)
 clear hO hO2 hD2 hg3 hg4;have hbA:Below W.heap.size W w3:=(hb2.trans ((below_box w2 _).mono hsz2)).trans hb3;clear hb2 hb3;obtain⟨N3,k3,b3,s3⟩:=boxes1 w3 (Obj.cells #[.slice (some ⟨g,0,none⟩) (l.length+1) cap,.slice (some ⟨w.heap.size,0,none⟩) 1 1,.slice (some ⟨w.heap.size,0,none⟩) 1 1] 44);have hD3:=(hD1.keeps (Keeps.below hbA)).keeps k3;have hO4:=(hO3.at Tryz.rowIns.len).keeps k3;have hT3:=((hT.keeps k1).keeps (Keeps.below hbA)).keeps k3
 have hbB:Below w.heap.size w (w3.alloc (Obj.cells #[.slice (some ⟨g,0,none⟩) (l.length+1) cap,.slice (some ⟨w.heap.size,0,none⟩) 1 1,.slice (some ⟨w.heap.size,0,none⟩) 1 1] 44)):=(b1.trans (hbA.mono b1.size)).trans (b3.mono (Nat.le_trans b1.size hbA.size));clear hO3 hD1 hbA k1 b1 k3 b3 s3 hsq hT hS;generalize w3.alloc (Obj.cells #[.slice (some ⟨g,0,none⟩) (l.length+1) cap,.slice (some ⟨w.heap.size,0,none⟩) 1 1,.slice (some ⟨w.heap.size,0,none⟩) 1 1] 44)=W3 at *
 have e1:(l++[doneI]).length=l.length+1:=by simp
 have N4:W3.heap[w3.heap.size]?=some (.cells #[.slice (some ⟨g,0,none⟩) (l++[doneI]).length cap,.slice (some ⟨w.heap.size,0,none⟩) [doneI].length 1,.slice (some ⟨w.heap.size,0,none⟩) [doneI].length 1] 44 (0,0)):=by rw[e1];exact N3
 obtain⟨A,C,hP⟩:=prog_of (kinds3 N4 hO4 hD3 hD3) (by simp) (fun r hr=>by
  have h1:insFit doneI:=insFit_of done_bd;simp at hr
  rcases hr with rfl | rfl
  ·refine⟨by simp;omega,fun x hx=>?_⟩
   simp at hx
   rcases hx with hx | rfl
   ·exact insFit_of (hbd x hx)
   ·exact h1
  ·exact⟨by simp,fun x hx=>by simp at hx;rw[hx];exact h1⟩)
 clear N3 N4 hD3 hO4 e1;refine(vcheck_any _ 3 3 A _ C _ _ hT3 hP).mono ?_;rintro e w4 ⟨rfl,hb4⟩;have HR2:Aside (R=decide ((ckS 3 (lenOf [l++[doneI],[doneI],[doneI]]) (xOf [l++[doneI],[doneI],[doneI]])).2.2=0)):=HR.out;clear hP hT3 hbd HR;generalize ckS 3 (lenOf [l++[doneI],[doneI],[doneI]]) (xOf [l++[doneI],[doneI],[doneI]])=K at *;have hbC:=hbB.trans (hb4.mono hbB.size);clear hbB hb4;have hK:(K.2.2 == 0)=R:=by rw[HR2.out];by_cases h:K.2.2=0 <;> simp[h]
 go_wp2
 exact bodyPost_ret (v:=.bool R) (by simp[results,Tryz.results71,go_sem]) rfl ⟨rfl,hbC⟩
end
section
open Go.RowKit
theorem stepB_full {most:Nat} {out:List Ins} (h:¬ out.length<most):∀ l:List Rw,l.foldl (stepB most) out=out
 | []=>rfl
 | r :: l=>by
  rw[List.foldl_cons];have:stepB most out r=out:=by unfold stepB;rw[if_neg h]
  rw[this];exact stepB_full h l
theorem drop_cons {α:Type} {l:List α} {i:Nat} {r:α} (h:l[i]?=some r):l.drop i=r :: l.drop (i+1):=by
 obtain⟨hi,rfl⟩:=List.getElem?_eq_some_iff.1 h;exact List.drop_eq_getElem_cons hi
theorem seqIns_new2 (w:World) (x y:Ins) (t:TypeId) (B:Nat) (hB:B=w.heap.size):SeqAt fIns 4 (w.alloc (.cells #[.int .i64 x.op,.int .i64 x.a,.int .i64 x.b,.int .i64 x.n,.int .i64 y.op,.int .i64 y.a,.int .i64 y.b,.int .i64 y.n] t)) (some ⟨B,0,none⟩) [x,y]:=fun i z hz=>by
 match i,hz with
 | 0,hz =>
  simp at hz;subst hz;refine⟨B,0,rfl,fun j u hu=>?_⟩;rw[cellBlk (by rw[hB];exact Deep.blk_alloc_new w _)]
  match j,hu with
  | 0,hu=>simpa[fIns] using hu
  | 1,hu=>simpa[fIns] using hu
  | 2,hu=>simpa[fIns] using hu
  | 3,hu=>simpa[fIns] using hu
  | j+4,hu=>simp[fIns] at hu
 | 1,hz =>
  simp at hz;subst hz;refine⟨B,0,rfl,fun j u hu=>?_⟩;rw[cellBlk (by rw[hB];exact Deep.blk_alloc_new w _)]
  match j,hu with
  | 0,hu=>simpa[fIns] using hu
  | 1,hu=>simpa[fIns] using hu
  | 2,hu=>simpa[fIns] using hu
  | 3,hu=>simpa[fIns] using hu
  | j+4,hu=>simp[fIns] at hu
 | i+2,hz=>simp at hz
theorem tdiv26_bd {k:Int} (h:fit64 k):fit64 (k.tdiv 26):=by
 unfold fit64 at *
 by_cases h0:0<=k
 ·rw[Int.tdiv_eq_ediv_of_nonneg h0]
  omega
 ·obtain⟨m,rfl⟩:∃ m,k=-m:=⟨-k,by omega⟩
  rw[Int.neg_tdiv,Int.tdiv_eq_ediv_of_nonneg (by omega)];omega
theorem kbehavior_any (l:List Rw) (ra:Option Addr) (rc:Nat) (most:Nat) (w:World) (h:RawsAt w ra l) (hl:32*l.length<=140737488355328) (hm:most<=900) (hT:TabAt 0 w) :
  Calls Tryz.prog 44 #[.slice ra l.length rc,.int .i64 most] w fun e w'=>∃ g cap,e=.returned (.slice (some ⟨g,0,none⟩) (behS most l).length cap)/\Below w.heap.size w w'/\SeqOwn fIns 4 43 w' w.heap.size (.slice (some ⟨g,0,none⟩) (behS most l).length cap) (behS most l):=by
 obtain⟨R,hR⟩:∃ R,R=behS most l:=⟨_,rfl⟩;have HR:Aside (R=codeS most l++[doneI]):=hR;rw[<- hR];clear hR;have hmx:maxLen=9223372036854775807:=rfl
 go_enter Tryz.func44,Tryz.ntmps44
 go_wp2_with fail
 go_loopg [5,6] l.length (fun gg s5 s6 wr=>∃ (i:Nat) (out:List Ins) (oa:Option Addr) (oc:Nat),i<=l.length/\gg=l.length-i/\s5=.slice oa out.length oc/\s6=.int .i64 i/\SeqOwn fIns 4 43 wr w.heap.size (.slice oa out.length oc) out/\Below w.heap.size w wr/\out.length<=most+1/\(∀ x∈out,insB1 x)/\Aside (codeS most l=(l.drop i).foldl (stepB most) out))
 case atStart=>exact⟨0,[],none,0,Nat.zero_le _,rfl,rfl,rfl,seqOwn_nil _ _,Below.refl _ _,by simp,by simp,rfl⟩
 case round =>
  obtain⟨i,out,oa,oc,hi,rfl,rfl,rfl,hO,hb,hol,hbd,hA⟩:=hrel;have hix:∀ r,l[i]?=some r->i<l.length:=fun r hr=>(List.getElem?_eq_some_iff.1 hr).1
  cases hr:l[i]? with
  | none =>
   have hge:¬ (i:Int)<(l.length:Int):=by have:=List.getElem?_eq_none_iff.1 hr;omega
   have hile:=List.getElem?_eq_none_iff.1 hr;have HRR:Aside (R=out++[doneI]):=by show R=_;rw[HR.out,hA.out,List.drop_eq_nil_of_le hile];rfl
   clear hA HR hix
   go_wp2_with (first | (at_builtin;refine wpList_seq Tryz.rowIns rfl _ _ (by rfl) (v:=.slice oa out.length oc) (by simp[Act.eval]) (hO.below (below_box wr (Obj.cells #[.int .i64 0,.int .i64 0,.int .i64 0,.int .i64 0] 43))) (by have:=hb.size;simp;omega) [doneI] (some ⟨wr.heap.size,0,none⟩) 1 (by simp[Act.eval]) (seqIns_new wr doneI 43 wr.heap.size rfl) (by simp) (by simp;omega) (by simp;omega) ?_;rintro g cap w3 hO3 _ hb3 _) | fail)
   have hbF:=(hb.trans ((below_box wr (Obj.cells #[.int .i64 0,.int .i64 0,.int .i64 0,.int .i64 0] 43)).mono hb.size)).trans hb3;exact bodyPost_ret (v:=.slice (some ⟨g,0,none⟩) (out.length+1) cap) (by simp[results,Tryz.results44,go_sem]) rfl ⟨g,cap,by rw[HRR.out];simp,hbF,by rw[HRR.out];simpa using hO3⟩
  | some r =>
   have hlt:=hix r hr;have hltz:(i:Int)<(l.length:Int):=by omega
   by_cases hmo:out.length<most
   ·have hmoz:(out.length:Int)<(most:Int):=by omega
    obtain⟨RB,RO,hra,_,i0,i1,i2,i3,f0,f1,f2,f3⟩:=(h.keeps (Keeps.below hb)) i r hr;subst hra;have hAt:=hO.at Tryz.rowIns.len;obtain⟨W,hWe⟩:∃ W,W=wr:=⟨_,rfl⟩;subst hWe;have hSof:∀ w',Below W.heap.size W w'->(w'.cell? ⟨RB,RO+i*4,none⟩=some (.int .i64 r.k)/\w'.cell? ⟨RB,RO+i*4+1,none⟩=some (.int .i64 r.a)/\w'.cell? ⟨RB,RO+i*4+2,none⟩=some (.int .i64 r.b)/\w'.cell? ⟨RB,RO+i*4+3,none⟩=some (.int .i64 r.c)):=fun w' hb'=>⟨Keeps.below hb' _ _ i0,Keeps.below hb' _ _ i1,Keeps.below hb' _ _ i2,Keeps.below hb' _ _ i3⟩
    have hw8:=hb.size
    go_upto_region 5 with fail
    have hBd:Below W.heap.size W W.drew:=(Below.refl _ _).drew;refine wp_region_need (fun j=>j != 9) (fun w'=>w'.cell? ⟨RB,RO+i*4,none⟩=some (.int .i64 r.k)/\w'.cell? ⟨RB,RO+i*4+1,none⟩=some (.int .i64 r.a)/\w'.cell? ⟨RB,RO+i*4+2,none⟩=some (.int .i64 r.b)/\w'.cell? ⟨RB,RO+i*4+3,none⟩=some (.int .i64 r.c)) (by kernel_rfl) (hSof _ hBd) (fun hS=>?_);generalize W.drew=wc0 at hS hBd ⊢;refine tkN 0 hS ?_
    refine tkN 2 hS ?_;refine tkN 3 hS ?_;refine tkN 4 hS ?_;refine tkN 5 hS ?_;refine wpAnyN_one (i:=1) (by kernel_rfl) rfl (fun K hK=>?_);refine step_seqCopy Tryz.rowIns (by rfl) _ _ (by rfl) (by rfl) out oa oc (by simp[Act.eval]) (hAt.keeps (Keeps.below hBd)) (by omega) (by omega) ?_;rintro va vc wc1 hC hbn;have hC1:=hC.le hBd.size;have hB1:=hBd.trans (hbn.mono hBd.size);clear hC hbn hBd;refine otN hK (hSof _ hB1) ?_
    clear hK;replace hS:=hSof _ hB1;refine stN 6 (fun K hK=>?_);go_simp;refine(instr_any r _ f0 f1 f2 f3).mono ?_;rintro e wc2 ⟨rfl,hbn⟩;have hC2:=hC1.below hbn;have hB2:=hB1.trans (hbn.mono hB1.size);clear hC1 hbn hB1;refine otN hK (hSof _ hB2) ?_;clear hK;replace hS:=hSof _ hB2;obtain⟨X,hX⟩:∃ X,X=instrS r:=⟨_,rfl⟩;rw[<- hX];have HX:Aside (X=instrS r):=hX;clear hX;refine stN 7 (fun K hK=>?_);go_simp
    have hD3:=seqIns_new wc2 X 43 wc2.heap.size rfl;have hbn:=below_box wc2 (Obj.cells #[.int .i64 X.op,.int .i64 X.a,.int .i64 X.b,.int .i64 X.n] 43);generalize wc2.alloc (Obj.cells #[.int .i64 X.op,.int .i64 X.a,.int .i64 X.b,.int .i64 X.n] 43)=wc3 at hD3 hbn ⊢;have hC3:=hC2.below hbn;have hB3:=hB2.trans (hbn.mono hB2.size);clear hC2 hbn hB2;generalize wc2.heap.size=GB at hD3 ⊢;refine otN hK (hSof _ hB3) ?_
    clear hK;replace hS:=hSof _ hB3;refine wpAnyN_one (i:=8) (by kernel_rfl) rfl (fun K hK=>?_);refine step_seq Tryz.rowIns (by rfl) _ _ (by rfl) (v:=.slice va out.length vc) (by rfl) hC3 hB3.size [X] (some ⟨GB,0,none⟩) 1 (by rfl) hD3 (by simp) (by simp;omega) (by simp;omega) ?_;rintro g cap wc4 hO4 _ hbn _;have hB4:=hB3.trans hbn;clear hC3 hD3 hbn hB3;refine otN hK (hSof _ hB4) ?_;clear hK;replace hS:=hSof _ hB4
    refine stN 9 (fun K hK=>?_);go_simp;refine laN hK ?_;clear hK;have kk:=Keeps.below hB4;have hT4:=hT.keeps (Keeps.below (hb.trans (hB4.mono hb.size)));have hAt4:=hAt.keeps kk;replace i0:=kk _ _ i0;replace i1:=kk _ _ i1;replace i2:=kk _ _ i2;replace i3:=kk _ _ i3;clear hS kk hSof hAt;have ft:=tdiv26_bd f0;have hwr:wrap64 (r.k.tdiv 26)=r.k.tdiv 26:=IntWalk.wrap64_in _ ft
    by_cases hz:pick (r.k.tdiv 26) 5=0
    ·have HN:Aside (nextK out r=out++[⟨5,pick r.b 6,0,2⟩,X]):=by show nextK out r=_;unfold nextK;rw[if_pos hz,HX.out]
     go_wp2_with fail
     rw[hwr];refine(picked_any (r.k.tdiv 26) 5 _ ft.1 ft.2 (by omega) (by omega)).mono ?_;rintro e w' ⟨rfl,rfl⟩;have hSof:∀ w',Below wc4.heap.size wc4 w'->(w'.cell? ⟨RB,RO+i*4,none⟩=some (.int .i64 r.k)/\w'.cell? ⟨RB,RO+i*4+1,none⟩=some (.int .i64 r.a)/\w'.cell? ⟨RB,RO+i*4+2,none⟩=some (.int .i64 r.b)/\w'.cell? ⟨RB,RO+i*4+3,none⟩=some (.int .i64 r.c)):=fun w' hb'=>⟨Keeps.below hb' _ _ i0,Keeps.below hb' _ _ i1,Keeps.below hb' _ _ i2,Keeps.below hb' _ _ i3⟩
     go_upto_region 7 with fail
     have hBd:Below wc4.heap.size wc4 wc4.drew:=(Below.refl _ _).drew;refine wp_region_need (fun j=>j != 16) (fun w'=>w'.cell? ⟨RB,RO+i*4,none⟩=some (.int .i64 r.k)/\w'.cell? ⟨RB,RO+i*4+1,none⟩=some (.int .i64 r.a)/\w'.cell? ⟨RB,RO+i*4+2,none⟩=some (.int .i64 r.b)/\w'.cell? ⟨RB,RO+i*4+3,none⟩=some (.int .i64 r.c)) (by kernel_rfl) (hSof _ hBd) (fun hS=>?_);have hsz4:=hB4.size;have HB4:Aside (Below W.heap.size W wc4):=hB4
     generalize wc4.drew=wd0 at hS hBd ⊢;refine tkN 0 hS ?_;refine tkN 2 hS ?_;refine tkN 3 hS ?_;refine tkN 4 hS ?_;refine tkN 5 hS ?_;refine tkN 6 hS ?_;refine tkN 9 hS ?_;refine tkN 10 hS ?_;refine tkN 11 hS ?_;refine tkN 12 hS ?_;refine wpAnyN_one (i:=1) (by kernel_rfl) rfl (fun K hK=>?_);refine step_seqCopy Tryz.rowIns (by rfl) _ _ (by rfl) (by rfl) out oa oc (by simp[Act.eval]) (hAt4.keeps (Keeps.below hBd)) (by omega) (by omega) ?_
     rintro va2 vc2 wd1 hC hbn;have hC1:=hC.le hBd.size;have hB1:=hBd.trans (hbn.mono hBd.size);clear hC hbn hBd;refine otN hK (hSof _ hB1) ?_;clear hK;replace hS:=hSof _ hB1;refine stN 7 (fun K hK=>?_);go_simp;refine(picked_any r.b 6 _ f2.1 f2.2 (by omega) (by omega)).mono ?_;rintro e w' ⟨rfl,rfl⟩;refine otN hK (hSof _ hB1) ?_;clear hK;replace hS:=hSof _ hB1;refine tkN 8 hS ?_;refine stN 13 (fun K hK=>?_)
     go_simp;refine(instr_any r _ f0 f1 f2 f3).mono ?_;rintro e wd2 ⟨rfl,hbn⟩;have hC2:=hC1.below hbn;have hB2:=hB1.trans (hbn.mono hB1.size);clear hC1 hbn hB1;refine otN hK (hSof _ hB2) ?_;clear hK;replace hS:=hSof _ hB2;rw[<- HX.out];refine stN 14 (fun K hK=>?_);go_simp;have hD3:=seqIns_new2 wd2 ⟨5,pick r.b 6,0,2⟩ X 43 wd2.heap.size rfl;have hbn:=below_box wd2 (Obj.cells #[.int .i64 5,.int .i64 (pick r.b 6),.int .i64 0,.int .i64 2,.int .i64 X.op,.int .i64 X.a,.int .i64 X.b,.int .i64 X.n] 43)
     generalize wd2.alloc (Obj.cells #[.int .i64 5,.int .i64 (pick r.b 6),.int .i64 0,.int .i64 2,.int .i64 X.op,.int .i64 X.a,.int .i64 X.b,.int .i64 X.n] 43)=wd3 at hD3 hbn ⊢;have hC3:=hC2.below hbn;have hB3:=hB2.trans (hbn.mono hB2.size);clear hC2 hbn hB2;generalize wd2.heap.size=GB2 at hD3 ⊢;refine otN hK (hSof _ hB3) ?_;clear hK;replace hS:=hSof _ hB3;refine wpAnyN_one (i:=15) (by kernel_rfl) rfl (fun K hK=>?_)
     refine step_seq Tryz.rowIns (by rfl) _ _ (by rfl) (v:=.slice va2 out.length vc2) (by rfl) hC3 hB3.size [⟨5,pick r.b 6,0,2⟩,X] (some ⟨GB2,0,none⟩) 2 (by rfl) hD3 (by simp) (by simp;omega) (by simp;omega) ?_;rintro g7 cap7 wd4 hO6 _ hbn _;have hB6:=hB3.trans hbn;clear hC3 hD3 hbn hB3;refine otN hK (hSof _ hB6) ?_;clear hK;replace hS:=hSof _ hB6;refine stN 16 (fun K hK=>?_);go_simp;refine laN hK ?_
     clear hK;have hT7:=hT4.keeps (Keeps.below hB6);have hO7:=hO6.le HB4.out.size;have hB7:=HB4.out.trans (hB6.mono HB4.out.size);clear hS hSof hO6 hB6 hT4 hB4 HB4 hO4 hAt4
     go_wp2_with fail
     have eN:out.length+2=(nextK out r).length:=by rw[HN.out];simp
     rw[eN];have hOn:SeqOwn fIns 4 43 wd4 W.heap.size (.slice (some ⟨g7,0,none⟩) (nextK out r).length cap7) (nextK out r):=by rw[HN.out];simpa using hO7
     have hnl:=nextK_len out r;have hnb:=nextK_bd hbd r;have HST:Aside (stepB most out r=if rightS (nextK out r)=true then nextK out r else out):=by show stepB most out r=_;unfold stepB;rw[if_pos hmo]
     clear hO7 HN eN;generalize nextK out r=nx at *;refine(right_any nx _ _ _ (hOn.at Tryz.rowIns.len) (by omega) hnb hT7).mono ?_;rintro e w5 ⟨rfl,hb5⟩;have hbA:=(hb.trans (hB7.mono hb.size)).trans (hb5.mono (Nat.le_trans hb.size hB7.size))
     cases hq:rightS nx with
     | true =>
      go_wp2
      go_roundg (l.length-(i+1))
      case measure=>go_light;omega
      case rel =>
       go_light
       refine⟨i+1,nx,_,_,by omega,rfl,rfl,by simp,(hOn.below hb5).le hw8,hbA,by omega,hnb,?_⟩
       show codeS most l=_
       rw[hA.out,drop_cons hr,List.foldl_cons,HST.out,if_pos hq]
     | false =>
      go_wp2
      go_roundg (l.length-(i+1))
      case measure=>go_light;omega
      case rel =>
       go_light
       refine⟨i+1,out,oa,oc,by omega,rfl,rfl,by simp,(hO.below hB7).below hb5,hbA,by omega,hbd,?_⟩
       show codeS most l=_
       rw[hA.out,drop_cons hr,List.foldl_cons,HST.out,if_neg (by simp[hq])]
    ·have HN:Aside (nextK out r=out++[X]):=by show nextK out r=_;unfold nextK;rw[if_neg hz,HX.out]
     go_wp2_with fail
     rw[hwr];refine(picked_any (r.k.tdiv 26) 5 _ ft.1 ft.2 (by omega) (by omega)).mono ?_;rintro e w' ⟨rfl,rfl⟩
     go_wp2_with fail
     have eN:out.length+1=(nextK out r).length:=by rw[HN.out];simp
     rw[eN];have hOn:SeqOwn fIns 4 43 wc4 W.heap.size (.slice (some ⟨g,0,none⟩) (nextK out r).length cap) (nextK out r):=by rw[HN.out];simpa using hO4
     have hnl:=nextK_len out r;have hnb:=nextK_bd hbd r;have HST:Aside (stepB most out r=if rightS (nextK out r)=true then nextK out r else out):=by show stepB most out r=_;unfold stepB;rw[if_pos hmo]
     clear hO4 HN eN;generalize nextK out r=nx at *;refine(right_any nx _ _ _ (hOn.at Tryz.rowIns.len) (by omega) hnb hT4).mono ?_;rintro e w5 ⟨rfl,hb5⟩;have hbA:=(hb.trans (hB4.mono hb.size)).trans (hb5.mono (Nat.le_trans hb.size hB4.size))
     cases hq:rightS nx with
     | true =>
      go_wp2
      go_roundg (l.length-(i+1))
      case measure=>go_light;omega
      case rel =>
       go_light
       refine⟨i+1,nx,_,_,by omega,rfl,rfl,by simp,(hOn.below hb5).le hw8,hbA,by omega,hnb,?_⟩
       show codeS most l=_
       rw[hA.out,drop_cons hr,List.foldl_cons,HST.out,if_pos hq]
     | false =>
      go_wp2
      go_roundg (l.length-(i+1))
      case measure=>go_light;omega
      case rel =>
       go_light
       refine⟨i+1,out,oa,oc,by omega,rfl,rfl,by simp,(hO.below hB4).below hb5,hbA,by omega,hbd,?_⟩
       show codeS most l=_
       rw[hA.out,drop_cons hr,List.foldl_cons,HST.out,if_neg (by simp[hq])]
   ·have hmoz:¬ (out.length:Int)<(most:Int):=by omega
    have HRR:Aside (R=out++[doneI]):=by show R=_;rw[HR.out,hA.out,stepB_full hmo]
    clear hA HR hix
    go_wp2_with (first | (at_builtin;refine wpList_seq Tryz.rowIns rfl _ _ (by rfl) (v:=.slice oa out.length oc) (by simp[Act.eval]) (hO.below (below_box wr (Obj.cells #[.int .i64 0,.int .i64 0,.int .i64 0,.int .i64 0] 43))) (by have:=hb.size;simp;omega) [doneI] (some ⟨wr.heap.size,0,none⟩) 1 (by simp[Act.eval]) (seqIns_new wr doneI 43 wr.heap.size rfl) (by simp) (by simp;omega) (by simp;omega) ?_;rintro g cap w3 hO3 _ hb3 _) | fail)
    have hbF:=(hb.trans ((below_box wr (Obj.cells #[.int .i64 0,.int .i64 0,.int .i64 0,.int .i64 0] 43)).mono hb.size)).trans hb3;exact bodyPost_ret (v:=.slice (some ⟨g,0,none⟩) (out.length+1) cap) (by simp[results,Tryz.results44,go_sem]) rfl ⟨g,cap,by rw[HRR.out];simp,hbF,by rw[HRR.out];simpa using hO3⟩
end
end Go.Proofs.YtepifccbbmdfcaaGreatDoor
