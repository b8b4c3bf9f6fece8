/- APerf0. -/
import Derived.Test.YtepifccbbmdfcaaGreatDoorCBWOwn3
namespace Go.Proofs.YtepifccbbmdfcaaGreatDoor
set_option maxRecDepth 100000
set_option maxHeartbeats 8000000
section
open Go.RowKit
section
variable {w:World} {base Bw:Nat} {V:Wd} {av pv:Value} {fl:List Fa} {rs:List (List (Value × Ob))} {j:Nat} {fa:Fa} {r:List (Value × Ob)} {x:Ac}
theorem WdOwn.bw (h:WdOwn w base Bw V av pv fl rs):w.cell? ⟨Bw,0,none⟩=some av/\w.cell? ⟨Bw,1,none⟩=some pv/\∀ i,w.frozen? ⟨Bw,i,none⟩=false:=⟨cell_blk h.box 0,cell_blk h.box 1,fun i=>fz_blk h.box i⟩
theorem WdOwn.at (h:WdOwn w base Bw V av pv fl rs) (hx:V.acts[j]?=some x):∃ fa r g c,fl[j]?=some fa/\rs[j]?=some r/\AcOwn w base fa r x/\av=.slice (some ⟨g,0,none⟩) V.acts.length c:=by
 have hj:=(List.getElem?_eq_some_iff.1 hx).1;obtain⟨fa,hfa⟩:=at_some (l:=fl) (i:=j) (by rw[h.flen];exact hj);obtain⟨r,hr⟩:=at_some (l:=rs) (i:=j) (by rw[h.rlen];exact hj)
 rcases ownsRow_form h.acts with⟨_,h0⟩ | ⟨g,c,e,_⟩
 ·rw[h.flen] at h0;omega
 ·exact⟨fa,r,g,c,hfa,hr,h.each j fa r x hfa hr hx,by rw[<- h.flen];exact e⟩
theorem WdOwn.cell (h:WdOwn w base Bw V av pv fl rs) (hfa:fl[j]?=some fa) {g n c:Nat} (hav:av=.slice (some ⟨g,0,none⟩) n c) {k:Nat} {u:Value} (hk:(fAc fa)[k]?=some u):w.cell? ⟨g,j*8+k,none⟩=some u:=by
 have hS:=h.acts;rw[hav] at hS;obtain⟨b,o,e,hc⟩:=SeqOwn.at (f:=fAc) (s:=8) (fun _=>rfl) hS j fa hfa;simp only[Option.some.injEq,Addr.mk.injEq,and_true] at e;obtain⟨rfl,rfl⟩:=e;have:=hc k u hk
 rwa [Nat.zero_add] at this
theorem WdOwn.fz (h:WdOwn w base Bw V av pv fl rs) {g n c:Nat} (hav:av=.slice (some ⟨g,0,none⟩) n c) (i:Nat):w.frozen? ⟨g,i,none⟩=false:=ownsRow_frozen h.acts (by rw[hav];rfl) i
theorem WdOwn.cells (h:WdOwn w base Bw V av pv fl rs) (hx:V.acts[j]?=some x):∃ fa r g c R,fl[j]?=some fa/\rs[j]?=some r/\AcOwn w base fa r x/\av=.slice (some ⟨g,0,none⟩) V.acts.length c/\(0<x.regs.length->fa.ra=some ⟨R,0,none⟩) /\
  w.cell? ⟨g,j*8,none⟩=some (.int .i64 x.kind)/\w.cell? ⟨g,j*8+1,none⟩=some (.int .i64 x.par)/\w.cell? ⟨g,j*8+2,none⟩=some (.int .i64 x.M)/\w.cell? ⟨g,j*8+3,none⟩=some (.slice fa.oa x.obs.length fa.oc) /\
  w.cell? ⟨g,j*8+4,none⟩=some (.slice fa.ra x.regs.length fa.rc)/\w.cell? ⟨g,j*8+5,none⟩=some (.int .i64 x.pc)/\w.cell? ⟨g,j*8+6,none⟩=some (.slice fa.ba x.box.length fa.bc)/\w.cell? ⟨g,j*8+7,none⟩=some (.int .i64 x.fin):=by
 obtain⟨fa,r,g,c,hfa,hr,hA,hav⟩:=h.at hx;have hR:∃ R,0<x.regs.length->fa.ra=some ⟨R,0,none⟩:=by
  rcases ownsRow_form hA.regs with⟨e,h0⟩ | ⟨R,c',e,_⟩
  ·exact⟨0,fun h1=>by omega⟩
  ·simp only[Value.slice.injEq] at e
   exact⟨R,fun _=>e.1⟩
 obtain⟨R,hR⟩:=hR;have k0:=h.cell hfa hav (k:=0) rfl;have k1:=h.cell hfa hav (k:=1) rfl;have k2:=h.cell hfa hav (k:=2) rfl;have k3:=h.cell hfa hav (k:=3) rfl;have k4:=h.cell hfa hav (k:=4) rfl;have k5:=h.cell hfa hav (k:=5) rfl;have k6:=h.cell hfa hav (k:=6) rfl;have k7:=h.cell hfa hav (k:=7) rfl;rw[hA.kind] at k0;rw[hA.par] at k1;rw[hA.M] at k2;rw[hA.on] at k3;rw[hA.rn] at k4;rw[hA.pc] at k5;rw[hA.bn] at k6
 rw[hA.fin] at k7;exact⟨fa,r,g,c,R,hfa,hr,hA,hav,hR,k0,k1,k2,k3,k4,k5,k6,k7⟩
theorem AcOwn.reg (h:AcOwn w base fa r x) {q:Nat} {v:Vl} (hq:x.regs[q]?=some v):∃ R,fa.ra=some ⟨R,0,none⟩/\w.cell? ⟨R,q*2,none⟩=some (.int .i64 v.k)/\w.cell? ⟨R,q*2+1,none⟩=some (.int .i64 v.n)/\∀ i,w.frozen? ⟨R,i,none⟩=false:=by
 have hlt:=(List.getElem?_eq_some_iff.1 hq).1
 rcases ownsRow_form h.regs with⟨_,h0⟩ | ⟨R,c,e,_⟩
 ·omega
 ·simp only[Value.slice.injEq] at e
  have hS:=h.regs;rw[e.1] at hS;obtain⟨b,o,e',hc⟩:=SeqOwn.at (f:=fVl) (s:=2) (fun _=>rfl) hS q v hq;simp only[Option.some.injEq,Addr.mk.injEq,and_true] at e';obtain⟨rfl,rfl⟩:=e';have h1:=hc 0 _ rfl;have h2:=hc 1 _ rfl;simp only[Nat.zero_add,Nat.add_zero] at h1 h2;exact⟨R,e.1,h1,h2,fun i=>ownsRow_frozen hS rfl i⟩
end
end
section
open Go.RowKit
variable {P:Program}
theorem run_copy_rowk (k:Nat) (w:World) (dT sT ty elem:TypeId) (g o dLen dCap:Nat) (a:Addr) (sLen sCap:Nat) (cur:Array Value) (t:TypeId) (cs:List Value)
  (hu:P.underlying dT=some (.slice elem)) (hs:(P.info? elem).map (·.size)=some k)
  (hg:w.heap[g]?=some (.cells cur t (0,0))) (hn:cs.length=Nat.min sLen dLen*k)
  (hsrc:∀ j v,cs[j]?=some v->w.cell? (a.add j)=some v) (hfit:o+cs.length<=cur.size) (h1:∀ v∈cs,v.oneCell'=true) :
  (Builtin.copy_ #[dT,sT] ty #[.slice (some ⟨g,o,none⟩) dLen dCap,.slice (some a) sLen sCap]).run P w =
   .ok (goInt (Nat.min sLen dLen)) (w.setRow g (cur.toList.take o++cs++cur.toList.drop (o+cs.length)).toArray):=by
 have hl:=run_loadCells_list (P:=P) w a cs hsrc;have hst:=run_storeCells_at P g o t cs 0 cur w hg (by simpa using hfit) h1
 cases hq:P.info? elem with
 | none=>simp[hq] at hs
 | some i =>
  have hi:i.size=k:=by simpa[hq] using hs
  simp[Builtin.copy_,run_underlying hu,Builtin.lenOf,Builtin.firstCells,sizeOf,typeInfo,hq,hi,<- hn,hl,hst]
theorem run_copy_nonek (k:Nat) (w:World) (dT sT ty elem:TypeId) (d a:Option Addr) (dLen dCap sLen sCap:Nat) (hu:P.underlying dT=some (.slice elem)) (hs:(P.info? elem).map (·.size)=some k) (hn:Nat.min sLen dLen=0) :
  (Builtin.copy_ #[dT,sT] ty #[.slice d dLen dCap,.slice a sLen sCap]).run P w=.ok (goInt 0) w:=by
 cases hq:P.info? elem with
 | none=>simp[hq] at hs
 | some i =>
  have hl:∀ (x:Addr),(loadCells x 0).run P w=.ok #[] w:=fun x=>by simpa using run_loadCells_list (P:=P) w x [] (by simp)
  cases d <;> cases a <;> simp[Builtin.copy_,run_underlying hu,Builtin.lenOf,Builtin.firstCells,sizeOf,typeInfo,hq,hn,storeCells,hl]
theorem run_copy_full (k:Nat) (w:World) (dT sT ty elem:TypeId) (hu:P.underlying dT=some (.slice elem)) (hsz:(P.info? elem).map (·.size)=some k)
  (g n dCap:Nat) (sp:Option Addr) (sCap:Nat) (cur:Array Value) (t:TypeId) (hg:w.heap[g]?=some (.cells cur t (0,0))) (cs:List Value) (hn:cs.length=n*k) (hcur:cur.size=cs.length)
  (hsrc:0<n->∃ ad,sp=some ad/\∀ j v,cs[j]?=some v->w.cell? (ad.add j)=some v) (h1:∀ v∈cs,v.oneCell'=true) :
  (Builtin.copy_ #[dT,sT] ty #[.slice (some ⟨g,0,none⟩) n dCap,.slice sp n sCap]).run P w=.ok (goInt n) (w.setRow g cs.toArray):=by
 have hmin:Nat.min n n=n:=Nat.min_self n
 by_cases h0:n=0
 ·subst h0
  have hcs:cs=[]:=List.eq_nil_of_length_eq_zero (by simpa using hn);subst hcs;have hc0:cur=#[]:=Array.eq_empty_of_size_eq_zero (by simpa using hcur);subst hc0;have hrun:=run_copy_nonek (P:=P) k w dT sT ty elem (some ⟨g,0,none⟩) sp 0 dCap 0 sCap hu hsz rfl;rw[hrun,setRow_self w g #[] t (0,0) hg];rfl
 ·obtain⟨ad,rfl,hc⟩:=hsrc (by omega)
  have hrun:=run_copy_rowk (P:=P) k w dT sT ty elem g 0 n dCap ad n sCap cur t cs hu hsz hg (by rw[hmin];exact hn) hc (by omega) h1;have e:(cur.toList.take 0++cs++cur.toList.drop (0+cs.length)).toArray=cs.toArray:=by
   have:cur.toList.drop (0+cs.length)=[]:=List.drop_eq_nil_of_le (by simp;omega);rw[this];simp
  rw[e,hmin] at hrun;exact hrun
theorem step_copy {ops:Array Oper} {o:Oper} {a:Act} {w:World} {K:Act->World->Prop} {Q:Exit->Act->World->Prop} {E:Prop} (hg:o.guard=none) (d s:Operand) (dT sT:TypeId)
  (hop:o.op=Op.call { callee:=Callee.builtin Builtin.copy,args:=#[d,s],argTypes:=#[dT,sT] }) (dv sv:Value) (hd:a.eval d=dv) (hs:a.eval s=sv) (r:Value) (w':World)
  (hrun:(Builtin.copy_ #[dT,sT] o.type #[dv,sv]).run P w=.ok r w') (hK:K (a.put o.dst r) w') :
  if Region.wanted o (yielded ops a.tmps)=true then Oper.wp P o a w K Q else E:=by
 have hw:Region.wanted o (yielded ops a.tmps)=true:=by simp[Region.wanted,hg]
 rw[if_pos hw]
 unfold Oper.wp
 simp[execOp,hop,resolve,invoke,builtin,hd,hs,hrun,Result.andThen];exact hK
end
section
open Go.RowKit
structure Wrote (w w':World) (F:List Nat):Prop where
 os:w'.os=w.os
 tape:w'.tape=w.tape
 output:w'.output=w.output
 size:w'.heap.size=w.heap.size
 other:∀ b,b∉F->w'.heap[b]?=w.heap[b]?
theorem Wrote.moved {w w':World} {F G:List Nat} (h:Wrote w w' F) (hg:∀ b∈F,b∈G):Moved w w' G G :=
 ⟨h.os,h.tape,h.output,Nat.le_of_eq h.size.symm,fun b _ hb=>h.other b (fun e=>hb (hg b e)),fun _ hb=>.inl hb⟩
theorem Wrote.refl (w:World) (F:List Nat):Wrote w w F:=⟨rfl,rfl,rfl,rfl,fun _ _=>rfl⟩
theorem Wrote.trans {a b c:World} {F:List Nat} (h:Wrote a b F) (k:Wrote b c F):Wrote a c F :=
 ⟨k.os.trans h.os,k.tape.trans h.tape,k.output.trans h.output,k.size.trans h.size,fun x hx=>(k.other x hx).trans (h.other x hx)⟩
theorem wrote_setRow (w:World) (g:Nat) (cs:Array Value):Wrote w (w.setRow g cs) [g] :=
 ⟨rfl,rfl,rfl,by simp,fun b hb=>setRow_other w g b cs (by simpa using hb)⟩
section
variable {α:Type} {f:α->List Value} {s:Nat} {e:TypeId}
theorem flat_take (hf:∀ x,(f x).length=s):∀ (l:List α) (i:Nat),(l.take i).flatMap f=(l.flatMap f).take (i*s)
 | [],i=>by simp
 | x :: r,0=>by simp
 | x :: r,i+1=>by
  simp only[List.take_succ_cons,List.flatMap_cons];have h1:(f x).take ((i+1)*s)=f x:=List.take_of_length_le (by rw[hf,Nat.add_mul];omega);rw[List.take_append,h1,hf,show(i+1)*s-s=i*s by rw[Nat.add_mul];omega,flat_take hf r i]
theorem flat_drop (hf:∀ x,(f x).length=s):∀ (l:List α) (i:Nat),(l.drop i).flatMap f=(l.flatMap f).drop (i*s)
 | [],i=>by simp
 | x :: r,0=>by simp
 | x :: r,i+1=>by
  simp only[List.drop_succ_cons,List.flatMap_cons];have h1:(f x).drop ((i+1)*s)=[]:=List.drop_of_length_le (by rw[hf,Nat.add_mul];omega);rw[List.drop_append,h1,hf,show(i+1)*s-s=i*s by rw[Nat.add_mul];omega,flat_drop hf r i,List.nil_append]
theorem flat_len (hf:∀ x,(f x).length=s):∀ (l:List α),(l.flatMap f).length=l.length*s
 | []=>by simp
 | x :: r=>by rw[List.flatMap_cons,List.length_append,hf,flat_len hf r,List.length_cons,Nat.add_mul];omega
theorem take_over (c ys:List Value) (a m:Nat) (h1:a+ys.length<=m) (h2:m<=c.length):(c.take a++ys++c.drop (a+ys.length)).take m=(c.take m).take a++ys++(c.take m).drop (a+ys.length):=by
 rw[List.take_append,List.take_of_length_le (by rw[List.length_append,List.length_take];omega),List.take_take,Nat.min_eq_left (by omega),List.drop_take];rw[List.length_append,List.length_take,Nat.min_eq_left (by omega)]
theorem seqOwn_over (hf:∀ x,(f x).length=s) {w:World} {base g n c:Nat} {l:List α} (h:SeqOwn f s e w base (.slice (some ⟨g,0,none⟩) n c) l) (i:Nat) (ys:List α) (hi:i+ys.length<=l.length) :
  ∃ cur,w.heap[g]?=some (.cells cur e (0,0))/\i*s+(ys.flatMap f).length<=cur.size /\
   SeqOwn f s e (w.setRow g (cur.toList.take (i*s)++ys.flatMap f++cur.toList.drop (i*s+(ys.flatMap f).length)).toArray) base (.slice (some ⟨g,0,none⟩) n c) (l.take i++ys++l.drop (i+ys.length)):=by
 rcases h.2 with⟨hv,_⟩ | ⟨g',cap,cur,hv,hb,hg,h1,h2,h3,h4⟩
 ·simp at hv
 simp only[Value.slice.injEq,Option.some.injEq,Addr.mk.injEq,and_true] at hv;obtain⟨rfl,rfl,rfl⟩:=hv;have hl:=flat_len hf ys;have hls:l.length*s<=cur.toList.length:=by simp[h3];exact Nat.mul_le_mul_right _ h1
 have hil:i*s+(ys.flatMap f).length<=l.length*s:=by rw[hl,<- Nat.add_mul];exact Nat.mul_le_mul_right _ hi
 have hlen:(l.take i++ys++l.drop (i+ys.length)).length=l.length:=by
  rw[List.length_append,List.length_append,List.length_take,List.length_drop,Nat.min_eq_left (by omega)];omega
 have hfl:(l.take i++ys++l.drop (i+ys.length)).flatMap f=(l.flatMap f).take (i*s)++ys.flatMap f++(l.flatMap f).drop (i*s+(ys.flatMap f).length):=by
  rw[List.flatMap_append,List.flatMap_append,flat_take hf,flat_drop hf,hl,Nat.add_mul]
 refine⟨cur,hg,by simp at hls;omega,?_⟩
 unfold SeqOwn
 rw[hlen,hfl];refine⟨?_,.inr ⟨g,c,_,rfl,hb,setRow_heap _ _ _ _ _ _ hg,h1,h2,?_,?_⟩⟩
 ·have:=h.1
  simp only[List.length_append,List.length_take,List.length_drop];rw[this];omega
 ·simp only[List.size_toArray,List.length_append,List.length_take,List.length_drop,Array.length_toList,h3]
  simp[h3] at hls;omega
 ·rw[List.toList_toArray,take_over _ _ _ _ hil hls,h4]
end
theorem zeroCells_vl (m:Nat):(Builtin.zeroCells #[.int .i64 0,.int .i64 0] m).toList=(List.replicate m nilV).flatMap fVl:=by
 have h1:(List.replicate m nilV).flatMap fVl=List.replicate (m*2) (.int .i64 0):=by
  induction m with
  | zero=>rfl
  | succ m ih=>rw[List.replicate_succ,List.flatMap_cons,ih,show(m+1)*2=m*2+1+1 by omega,List.replicate_succ,List.replicate_succ];rfl
 rw[h1];refine List.ext_getElem? fun j=>?_
 unfold Builtin.zeroCells
 rw[List.getElem?_replicate]
 by_cases hj:j<m*2
 ·rw[if_pos hj]
  have h2:j % 2=0\/j % 2=1:=by omega
  rcases h2 with h2 | h2 <;> simp[hj,h2]
 ·rw[if_neg hj]
  simp[hj]
theorem clear_own {w:World} {base g n c:Nat} {l:List Vl} (h:SeqOwn fVl 2 66 w base (.slice (some ⟨g,0,none⟩) n c) l) (i m cap:Nat) (hi:i+(m+1)<=l.length) (ty:TypeId) :
  ∃ w',(Builtin.clear_ #[48] ty #[.slice (some ⟨g,i*2,none⟩) (m+1) cap]).run Tryz.prog w=.ok (.tuple #[]) w'/\Wrote w w' [g]/\SeqOwn fVl 2 66 w' base (.slice (some ⟨g,0,none⟩) n c) (l.take i++List.replicate (m+1) nilV++l.drop (i+(m+1))):=by
 obtain⟨cur,hg,hfit,hown⟩:=seqOwn_over (f:=fVl) (s:=2) (fun _=>rfl) h i (List.replicate (m+1) nilV) (by simpa using hi);rw[List.length_replicate] at hown;refine⟨_,?_,wrote_setRow _ _ _,hown⟩;have hz:(Tryz.prog.info? 66).map (fun i=>i.zero)=some (some (.agg #[.int .i64 0,.int .i64 0])):=by kernel_rfl
 have hst:=run_storeCells_at (P:=Tryz.prog) g (i*2) 66 ((List.replicate (m+1) nilV).flatMap fVl) 0 cur w hg (by simpa using hfit) (fun u hu=>by
  simp only[List.mem_flatMap] at hu;obtain⟨v,hv,hu⟩:=hu;simp[fVl] at hu
  rcases hu with rfl | rfl <;> rfl)
 rw[Nat.add_zero,<- zeroCells_vl] at hst;rw[<- zeroCells_vl]
 cases hq:Tryz.prog.info? 66 with
 | none=>rw[hq] at hz;simp at hz
 | some inf =>
  rw[hq] at hz;simp at hz;simp[Builtin.clear_,run_underlying Tryz.underlying48,zeroValue,typeInfo,hq,hz,Value.cells,hst]
theorem copy_own {w:World} {base c:Nat} {da:Option Addr} {l:List Vl} (h:SeqOwn fVl 2 66 w base (.slice da l.length c) l) {sa:Option Addr} {ys:List Vl} (hs:ValsAt w sa ys) (hl:l.length<=ys.length) (sc:Nat) (ty:TypeId) :
  ∃ w',(Builtin.copy_ #[48,48] ty #[.slice da l.length c,.slice sa ys.length sc]).run Tryz.prog w=.ok (goInt l.length) w'/\Wrote w w' (vB (.slice da l.length c))/\SeqOwn fVl 2 66 w' base (.slice da l.length c) (ys.take l.length):=by
 have hmin:Nat.min ys.length l.length=l.length:=Nat.min_eq_right hl;have hi:(Tryz.prog.info? 66).map (·.size)=some 2:=by kernel_rfl
 by_cases h0:l.length=0
 ·have hnil:l=[]:=List.eq_nil_of_length_eq_zero h0
  subst hnil;refine⟨w,?_,Wrote.refl _ _,by simpa using h⟩;exact run_copy_nonek (P:=Tryz.prog) 2 w _ _ ty 66 da sa 0 c ys.length sc Tryz.underlying48 hi (by simp)
 ·rcases h.2 with⟨hv,_⟩ | ⟨g,cap,cur,hv,_⟩
  ·simp at hv;omega
  simp only[Value.slice.injEq] at hv;obtain⟨rfl,_,_⟩:=hv;have htl:(ys.take l.length).length=l.length:=by rw[List.length_take];omega
  obtain⟨cur,hg,hfit,hown⟩:=seqOwn_over (f:=fVl) (s:=2) (fun _=>rfl) h 0 (ys.take l.length) (by omega);have hll:l.drop (0+l.length)=[]:=by simp
  rw[htl,hll] at hown;rw[show l.take 0++ys.take l.length++[]=ys.take l.length by simp] at hown;obtain⟨ad,e,hsrc⟩:=seq_src (f:=fVl) (s:=2) (fun _=>rfl) (by omega) (seqVl_of hs) (by omega);subst e;have hfl:=flat_take (f:=fVl) (s:=2) (fun _=>rfl) ys l.length;have:=run_copy_rowk (P:=Tryz.prog) 2 w 48 48 ty 66 g 0 l.length c ad ys.length sc cur _ ((ys.take l.length).flatMap fVl) Tryz.underlying48 hi hg
   (by rw[hmin,flat_len (f:=fVl) (s:=2) (fun _=>rfl),htl]) (fun j v hv=>hsrc j v (by rw[hfl,List.getElem?_take] at hv;split at hv;exact hv;cases hv)) (by simpa using hfit) (fun u hu=>by
    simp only[List.mem_flatMap] at hu;obtain⟨v,hv,hu⟩:=hu;simp[fVl] at hu
    rcases hu with rfl | rfl <;> rfl)
  rw[hmin] at this
  exact⟨_,this,⟨rfl,rfl,rfl,by simp,fun b hb=>setRow_other w g b _ (fun e=>hb (by rw[mem_vB,e];rfl))⟩,hown⟩
section
variable {w w':World} {base Bw:Nat} {V:Wd} {av pv:Value} {fl:List Fa} {rs:List (List (Value × Ob))} {j:Nat} {fa:Fa} {r:List (Value × Ob)} {x:Ac}
theorem WdOwn.inRegs (h:WdOwn w base Bw V av pv fl rs) (hfa:fl[j]?=some fa) (hr:rs[j]?=some r) (hx:V.acts[j]?=some x) (hw:Wrote w w' (vB (.slice fa.ra fa.rn fa.rc))) {l:List Vl} (hown:SeqOwn fVl 2 66 w' base (.slice fa.ra fa.rn fa.rc) l) (hl:l.length=x.regs.length) :
  WdOwn w' base Bw { V with acts:=V.acts.set j { x with regs:=l } } av pv fl rs/\Moved w w' (wdFoot Bw av pv fl rs) (wdFoot Bw av pv fl rs):=by
 have hA:=h.each j fa r x hfa hr hx;have hin:∀ b∈vB (.slice fa.ra fa.rn fa.rc),b∈acFoot fa r:=fun b hb=>List.mem_append_right _ (List.mem_append_left _ hb)
 have hnd:=(h.apart1 j fa r hfa hr).1;have hn1:=List.nodup_append.1 hnd;have hn2:=List.nodup_append.1 hn1.2.1;refine⟨?_,hw.moved (fun b hb=>List.mem_append_right _ (mem_actsFoot hfa hr (hin b hb)))⟩;have hrow:SeqOwn fAc 8 50 w' base av (fl.set j fa):=by
  rw[set_same hfa];exact ownsRow_at_block h.acts (fun b hb=>hw.other b (fun hb'=>(h.apart1 j fa r hfa hr).2 b (hin b hb') (by simp[hb])))
 have:=h.replace hfa hr hrow (s:=r) (y:={ x with regs:=l }) ⟨hA.kind,hA.par,hA.M,hA.on,hA.rn.trans hl.symm,hA.pc,hA.bn,hA.fin,hA.obs,hA.heap.at_block (fun b hb=>hw.other b (fun hb'=>hn1.2.2 b hb b (List.mem_append_left _ hb') rfl)),hown,ownsRow_at_block hA.box (fun b hb=>hw.other b (fun hb'=>hn2.2.2 b hb' b hb rfl))⟩
  (fun b _ _ hb=>hw.other b (fun hb'=>hb (hin b hb'))) hnd (fun b hb=>.inl hb)
 rwa [set_same hfa,set_same hr] at this
theorem WdOwn.inBox (h:WdOwn w base Bw V av pv fl rs) (hfa:fl[j]?=some fa) (hr:rs[j]?=some r) (hx:V.acts[j]?=some x) (hw:Wrote w w' (vB (.slice fa.ba fa.bn fa.bc))) {l:List Vl} (hown:SeqOwn fVl 2 66 w' base (.slice fa.ba fa.bn fa.bc) l) (hl:l.length=x.box.length) :
  WdOwn w' base Bw { V with acts:=V.acts.set j { x with box:=l } } av pv fl rs/\Moved w w' (wdFoot Bw av pv fl rs) (wdFoot Bw av pv fl rs):=by
 have hA:=h.each j fa r x hfa hr hx;have hin:∀ b∈vB (.slice fa.ba fa.bn fa.bc),b∈acFoot fa r:=fun b hb=>List.mem_append_right _ (List.mem_append_right _ hb)
 have hnd:=(h.apart1 j fa r hfa hr).1;have hn1:=List.nodup_append.1 hnd;have hn2:=List.nodup_append.1 hn1.2.1;refine⟨?_,hw.moved (fun b hb=>List.mem_append_right _ (mem_actsFoot hfa hr (hin b hb)))⟩;have hrow:SeqOwn fAc 8 50 w' base av (fl.set j fa):=by
  rw[set_same hfa];exact ownsRow_at_block h.acts (fun b hb=>hw.other b (fun hb'=>(h.apart1 j fa r hfa hr).2 b (hin b hb') (by simp[hb])))
 have:=h.replace hfa hr hrow (s:=r) (y:={ x with box:=l }) ⟨hA.kind,hA.par,hA.M,hA.on,hA.rn,hA.pc,hA.bn.trans hl.symm,hA.fin,hA.obs,hA.heap.at_block (fun b hb=>hw.other b (fun hb'=>hn1.2.2 b hb b (List.mem_append_right _ hb') rfl)),ownsRow_at_block hA.regs (fun b hb=>hw.other b (fun hb'=>hn2.2.2 b hb b hb' rfl)),hown⟩
  (fun b _ _ hb=>hw.other b (fun hb'=>hb (hin b hb'))) hnd (fun b hb=>.inl hb)
 rwa [set_same hfa,set_same hr] at this
end
end
section
open Go.RowKit
theorem HeapOwn.blk_le {w:World} {base:Nat} {v:Value} {rows:List (Value × Ob)} (h:HeapOwn w base v rows):∀ b∈vB v++rowsB rows,base<=b/\b<w.heap.size:=fun b hb=>by
 rcases List.mem_append.1 hb with hb | hb
 ·exact World.ownsRow.lt h.top b (mem_vB.1 hb)
 ·obtain⟨p,hp,hb⟩:=List.mem_flatMap.1 hb
  obtain⟨i,hi,e⟩:=List.mem_iff_getElem.1 hp;exact World.ownsRow.lt (h.row i p (by rw[List.getElem?_eq_getElem hi,e])).1 b (mem_vB.1 hb)
theorem ownsRow_base {w:World} {base base':Nat} {e:TypeId} {s n:Nat} {v:Value} {xs:List Value} (h:w.ownsRow base e s v n xs) (hb:base'<=base):w.ownsRow base' e s v n xs :=
 ⟨h.1,by
  rcases h.2 with h0 | ⟨g,cap,cur,e1,hb1,hg,hr⟩
  ·exact .inl h0
  ·exact .inr ⟨g,cap,cur,e1,Nat.le_trans hb hb1,hg,hr⟩⟩
theorem HeapOwn.base {w:World} {base base':Nat} {v:Value} {rows:List (Value × Ob)} (h:HeapOwn w base v rows) (hb:base'<=base):HeapOwn w base' v rows :=
 ⟨ownsRow_base h.top hb,fun i p hp=>⟨ownsRow_base (h.row i p hp).1 hb,(h.row i p hp).2⟩,h.apart,h.many⟩
section
variable {w w':World} {base Bw:Nat} {V:Wd} {av pv:Value} {fl:List Fa} {rs:List (List (Value × Ob))} {j:Nat} {fa:Fa} {r:List (Value × Ob)} {x:Ac}
theorem WdOwn.base_le (h:WdOwn w base Bw V av pv fl rs) {g n c:Nat} (hav:av=.slice (some ⟨g,0,none⟩) n c):base<=w.heap.size:=by
 have:=World.ownsRow.lt h.acts g (by rw[hav];rfl);omega
theorem wdFoot_set {fb:Fa} {s:List (Value × Ob)} {b:Nat} (hb:b∈wdFoot Bw av pv (fl.set j fb) (rs.set j s)):b∈wdFoot Bw av pv fl rs\/b∈acFoot fb s:=by
 rcases List.mem_append.1 hb with hb | hb
 ·exact .inl (List.mem_append_left _ hb)
 obtain⟨⟨g,t⟩,hp,hb⟩:=List.mem_flatMap.1 hb;obtain⟨i,hi,e⟩:=List.mem_iff_getElem.1 hp;have hz:(List.zip (fl.set j fb) (rs.set j s))[i]?=some (g,t):=by rw[List.getElem?_eq_getElem hi,e]
 obtain⟨h1,h2⟩:=List.getElem?_zip_eq_some.1 hz
 by_cases hij:j=i
 ·subst hij
  rw[List.getElem?_set,if_pos rfl] at h1 h2
  split at h1
  ·split at h2
   ·simp only[Option.some.injEq] at h1 h2
    subst h1 h2;exact .inr hb
   ·cases h2
  ·cases h1
 ·rw[List.getElem?_set,if_neg hij] at h1 h2
  exact .inl (List.mem_append_right _ (mem_actsFoot h1 h2 hb))
theorem WdOwn.newHeap (h:WdOwn w base Bw V av pv fl rs) (hb:Below w.heap.size w w') (hfa:fl[j]?=some fa) (hr:rs[j]?=some r) (hx:V.acts[j]?=some x) {g n c:Nat} (hav:av=.slice (some ⟨g,0,none⟩) n c) {M:Int} {oa:Option Addr} {on oc B:Nat} {s:List (Value × Ob)} {l:List Ob} (hs:s.map (·.2)=l)
  (hon:on=l.length) (hH:HeapOwn w' B (.slice oa on oc) s) (hB:w.heap.size<=B) :
  WdOwn ((w'.setCell ⟨g,j*8+2,none⟩ (.int .i64 M)).setCell ⟨g,j*8+3,none⟩ (.slice oa on oc)) base Bw { V with acts:=V.acts.set j (x.heap M l) } av pv (fl.set j { fa with M:=M,oa:=oa,on:=l.length,oc:=oc }) (rs.set j s) /\
   Moved w ((w'.setCell ⟨g,j*8+2,none⟩ (.int .i64 M)).setCell ⟨g,j*8+3,none⟩ (.slice oa on oc)) (wdFoot Bw av pv fl rs) (wdFoot Bw av pv (fl.set j { fa with M:=M,oa:=oa,on:=l.length,oc:=oc }) (rs.set j s)):=by
 subst hon;have hgw:g∈wdFoot Bw av pv fl rs:=List.mem_append_left _ (by simp[mem_vB,hav,Value.ownBlock]);have hbl:=hH.blk_le;have hbase:=h.base_le hav;refine⟨(h.below hb).setHeap hfa hr hx hav hs (hH.base (by omega)) (fun b hb' hb2=>?_),hb.os,hb.tape,hb.output,by rw[two_size];exact hb.size,fun b hb1 hb2=>?_,fun b hb'=>?_⟩
 ·have:=h.blk_lt b hb2
  have:=(hbl b hb').1;omega
 ·rw[two_other _ _ _ _ (fun e=>hb2 (by rw[e];exact hgw))]
  exact hb.block b hb1
 ·rcases wdFoot_set hb' with h1 | h1
  ·exact .inl h1
  ·rcases List.mem_append.1 h1 with h2 | h2
   ·exact .inr (Nat.le_trans hB (hbl b h2).1)
   ·exact .inl (List.mem_append_right _ (mem_actsFoot hfa hr (List.mem_append_right _ h2)))
end
end
section
open Go.RowKit
def Shp (V:Wd):Prop:=∀ (j:Nat) x,V.acts[j]?=some x->x.regs.length=8/\x.box.length<=6
theorem Shp.set {V:Wd} (h:Shp V) {j:Nat} {y:Ac} (h8:y.regs.length=8) (h6:y.box.length<=6):Shp { V with acts:=V.acts.set j y }:=fun i x hx=>by
 simp only at hx;rw[List.getElem?_set] at hx
 split at hx
 ·split at hx
  ·simp only[Option.some.injEq] at hx
   subst hx;exact⟨h8,h6⟩
  ·cases hx
 ·exact h i x hx
theorem rowsB_map (rows:List (Value × Ob)):rowsB rows=(rows.map (·.1)).flatMap vB:=by
 unfold rowsB
 rw[List.flatMap_map]
theorem rowsB_set {rows:List (Value × Ob)} {i:Nat} {v:Value} {ob ob':Ob} (hi:rows[i]?=some (v,ob)):rowsB (rows.set i (v,ob'))=rowsB rows:=by
 rw[rowsB_map,rowsB_map,List.map_set,set_same];rw[List.getElem?_map,hi]
 rfl
theorem obs_set {rows:List (Value × Ob)} {i:Nat} {v:Value} {ob:Ob} (hi:rows[i]?=some (v,ob)) (f:Nat) (x:Vl):(rows.set i (v,(⟨ob.fs.set f x,ob.dead⟩:Ob))).map (·.2)=setObs (rows.map (·.2)) i f x:=by
 unfold setObs
 rw[List.getElem?_map,hi];simp[List.map_set]
section
variable {w:World} {base Bw:Nat} {V:Wd} {av pv:Value} {fl:List Fa} {rs:List (List (Value × Ob))} {j:Nat} {fa:Fa} {r:List (Value × Ob)} {x:Ac}
theorem WdOwn.setField (h:WdOwn w base Bw V av pv fl rs) (hfa:fl[j]?=some fa) (hr:rs[j]?=some r) (hx:V.acts[j]?=some x) {i B n cap:Nat} {ob:Ob} (hi:r[i]?=some (.slice (some ⟨B,0,none⟩) n cap,ob)) (f:Nat) (v:Vl) :
  WdOwn ((w.setCell ⟨B,f*2,none⟩ (.int .i64 v.k)).setCell ⟨B,f*2+1,none⟩ (.int .i64 v.n)) base Bw { V with acts:=V.acts.set j { x with obs:=setObs x.obs i f v } } av pv fl (rs.set j (r.set i (.slice (some ⟨B,0,none⟩) n cap,⟨ob.fs.set f v,ob.dead⟩))) /\
   Moved w ((w.setCell ⟨B,f*2,none⟩ (.int .i64 v.k)).setCell ⟨B,f*2+1,none⟩ (.int .i64 v.n)) (wdFoot Bw av pv fl rs) (wdFoot Bw av pv fl (rs.set j (r.set i (.slice (some ⟨B,0,none⟩) n cap,⟨ob.fs.set f v,ob.dead⟩)))):=by
 have hA:=h.each j fa r x hfa hr hx;have hBr:B∈rowsB r:=List.mem_flatMap.2 ⟨_,List.mem_of_getElem? hi,by rw[mem_vB];rfl⟩;have hBh:B∈vB (.slice fa.oa fa.on fa.oc)++rowsB r:=List.mem_append_right _ hBr;have hBf:B∈acFoot fa r:=List.mem_append_left _ hBh;have hBw:B∈wdFoot Bw av pv fl rs:=List.mem_append_right _ (mem_actsFoot hfa hr hBf);have hBav:B∉vB av:=fun hb=>(h.apart1 j fa r hfa hr).2 B hBf (by simp[hb])
 have hoth:∀ b,b≠B->((w.setCell ⟨B,f*2,none⟩ (.int .i64 v.k)).setCell ⟨B,f*2+1,none⟩ (.int .i64 v.n)).heap[b]?=w.heap[b]?:=fun b hb=>two_other _ _ _ _ hb
 have hnd:=(h.apart1 j fa r hfa hr).1;have hn1:=List.nodup_append.1 hnd;have hfoot:acFoot fa (r.set i (.slice (some ⟨B,0,none⟩) n cap,⟨ob.fs.set f v,ob.dead⟩))=acFoot fa r:=by
  unfold acFoot
  rw[rowsB_set hi]
 have hnew:AcOwn ((w.setCell ⟨B,f*2,none⟩ (.int .i64 v.k)).setCell ⟨B,f*2+1,none⟩ (.int .i64 v.n)) base fa (r.set i (.slice (some ⟨B,0,none⟩) n cap,⟨ob.fs.set f v,ob.dead⟩)) { x with obs:=setObs x.obs i f v } :=
  { kind:=hA.kind,par:=hA.par,M:=hA.M,on:=by rw[hA.on];exact(setObs_length _ _ _ _).symm,rn:=hA.rn,pc:=hA.pc,bn:=hA.bn,fin:=hA.fin,obs:=by rw[obs_set hi,hA.obs],heap:=hA.heap.setField hi f v,regs:=ownsRow_at_block hA.regs (fun b hb=>hoth b (fun e=>hn1.2.2 B hBh b (List.mem_append_left _ hb) e.symm)),box:=ownsRow_at_block hA.box (fun b hb=>hoth b (fun e=>hn1.2.2 B hBh b (List.mem_append_right _ hb) e.symm)) }
 have hrow:SeqOwn fAc 8 50 ((w.setCell ⟨B,f*2,none⟩ (.int .i64 v.k)).setCell ⟨B,f*2+1,none⟩ (.int .i64 v.n)) base av (fl.set j fa):=by
  rw[set_same hfa];exact ownsRow_at_block h.acts (fun b hb=>hoth b (fun e=>hBav (by rw[<- e];exact hb)))
 have:=h.replace hfa hr hrow hnew (fun b _ _ hb=>hoth b (fun e=>hb (by rw[e];exact hBf))) (by rw[hfoot];exact hnd) (fun b hb=>.inl (by rw[<- hfoot];exact hb));rw[set_same hfa] at this
 refine⟨this,rfl,rfl,rfl,by rw[two_size];exact Nat.le_refl _,fun b _ hb=>hoth b (fun e=>hb (by rw[e];exact hBw)),fun b hb=>?_⟩;have e2:wdFoot Bw av pv fl (rs.set j (r.set i (.slice (some ⟨B,0,none⟩) n cap,⟨ob.fs.set f v,ob.dead⟩)))=wdFoot Bw av pv (fl.set j fa) (rs.set j (r.set i (.slice (some ⟨B,0,none⟩) n cap,⟨ob.fs.set f v,ob.dead⟩))):=by rw[set_same hfa]
 rw[e2] at hb
 rcases wdFoot_set hb with h1 | h1
 ·exact .inl h1
 ·rw[hfoot] at h1
  exact .inl (List.mem_append_right _ (mem_actsFoot hfa hr h1))
theorem WdOwn.pushBox {w':World} (h:WdOwn w base Bw V av pv fl rs) (hfa:fl[j]?=some fa) (hr:rs[j]?=some r) (hx:V.acts[j]?=some x) {g nn c:Nat} (hav:av=.slice (some ⟨g,0,none⟩) nn c) {B n cap:Nat} {l:List Vl}
  (hgr:w.grownBy w' (Value.slice fa.ba fa.bn fa.bc).ownBlock) (hown:SeqOwn fVl 2 66 w' base (.slice (some ⟨B,0,none⟩) n cap) l) (hn:n=l.length) (hB:(Value.slice fa.ba fa.bn fa.bc).ownBlock=some B\/B=w.heap.size) :
  WdOwn (w'.setCell ⟨g,j*8+6,none⟩ (.slice (some ⟨B,0,none⟩) n cap)) base Bw { V with acts:=V.acts.set j { x with box:=l } } av pv (fl.set j { fa with ba:=some ⟨B,0,none⟩,bn:=n,bc:=cap }) (rs.set j r) /\
   Moved w (w'.setCell ⟨g,j*8+6,none⟩ (.slice (some ⟨B,0,none⟩) n cap)) (wdFoot Bw av pv fl rs) (wdFoot Bw av pv (fl.set j { fa with ba:=some ⟨B,0,none⟩,bn:=n,bc:=cap }) (rs.set j r)):=by
 have hA:=h.each j fa r x hfa hr hx;have hnd:=(h.apart1 j fa r hfa hr).1;have hn1:=List.nodup_append.1 hnd;have hn2:=List.nodup_append.1 hn1.2.1;have hgw:g∈wdFoot Bw av pv fl rs:=List.mem_append_left _ (by simp[mem_vB,hav,Value.ownBlock]);have hoff:∀ b,b<w.heap.size->b∉vB (.slice fa.ba fa.bn fa.bc)->w'.heap[b]?=w.heap[b]?:=fun b hb hb'=>hgr.block b hb (fun e=>hb' (mem_vB.2 e.symm))
 have hlt:∀ b∈acFoot fa r,b<w.heap.size:=fun b hb=>hA.blk_lt b hb
 have hBfoot:∀ b∈vB (.slice (some ⟨B,0,none⟩) n cap),b∈vB (.slice fa.ba fa.bn fa.bc)\/b=w.heap.size:=fun b hb=>by
  rw[mem_vB] at hb;have e:B=b:=by simpa[Value.ownBlock] using hb
  subst e
  rcases hB with h1 | h1
  ·exact .inl (mem_vB.2 h1)
  ·exact .inr h1
 have hin:∀ b∈acFoot { fa with ba:=some ⟨B,0,none⟩,bn:=n,bc:=cap } r,b∈acFoot fa r\/b∉wdFoot Bw av pv fl rs:=fun b hb=>by
  simp only[acFoot,List.mem_append] at hb ⊢
  rcases hb with hb | hb | hb
  ·exact .inl (.inl hb)
  ·exact .inl (.inr (.inl hb))
  ·rcases hBfoot b hb with h1 | h1
   ·exact .inl (.inr (.inr h1))
   ·exact .inr (fun h2=>by have:=h.blk_lt b h2;omega)
 refine⟨h.update1 hfa hr hav (k:=6) (by omega) (fun b hb hb'=>hoff b (h.blk_lt b hb) (fun hb2=>hb' (List.mem_append_right _ (List.mem_append_right _ hb2)))) rfl
  { kind:=hA.kind,par:=hA.par,M:=hA.M,on:=hA.on,rn:=hA.rn,pc:=hA.pc,bn:=hn,fin:=hA.fin,obs:=hA.obs,heap:=hA.heap.at_block (fun b hb=>hoff b (hlt b (List.mem_append_left _ hb)) (fun hb'=>hn1.2.2 b hb b (List.mem_append_right _ hb') rfl)),regs:=ownsRow_at_block hA.regs (fun b hb=>hoff b (hlt b (List.mem_append_right _ (List.mem_append_left _ hb))) (fun hb'=>hn2.2.2 b hb b hb' rfl)),box:=hown } ?_ hin,hgr.os,hgr.tape,hgr.output,by simp[World.setCell];exact hgr.size,fun b hb hb'=>?_,fun b hb=>?_⟩
 ·refine List.nodup_append.2 ⟨hn1.1,List.nodup_append.2 ⟨hn2.1,by unfold vB;split <;> simp,fun a ha b hb e=>?_⟩,fun a ha b hb e=>?_⟩
  ·subst e
   rcases hBfoot a hb with h1 | h1
   ·exact hn2.2.2 a ha a h1 rfl
   ·have:=hlt a (List.mem_append_right _ (List.mem_append_left _ ha));omega
  ·subst e
   rcases List.mem_append.1 hb with hb | hb
   ·exact hn1.2.2 a ha a (List.mem_append_left _ hb) rfl
   ·rcases hBfoot a hb with h1 | h1
    ·exact hn1.2.2 a ha a (List.mem_append_right _ h1) rfl
    ·have:=hlt a (List.mem_append_left _ ha);omega
 ·refine(Deep.blk_setCell_other _ ⟨g,j*8+6,none⟩ _ _ (fun e=>hb' (by have e':b=g:=e;rw[e'];exact hgw))).trans (hoff b hb (fun hb2=>hb' (List.mem_append_right _ (mem_actsFoot hfa hr (List.mem_append_right _ (List.mem_append_right _ hb2))))))
 ·rcases wdFoot_set hb with h1 | h1
  ·exact .inl h1
  ·simp only[acFoot,List.mem_append] at h1
   rcases h1 with h1 | h1 | h1
   ·exact .inl (List.mem_append_right _ (mem_actsFoot hfa hr (List.mem_append_left _ (List.mem_append.2 h1))))
   ·exact .inl (List.mem_append_right _ (mem_actsFoot hfa hr (List.mem_append_right _ (List.mem_append_left _ h1))))
   ·rcases hBfoot b h1 with h2 | h2
    ·exact .inl (List.mem_append_right _ (mem_actsFoot hfa hr (List.mem_append_right _ (List.mem_append_right _ h2))))
    ·exact .inr (Nat.le_of_eq h2.symm)
end
end
section
open Go.RowKit
structure PerfOk (V:Wd) (x:Ac) (a b:Int):Prop where
 shp:Shp V
 a:0<=a/\a<=7
 b:0<=b/\b<=7
 may:hMay x.M x.obs x.roots=true
 prints:V.prints.length<=500
 acts:V.acts.length<=8
theorem PerfOk.words {V:Wd} {x:Ac} {a b:Int} (h:PerfOk V x a b):∀ v∈x.regs,v.k=1->isW v.n=true:=fun v hv hk=>by
 have:=List.all_eq_true.1 (hMay_roots' h.may) v (List.mem_append_left _ hv)
 simpa[vMay,hk,isW] using this
end
end Go.Proofs.YtepifccbbmdfcaaGreatDoor
