/- WOwn5. -/
import Derived.Test.YtihpkcccfgbcmaaGreatDoorCBWOwn2
namespace Go.Proofs.YtihpkcccfgbcmaaGreatDoor
set_option maxRecDepth 100000
set_option maxHeartbeats 8000000
section
open Go.RowKit
section
variable {w w2:World} {base Bw:Nat} {V:Wd} {av pv:Value} {fl:List Fa} {rs:List (List (Value × Ob))} {j:Nat} {fa fb:Fa} {r s:List (Value × Ob)} {y:Ac}
theorem WdOwn.update1 (h:WdOwn w base Bw V av pv fl rs) (hfa:fl[j]?=some fa) (hr:rs[j]?=some r) {g n c:Nat} (hav:av=.slice (some ⟨g,0,none⟩) n c) {k:Nat} (hk:k<8) {u:Value}
  (hfr:∀ b∈wdFoot Bw av pv fl rs,b∉acFoot fa r->w2.heap[b]?=w.heap[b]?) (hf:fAc fb=(fAc fa).set k u) (hnew:AcOwn w2 base fb s y) (hnd:(acFoot fb s).Nodup) (hin:∀ b∈acFoot fb s,b∈acFoot fa r\/b∉wdFoot Bw av pv fl rs) :
  WdOwn (w2.setCell ⟨g,j*8+k,none⟩ u) base Bw { V with acts:=V.acts.set j y } av pv (fl.set j fb) (rs.set j s):=by
 have hgav:g∈vB av:=by rw[mem_vB,hav];rfl
 have hgw:g∈wdFoot Bw av pv fl rs:=List.mem_append_left _ (by simp[hgav]);have hgf:∀ b∈acFoot fa r,b≠g:=fun b hb e=>(h.apart1 j fa r hfa hr).2 b hb (by rw[e];simp[hgav])
 have hgn:∀ b∈acFoot fb s,b≠g:=fun b hb=>by
  rcases hin b hb with h1 | h1
  ·exact hgf b h1
  ·intro e;exact h1 (by rw[e];exact hgw)
 have hoth:∀ b,b≠g->(w2.setCell ⟨g,j*8+k,none⟩ u).heap[b]?=w2.heap[b]?:=fun b hb=>Deep.blk_setCell_other _ ⟨g,j*8+k,none⟩ _ _ hb
 have hrow0:SeqOwn fAc 8 56 w2 base av fl:=ownsRow_at_block h.acts (fun b hb=>hfr b (List.mem_append_left _ (by simp[hb])) (fun hb'=>(h.apart1 j fa r hfa hr).2 b hb' (by simp[hb])));rw[hav] at hrow0;have hrow:=SeqOwn.set1 (f:=fAc) (s:=8) (fun _=>rfl) hrow0 (i:=j) (k:=k) (u:=u) (x:=fa) (y:=fb) hfa hk hf;rw[<- hav] at hrow;exact h.replace hfa hr hrow (hnew.at_block (fun b hb=>hoth b (hgn b hb))) (fun b hb1 hb2 hb3=>(hoth b (fun e=>hb2 (by rw[e];exact hgav))).trans (hfr b hb1 hb3)) hnd hin
theorem WdOwn.setPrints (h:WdOwn w base Bw V av pv fl rs) (hfr:∀ b∈wdFoot Bw av pv fl rs,b∉vB pv->w2.heap[b]?=w.heap[b]?) {pv2:Value} {l:List (Int × Int)} (hnew:SeqOwn fTl 2 43 w2 base pv2 l)
  (hin:∀ b∈vB pv2,b∈vB pv\/b∉wdFoot Bw av pv fl rs):WdOwn (w2.setCell ⟨Bw,1,none⟩ pv2) base Bw { V with prints:=l } av pv2 fl rs:=by
 have h0:=List.nodup_cons.1 h.apart0;have h00:=List.nodup_append.1 h0.2;have hBin:∀ b∈vB pv2,b≠Bw:=fun b hb e=>by
  rcases hin b hb with h1 | h1
  ·exact h0.1 (by rw[<- e];simp[h1])
  ·exact h1 (List.mem_append_left _ (by simp[e]))
 have hoth:∀ b,b≠Bw->(w2.setCell ⟨Bw,1,none⟩ pv2).heap[b]?=w2.heap[b]?:=fun b hb=>Deep.blk_setCell_other _ ⟨Bw,1,none⟩ _ _ hb
 have hBw:w2.heap[Bw]?=some (.cells #[av,pv] 28 (0,0)):=(hfr Bw (List.mem_append_left _ (by simp)) (fun hb=>h0.1 (by simp[hb]))).trans h.box;have hav:∀ b∈vB av,b≠Bw/\b∉vB pv:=fun b hb=>⟨fun e=>h0.1 (by rw[<- e];simp[hb]),fun hb'=>h00.2.2 b hb b hb' rfl⟩
 have hac:∀ (i:Nat) g t,fl[i]?=some g->rs[i]?=some t->∀ b∈acFoot g t,(w2.setCell ⟨Bw,1,none⟩ pv2).heap[b]?=w.heap[b]?:=fun i g t h1 h2 b hb=>by
  have hn:=(h.apart1 i g t h1 h2).2 b hb;simp only[List.mem_cons,List.mem_append,not_or] at hn;exact(hoth b hn.1).trans (hfr b (List.mem_append_right _ (mem_actsFoot h1 h2 hb)) hn.2.2)
 have hdis:∀ b∈vB pv2,b∉vB av:=fun b hb hb'=>by
  rcases hin b hb with h1 | h1
  ·exact(hav b hb').2 h1
  ·exact h1 (List.mem_append_left _ (by simp[hb']))
 refine⟨?_,ownsRow_at_block h.acts (fun b hb=>(hoth b (hav b hb).1).trans (hfr b (List.mem_append_left _ (by simp[hb])) (hav b hb).2)),ownsRow_at_block hnew (fun b hb=>hoth b (hBin b hb)),h.flen,h.rlen,fun i g t x h1 h2 h3=>(h.each i g t x h1 h2 h3).at_block (hac i g t h1 h2),?_,fun i g t h1 h2=>⟨(h.apart1 i g t h1 h2).1,fun b hb hb'=>?_⟩,h.apart2⟩
 ·have:=setCell_blk hBw 1 pv2
  rw[this]
  rfl
 ·refine List.nodup_cons.2 ⟨fun hb=>?_,List.nodup_append.2 ⟨h00.1,by unfold vB;split <;> simp,fun a ha b hb e=>hdis b hb (by rw[<- e];exact ha)⟩⟩
  rcases List.mem_append.1 hb with hb | hb
  ·exact(hav Bw hb).1 rfl
  ·exact hBin Bw hb rfl
 ·have hn:=(h.apart1 i g t h1 h2).2 b hb
  simp only[List.mem_cons,List.mem_append,not_or] at hn hb'
  rcases hb' with hb' | hb' | hb'
  ·exact hn.1 hb'
  ·exact hn.2.1 hb'
  ·rcases hin b hb' with h5 | h5
   ·exact hn.2.2 h5
   ·exact h5 (List.mem_append_right _ (mem_actsFoot h1 h2 hb))
theorem WdOwn.push (h:WdOwn w base Bw V av pv fl rs) (hfr:∀ b∈wdFoot Bw av pv fl rs,b∉vB av->w2.heap[b]?=w.heap[b]?) {av2:Value} (hrow:SeqOwn fAc 8 56 w2 base av2 (fl++[fb])) (hin:∀ b∈vB av2,b∈vB av\/b∉wdFoot Bw av pv fl rs)
  (hnew:AcOwn w2 base fb s y) (hnd:(acFoot fb s).Nodup) (hfresh:∀ b∈acFoot fb s,b∉wdFoot Bw av pv fl rs/\b∉vB av2) :
  WdOwn (w2.setCell ⟨Bw,0,none⟩ av2) base Bw { V with acts:=V.acts++[y] } av2 pv (fl++[fb]) (rs++[s]):=by
 have h0:=List.nodup_cons.1 h.apart0;have h00:=List.nodup_append.1 h0.2;have hBin:∀ b∈vB av2,b≠Bw:=fun b hb e=>by
  rcases hin b hb with h1 | h1
  ·exact h0.1 (by rw[<- e];simp[h1])
  ·exact h1 (List.mem_append_left _ (by simp[e]))
 have hoth:∀ b,b≠Bw->(w2.setCell ⟨Bw,0,none⟩ av2).heap[b]?=w2.heap[b]?:=fun b hb=>Deep.blk_setCell_other _ ⟨Bw,0,none⟩ _ _ hb
 have hBw:w2.heap[Bw]?=some (.cells #[av,pv] 28 (0,0)):=(hfr Bw (List.mem_append_left _ (by simp)) (fun hb=>h0.1 (by simp[hb]))).trans h.box;have hpv:∀ b∈vB pv,b≠Bw/\b∉vB av:=fun b hb=>⟨fun e=>h0.1 (by rw[<- e];simp[hb]),fun hb'=>h00.2.2 b hb' b hb rfl⟩
 have hac:∀ (i:Nat) g t,fl[i]?=some g->rs[i]?=some t->∀ b∈acFoot g t,(w2.setCell ⟨Bw,0,none⟩ av2).heap[b]?=w.heap[b]?:=fun i g t h1 h2 b hb=>by
  have hn:=(h.apart1 i g t h1 h2).2 b hb;simp only[List.mem_cons,List.mem_append,not_or] at hn;exact(hoth b hn.1).trans (hfr b (List.mem_append_right _ (mem_actsFoot h1 h2 hb)) hn.2.1)
 have hdis:∀ b∈vB av2,b∉vB pv:=fun b hb hb'=>by
  rcases hin b hb with h1 | h1
  ·exact(hpv b hb').2 h1
  ·exact h1 (List.mem_append_left _ (by simp[hb']))
 have hlen:fl.length=rs.length:=h.flen.trans h.rlen.symm;have hget:∀ {i:Nat} {g:Fa} {t:List (Value × Ob)},(fl++[fb])[i]?=some g->(rs++[s])[i]?=some t->(i=fl.length/\g=fb/\t=s)\/(fl[i]?=some g/\rs[i]?=some t):=fun {i g t} h1 h2=>by
  by_cases hi:i<fl.length
  ·rw[List.getElem?_append_left hi] at h1
   rw[List.getElem?_append_left (by omega)] at h2;exact .inr ⟨h1,h2⟩
  ·have e:i=fl.length:=by
    have:=(List.getElem?_eq_some_iff.1 h1).1;simp at this
    omega
   subst e;rw[List.getElem?_append_right (Nat.le_refl _)] at h1;rw[List.getElem?_append_right (by omega)] at h2;simp[hlen] at h1 h2;exact .inl ⟨rfl,h1.symm,h2.symm⟩
 have hnB:∀ b∈acFoot fb s,b≠Bw:=fun b hb e=>(hfresh b hb).1 (List.mem_append_left _ (by simp[e]))
 refine⟨?_,ownsRow_at_block hrow (fun b hb=>hoth b (hBin b hb)),ownsRow_at_block h.prints (fun b hb=>(hoth b (hpv b hb).1).trans (hfr b (List.mem_append_left _ (by simp[hb])) (hpv b hb).2)),by simp[h.flen],by simp[h.rlen],fun i g t x h1 h2 h3=>?_,?_,fun i g t h1 h2=>?_,fun i i' g t g' t' hii h1 h2 h3 h4 b hb hb'=>?_⟩
 ·have:=setCell_blk hBw 0 av2
  rw[this]
  rfl
 ·rcases hget h1 h2 with⟨rfl,rfl,rfl⟩ | ⟨q1,q2⟩
  ·simp only at h3
   rw[List.getElem?_append_right (by rw[h.flen];exact Nat.le_refl _)] at h3;simp[h.flen] at h3;subst h3;exact hnew.at_block (fun b hb=>hoth b (hnB b hb))
  ·have hi:i<V.acts.length:=by rw[<- h.flen];exact(List.getElem?_eq_some_iff.1 q1).1
   simp only at h3;rw[List.getElem?_append_left hi] at h3;exact(h.each i g t x q1 q2 h3).at_block (hac i g t q1 q2)
 ·refine List.nodup_cons.2 ⟨fun hb=>?_,List.nodup_append.2 ⟨by unfold vB;split <;> simp,h00.2.1,fun a ha b hb e=>hdis a ha (by rw[e];exact hb)⟩⟩
  rcases List.mem_append.1 hb with hb | hb
  ·exact hBin Bw hb rfl
  ·exact(hpv Bw hb).1 rfl
 ·rcases hget h1 h2 with⟨rfl,rfl,rfl⟩ | ⟨q1,q2⟩
  ·refine⟨hnd,fun b hb hb'=>?_⟩
   simp only[List.mem_cons,List.mem_append] at hb'
   rcases hb' with hb' | hb' | hb'
   ·exact hnB b hb hb'
   ·exact(hfresh b hb).2 hb'
   ·exact(hfresh b hb).1 (List.mem_append_left _ (by simp[hb']))
  ·refine⟨(h.apart1 i g t q1 q2).1,fun b hb hb'=>?_⟩
   have hn:=(h.apart1 i g t q1 q2).2 b hb;simp only[List.mem_cons,List.mem_append,not_or] at hn hb'
   rcases hb' with hb' | hb' | hb'
   ·exact hn.1 hb'
   ·rcases hin b hb' with h5 | h5
    ·exact hn.2.1 h5
    ·exact h5 (List.mem_append_right _ (mem_actsFoot q1 q2 hb))
   ·exact hn.2.2 hb'
 ·rcases hget h1 h2 with⟨rfl,rfl,rfl⟩ | ⟨q1,q2⟩
  ·rcases hget h3 h4 with⟨rfl,_,_⟩ | ⟨q3,q4⟩
   ·exact hii rfl
   ·exact(hfresh b hb).1 (List.mem_append_right _ (mem_actsFoot q3 q4 hb'))
  ·rcases hget h3 h4 with⟨rfl,rfl,rfl⟩ | ⟨q3,q4⟩
   ·exact(hfresh b hb').1 (List.mem_append_right _ (mem_actsFoot q1 q2 hb))
   ·exact h.apart2 i i' g t g' t' hii q1 q2 q3 q4 b hb hb'
end
end
section
open Go.RowKit
section
variable {w:World} {base Bw:Nat} {V:Wd} {av pv:Value} {fl:List Fa} {rs:List (List (Value × Ob))} {j:Nat} {fa:Fa} {r:List (Value × Ob)} {x:Ac}
theorem WdOwn.bw (h:WdOwn w base Bw V av pv fl rs):w.cell? ⟨Bw,0,none⟩=some av/\w.cell? ⟨Bw,1,none⟩=some pv/\∀ i,w.frozen? ⟨Bw,i,none⟩=false:=⟨cell_blk h.box 0,cell_blk h.box 1,fun i=>fz_blk h.box i⟩
theorem WdOwn.at (h:WdOwn w base Bw V av pv fl rs) (hx:V.acts[j]?=some x):∃ fa r g c,fl[j]?=some fa/\rs[j]?=some r/\AcOwn w base fa r x/\av=.slice (some ⟨g,0,none⟩) V.acts.length c:=by
 have hj:=(List.getElem?_eq_some_iff.1 hx).1;obtain⟨fa,hfa⟩:=at_some (l:=fl) (i:=j) (by rw[h.flen];exact hj);obtain⟨r,hr⟩:=at_some (l:=rs) (i:=j) (by rw[h.rlen];exact hj)
 rcases ownsRow_form h.acts with⟨_,h0⟩ | ⟨g,c,e,_⟩
 ·rw[h.flen] at h0;omega
 ·exact⟨fa,r,g,c,hfa,hr,h.each j fa r x hfa hr hx,by rw[<- h.flen];exact e⟩
theorem WdOwn.cell (h:WdOwn w base Bw V av pv fl rs) (hfa:fl[j]?=some fa) {g n c:Nat} (hav:av=.slice (some ⟨g,0,none⟩) n c) {k:Nat} {u:Value} (hk:(fAc fa)[k]?=some u):w.cell? ⟨g,j*8+k,none⟩=some u:=by
 have hS:=h.acts;rw[hav] at hS;obtain⟨b,o,e,hc⟩:=SeqOwn.at (f:=fAc) (s:=8) (fun _=>rfl) hS j fa hfa;simp only[Option.some.injEq,Addr.mk.injEq,and_true] at e;obtain⟨rfl,rfl⟩:=e;have:=hc k u hk
 rwa [Nat.zero_add] at this
theorem WdOwn.fz (h:WdOwn w base Bw V av pv fl rs) {g n c:Nat} (hav:av=.slice (some ⟨g,0,none⟩) n c) (i:Nat):w.frozen? ⟨g,i,none⟩=false:=ownsRow_frozen h.acts (by rw[hav];rfl) i
theorem WdOwn.cells (h:WdOwn w base Bw V av pv fl rs) (hx:V.acts[j]?=some x):∃ fa r g c R,fl[j]?=some fa/\rs[j]?=some r/\AcOwn w base fa r x/\av=.slice (some ⟨g,0,none⟩) V.acts.length c/\(0<x.regs.length->fa.ra=some ⟨R,0,none⟩) /\
  w.cell? ⟨g,j*8,none⟩=some (.int .i64 x.kind)/\w.cell? ⟨g,j*8+1,none⟩=some (.int .i64 x.par)/\w.cell? ⟨g,j*8+2,none⟩=some (.int .i64 x.M)/\w.cell? ⟨g,j*8+3,none⟩=some (.slice fa.oa x.obs.length fa.oc) /\
  w.cell? ⟨g,j*8+4,none⟩=some (.slice fa.ra x.regs.length fa.rc)/\w.cell? ⟨g,j*8+5,none⟩=some (.int .i64 x.pc)/\w.cell? ⟨g,j*8+6,none⟩=some (.slice fa.ba x.box.length fa.bc)/\w.cell? ⟨g,j*8+7,none⟩=some (.int .i64 x.fin):=by
 obtain⟨fa,r,g,c,hfa,hr,hA,hav⟩:=h.at hx;have hR:∃ R,0<x.regs.length->fa.ra=some ⟨R,0,none⟩:=by
  rcases ownsRow_form hA.regs with⟨e,h0⟩ | ⟨R,c',e,_⟩
  ·exact⟨0,fun h1=>by omega⟩
  ·simp only[Value.slice.injEq] at e
   exact⟨R,fun _=>e.1⟩
 obtain⟨R,hR⟩:=hR;have k0:=h.cell hfa hav (k:=0) rfl;have k1:=h.cell hfa hav (k:=1) rfl;have k2:=h.cell hfa hav (k:=2) rfl;have k3:=h.cell hfa hav (k:=3) rfl;have k4:=h.cell hfa hav (k:=4) rfl;have k5:=h.cell hfa hav (k:=5) rfl;have k6:=h.cell hfa hav (k:=6) rfl;have k7:=h.cell hfa hav (k:=7) rfl;rw[hA.kind] at k0;rw[hA.par] at k1;rw[hA.M] at k2;rw[hA.on] at k3;rw[hA.rn] at k4;rw[hA.pc] at k5;rw[hA.bn] at k6
 rw[hA.fin] at k7;exact⟨fa,r,g,c,R,hfa,hr,hA,hav,hR,k0,k1,k2,k3,k4,k5,k6,k7⟩
theorem AcOwn.reg (h:AcOwn w base fa r x) {q:Nat} {v:Vl} (hq:x.regs[q]?=some v):∃ R,fa.ra=some ⟨R,0,none⟩/\w.cell? ⟨R,q*2,none⟩=some (.int .i64 v.k)/\w.cell? ⟨R,q*2+1,none⟩=some (.int .i64 v.n)/\∀ i,w.frozen? ⟨R,i,none⟩=false:=by
 have hlt:=(List.getElem?_eq_some_iff.1 hq).1
 rcases ownsRow_form h.regs with⟨_,h0⟩ | ⟨R,c,e,_⟩
 ·omega
 ·simp only[Value.slice.injEq] at e
  have hS:=h.regs;rw[e.1] at hS;obtain⟨b,o,e',hc⟩:=SeqOwn.at (f:=fVl) (s:=2) (fun _=>rfl) hS q v hq;simp only[Option.some.injEq,Addr.mk.injEq,and_true] at e';obtain⟨rfl,rfl⟩:=e';have h1:=hc 0 _ rfl;have h2:=hc 1 _ rfl;simp only[Nat.zero_add,Nat.add_zero] at h1 h2;exact⟨R,e.1,h1,h2,fun i=>ownsRow_frozen hS rfl i⟩
end
end
section
open Go.RowKit
variable {P:Program}
theorem run_copy_rowk (k:Nat) (w:World) (dT sT ty elem:TypeId) (g o dLen dCap:Nat) (a:Addr) (sLen sCap:Nat) (cur:Array Value) (t:TypeId) (cs:List Value)
  (hu:P.underlying dT=some (.slice elem)) (hs:(P.info? elem).map (·.size)=some k)
  (hg:w.heap[g]?=some (.cells cur t (0,0))) (hn:cs.length=Nat.min sLen dLen*k)
  (hsrc:∀ j v,cs[j]?=some v->w.cell? (a.add j)=some v) (hfit:o+cs.length<=cur.size) (h1:∀ v∈cs,v.oneCell'=true) :
  (Builtin.copy_ #[dT,sT] ty #[.slice (some ⟨g,o,none⟩) dLen dCap,.slice (some a) sLen sCap]).run P w =
   .ok (goInt (Nat.min sLen dLen)) (w.setRow g (cur.toList.take o++cs++cur.toList.drop (o+cs.length)).toArray):=by
 have hl:=run_loadCells_list (P:=P) w a cs hsrc;have hst:=run_storeCells_at P g o t cs 0 cur w hg (by simpa using hfit) h1
 cases hq:P.info? elem with
 | none=>simp[hq] at hs
 | some i =>
  have hi:i.size=k:=by simpa[hq] using hs
  simp[Builtin.copy_,run_underlying hu,Builtin.lenOf,Builtin.firstCells,sizeOf,typeInfo,hq,hi,<- hn,hl,hst]
theorem run_copy_nonek (k:Nat) (w:World) (dT sT ty elem:TypeId) (d a:Option Addr) (dLen dCap sLen sCap:Nat) (hu:P.underlying dT=some (.slice elem)) (hs:(P.info? elem).map (·.size)=some k) (hn:Nat.min sLen dLen=0) :
  (Builtin.copy_ #[dT,sT] ty #[.slice d dLen dCap,.slice a sLen sCap]).run P w=.ok (goInt 0) w:=by
 cases hq:P.info? elem with
 | none=>simp[hq] at hs
 | some i =>
  have hl:∀ (x:Addr),(loadCells x 0).run P w=.ok #[] w:=fun x=>by simpa using run_loadCells_list (P:=P) w x [] (by simp)
  cases d <;> cases a <;> simp[Builtin.copy_,run_underlying hu,Builtin.lenOf,Builtin.firstCells,sizeOf,typeInfo,hq,hn,storeCells,hl]
theorem run_copy_full (k:Nat) (w:World) (dT sT ty elem:TypeId) (hu:P.underlying dT=some (.slice elem)) (hsz:(P.info? elem).map (·.size)=some k)
  (g n dCap:Nat) (sp:Option Addr) (sCap:Nat) (cur:Array Value) (t:TypeId) (hg:w.heap[g]?=some (.cells cur t (0,0))) (cs:List Value) (hn:cs.length=n*k) (hcur:cur.size=cs.length)
  (hsrc:0<n->∃ ad,sp=some ad/\∀ j v,cs[j]?=some v->w.cell? (ad.add j)=some v) (h1:∀ v∈cs,v.oneCell'=true) :
  (Builtin.copy_ #[dT,sT] ty #[.slice (some ⟨g,0,none⟩) n dCap,.slice sp n sCap]).run P w=.ok (goInt n) (w.setRow g cs.toArray):=by
 have hmin:Nat.min n n=n:=Nat.min_self n
 by_cases h0:n=0
 ·subst h0
  have hcs:cs=[]:=List.eq_nil_of_length_eq_zero (by simpa using hn);subst hcs;have hc0:cur=#[]:=Array.eq_empty_of_size_eq_zero (by simpa using hcur);subst hc0;have hrun:=run_copy_nonek (P:=P) k w dT sT ty elem (some ⟨g,0,none⟩) sp 0 dCap 0 sCap hu hsz rfl;rw[hrun,setRow_self w g #[] t (0,0) hg];rfl
 ·obtain⟨ad,rfl,hc⟩:=hsrc (by omega)
  have hrun:=run_copy_rowk (P:=P) k w dT sT ty elem g 0 n dCap ad n sCap cur t cs hu hsz hg (by rw[hmin];exact hn) hc (by omega) h1;have e:(cur.toList.take 0++cs++cur.toList.drop (0+cs.length)).toArray=cs.toArray:=by
   have:cur.toList.drop (0+cs.length)=[]:=List.drop_eq_nil_of_le (by simp;omega);rw[this];simp
  rw[e,hmin] at hrun;exact hrun
theorem step_copy {ops:Array Oper} {o:Oper} {a:Act} {w:World} {K:Act->World->Prop} {Q:Exit->Act->World->Prop} {E:Prop} (hg:o.guard=none) (d s:Operand) (dT sT:TypeId)
  (hop:o.op=Op.call { callee:=Callee.builtin Builtin.copy,args:=#[d,s],argTypes:=#[dT,sT] }) (dv sv:Value) (hd:a.eval d=dv) (hs:a.eval s=sv) (r:Value) (w':World)
  (hrun:(Builtin.copy_ #[dT,sT] o.type #[dv,sv]).run P w=.ok r w') (hK:K (a.put o.dst r) w') :
  if Region.wanted o (yielded ops a.tmps)=true then Oper.wp P o a w K Q else E:=by
 have hw:Region.wanted o (yielded ops a.tmps)=true:=by simp[Region.wanted,hg]
 rw[if_pos hw]
 unfold Oper.wp
 simp[execOp,hop,resolve,invoke,builtin,hd,hs,hrun,Result.andThen];exact hK
end
section
open Go.RowKit
structure Wrote (w w':World) (F:List Nat):Prop where
 os:w'.os=w.os
 tape:w'.tape=w.tape
 output:w'.output=w.output
 size:w'.heap.size=w.heap.size
 other:∀ b,b∉F->w'.heap[b]?=w.heap[b]?
theorem Wrote.moved {w w':World} {F G:List Nat} (h:Wrote w w' F) (hg:∀ b∈F,b∈G):Moved w w' G G :=
 ⟨h.os,h.tape,h.output,Nat.le_of_eq h.size.symm,fun b _ hb=>h.other b (fun e=>hb (hg b e)),fun _ hb=>.inl hb⟩
theorem Wrote.refl (w:World) (F:List Nat):Wrote w w F:=⟨rfl,rfl,rfl,rfl,fun _ _=>rfl⟩
theorem Wrote.trans {a b c:World} {F:List Nat} (h:Wrote a b F) (k:Wrote b c F):Wrote a c F :=
 ⟨k.os.trans h.os,k.tape.trans h.tape,k.output.trans h.output,k.size.trans h.size,fun x hx=>(k.other x hx).trans (h.other x hx)⟩
theorem wrote_setRow (w:World) (g:Nat) (cs:Array Value):Wrote w (w.setRow g cs) [g] :=
 ⟨rfl,rfl,rfl,by simp,fun b hb=>setRow_other w g b cs (by simpa using hb)⟩
section
variable {α:Type} {f:α->List Value} {s:Nat} {e:TypeId}
theorem flat_take (hf:∀ x,(f x).length=s):∀ (l:List α) (i:Nat),(l.take i).flatMap f=(l.flatMap f).take (i*s)
 | [],i=>by simp
 | x :: r,0=>by simp
 | x :: r,i+1=>by
  simp only[List.take_succ_cons,List.flatMap_cons];have h1:(f x).take ((i+1)*s)=f x:=List.take_of_length_le (by rw[hf,Nat.add_mul];omega);rw[List.take_append,h1,hf,show(i+1)*s-s=i*s by rw[Nat.add_mul];omega,flat_take hf r i]
theorem flat_drop (hf:∀ x,(f x).length=s):∀ (l:List α) (i:Nat),(l.drop i).flatMap f=(l.flatMap f).drop (i*s)
 | [],i=>by simp
 | x :: r,0=>by simp
 | x :: r,i+1=>by
  simp only[List.drop_succ_cons,List.flatMap_cons];have h1:(f x).drop ((i+1)*s)=[]:=List.drop_of_length_le (by rw[hf,Nat.add_mul];omega);rw[List.drop_append,h1,hf,show(i+1)*s-s=i*s by rw[Nat.add_mul];omega,flat_drop hf r i,List.nil_append]
theorem flat_len (hf:∀ x,(f x).length=s):∀ (l:List α),(l.flatMap f).length=l.length*s
 | []=>by simp
 | x :: r=>by rw[List.flatMap_cons,List.length_append,hf,flat_len hf r,List.length_cons,Nat.add_mul];omega
theorem take_over (c ys:List Value) (a m:Nat) (h1:a+ys.length<=m) (h2:m<=c.length):(c.take a++ys++c.drop (a+ys.length)).take m=(c.take m).take a++ys++(c.take m).drop (a+ys.length):=by
 rw[List.take_append,List.take_of_length_le (by rw[List.length_append,List.length_take];omega),List.take_take,Nat.min_eq_left (by omega),List.drop_take];rw[List.length_append,List.length_take,Nat.min_eq_left (by omega)]
theorem seqOwn_over (hf:∀ x,(f x).length=s) {w:World} {base g n c:Nat} {l:List α} (h:SeqOwn f s e w base (.slice (some ⟨g,0,none⟩) n c) l) (i:Nat) (ys:List α) (hi:i+ys.length<=l.length) :
  ∃ cur,w.heap[g]?=some (.cells cur e (0,0))/\i*s+(ys.flatMap f).length<=cur.size /\
   SeqOwn f s e (w.setRow g (cur.toList.take (i*s)++ys.flatMap f++cur.toList.drop (i*s+(ys.flatMap f).length)).toArray) base (.slice (some ⟨g,0,none⟩) n c) (l.take i++ys++l.drop (i+ys.length)):=by
 rcases h.2 with⟨hv,_⟩ | ⟨g',cap,cur,hv,hb,hg,h1,h2,h3,h4⟩
 ·simp at hv
 simp only[Value.slice.injEq,Option.some.injEq,Addr.mk.injEq,and_true] at hv;obtain⟨rfl,rfl,rfl⟩:=hv;have hl:=flat_len hf ys;have hls:l.length*s<=cur.toList.length:=by simp[h3];exact Nat.mul_le_mul_right _ h1
 have hil:i*s+(ys.flatMap f).length<=l.length*s:=by rw[hl,<- Nat.add_mul];exact Nat.mul_le_mul_right _ hi
 have hlen:(l.take i++ys++l.drop (i+ys.length)).length=l.length:=by
  rw[List.length_append,List.length_append,List.length_take,List.length_drop,Nat.min_eq_left (by omega)];omega
 have hfl:(l.take i++ys++l.drop (i+ys.length)).flatMap f=(l.flatMap f).take (i*s)++ys.flatMap f++(l.flatMap f).drop (i*s+(ys.flatMap f).length):=by
  rw[List.flatMap_append,List.flatMap_append,flat_take hf,flat_drop hf,hl,Nat.add_mul]
 refine⟨cur,hg,by simp at hls;omega,?_⟩
 unfold SeqOwn
 rw[hlen,hfl];refine⟨?_,.inr ⟨g,c,_,rfl,hb,setRow_heap _ _ _ _ _ _ hg,h1,h2,?_,?_⟩⟩
 ·have:=h.1
  simp only[List.length_append,List.length_take,List.length_drop];rw[this];omega
 ·simp only[List.size_toArray,List.length_append,List.length_take,List.length_drop,Array.length_toList,h3]
  simp[h3] at hls;omega
 ·rw[List.toList_toArray,take_over _ _ _ _ hil hls,h4]
end
theorem zeroCells_vl (m:Nat):(Builtin.zeroCells #[.int .i64 0,.int .i64 0] m).toList=(List.replicate m nilV).flatMap fVl:=by
 have h1:(List.replicate m nilV).flatMap fVl=List.replicate (m*2) (.int .i64 0):=by
  induction m with
  | zero=>rfl
  | succ m ih=>rw[List.replicate_succ,List.flatMap_cons,ih,show(m+1)*2=m*2+1+1 by omega,List.replicate_succ,List.replicate_succ];rfl
 rw[h1];refine List.ext_getElem? fun j=>?_
 unfold Builtin.zeroCells
 rw[List.getElem?_replicate]
 by_cases hj:j<m*2
 ·rw[if_pos hj]
  have h2:j % 2=0\/j % 2=1:=by omega
  rcases h2 with h2 | h2 <;> simp[hj,h2]
 ·rw[if_neg hj]
  simp[hj]
theorem clear_own {w:World} {base g n c:Nat} {l:List Vl} (h:SeqOwn fVl 2 66 w base (.slice (some ⟨g,0,none⟩) n c) l) (i m cap:Nat) (hi:i+(m+1)<=l.length) (ty:TypeId) :
  ∃ w',(Builtin.clear_ #[54] ty #[.slice (some ⟨g,i*2,none⟩) (m+1) cap]).run Tryz.prog w=.ok (.tuple #[]) w'/\Wrote w w' [g]/\SeqOwn fVl 2 66 w' base (.slice (some ⟨g,0,none⟩) n c) (l.take i++List.replicate (m+1) nilV++l.drop (i+(m+1))):=by
 obtain⟨cur,hg,hfit,hown⟩:=seqOwn_over (f:=fVl) (s:=2) (fun _=>rfl) h i (List.replicate (m+1) nilV) (by simpa using hi);rw[List.length_replicate] at hown;refine⟨_,?_,wrote_setRow _ _ _,hown⟩;have hz:(Tryz.prog.info? 66).map (fun i=>i.zero)=some (some (.agg #[.int .i64 0,.int .i64 0])):=by kernel_rfl
 have hst:=run_storeCells_at (P:=Tryz.prog) g (i*2) 66 ((List.replicate (m+1) nilV).flatMap fVl) 0 cur w hg (by simpa using hfit) (fun u hu=>by
  simp only[List.mem_flatMap] at hu;obtain⟨v,hv,hu⟩:=hu;simp[fVl] at hu
  rcases hu with rfl | rfl <;> rfl)
 rw[Nat.add_zero,<- zeroCells_vl] at hst;rw[<- zeroCells_vl]
 cases hq:Tryz.prog.info? 66 with
 | none=>rw[hq] at hz;simp at hz
 | some inf =>
  rw[hq] at hz;simp at hz;simp[Builtin.clear_,run_underlying Tryz.underlying54,zeroValue,typeInfo,hq,hz,Value.cells,hst]
theorem copy_own {w:World} {base c:Nat} {da:Option Addr} {l:List Vl} (h:SeqOwn fVl 2 66 w base (.slice da l.length c) l) {sa:Option Addr} {ys:List Vl} (hs:ValsAt w sa ys) (hl:l.length<=ys.length) (sc:Nat) (ty:TypeId) :
  ∃ w',(Builtin.copy_ #[54,54] ty #[.slice da l.length c,.slice sa ys.length sc]).run Tryz.prog w=.ok (goInt l.length) w'/\Wrote w w' (vB (.slice da l.length c))/\SeqOwn fVl 2 66 w' base (.slice da l.length c) (ys.take l.length):=by
 have hmin:Nat.min ys.length l.length=l.length:=Nat.min_eq_right hl;have hi:(Tryz.prog.info? 66).map (·.size)=some 2:=by kernel_rfl
 by_cases h0:l.length=0
 ·have hnil:l=[]:=List.eq_nil_of_length_eq_zero h0
  subst hnil;refine⟨w,?_,Wrote.refl _ _,by simpa using h⟩;exact run_copy_nonek (P:=Tryz.prog) 2 w _ _ ty 66 da sa 0 c ys.length sc Tryz.underlying54 hi (by simp)
 ·rcases h.2 with⟨hv,_⟩ | ⟨g,cap,cur,hv,_⟩
  ·simp at hv;omega
  simp only[Value.slice.injEq] at hv;obtain⟨rfl,_,_⟩:=hv;have htl:(ys.take l.length).length=l.length:=by rw[List.length_take];omega
  obtain⟨cur,hg,hfit,hown⟩:=seqOwn_over (f:=fVl) (s:=2) (fun _=>rfl) h 0 (ys.take l.length) (by omega);have hll:l.drop (0+l.length)=[]:=by simp
  rw[htl,hll] at hown;rw[show l.take 0++ys.take l.length++[]=ys.take l.length by simp] at hown;obtain⟨ad,e,hsrc⟩:=seq_src (f:=fVl) (s:=2) (fun _=>rfl) (by omega) (seqVl_of hs) (by omega);subst e;have hfl:=flat_take (f:=fVl) (s:=2) (fun _=>rfl) ys l.length;have:=run_copy_rowk (P:=Tryz.prog) 2 w 54 54 ty 66 g 0 l.length c ad ys.length sc cur _ ((ys.take l.length).flatMap fVl) Tryz.underlying54 hi hg
   (by rw[hmin,flat_len (f:=fVl) (s:=2) (fun _=>rfl),htl]) (fun j v hv=>hsrc j v (by rw[hfl,List.getElem?_take] at hv;split at hv;exact hv;cases hv)) (by simpa using hfit) (fun u hu=>by
    simp only[List.mem_flatMap] at hu;obtain⟨v,hv,hu⟩:=hu;simp[fVl] at hu
    rcases hu with rfl | rfl <;> rfl)
  rw[hmin] at this
  exact⟨_,this,⟨rfl,rfl,rfl,by simp,fun b hb=>setRow_other w g b _ (fun e=>hb (by rw[mem_vB,e];rfl))⟩,hown⟩
section
variable {w w':World} {base Bw:Nat} {V:Wd} {av pv:Value} {fl:List Fa} {rs:List (List (Value × Ob))} {j:Nat} {fa:Fa} {r:List (Value × Ob)} {x:Ac}
theorem WdOwn.inRegs (h:WdOwn w base Bw V av pv fl rs) (hfa:fl[j]?=some fa) (hr:rs[j]?=some r) (hx:V.acts[j]?=some x) (hw:Wrote w w' (vB (.slice fa.ra fa.rn fa.rc))) {l:List Vl} (hown:SeqOwn fVl 2 66 w' base (.slice fa.ra fa.rn fa.rc) l) (hl:l.length=x.regs.length) :
  WdOwn w' base Bw { V with acts:=V.acts.set j { x with regs:=l } } av pv fl rs/\Moved w w' (wdFoot Bw av pv fl rs) (wdFoot Bw av pv fl rs):=by
 have hA:=h.each j fa r x hfa hr hx;have hin:∀ b∈vB (.slice fa.ra fa.rn fa.rc),b∈acFoot fa r:=fun b hb=>List.mem_append_right _ (List.mem_append_left _ hb)
 have hnd:=(h.apart1 j fa r hfa hr).1;have hn1:=List.nodup_append.1 hnd;have hn2:=List.nodup_append.1 hn1.2.1;refine⟨?_,hw.moved (fun b hb=>List.mem_append_right _ (mem_actsFoot hfa hr (hin b hb)))⟩;have hrow:SeqOwn fAc 8 56 w' base av (fl.set j fa):=by
  rw[set_same hfa];exact ownsRow_at_block h.acts (fun b hb=>hw.other b (fun hb'=>(h.apart1 j fa r hfa hr).2 b (hin b hb') (by simp[hb])))
 have:=h.replace hfa hr hrow (s:=r) (y:={ x with regs:=l }) ⟨hA.kind,hA.par,hA.M,hA.on,hA.rn.trans hl.symm,hA.pc,hA.bn,hA.fin,hA.obs,hA.heap.at_block (fun b hb=>hw.other b (fun hb'=>hn1.2.2 b hb b (List.mem_append_left _ hb') rfl)),hown,ownsRow_at_block hA.box (fun b hb=>hw.other b (fun hb'=>hn2.2.2 b hb' b hb rfl))⟩
  (fun b _ _ hb=>hw.other b (fun hb'=>hb (hin b hb'))) hnd (fun b hb=>.inl hb)
 rwa [set_same hfa,set_same hr] at this
theorem WdOwn.inBox (h:WdOwn w base Bw V av pv fl rs) (hfa:fl[j]?=some fa) (hr:rs[j]?=some r) (hx:V.acts[j]?=some x) (hw:Wrote w w' (vB (.slice fa.ba fa.bn fa.bc))) {l:List Vl} (hown:SeqOwn fVl 2 66 w' base (.slice fa.ba fa.bn fa.bc) l) (hl:l.length=x.box.length) :
  WdOwn w' base Bw { V with acts:=V.acts.set j { x with box:=l } } av pv fl rs/\Moved w w' (wdFoot Bw av pv fl rs) (wdFoot Bw av pv fl rs):=by
 have hA:=h.each j fa r x hfa hr hx;have hin:∀ b∈vB (.slice fa.ba fa.bn fa.bc),b∈acFoot fa r:=fun b hb=>List.mem_append_right _ (List.mem_append_right _ hb)
 have hnd:=(h.apart1 j fa r hfa hr).1;have hn1:=List.nodup_append.1 hnd;have hn2:=List.nodup_append.1 hn1.2.1;refine⟨?_,hw.moved (fun b hb=>List.mem_append_right _ (mem_actsFoot hfa hr (hin b hb)))⟩;have hrow:SeqOwn fAc 8 56 w' base av (fl.set j fa):=by
  rw[set_same hfa];exact ownsRow_at_block h.acts (fun b hb=>hw.other b (fun hb'=>(h.apart1 j fa r hfa hr).2 b (hin b hb') (by simp[hb])))
 have:=h.replace hfa hr hrow (s:=r) (y:={ x with box:=l }) ⟨hA.kind,hA.par,hA.M,hA.on,hA.rn,hA.pc,hA.bn.trans hl.symm,hA.fin,hA.obs,hA.heap.at_block (fun b hb=>hw.other b (fun hb'=>hn1.2.2 b hb b (List.mem_append_right _ hb') rfl)),ownsRow_at_block hA.regs (fun b hb=>hw.other b (fun hb'=>hn2.2.2 b hb b hb' rfl)),hown⟩
  (fun b _ _ hb=>hw.other b (fun hb'=>hb (hin b hb'))) hnd (fun b hb=>.inl hb)
 rwa [set_same hfa,set_same hr] at this
end
end
section
open Go.RowKit
theorem HeapOwn.blk_le {w:World} {base:Nat} {v:Value} {rows:List (Value × Ob)} (h:HeapOwn w base v rows):∀ b∈vB v++rowsB rows,base<=b/\b<w.heap.size:=fun b hb=>by
 rcases List.mem_append.1 hb with hb | hb
 ·exact World.ownsRow.lt h.top b (mem_vB.1 hb)
 ·obtain⟨p,hp,hb⟩:=List.mem_flatMap.1 hb
  obtain⟨i,hi,e⟩:=List.mem_iff_getElem.1 hp;exact World.ownsRow.lt (h.row i p (by rw[List.getElem?_eq_getElem hi,e])).1 b (mem_vB.1 hb)
theorem ownsRow_base {w:World} {base base':Nat} {e:TypeId} {s n:Nat} {v:Value} {xs:List Value} (h:w.ownsRow base e s v n xs) (hb:base'<=base):w.ownsRow base' e s v n xs :=
 ⟨h.1,by
  rcases h.2 with h0 | ⟨g,cap,cur,e1,hb1,hg,hr⟩
  ·exact .inl h0
  ·exact .inr ⟨g,cap,cur,e1,Nat.le_trans hb hb1,hg,hr⟩⟩
theorem HeapOwn.base {w:World} {base base':Nat} {v:Value} {rows:List (Value × Ob)} (h:HeapOwn w base v rows) (hb:base'<=base):HeapOwn w base' v rows :=
 ⟨ownsRow_base h.top hb,fun i p hp=>⟨ownsRow_base (h.row i p hp).1 hb,(h.row i p hp).2⟩,h.apart,h.many⟩
section
variable {w w':World} {base Bw:Nat} {V:Wd} {av pv:Value} {fl:List Fa} {rs:List (List (Value × Ob))} {j:Nat} {fa:Fa} {r:List (Value × Ob)} {x:Ac}
theorem WdOwn.base_le (h:WdOwn w base Bw V av pv fl rs) {g n c:Nat} (hav:av=.slice (some ⟨g,0,none⟩) n c):base<=w.heap.size:=by
 have:=World.ownsRow.lt h.acts g (by rw[hav];rfl);omega
theorem wdFoot_set {fb:Fa} {s:List (Value × Ob)} {b:Nat} (hb:b∈wdFoot Bw av pv (fl.set j fb) (rs.set j s)):b∈wdFoot Bw av pv fl rs\/b∈acFoot fb s:=by
 rcases List.mem_append.1 hb with hb | hb
 ·exact .inl (List.mem_append_left _ hb)
 obtain⟨⟨g,t⟩,hp,hb⟩:=List.mem_flatMap.1 hb;obtain⟨i,hi,e⟩:=List.mem_iff_getElem.1 hp;have hz:(List.zip (fl.set j fb) (rs.set j s))[i]?=some (g,t):=by rw[List.getElem?_eq_getElem hi,e]
 obtain⟨h1,h2⟩:=List.getElem?_zip_eq_some.1 hz
 by_cases hij:j=i
 ·subst hij
  rw[List.getElem?_set,if_pos rfl] at h1 h2
  split at h1
  ·split at h2
   ·simp only[Option.some.injEq] at h1 h2
    subst h1 h2;exact .inr hb
   ·cases h2
  ·cases h1
 ·rw[List.getElem?_set,if_neg hij] at h1 h2
  exact .inl (List.mem_append_right _ (mem_actsFoot h1 h2 hb))
theorem WdOwn.newHeap (h:WdOwn w base Bw V av pv fl rs) (hb:Below w.heap.size w w') (hfa:fl[j]?=some fa) (hr:rs[j]?=some r) (hx:V.acts[j]?=some x) {g n c:Nat} (hav:av=.slice (some ⟨g,0,none⟩) n c) {M:Int} {oa:Option Addr} {on oc B:Nat} {s:List (Value × Ob)} {l:List Ob} (hs:s.map (·.2)=l)
  (hon:on=l.length) (hH:HeapOwn w' B (.slice oa on oc) s) (hB:w.heap.size<=B) :
  WdOwn ((w'.setCell ⟨g,j*8+2,none⟩ (.int .i64 M)).setCell ⟨g,j*8+3,none⟩ (.slice oa on oc)) base Bw { V with acts:=V.acts.set j (x.heap M l) } av pv (fl.set j { fa with M:=M,oa:=oa,on:=l.length,oc:=oc }) (rs.set j s) /\
   Moved w ((w'.setCell ⟨g,j*8+2,none⟩ (.int .i64 M)).setCell ⟨g,j*8+3,none⟩ (.slice oa on oc)) (wdFoot Bw av pv fl rs) (wdFoot Bw av pv (fl.set j { fa with M:=M,oa:=oa,on:=l.length,oc:=oc }) (rs.set j s)):=by
 subst hon;have hgw:g∈wdFoot Bw av pv fl rs:=List.mem_append_left _ (by simp[mem_vB,hav,Value.ownBlock]);have hbl:=hH.blk_le;have hbase:=h.base_le hav;refine⟨(h.below hb).setHeap hfa hr hx hav hs (hH.base (by omega)) (fun b hb' hb2=>?_),hb.os,hb.tape,hb.output,by rw[two_size];exact hb.size,fun b hb1 hb2=>?_,fun b hb'=>?_⟩
 ·have:=h.blk_lt b hb2
  have:=(hbl b hb').1;omega
 ·rw[two_other _ _ _ _ (fun e=>hb2 (by rw[e];exact hgw))]
  exact hb.block b hb1
 ·rcases wdFoot_set hb' with h1 | h1
  ·exact .inl h1
  ·rcases List.mem_append.1 h1 with h2 | h2
   ·exact .inr (Nat.le_trans hB (hbl b h2).1)
   ·exact .inl (List.mem_append_right _ (mem_actsFoot hfa hr (List.mem_append_right _ h2)))
end
end
end Go.Proofs.YtihpkcccfgbcmaaGreatDoor
