/- WOwn2 WOwn3 WOwn4 HCopyL. -/
import Derived.Deep.Draws
import Derived.Deep.OwnRows
import Derived.Deep.RegionLaw
import Derived.Laws.CopyOwn
import Derived.WalkKit
import Derived.Test.YtddokajfafmhhaaGreatDoorCWSet1
namespace Go.Proofs.YtddokajfafmhhaaGreatDoor
section
open Go.RowKit
structure Moved (w w':World) (F F':List Nat):Prop where
 os:w'.os = w.os
 tape:w'.tape = w.tape
 output:w'.output = w.output
 size:w.heap.size ≤ w'.heap.size
 keep:∀ b,b < w.heap.size → b ∉ F → w'.heap[b]? = w.heap[b]?
 sub:∀ b ∈ F',b ∈ F ∨ w.heap.size ≤ b
theorem Moved.trans {a b c:World} {F G H:List Nat} (h:Moved a b F G) (k:Moved b c G H):Moved a c F H :=
 ⟨k.os.trans h.os,k.tape.trans h.tape,k.output.trans h.output,Nat.le_trans h.size k.size,
  fun x hx hF => (k.keep x (Nat.lt_of_lt_of_le hx h.size) (fun hG => by rcases h.sub x hG with h1 | h1; exact hF h1; omega)).trans (h.keep x hx hF),
  fun x hx => by
   rcases k.sub x hx with h1 | h1
   ·exact h.sub x h1
   ·exact .inr (Nat.le_trans h.size h1)⟩
theorem Moved.below {w w':World} {F F':List Nat} (h:Moved w w' F F') {B:Nat} (hB:B ≤ w.heap.size) (hF:∀ b ∈ F,B ≤ b):Below B w w' :=
 ⟨h.os,h.tape,h.output,h.size,fun k hk => h.keep k (by omega) (fun hk' => by have:=hF k hk'; omega)⟩
theorem Moved.of_below {w w':World} {F:List Nat} (h:Below w.heap.size w w'):Moved w w' F F :=
 ⟨h.os,h.tape,h.output,h.size,fun b hb _ => h.block b hb,fun _ hb => .inl hb⟩
theorem Moved.set (w:World) {F:List Nat} {g:Nat} (hg:g ∈ F) (j:Nat) (u:Value):Moved w (w.setCell ⟨g,j,none⟩ u) F F :=
 ⟨rfl,rfl,rfl,by simp [World.setCell],fun b _ hb => Deep.blk_setCell_other _ ⟨g,j,none⟩ _ _ (fun e => hb (by rw [e]; exact hg)),fun _ hb => .inl hb⟩
theorem set_same {α:Type} {l:List α} {j:Nat} {a:α} (h:l[j]? = some a):l.set j a = l:=by
 refine List.ext_getElem? fun i => ?_
 rw [List.getElem?_set]
 by_cases e:j = i
 ·subst e
  rw [if_pos rfl,if_pos (List.getElem?_eq_some_iff.1 h).1,h]
 ·rw [if_neg e]
section
variable {w:World} {base Bw:Nat} {V:Wd} {av pv:Value} {fl:List Fa} {rs:List (List (Value × Ob))} {j:Nat} {fa:Fa} {r:List (Value × Ob)} {x:Ac}
theorem WdOwn.setReg (h:WdOwn w base Bw V av pv fl rs) (hfa:fl[j]? = some fa) (hr:rs[j]? = some r) (hx:V.acts[j]? = some x) {R:Nat} (hra:fa.ra = some ⟨R,0,none⟩) {q:Nat} (hq:q < x.regs.length) (v:Vl) :
  WdOwn ((w.setCell ⟨R,q * 2,none⟩ (.int .i64 v.k)).setCell ⟨R,q * 2 + 1,none⟩ (.int .i64 v.n)) base Bw { V with acts:=V.acts.set j { x with regs:=x.regs.set q v } } av pv fl rs ∧
   Moved w ((w.setCell ⟨R,q * 2,none⟩ (.int .i64 v.k)).setCell ⟨R,q * 2 + 1,none⟩ (.int .i64 v.n)) (wdFoot Bw av pv fl rs) (wdFoot Bw av pv fl rs):=by
 have hA:=h.each j fa r x hfa hr hx
 have hRin:R ∈ vB (.slice fa.ra fa.rn fa.rc):=by rw [mem_vB,hra]; rfl
 have hRf:R ∈ acFoot fa r:=List.mem_append_right _ (List.mem_append_left _ hRin)
 have hnd:=(h.apart1 j fa r hfa hr).1
 have hRw:R ∈ wdFoot Bw av pv fl rs:=List.mem_append_right _ (mem_actsFoot hfa hr hRf)
 have hRav:R ∉ vB av:=fun hb => (h.apart1 j fa r hfa hr).2 R hRf (by simp [hb])
 have hoth:∀ b,b ≠ R → ((w.setCell ⟨R,q * 2,none⟩ (.int .i64 v.k)).setCell ⟨R,q * 2 + 1,none⟩ (.int .i64 v.n)).heap[b]? = w.heap[b]?:=fun b hb => two_other (q * 2) (q * 2 + 1) _ _ hb
 have hn1:=List.nodup_append.1 hnd
 have hn2:=List.nodup_append.1 hn1.2.1
 obtain ⟨o,ho⟩:=at_some hq
 have hregs:=hA.regs
 rw [hra] at hregs
 have s1:=SeqOwn.set1 (f:=fVl) (s:=2) (fun _ => rfl) hregs (i:=q) (k:=0) (u:=.int .i64 v.k) (x:=o) (y:=⟨v.k,o.n⟩) ho (by omega) rfl
 have s2:=SeqOwn.set1 (f:=fVl) (s:=2) (fun _ => rfl) s1 (i:=q) (k:=1) (u:=.int .i64 v.n) (x:=⟨v.k,o.n⟩) (y:=v) (by rw [List.getElem?_set,if_pos rfl,if_pos hq]) (by omega) rfl
 rw [List.set_set] at s2
 have hnew:AcOwn ((w.setCell ⟨R,q * 2,none⟩ (.int .i64 v.k)).setCell ⟨R,q * 2 + 1,none⟩ (.int .i64 v.n)) base fa r { x with regs:=x.regs.set q v } :=
  { kind:=hA.kind,par:=hA.par,M:=hA.M,on:=hA.on,rn:=by rw [hA.rn]; simp,pc:=hA.pc,bn:=hA.bn,fin:=hA.fin,obs:=hA.obs,heap:=hA.heap.at_block (fun b hb => hoth b (fun e => hn1.2.2 b hb R (List.mem_append_left _ hRin) e)),regs:=by rw [hra]; exact s2,box:=ownsRow_at_block hA.box (fun b hb => hoth b (fun e => hn2.2.2 R hRin b hb e.symm)) }
 have hrow:SeqOwn fAc 8 42 ((w.setCell ⟨R,q * 2,none⟩ (.int .i64 v.k)).setCell ⟨R,q * 2 + 1,none⟩ (.int .i64 v.n)) base av (fl.set j fa):=by
  rw [set_same hfa]
  exact ownsRow_at_block h.acts (fun b hb => hoth b (fun e => hRav (by rw [← e]; exact hb)))
 have:=h.replace hfa hr hrow hnew (fun b _ _ hb => hoth b (fun e => hb (by rw [e]; exact hRf))) hnd (fun b hb => .inl hb)
 rw [set_same hfa,set_same hr] at this
 exact ⟨this,(Moved.set w hRw _ _).trans (Moved.set _ hRw _ _)⟩
theorem WdOwn.setNum (h:WdOwn w base Bw V av pv fl rs) (hfa:fl[j]? = some fa) (hr:rs[j]? = some r) {g n c:Nat} (hav:av = .slice (some ⟨g,0,none⟩) n c) {k:Nat} (hk:k < 8) {u:Value} {fb:Fa} {y:Ac}
  (hf:fAc fb = (fAc fa).set k u) (hfoot:acFoot fb r = acFoot fa r) (hnew:AcOwn w base fb r y) :
  WdOwn (w.setCell ⟨g,j * 8 + k,none⟩ u) base Bw { V with acts:=V.acts.set j y } av pv (fl.set j fb) rs ∧ Moved w (w.setCell ⟨g,j * 8 + k,none⟩ u) (wdFoot Bw av pv fl rs) (wdFoot Bw av pv (fl.set j fb) rs):=by
 have hgav:g ∈ vB av:=by rw [mem_vB,hav]; rfl
 have hgw:g ∈ wdFoot Bw av pv fl rs:=List.mem_append_left _ (by simp [hgav])
 have hoth:∀ b,b ≠ g → (w.setCell ⟨g,j * 8 + k,none⟩ u).heap[b]? = w.heap[b]?:=fun b hb => Deep.blk_setCell_other _ ⟨g,j * 8 + k,none⟩ _ _ hb
 have hgf:∀ b ∈ acFoot fa r,b ≠ g:=fun b hb e => (h.apart1 j fa r hfa hr).2 b hb (by rw [e]; simp [hgav])
 have hrow0:=h.acts
 rw [hav] at hrow0
 have hrow:=SeqOwn.set1 (f:=fAc) (s:=8) (fun _ => rfl) hrow0 (i:=j) (k:=k) (u:=u) (x:=fa) (y:=fb) hfa hk hf
 rw [← hav] at hrow
 have:=h.replace hfa hr hrow (hnew.at_block (fun b hb => hoth b (hgf b (by rw [← hfoot]; exact hb)))) (fun b _ hb _ => hoth b (fun e => hb (by rw [e]; exact hgav))) (by rw [hfoot]; exact (h.apart1 j fa r hfa hr).1) (fun b hb => .inl (by rw [← hfoot]; exact hb))
 rw [set_same hr] at this
 refine ⟨this,Moved.mk rfl rfl rfl (by simp [World.setCell]) (fun b _ hb => hoth b (fun e => hb (by rw [e]; exact hgw))) (fun b hb => ?_)⟩
 simp only [wdFoot,List.mem_append] at hb ⊢
 rcases hb with hb | hb
 ·exact .inl (.inl hb)
 ·obtain ⟨⟨f',r'⟩,hp,hb⟩:=List.mem_flatMap.1 hb
  obtain ⟨i,hi,e⟩:=List.mem_iff_getElem.1 hp
  have hz:(List.zip (fl.set j fb) rs)[i]? = some (f',r'):=by rw [List.getElem?_eq_getElem hi,e]
  obtain ⟨h1,h2⟩:=List.getElem?_zip_eq_some.1 hz
  simp only at h1 h2 hb
  by_cases hij:j = i
  ·subst hij
   rw [List.getElem?_set,if_pos rfl,if_pos (List.getElem?_eq_some_iff.1 hfa).1] at h1
   rw [hr] at h2
   simp only [Option.some.injEq] at h1 h2
   subst h1 h2
   rw [hfoot] at hb
   exact .inl (.inr (mem_actsFoot hfa hr hb))
  ·rw [List.getElem?_set,if_neg hij] at h1
   exact .inl (.inr (mem_actsFoot h1 h2 hb))
theorem HeapOwn.nodup {v:Value} {rows:List (Value × Ob)} (h:HeapOwn w base v rows):(vB v ++ rowsB rows).Nodup:=by
 have one:∀ u:Value,(vB u).Nodup:=fun u => by unfold vB; split <;> simp
 refine List.nodup_append.2 ⟨one v,?_,fun a ha b hb e => ?_⟩
 ·have key:∀ l:List (Value × Ob),(∀ (i k:Nat) p q,l[i]? = some p → l[k]? = some q → i ≠ k → p.1.ownBlock = none ∨ p.1.ownBlock ≠ q.1.ownBlock) → (rowsB l).Nodup:=by
   intro l
   induction l with
   | nil => intro _; simp [rowsB]
   | cons p l ih =>
    intro ha
    show (vB p.1 ++ rowsB l).Nodup
    refine List.nodup_append.2 ⟨one p.1,ih (fun i k p' q' h1 h2 hik => ha (i + 1) (k + 1) p' q' (by simpa using h1) (by simpa using h2) (by omega)),fun a ha' b hb e => ?_⟩
    subst e
    obtain ⟨q,hq,hb⟩:=List.mem_flatMap.1 hb
    obtain ⟨i,hi,e⟩:=List.mem_iff_getElem.1 hq
    have:=ha 0 (i + 1) p q rfl (by simp [List.getElem?_eq_getElem hi,e]) (by omega)
    rw [mem_vB] at ha' hb
    rw [ha',hb] at this
    simp at this
  exact key rows h.apart
 ·subst e
  obtain ⟨q,hq,hb⟩:=List.mem_flatMap.1 hb
  obtain ⟨i,hi,e⟩:=List.mem_iff_getElem.1 hq
  have hrow:=(h.row i q (by rw [List.getElem?_eq_getElem hi,e])).1
  rw [mem_vB] at ha hb
  rcases owns_other h.top hrow (Ne.symm tne) with h1 | h1
  ·rw [h1] at ha; cases ha
  ·rw [ha,hb] at h1; exact h1 rfl
theorem WdOwn.setHeap (h:WdOwn w base Bw V av pv fl rs) (hfa:fl[j]? = some fa) (hr:rs[j]? = some r) (hx:V.acts[j]? = some x) {g n c:Nat} (hav:av = .slice (some ⟨g,0,none⟩) n c) {M:Int} {oa:Option Addr} {oc:Nat} {s:List (Value × Ob)} {l:List Ob} (hs:s.map (·.2) = l)
  (hH:HeapOwn w base (.slice oa l.length oc) s) (hfresh:∀ b ∈ vB (.slice oa l.length oc) ++ rowsB s,b ∉ wdFoot Bw av pv fl rs) :
  WdOwn ((w.setCell ⟨g,j * 8 + 2,none⟩ (.int .i64 M)).setCell ⟨g,j * 8 + 3,none⟩ (.slice oa l.length oc)) base Bw { V with acts:=V.acts.set j (x.heap M l) } av pv (fl.set j { fa with M:=M,oa:=oa,on:=l.length,oc:=oc }) (rs.set j s):=by
 have hA:=h.each j fa r x hfa hr hx
 have hgav:g ∈ vB av:=by rw [mem_vB,hav]; rfl
 have hoth:∀ b,b ≠ g → ((w.setCell ⟨g,j * 8 + 2,none⟩ (.int .i64 M)).setCell ⟨g,j * 8 + 3,none⟩ (.slice oa l.length oc)).heap[b]? = w.heap[b]?:=fun b hb => two_other _ _ _ _ hb
 have hgf:∀ b ∈ acFoot fa r,b ≠ g:=fun b hb e => (h.apart1 j fa r hfa hr).2 b hb (by rw [e]; simp [hgav])
 have hgn:∀ b ∈ vB (.slice oa l.length oc) ++ rowsB s,b ≠ g:=fun b hb e => hfresh b hb (List.mem_append_left _ (by rw [e]; simp [hgav]))
 have hrow0:=h.acts
 rw [hav] at hrow0
 have r1:=SeqOwn.set1 (f:=fAc) (s:=8) (fun _ => rfl) hrow0 (i:=j) (k:=2) (u:=.int .i64 M) (x:=fa) (y:={ fa with M:=M }) hfa (by omega) rfl
 have r2:=SeqOwn.set1 (f:=fAc) (s:=8) (fun _ => rfl) r1 (i:=j) (k:=3) (u:=.slice oa l.length oc) (x:={ fa with M:=M }) (y:={ fa with M:=M,oa:=oa,on:=l.length,oc:=oc }) (by rw [List.getElem?_set,if_pos rfl,if_pos (List.getElem?_eq_some_iff.1 hfa).1]) (by omega) rfl
 rw [List.set_set,← hav] at r2
 have hnd:=(h.apart1 j fa r hfa hr).1
 have hn1:=List.nodup_append.1 hnd
 refine h.replace hfa hr r2 ⟨hA.kind,hA.par,rfl,rfl,hA.rn,hA.pc,hA.bn,hA.fin,hs,hH.at_block (fun b hb => hoth b (hgn b hb)),ownsRow_at_block hA.regs (fun b hb => hoth b (hgf b (List.mem_append_right _ (List.mem_append_left _ hb)))),ownsRow_at_block hA.box (fun b hb => hoth b (hgf b (List.mem_append_right _ (List.mem_append_right _ hb))))⟩
  (fun b _ hb _ => hoth b (fun e => hb (by rw [e]; exact hgav))) ?_ (fun b hb => ?_)
 ·refine List.nodup_append.2 ⟨hH.nodup,hn1.2.1,fun a ha b hb e => ?_⟩
  subst e
  exact hfresh a ha (List.mem_append_right _ (mem_actsFoot hfa hr (List.mem_append_right _ hb)))
 ·rcases List.mem_append.1 hb with hb | hb
  ·exact .inr (hfresh b hb)
  ·exact .inl (List.mem_append_right _ hb)
end
end
section
open Go.RowKit
section
variable {w w2:World} {base Bw:Nat} {V:Wd} {av pv:Value} {fl:List Fa} {rs:List (List (Value × Ob))} {j:Nat} {fa fb:Fa} {r s:List (Value × Ob)} {y:Ac}
theorem WdOwn.update1 (h:WdOwn w base Bw V av pv fl rs) (hfa:fl[j]? = some fa) (hr:rs[j]? = some r) {g n c:Nat} (hav:av = .slice (some ⟨g,0,none⟩) n c) {k:Nat} (hk:k < 8) {u:Value}
  (hfr:∀ b ∈ wdFoot Bw av pv fl rs,b ∉ acFoot fa r → w2.heap[b]? = w.heap[b]?) (hf:fAc fb = (fAc fa).set k u) (hnew:AcOwn w2 base fb s y) (hnd:(acFoot fb s).Nodup) (hin:∀ b ∈ acFoot fb s,b ∈ acFoot fa r ∨ b ∉ wdFoot Bw av pv fl rs) :
  WdOwn (w2.setCell ⟨g,j * 8 + k,none⟩ u) base Bw { V with acts:=V.acts.set j y } av pv (fl.set j fb) (rs.set j s):=by
 have hgav:g ∈ vB av:=by rw [mem_vB,hav]; rfl
 have hgw:g ∈ wdFoot Bw av pv fl rs:=List.mem_append_left _ (by simp [hgav])
 have hgf:∀ b ∈ acFoot fa r,b ≠ g:=fun b hb e => (h.apart1 j fa r hfa hr).2 b hb (by rw [e]; simp [hgav])
 have hgn:∀ b ∈ acFoot fb s,b ≠ g:=fun b hb => by
  rcases hin b hb with h1 | h1
  ·exact hgf b h1
  ·intro e; exact h1 (by rw [e]; exact hgw)
 have hoth:∀ b,b ≠ g → (w2.setCell ⟨g,j * 8 + k,none⟩ u).heap[b]? = w2.heap[b]?:=fun b hb => Deep.blk_setCell_other _ ⟨g,j * 8 + k,none⟩ _ _ hb
 have hrow0:SeqOwn fAc 8 42 w2 base av fl:=ownsRow_at_block h.acts (fun b hb => hfr b (List.mem_append_left _ (by simp [hb])) (fun hb' => (h.apart1 j fa r hfa hr).2 b hb' (by simp [hb])))
 rw [hav] at hrow0
 have hrow:=SeqOwn.set1 (f:=fAc) (s:=8) (fun _ => rfl) hrow0 (i:=j) (k:=k) (u:=u) (x:=fa) (y:=fb) hfa hk hf
 rw [← hav] at hrow
 exact h.replace hfa hr hrow (hnew.at_block (fun b hb => hoth b (hgn b hb))) (fun b hb1 hb2 hb3 => (hoth b (fun e => hb2 (by rw [e]; exact hgav))).trans (hfr b hb1 hb3)) hnd hin
theorem WdOwn.setPrints (h:WdOwn w base Bw V av pv fl rs) (hfr:∀ b ∈ wdFoot Bw av pv fl rs,b ∉ vB pv → w2.heap[b]? = w.heap[b]?) {pv2:Value} {l:List (Int × Int)} (hnew:SeqOwn fTl 2 71 w2 base pv2 l)
  (hin:∀ b ∈ vB pv2,b ∈ vB pv ∨ b ∉ wdFoot Bw av pv fl rs):WdOwn (w2.setCell ⟨Bw,1,none⟩ pv2) base Bw { V with prints:=l } av pv2 fl rs:=by
 have h0:=List.nodup_cons.1 h.apart0
 have h00:=List.nodup_append.1 h0.2
 have hBin:∀ b ∈ vB pv2,b ≠ Bw:=fun b hb e => by
  rcases hin b hb with h1 | h1
  ·exact h0.1 (by rw [← e]; simp [h1])
  ·exact h1 (List.mem_append_left _ (by simp [e]))
 have hoth:∀ b,b ≠ Bw → (w2.setCell ⟨Bw,1,none⟩ pv2).heap[b]? = w2.heap[b]?:=fun b hb => Deep.blk_setCell_other _ ⟨Bw,1,none⟩ _ _ hb
 have hBw:w2.heap[Bw]? = some (.cells #[av,pv] 29 (0,0)):=(hfr Bw (List.mem_append_left _ (by simp)) (fun hb => h0.1 (by simp [hb]))).trans h.box
 have hav:∀ b ∈ vB av,b ≠ Bw ∧ b ∉ vB pv:=fun b hb => ⟨fun e => h0.1 (by rw [← e]; simp [hb]),fun hb' => h00.2.2 b hb b hb' rfl⟩
 have hac:∀ (i:Nat) g t,fl[i]? = some g → rs[i]? = some t → ∀ b ∈ acFoot g t,(w2.setCell ⟨Bw,1,none⟩ pv2).heap[b]? = w.heap[b]?:=fun i g t h1 h2 b hb => by
  have hn:=(h.apart1 i g t h1 h2).2 b hb
  simp only [List.mem_cons,List.mem_append,not_or] at hn
  exact (hoth b hn.1).trans (hfr b (List.mem_append_right _ (mem_actsFoot h1 h2 hb)) hn.2.2)
 have hdis:∀ b ∈ vB pv2,b ∉ vB av:=fun b hb hb' => by
  rcases hin b hb with h1 | h1
  ·exact (hav b hb').2 h1
  ·exact h1 (List.mem_append_left _ (by simp [hb']))
 refine ⟨?_,ownsRow_at_block h.acts (fun b hb => (hoth b (hav b hb).1).trans (hfr b (List.mem_append_left _ (by simp [hb])) (hav b hb).2)),ownsRow_at_block hnew (fun b hb => hoth b (hBin b hb)),h.flen,h.rlen,fun i g t x h1 h2 h3 => (h.each i g t x h1 h2 h3).at_block (hac i g t h1 h2),?_,fun i g t h1 h2 => ⟨(h.apart1 i g t h1 h2).1,fun b hb hb' => ?_⟩,h.apart2⟩
 ·have:=setCell_blk hBw 1 pv2
  rw [this]
  rfl
 ·refine List.nodup_cons.2 ⟨fun hb => ?_,List.nodup_append.2 ⟨h00.1,by unfold vB; split <;> simp,fun a ha b hb e => hdis b hb (by rw [← e]; exact ha)⟩⟩
  rcases List.mem_append.1 hb with hb | hb
  ·exact (hav Bw hb).1 rfl
  ·exact hBin Bw hb rfl
 ·have hn:=(h.apart1 i g t h1 h2).2 b hb
  simp only [List.mem_cons,List.mem_append,not_or] at hn hb'
  rcases hb' with hb' | hb' | hb'
  ·exact hn.1 hb'
  ·exact hn.2.1 hb'
  ·rcases hin b hb' with h5 | h5
   ·exact hn.2.2 h5
   ·exact h5 (List.mem_append_right _ (mem_actsFoot h1 h2 hb))
theorem WdOwn.push (h:WdOwn w base Bw V av pv fl rs) (hfr:∀ b ∈ wdFoot Bw av pv fl rs,b ∉ vB av → w2.heap[b]? = w.heap[b]?) {av2:Value} (hrow:SeqOwn fAc 8 42 w2 base av2 (fl ++ [fb])) (hin:∀ b ∈ vB av2,b ∈ vB av ∨ b ∉ wdFoot Bw av pv fl rs)
  (hnew:AcOwn w2 base fb s y) (hnd:(acFoot fb s).Nodup) (hfresh:∀ b ∈ acFoot fb s,b ∉ wdFoot Bw av pv fl rs ∧ b ∉ vB av2) :
  WdOwn (w2.setCell ⟨Bw,0,none⟩ av2) base Bw { V with acts:=V.acts ++ [y] } av2 pv (fl ++ [fb]) (rs ++ [s]):=by
 have h0:=List.nodup_cons.1 h.apart0
 have h00:=List.nodup_append.1 h0.2
 have hBin:∀ b ∈ vB av2,b ≠ Bw:=fun b hb e => by
  rcases hin b hb with h1 | h1
  ·exact h0.1 (by rw [← e]; simp [h1])
  ·exact h1 (List.mem_append_left _ (by simp [e]))
 have hoth:∀ b,b ≠ Bw → (w2.setCell ⟨Bw,0,none⟩ av2).heap[b]? = w2.heap[b]?:=fun b hb => Deep.blk_setCell_other _ ⟨Bw,0,none⟩ _ _ hb
 have hBw:w2.heap[Bw]? = some (.cells #[av,pv] 29 (0,0)):=(hfr Bw (List.mem_append_left _ (by simp)) (fun hb => h0.1 (by simp [hb]))).trans h.box
 have hpv:∀ b ∈ vB pv,b ≠ Bw ∧ b ∉ vB av:=fun b hb => ⟨fun e => h0.1 (by rw [← e]; simp [hb]),fun hb' => h00.2.2 b hb' b hb rfl⟩
 have hac:∀ (i:Nat) g t,fl[i]? = some g → rs[i]? = some t → ∀ b ∈ acFoot g t,(w2.setCell ⟨Bw,0,none⟩ av2).heap[b]? = w.heap[b]?:=fun i g t h1 h2 b hb => by
  have hn:=(h.apart1 i g t h1 h2).2 b hb
  simp only [List.mem_cons,List.mem_append,not_or] at hn
  exact (hoth b hn.1).trans (hfr b (List.mem_append_right _ (mem_actsFoot h1 h2 hb)) hn.2.1)
 have hdis:∀ b ∈ vB av2,b ∉ vB pv:=fun b hb hb' => by
  rcases hin b hb with h1 | h1
  ·exact (hpv b hb').2 h1
  ·exact h1 (List.mem_append_left _ (by simp [hb']))
 have hlen:fl.length = rs.length:=h.flen.trans h.rlen.symm
 have hget:∀ {i:Nat} {g:Fa} {t:List (Value × Ob)},(fl ++ [fb])[i]? = some g → (rs ++ [s])[i]? = some t → (i = fl.length ∧ g = fb ∧ t = s) ∨ (fl[i]? = some g ∧ rs[i]? = some t):=fun {i g t} h1 h2 => by
  by_cases hi:i < fl.length
  ·rw [List.getElem?_append_left hi] at h1
   rw [List.getElem?_append_left (by omega)] at h2
   exact .inr ⟨h1,h2⟩
  ·have e:i = fl.length:=by
    have:=(List.getElem?_eq_some_iff.1 h1).1
    simp at this
    omega
   subst e
   rw [List.getElem?_append_right (Nat.le_refl _)] at h1
   rw [List.getElem?_append_right (by omega)] at h2
   simp [hlen] at h1 h2
   exact .inl ⟨rfl,h1.symm,h2.symm⟩
 have hnB:∀ b ∈ acFoot fb s,b ≠ Bw:=fun b hb e => (hfresh b hb).1 (List.mem_append_left _ (by simp [e]))
 refine ⟨?_,ownsRow_at_block hrow (fun b hb => hoth b (hBin b hb)),ownsRow_at_block h.prints (fun b hb => (hoth b (hpv b hb).1).trans (hfr b (List.mem_append_left _ (by simp [hb])) (hpv b hb).2)),by simp [h.flen],by simp [h.rlen],fun i g t x h1 h2 h3 => ?_,?_,fun i g t h1 h2 => ?_,fun i i' g t g' t' hii h1 h2 h3 h4 b hb hb' => ?_⟩
 ·have:=setCell_blk hBw 0 av2
  rw [this]
  rfl
 ·rcases hget h1 h2 with ⟨rfl,rfl,rfl⟩ | ⟨q1,q2⟩
  ·simp only at h3
   rw [List.getElem?_append_right (by rw [h.flen]; exact Nat.le_refl _)] at h3
   simp [h.flen] at h3
   subst h3
   exact hnew.at_block (fun b hb => hoth b (hnB b hb))
  ·have hi:i < V.acts.length:=by rw [← h.flen]; exact (List.getElem?_eq_some_iff.1 q1).1
   simp only at h3
   rw [List.getElem?_append_left hi] at h3
   exact (h.each i g t x q1 q2 h3).at_block (hac i g t q1 q2)
 ·refine List.nodup_cons.2 ⟨fun hb => ?_,List.nodup_append.2 ⟨by unfold vB; split <;> simp,h00.2.1,fun a ha b hb e => hdis a ha (by rw [e]; exact hb)⟩⟩
  rcases List.mem_append.1 hb with hb | hb
  ·exact hBin Bw hb rfl
  ·exact (hpv Bw hb).1 rfl
 ·rcases hget h1 h2 with ⟨rfl,rfl,rfl⟩ | ⟨q1,q2⟩
  ·refine ⟨hnd,fun b hb hb' => ?_⟩
   simp only [List.mem_cons,List.mem_append] at hb'
   rcases hb' with hb' | hb' | hb'
   ·exact hnB b hb hb'
   ·exact (hfresh b hb).2 hb'
   ·exact (hfresh b hb).1 (List.mem_append_left _ (by simp [hb']))
  ·refine ⟨(h.apart1 i g t q1 q2).1,fun b hb hb' => ?_⟩
   have hn:=(h.apart1 i g t q1 q2).2 b hb
   simp only [List.mem_cons,List.mem_append,not_or] at hn hb'
   rcases hb' with hb' | hb' | hb'
   ·exact hn.1 hb'
   ·rcases hin b hb' with h5 | h5
    ·exact hn.2.1 h5
    ·exact h5 (List.mem_append_right _ (mem_actsFoot q1 q2 hb))
   ·exact hn.2.2 hb'
 ·rcases hget h1 h2 with ⟨rfl,rfl,rfl⟩ | ⟨q1,q2⟩
  ·rcases hget h3 h4 with ⟨rfl,_,_⟩ | ⟨q3,q4⟩
   ·exact hii rfl
   ·exact (hfresh b hb).1 (List.mem_append_right _ (mem_actsFoot q3 q4 hb'))
  ·rcases hget h3 h4 with ⟨rfl,rfl,rfl⟩ | ⟨q3,q4⟩
   ·exact (hfresh b hb').1 (List.mem_append_right _ (mem_actsFoot q1 q2 hb))
   ·exact h.apart2 i i' g t g' t' hii q1 q2 q3 q4 b hb hb'
end
end
section
open Go.RowKit
section
variable {w:World} {base Bw:Nat} {V:Wd} {av pv:Value} {fl:List Fa} {rs:List (List (Value × Ob))} {j:Nat} {fa:Fa} {r:List (Value × Ob)} {x:Ac}
theorem WdOwn.bw (h:WdOwn w base Bw V av pv fl rs):w.cell? ⟨Bw,0,none⟩ = some av ∧ w.cell? ⟨Bw,1,none⟩ = some pv ∧ ∀ i,w.frozen? ⟨Bw,i,none⟩ = false:=⟨cell_blk h.box 0,cell_blk h.box 1,fun i => fz_blk h.box i⟩
theorem WdOwn.at (h:WdOwn w base Bw V av pv fl rs) (hx:V.acts[j]? = some x):∃ fa r g c,fl[j]? = some fa ∧ rs[j]? = some r ∧ AcOwn w base fa r x ∧ av = .slice (some ⟨g,0,none⟩) V.acts.length c:=by
 have hj:=(List.getElem?_eq_some_iff.1 hx).1
 obtain ⟨fa,hfa⟩:=at_some (l:=fl) (i:=j) (by rw [h.flen]; exact hj)
 obtain ⟨r,hr⟩:=at_some (l:=rs) (i:=j) (by rw [h.rlen]; exact hj)
 rcases ownsRow_form h.acts with ⟨_,h0⟩ | ⟨g,c,e,_⟩
 ·rw [h.flen] at h0; omega
 ·exact ⟨fa,r,g,c,hfa,hr,h.each j fa r x hfa hr hx,by rw [← h.flen]; exact e⟩
theorem WdOwn.cell (h:WdOwn w base Bw V av pv fl rs) (hfa:fl[j]? = some fa) {g n c:Nat} (hav:av = .slice (some ⟨g,0,none⟩) n c) {k:Nat} {u:Value} (hk:(fAc fa)[k]? = some u):w.cell? ⟨g,j * 8 + k,none⟩ = some u:=by
 have hS:=h.acts
 rw [hav] at hS
 obtain ⟨b,o,e,hc⟩:=SeqOwn.at (f:=fAc) (s:=8) (fun _ => rfl) hS j fa hfa
 simp only [Option.some.injEq,Addr.mk.injEq,and_true] at e
 obtain ⟨rfl,rfl⟩:=e
 have:=hc k u hk
 rwa [Nat.zero_add] at this
theorem WdOwn.fz (h:WdOwn w base Bw V av pv fl rs) {g n c:Nat} (hav:av = .slice (some ⟨g,0,none⟩) n c) (i:Nat):w.frozen? ⟨g,i,none⟩ = false:=ownsRow_frozen h.acts (by rw [hav]; rfl) i
theorem WdOwn.cells (h:WdOwn w base Bw V av pv fl rs) (hx:V.acts[j]? = some x):∃ fa r g c R,fl[j]? = some fa ∧ rs[j]? = some r ∧ AcOwn w base fa r x ∧ av = .slice (some ⟨g,0,none⟩) V.acts.length c ∧ (0 < x.regs.length → fa.ra = some ⟨R,0,none⟩) ∧
  w.cell? ⟨g,j * 8,none⟩ = some (.int .i64 x.kind) ∧ w.cell? ⟨g,j * 8 + 1,none⟩ = some (.int .i64 x.par) ∧ w.cell? ⟨g,j * 8 + 2,none⟩ = some (.int .i64 x.M) ∧ w.cell? ⟨g,j * 8 + 3,none⟩ = some (.slice fa.oa x.obs.length fa.oc) ∧
  w.cell? ⟨g,j * 8 + 4,none⟩ = some (.slice fa.ra x.regs.length fa.rc) ∧ w.cell? ⟨g,j * 8 + 5,none⟩ = some (.int .i64 x.pc) ∧ w.cell? ⟨g,j * 8 + 6,none⟩ = some (.slice fa.ba x.box.length fa.bc) ∧ w.cell? ⟨g,j * 8 + 7,none⟩ = some (.int .i64 x.fin):=by
 obtain ⟨fa,r,g,c,hfa,hr,hA,hav⟩:=h.at hx
 have hR:∃ R,0 < x.regs.length → fa.ra = some ⟨R,0,none⟩:=by
  rcases ownsRow_form hA.regs with ⟨e,h0⟩ | ⟨R,c',e,_⟩
  ·exact ⟨0,fun h1 => by omega⟩
  ·simp only [Value.slice.injEq] at e
   exact ⟨R,fun _ => e.1⟩
 obtain ⟨R,hR⟩:=hR
 have k0:=h.cell hfa hav (k:=0) rfl
 have k1:=h.cell hfa hav (k:=1) rfl
 have k2:=h.cell hfa hav (k:=2) rfl
 have k3:=h.cell hfa hav (k:=3) rfl
 have k4:=h.cell hfa hav (k:=4) rfl
 have k5:=h.cell hfa hav (k:=5) rfl
 have k6:=h.cell hfa hav (k:=6) rfl
 have k7:=h.cell hfa hav (k:=7) rfl
 rw [hA.kind] at k0
 rw [hA.par] at k1
 rw [hA.M] at k2
 rw [hA.on] at k3
 rw [hA.rn] at k4
 rw [hA.pc] at k5
 rw [hA.bn] at k6
 rw [hA.fin] at k7
 exact ⟨fa,r,g,c,R,hfa,hr,hA,hav,hR,k0,k1,k2,k3,k4,k5,k6,k7⟩
theorem AcOwn.reg (h:AcOwn w base fa r x) {q:Nat} {v:Vl} (hq:x.regs[q]? = some v):∃ R,fa.ra = some ⟨R,0,none⟩ ∧ w.cell? ⟨R,q * 2,none⟩ = some (.int .i64 v.k) ∧ w.cell? ⟨R,q * 2 + 1,none⟩ = some (.int .i64 v.n) ∧ ∀ i,w.frozen? ⟨R,i,none⟩ = false:=by
 have hlt:=(List.getElem?_eq_some_iff.1 hq).1
 rcases ownsRow_form h.regs with ⟨_,h0⟩ | ⟨R,c,e,_⟩
 ·omega
 ·simp only [Value.slice.injEq] at e
  have hS:=h.regs
  rw [e.1] at hS
  obtain ⟨b,o,e',hc⟩:=SeqOwn.at (f:=fVl) (s:=2) (fun _ => rfl) hS q v hq
  simp only [Option.some.injEq,Addr.mk.injEq,and_true] at e'
  obtain ⟨rfl,rfl⟩:=e'
  have h1:=hc 0 _ rfl
  have h2:=hc 1 _ rfl
  simp only [Nat.zero_add,Nat.add_zero] at h1 h2
  exact ⟨R,e.1,h1,h2,fun i => ownsRow_frozen hS rfl i⟩
end
end
section
open Go.RowKit
variable {P:Program}
theorem run_copy_rowk (k:Nat) (w:World) (dT sT ty elem:TypeId) (g o dLen dCap:Nat) (a:Addr) (sLen sCap:Nat) (cur:Array Value) (t:TypeId) (cs:List Value)
  (hu:P.underlying dT = some (.slice elem)) (hs:(P.info? elem).map (·.size) = some k)
  (hg:w.heap[g]? = some (.cells cur t (0,0))) (hn:cs.length = Nat.min sLen dLen * k)
  (hsrc:∀ j v,cs[j]? = some v → w.cell? (a.add j) = some v) (hfit:o + cs.length ≤ cur.size) (h1:∀ v ∈ cs,v.oneCell' = true) :
  (Builtin.copy_ #[dT,sT] ty #[.slice (some ⟨g,o,none⟩) dLen dCap,.slice (some a) sLen sCap]).run P w =
   .ok (goInt (Nat.min sLen dLen)) (w.setRow g (cur.toList.take o ++ cs ++ cur.toList.drop (o + cs.length)).toArray):=by
 have hl:=run_loadCells_list (P:=P) w a cs hsrc
 have hst:=run_storeCells_at P g o t cs 0 cur w hg (by simpa using hfit) h1
 cases hq:P.info? elem with
 | none => simp [hq] at hs
 | some i =>
  have hi:i.size = k:=by simpa [hq] using hs
  simp [Builtin.copy_,run_underlying hu,Builtin.lenOf,Builtin.firstCells,sizeOf,typeInfo,hq,hi,← hn,hl,hst]
theorem run_copy_nonek (k:Nat) (w:World) (dT sT ty elem:TypeId) (d a:Option Addr) (dLen dCap sLen sCap:Nat) (hu:P.underlying dT = some (.slice elem)) (hs:(P.info? elem).map (·.size) = some k) (hn:Nat.min sLen dLen = 0) :
  (Builtin.copy_ #[dT,sT] ty #[.slice d dLen dCap,.slice a sLen sCap]).run P w = .ok (goInt 0) w:=by
 cases hq:P.info? elem with
 | none => simp [hq] at hs
 | some i =>
  have hl:∀ (x:Addr),(loadCells x 0).run P w = .ok #[] w:=fun x => by simpa using run_loadCells_list (P:=P) w x [] (by simp)
  cases d <;> cases a <;> simp [Builtin.copy_,run_underlying hu,Builtin.lenOf,Builtin.firstCells,sizeOf,typeInfo,hq,hn,storeCells,hl]
theorem run_copy_full (k:Nat) (w:World) (dT sT ty elem:TypeId) (hu:P.underlying dT = some (.slice elem)) (hsz:(P.info? elem).map (·.size) = some k)
  (g n dCap:Nat) (sp:Option Addr) (sCap:Nat) (cur:Array Value) (t:TypeId) (hg:w.heap[g]? = some (.cells cur t (0,0))) (cs:List Value) (hn:cs.length = n * k) (hcur:cur.size = cs.length)
  (hsrc:0 < n → ∃ ad,sp = some ad ∧ ∀ j v,cs[j]? = some v → w.cell? (ad.add j) = some v) (h1:∀ v ∈ cs,v.oneCell' = true) :
  (Builtin.copy_ #[dT,sT] ty #[.slice (some ⟨g,0,none⟩) n dCap,.slice sp n sCap]).run P w = .ok (goInt n) (w.setRow g cs.toArray):=by
 have hmin:Nat.min n n = n:=Nat.min_self n
 by_cases h0:n = 0
 ·subst h0
  have hcs:cs = []:=List.eq_nil_of_length_eq_zero (by simpa using hn)
  subst hcs
  have hc0:cur = #[]:=Array.eq_empty_of_size_eq_zero (by simpa using hcur)
  subst hc0
  have hrun:=run_copy_nonek (P:=P) k w dT sT ty elem (some ⟨g,0,none⟩) sp 0 dCap 0 sCap hu hsz rfl
  rw [hrun,setRow_self w g #[] t (0,0) hg]; rfl
 ·obtain ⟨ad,rfl,hc⟩:=hsrc (by omega)
  have hrun:=run_copy_rowk (P:=P) k w dT sT ty elem g 0 n dCap ad n sCap cur t cs hu hsz hg (by rw [hmin]; exact hn) hc (by omega) h1
  have e:(cur.toList.take 0 ++ cs ++ cur.toList.drop (0 + cs.length)).toArray = cs.toArray:=by
   have:cur.toList.drop (0 + cs.length) = []:=List.drop_eq_nil_of_le (by simp; omega)
   rw [this]; simp
  rw [e,hmin] at hrun
  exact hrun
theorem step_copy {ops:Array Oper} {o:Oper} {a:Act} {w:World} {K:Act → World → Prop} {Q:Exit → Act → World → Prop} {E:Prop} (hg:o.guard = none) (d s:Operand) (dT sT:TypeId)
  (hop:o.op = Op.call { callee:=Callee.builtin Builtin.copy,args:=#[d,s],argTypes:=#[dT,sT] }) (dv sv:Value) (hd:a.eval d = dv) (hs:a.eval s = sv) (r:Value) (w':World)
  (hrun:(Builtin.copy_ #[dT,sT] o.type #[dv,sv]).run P w = .ok r w') (hK:K (a.put o.dst r) w') :
  if Region.wanted o (yielded ops a.tmps) = true then Oper.wp P o a w K Q else E:=by
 have hw:Region.wanted o (yielded ops a.tmps) = true:=by simp [Region.wanted,hg]
 rw [if_pos hw]
 unfold Oper.wp
 simp [execOp,hop,resolve,invoke,builtin,hd,hs,hrun,Result.andThen]
 exact hK
end
end Go.Proofs.YtddokajfafmhhaaGreatDoor
