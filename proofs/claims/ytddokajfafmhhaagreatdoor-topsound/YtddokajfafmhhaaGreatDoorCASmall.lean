/- AOver WOwn5 WOwn6 APerf0 ASmall. -/
import Derived.Deep.Light
import Derived.Deep.LoopGhost
import Derived.Test.YtddokajfafmhhaaGreatDoorChecked
import Derived.WalkKit
import Derived.WalkLawsBesides
import Derived.WalkSpells
import Derived.Test.YtddokajfafmhhaaGreatDoorCHPureM
import Derived.Test.YtddokajfafmhhaaGreatDoorCHCopyL
namespace Go.Proofs.YtddokajfafmhhaaGreatDoor
section
open Go.RowKit
structure Wrote (w w':World) (F:List Nat):Prop where
 os:w'.os = w.os
 tape:w'.tape = w.tape
 output:w'.output = w.output
 size:w'.heap.size = w.heap.size
 other:∀ b,b ∉ F → w'.heap[b]? = w.heap[b]?
theorem Wrote.moved {w w':World} {F G:List Nat} (h:Wrote w w' F) (hg:∀ b ∈ F,b ∈ G):Moved w w' G G :=
 ⟨h.os,h.tape,h.output,Nat.le_of_eq h.size.symm,fun b _ hb => h.other b (fun e => hb (hg b e)),fun _ hb => .inl hb⟩
theorem Wrote.refl (w:World) (F:List Nat):Wrote w w F:=⟨rfl,rfl,rfl,rfl,fun _ _ => rfl⟩
theorem Wrote.trans {a b c:World} {F:List Nat} (h:Wrote a b F) (k:Wrote b c F):Wrote a c F :=
 ⟨k.os.trans h.os,k.tape.trans h.tape,k.output.trans h.output,k.size.trans h.size,fun x hx => (k.other x hx).trans (h.other x hx)⟩
theorem wrote_setRow (w:World) (g:Nat) (cs:Array Value):Wrote w (w.setRow g cs) [g] :=
 ⟨rfl,rfl,rfl,by simp,fun b hb => setRow_other w g b cs (by simpa using hb)⟩
section
variable {α:Type} {f:α → List Value} {s:Nat} {e:TypeId}
theorem flat_take (hf:∀ x,(f x).length = s):∀ (l:List α) (i:Nat),(l.take i).flatMap f = (l.flatMap f).take (i * s)
 | [],i => by simp
 | x :: r,0 => by simp
 | x :: r,i + 1 => by
  simp only [List.take_succ_cons,List.flatMap_cons]
  have h1:(f x).take ((i + 1) * s) = f x:=List.take_of_length_le (by rw [hf,Nat.add_mul]; omega)
  rw [List.take_append,h1,hf,show (i + 1) * s - s = i * s by rw [Nat.add_mul]; omega,flat_take hf r i]
theorem flat_drop (hf:∀ x,(f x).length = s):∀ (l:List α) (i:Nat),(l.drop i).flatMap f = (l.flatMap f).drop (i * s)
 | [],i => by simp
 | x :: r,0 => by simp
 | x :: r,i + 1 => by
  simp only [List.drop_succ_cons,List.flatMap_cons]
  have h1:(f x).drop ((i + 1) * s) = []:=List.drop_of_length_le (by rw [hf,Nat.add_mul]; omega)
  rw [List.drop_append,h1,hf,show (i + 1) * s - s = i * s by rw [Nat.add_mul]; omega,flat_drop hf r i,List.nil_append]
theorem flat_len (hf:∀ x,(f x).length = s):∀ (l:List α),(l.flatMap f).length = l.length * s
 | [] => by simp
 | x :: r => by rw [List.flatMap_cons,List.length_append,hf,flat_len hf r,List.length_cons,Nat.add_mul]; omega
theorem take_over (c ys:List Value) (a m:Nat) (h1:a + ys.length ≤ m) (h2:m ≤ c.length):(c.take a ++ ys ++ c.drop (a + ys.length)).take m = (c.take m).take a ++ ys ++ (c.take m).drop (a + ys.length):=by
 rw [List.take_append,List.take_of_length_le (by rw [List.length_append,List.length_take]; omega),List.take_take,Nat.min_eq_left (by omega),List.drop_take]
 rw [List.length_append,List.length_take,Nat.min_eq_left (by omega)]
theorem seqOwn_over (hf:∀ x,(f x).length = s) {w:World} {base g n c:Nat} {l:List α} (h:SeqOwn f s e w base (.slice (some ⟨g,0,none⟩) n c) l) (i:Nat) (ys:List α) (hi:i + ys.length ≤ l.length) :
  ∃ cur,w.heap[g]? = some (.cells cur e (0,0)) ∧ i * s + (ys.flatMap f).length ≤ cur.size ∧
   SeqOwn f s e (w.setRow g (cur.toList.take (i * s) ++ ys.flatMap f ++ cur.toList.drop (i * s + (ys.flatMap f).length)).toArray) base (.slice (some ⟨g,0,none⟩) n c) (l.take i ++ ys ++ l.drop (i + ys.length)):=by
 rcases h.2 with ⟨hv,_⟩ | ⟨g',cap,cur,hv,hb,hg,h1,h2,h3,h4⟩
 ·simp at hv
 simp only [Value.slice.injEq,Option.some.injEq,Addr.mk.injEq,and_true] at hv
 obtain ⟨rfl,rfl,rfl⟩:=hv
 have hl:=flat_len hf ys
 have hls:l.length * s ≤ cur.toList.length:=by simp [h3]; exact Nat.mul_le_mul_right _ h1
 have hil:i * s + (ys.flatMap f).length ≤ l.length * s:=by rw [hl,← Nat.add_mul]; exact Nat.mul_le_mul_right _ hi
 have hlen:(l.take i ++ ys ++ l.drop (i + ys.length)).length = l.length:=by
  rw [List.length_append,List.length_append,List.length_take,List.length_drop,Nat.min_eq_left (by omega)]; omega
 have hfl:(l.take i ++ ys ++ l.drop (i + ys.length)).flatMap f = (l.flatMap f).take (i * s) ++ ys.flatMap f ++ (l.flatMap f).drop (i * s + (ys.flatMap f).length):=by
  rw [List.flatMap_append,List.flatMap_append,flat_take hf,flat_drop hf,hl,Nat.add_mul]
 refine ⟨cur,hg,by simp at hls; omega,?_⟩
 unfold SeqOwn
 rw [hlen,hfl]
 refine ⟨?_,.inr ⟨g,c,_,rfl,hb,setRow_heap _ _ _ _ _ _ hg,h1,h2,?_,?_⟩⟩
 ·have:=h.1
  simp only [List.length_append,List.length_take,List.length_drop]
  rw [this]
  omega
 ·simp only [List.size_toArray,List.length_append,List.length_take,List.length_drop,Array.length_toList,h3]
  simp [h3] at hls
  omega
 ·rw [List.toList_toArray,take_over _ _ _ _ hil hls,h4]
end
theorem zeroCells_vl (m:Nat):(Builtin.zeroCells #[.int .i64 0,.int .i64 0] m).toList = (List.replicate m nilV).flatMap fVl:=by
 have h1:(List.replicate m nilV).flatMap fVl = List.replicate (m * 2) (.int .i64 0):=by
  induction m with
  | zero => rfl
  | succ m ih => rw [List.replicate_succ,List.flatMap_cons,ih,show (m + 1) * 2 = m * 2 + 1 + 1 by omega,List.replicate_succ,List.replicate_succ]; rfl
 rw [h1]
 refine List.ext_getElem? fun j => ?_
 unfold Builtin.zeroCells
 rw [List.getElem?_replicate]
 by_cases hj:j < m * 2
 ·rw [if_pos hj]
  have h2:j % 2 = 0 ∨ j % 2 = 1:=by omega
  rcases h2 with h2 | h2 <;> simp [hj,h2]
 ·rw [if_neg hj]
  simp [hj]
set_option maxHeartbeats 400000 in
theorem clear_own {w:World} {base g n c:Nat} {l:List Vl} (h:SeqOwn fVl 2 86 w base (.slice (some ⟨g,0,none⟩) n c) l) (i m cap:Nat) (hi:i + (m + 1) ≤ l.length) (ty:TypeId) :
  ∃ w',(Builtin.clear_ #[40] ty #[.slice (some ⟨g,i * 2,none⟩) (m + 1) cap]).run Tryz.prog w = .ok (.tuple #[]) w' ∧ Wrote w w' [g] ∧ SeqOwn fVl 2 86 w' base (.slice (some ⟨g,0,none⟩) n c) (l.take i ++ List.replicate (m + 1) nilV ++ l.drop (i + (m + 1))):=by
 obtain ⟨cur,hg,hfit,hown⟩:=seqOwn_over (f:=fVl) (s:=2) (fun _ => rfl) h i (List.replicate (m + 1) nilV) (by simpa using hi)
 rw [List.length_replicate] at hown
 refine ⟨_,?_,wrote_setRow _ _ _,hown⟩
 have hz:(Tryz.prog.info? 86).map (fun i => i.zero) = some (some (.agg #[.int .i64 0,.int .i64 0])):=by kernel_rfl
 have hst:=run_storeCells_at (P:=Tryz.prog) g (i * 2) 86 ((List.replicate (m + 1) nilV).flatMap fVl) 0 cur w hg (by simpa using hfit) (fun u hu => by
  simp only [List.mem_flatMap] at hu
  obtain ⟨v,hv,hu⟩:=hu
  simp [fVl] at hu
  rcases hu with rfl | rfl <;> rfl)
 rw [Nat.add_zero,← zeroCells_vl] at hst
 rw [← zeroCells_vl]
 cases hq:Tryz.prog.info? 86 with
 | none => rw [hq] at hz; simp at hz
 | some inf =>
  rw [hq] at hz
  simp at hz
  simp [Builtin.clear_,run_underlying Tryz.underlying40,zeroValue,typeInfo,hq,hz,Value.cells,hst]
theorem copy_own {w:World} {base c:Nat} {da:Option Addr} {l:List Vl} (h:SeqOwn fVl 2 86 w base (.slice da l.length c) l) {sa:Option Addr} {ys:List Vl} (hs:ValsAt w sa ys) (hl:l.length ≤ ys.length) (sc:Nat) (ty:TypeId) :
  ∃ w',(Builtin.copy_ #[40,40] ty #[.slice da l.length c,.slice sa ys.length sc]).run Tryz.prog w = .ok (goInt l.length) w' ∧ Wrote w w' (vB (.slice da l.length c)) ∧ SeqOwn fVl 2 86 w' base (.slice da l.length c) (ys.take l.length):=by
 have hmin:Nat.min ys.length l.length = l.length:=Nat.min_eq_right hl
 have hi:(Tryz.prog.info? 86).map (·.size) = some 2:=by kernel_rfl
 by_cases h0:l.length = 0
 ·have hnil:l = []:=List.eq_nil_of_length_eq_zero h0
  subst hnil
  refine ⟨w,?_,Wrote.refl _ _,by simpa using h⟩
  exact run_copy_nonek (P:=Tryz.prog) 2 w _ _ ty 86 da sa 0 c ys.length sc Tryz.underlying40 hi (by simp)
 ·rcases h.2 with ⟨hv,_⟩ | ⟨g,cap,cur,hv,_⟩
  ·simp at hv; omega
  simp only [Value.slice.injEq] at hv
  obtain ⟨rfl,_,_⟩:=hv
  have htl:(ys.take l.length).length = l.length:=by rw [List.length_take]; omega
  obtain ⟨cur,hg,hfit,hown⟩:=seqOwn_over (f:=fVl) (s:=2) (fun _ => rfl) h 0 (ys.take l.length) (by omega)
  have hll:l.drop (0 + l.length) = []:=by simp
  rw [htl,hll] at hown
  rw [show l.take 0 ++ ys.take l.length ++ [] = ys.take l.length by simp] at hown
  obtain ⟨ad,e,hsrc⟩:=seq_src (f:=fVl) (s:=2) (fun _ => rfl) (by omega) (seqVl_of hs) (by omega)
  subst e
  have hfl:=flat_take (f:=fVl) (s:=2) (fun _ => rfl) ys l.length
  have:=run_copy_rowk (P:=Tryz.prog) 2 w 40 40 ty 86 g 0 l.length c ad ys.length sc cur _ ((ys.take l.length).flatMap fVl) Tryz.underlying40 hi hg
   (by rw [hmin,flat_len (f:=fVl) (s:=2) (fun _ => rfl),htl]) (fun j v hv => hsrc j v (by rw [hfl,List.getElem?_take] at hv; split at hv; exact hv; cases hv)) (by simpa using hfit) (fun u hu => by
    simp only [List.mem_flatMap] at hu
    obtain ⟨v,hv,hu⟩:=hu
    simp [fVl] at hu
    rcases hu with rfl | rfl <;> rfl)
  rw [hmin] at this
  exact ⟨_,this,⟨rfl,rfl,rfl,by simp,fun b hb => setRow_other w g b _ (fun e => hb (by rw [mem_vB,e]; rfl))⟩,hown⟩
section
variable {w w':World} {base Bw:Nat} {V:Wd} {av pv:Value} {fl:List Fa} {rs:List (List (Value × Ob))} {j:Nat} {fa:Fa} {r:List (Value × Ob)} {x:Ac}
theorem WdOwn.inRegs (h:WdOwn w base Bw V av pv fl rs) (hfa:fl[j]? = some fa) (hr:rs[j]? = some r) (hx:V.acts[j]? = some x) (hw:Wrote w w' (vB (.slice fa.ra fa.rn fa.rc))) {l:List Vl} (hown:SeqOwn fVl 2 86 w' base (.slice fa.ra fa.rn fa.rc) l) (hl:l.length = x.regs.length) :
  WdOwn w' base Bw { V with acts:=V.acts.set j { x with regs:=l } } av pv fl rs ∧ Moved w w' (wdFoot Bw av pv fl rs) (wdFoot Bw av pv fl rs):=by
 have hA:=h.each j fa r x hfa hr hx
 have hin:∀ b ∈ vB (.slice fa.ra fa.rn fa.rc),b ∈ acFoot fa r:=fun b hb => List.mem_append_right _ (List.mem_append_left _ hb)
 have hnd:=(h.apart1 j fa r hfa hr).1
 have hn1:=List.nodup_append.1 hnd
 have hn2:=List.nodup_append.1 hn1.2.1
 refine ⟨?_,hw.moved (fun b hb => List.mem_append_right _ (mem_actsFoot hfa hr (hin b hb)))⟩
 have hrow:SeqOwn fAc 8 42 w' base av (fl.set j fa):=by
  rw [set_same hfa]
  exact ownsRow_at_block h.acts (fun b hb => hw.other b (fun hb' => (h.apart1 j fa r hfa hr).2 b (hin b hb') (by simp [hb])))
 have:=h.replace hfa hr hrow (s:=r) (y:={ x with regs:=l }) ⟨hA.kind,hA.par,hA.M,hA.on,hA.rn.trans hl.symm,hA.pc,hA.bn,hA.fin,hA.obs,hA.heap.at_block (fun b hb => hw.other b (fun hb' => hn1.2.2 b hb b (List.mem_append_left _ hb') rfl)),hown,ownsRow_at_block hA.box (fun b hb => hw.other b (fun hb' => hn2.2.2 b hb' b hb rfl))⟩
  (fun b _ _ hb => hw.other b (fun hb' => hb (hin b hb'))) hnd (fun b hb => .inl hb)
 rwa [set_same hfa,set_same hr] at this
theorem WdOwn.inBox (h:WdOwn w base Bw V av pv fl rs) (hfa:fl[j]? = some fa) (hr:rs[j]? = some r) (hx:V.acts[j]? = some x) (hw:Wrote w w' (vB (.slice fa.ba fa.bn fa.bc))) {l:List Vl} (hown:SeqOwn fVl 2 86 w' base (.slice fa.ba fa.bn fa.bc) l) (hl:l.length = x.box.length) :
  WdOwn w' base Bw { V with acts:=V.acts.set j { x with box:=l } } av pv fl rs ∧ Moved w w' (wdFoot Bw av pv fl rs) (wdFoot Bw av pv fl rs):=by
 have hA:=h.each j fa r x hfa hr hx
 have hin:∀ b ∈ vB (.slice fa.ba fa.bn fa.bc),b ∈ acFoot fa r:=fun b hb => List.mem_append_right _ (List.mem_append_right _ hb)
 have hnd:=(h.apart1 j fa r hfa hr).1
 have hn1:=List.nodup_append.1 hnd
 have hn2:=List.nodup_append.1 hn1.2.1
 refine ⟨?_,hw.moved (fun b hb => List.mem_append_right _ (mem_actsFoot hfa hr (hin b hb)))⟩
 have hrow:SeqOwn fAc 8 42 w' base av (fl.set j fa):=by
  rw [set_same hfa]
  exact ownsRow_at_block h.acts (fun b hb => hw.other b (fun hb' => (h.apart1 j fa r hfa hr).2 b (hin b hb') (by simp [hb])))
 have:=h.replace hfa hr hrow (s:=r) (y:={ x with box:=l }) ⟨hA.kind,hA.par,hA.M,hA.on,hA.rn,hA.pc,hA.bn.trans hl.symm,hA.fin,hA.obs,hA.heap.at_block (fun b hb => hw.other b (fun hb' => hn1.2.2 b hb b (List.mem_append_right _ hb') rfl)),ownsRow_at_block hA.regs (fun b hb => hw.other b (fun hb' => hn2.2.2 b hb b hb' rfl)),hown⟩
  (fun b _ _ hb => hw.other b (fun hb' => hb (hin b hb'))) hnd (fun b hb => .inl hb)
 rwa [set_same hfa,set_same hr] at this
end
end
section
open Go.RowKit
theorem HeapOwn.blk_le {w:World} {base:Nat} {v:Value} {rows:List (Value × Ob)} (h:HeapOwn w base v rows):∀ b ∈ vB v ++ rowsB rows,base ≤ b ∧ b < w.heap.size:=fun b hb => by
 rcases List.mem_append.1 hb with hb | hb
 ·exact World.ownsRow.lt h.top b (mem_vB.1 hb)
 ·obtain ⟨p,hp,hb⟩:=List.mem_flatMap.1 hb
  obtain ⟨i,hi,e⟩:=List.mem_iff_getElem.1 hp
  exact World.ownsRow.lt (h.row i p (by rw [List.getElem?_eq_getElem hi,e])).1 b (mem_vB.1 hb)
theorem ownsRow_base {w:World} {base base':Nat} {e:TypeId} {s n:Nat} {v:Value} {xs:List Value} (h:w.ownsRow base e s v n xs) (hb:base' ≤ base):w.ownsRow base' e s v n xs :=
 ⟨h.1,by
  rcases h.2 with h0 | ⟨g,cap,cur,e1,hb1,hg,hr⟩
  ·exact .inl h0
  ·exact .inr ⟨g,cap,cur,e1,Nat.le_trans hb hb1,hg,hr⟩⟩
theorem HeapOwn.base {w:World} {base base':Nat} {v:Value} {rows:List (Value × Ob)} (h:HeapOwn w base v rows) (hb:base' ≤ base):HeapOwn w base' v rows :=
 ⟨ownsRow_base h.top hb,fun i p hp => ⟨ownsRow_base (h.row i p hp).1 hb,(h.row i p hp).2⟩,h.apart,h.many⟩
section
variable {w w':World} {base Bw:Nat} {V:Wd} {av pv:Value} {fl:List Fa} {rs:List (List (Value × Ob))} {j:Nat} {fa:Fa} {r:List (Value × Ob)} {x:Ac}
theorem WdOwn.base_le (h:WdOwn w base Bw V av pv fl rs) {g n c:Nat} (hav:av = .slice (some ⟨g,0,none⟩) n c):base ≤ w.heap.size:=by
 have:=World.ownsRow.lt h.acts g (by rw [hav]; rfl)
 omega
theorem wdFoot_set {fb:Fa} {s:List (Value × Ob)} {b:Nat} (hb:b ∈ wdFoot Bw av pv (fl.set j fb) (rs.set j s)):b ∈ wdFoot Bw av pv fl rs ∨ b ∈ acFoot fb s:=by
 rcases List.mem_append.1 hb with hb | hb
 ·exact .inl (List.mem_append_left _ hb)
 obtain ⟨⟨g,t⟩,hp,hb⟩:=List.mem_flatMap.1 hb
 obtain ⟨i,hi,e⟩:=List.mem_iff_getElem.1 hp
 have hz:(List.zip (fl.set j fb) (rs.set j s))[i]? = some (g,t):=by rw [List.getElem?_eq_getElem hi,e]
 obtain ⟨h1,h2⟩:=List.getElem?_zip_eq_some.1 hz
 by_cases hij:j = i
 ·subst hij
  rw [List.getElem?_set,if_pos rfl] at h1 h2
  split at h1
  ·split at h2
   ·simp only [Option.some.injEq] at h1 h2
    subst h1 h2
    exact .inr hb
   ·cases h2
  ·cases h1
 ·rw [List.getElem?_set,if_neg hij] at h1 h2
  exact .inl (List.mem_append_right _ (mem_actsFoot h1 h2 hb))
theorem WdOwn.newHeap (h:WdOwn w base Bw V av pv fl rs) (hb:Below w.heap.size w w') (hfa:fl[j]? = some fa) (hr:rs[j]? = some r) (hx:V.acts[j]? = some x) {g n c:Nat} (hav:av = .slice (some ⟨g,0,none⟩) n c) {M:Int} {oa:Option Addr} {on oc B:Nat} {s:List (Value × Ob)} {l:List Ob} (hs:s.map (·.2) = l)
  (hon:on = l.length) (hH:HeapOwn w' B (.slice oa on oc) s) (hB:w.heap.size ≤ B) :
  WdOwn ((w'.setCell ⟨g,j * 8 + 2,none⟩ (.int .i64 M)).setCell ⟨g,j * 8 + 3,none⟩ (.slice oa on oc)) base Bw { V with acts:=V.acts.set j (x.heap M l) } av pv (fl.set j { fa with M:=M,oa:=oa,on:=l.length,oc:=oc }) (rs.set j s) ∧
   Moved w ((w'.setCell ⟨g,j * 8 + 2,none⟩ (.int .i64 M)).setCell ⟨g,j * 8 + 3,none⟩ (.slice oa on oc)) (wdFoot Bw av pv fl rs) (wdFoot Bw av pv (fl.set j { fa with M:=M,oa:=oa,on:=l.length,oc:=oc }) (rs.set j s)):=by
 subst hon
 have hgw:g ∈ wdFoot Bw av pv fl rs:=List.mem_append_left _ (by simp [mem_vB,hav,Value.ownBlock])
 have hbl:=hH.blk_le
 have hbase:=h.base_le hav
 refine ⟨(h.below hb).setHeap hfa hr hx hav hs (hH.base (by omega)) (fun b hb' hb2 => ?_),hb.os,hb.tape,hb.output,by rw [two_size]; exact hb.size,fun b hb1 hb2 => ?_,fun b hb' => ?_⟩
 ·have:=h.blk_lt b hb2
  have:=(hbl b hb').1
  omega
 ·rw [two_other _ _ _ _ (fun e => hb2 (by rw [e]; exact hgw))]
  exact hb.block b hb1
 ·rcases wdFoot_set hb' with h1 | h1
  ·exact .inl h1
  ·rcases List.mem_append.1 h1 with h2 | h2
   ·exact .inr (Nat.le_trans hB (hbl b h2).1)
   ·exact .inl (List.mem_append_right _ (mem_actsFoot hfa hr (List.mem_append_right _ h2)))
end
end
section
open Go.RowKit
def Shp (V:Wd):Prop:=∀ (j:Nat) x,V.acts[j]? = some x → x.regs.length = 8 ∧ x.box.length ≤ 6
theorem Shp.set {V:Wd} (h:Shp V) {j:Nat} {y:Ac} (h8:y.regs.length = 8) (h6:y.box.length ≤ 6):Shp { V with acts:=V.acts.set j y }:=fun i x hx => by
 simp only at hx
 rw [List.getElem?_set] at hx
 split at hx
 ·split at hx
  ·simp only [Option.some.injEq] at hx
   subst hx
   exact ⟨h8,h6⟩
  ·cases hx
 ·exact h i x hx
theorem rowsB_map (rows:List (Value × Ob)):rowsB rows = (rows.map (·.1)).flatMap vB:=by
 unfold rowsB
 rw [List.flatMap_map]
theorem rowsB_set {rows:List (Value × Ob)} {i:Nat} {v:Value} {ob ob':Ob} (hi:rows[i]? = some (v,ob)):rowsB (rows.set i (v,ob')) = rowsB rows:=by
 rw [rowsB_map,rowsB_map,List.map_set,set_same]
 rw [List.getElem?_map,hi]
 rfl
theorem obs_set {rows:List (Value × Ob)} {i:Nat} {v:Value} {ob:Ob} (hi:rows[i]? = some (v,ob)) (f:Nat) (x:Vl):(rows.set i (v,(⟨ob.fs.set f x,ob.dead⟩:Ob))).map (·.2) = setObs (rows.map (·.2)) i f x:=by
 unfold setObs
 rw [List.getElem?_map,hi]
 simp [List.map_set]
section
variable {w:World} {base Bw:Nat} {V:Wd} {av pv:Value} {fl:List Fa} {rs:List (List (Value × Ob))} {j:Nat} {fa:Fa} {r:List (Value × Ob)} {x:Ac}
theorem WdOwn.setField (h:WdOwn w base Bw V av pv fl rs) (hfa:fl[j]? = some fa) (hr:rs[j]? = some r) (hx:V.acts[j]? = some x) {i B n cap:Nat} {ob:Ob} (hi:r[i]? = some (.slice (some ⟨B,0,none⟩) n cap,ob)) (f:Nat) (v:Vl) :
  WdOwn ((w.setCell ⟨B,f * 2,none⟩ (.int .i64 v.k)).setCell ⟨B,f * 2 + 1,none⟩ (.int .i64 v.n)) base Bw { V with acts:=V.acts.set j { x with obs:=setObs x.obs i f v } } av pv fl (rs.set j (r.set i (.slice (some ⟨B,0,none⟩) n cap,⟨ob.fs.set f v,ob.dead⟩))) ∧
   Moved w ((w.setCell ⟨B,f * 2,none⟩ (.int .i64 v.k)).setCell ⟨B,f * 2 + 1,none⟩ (.int .i64 v.n)) (wdFoot Bw av pv fl rs) (wdFoot Bw av pv fl (rs.set j (r.set i (.slice (some ⟨B,0,none⟩) n cap,⟨ob.fs.set f v,ob.dead⟩)))):=by
 have hA:=h.each j fa r x hfa hr hx
 have hBr:B ∈ rowsB r:=List.mem_flatMap.2 ⟨_,List.mem_of_getElem? hi,by rw [mem_vB]; rfl⟩
 have hBh:B ∈ vB (.slice fa.oa fa.on fa.oc) ++ rowsB r:=List.mem_append_right _ hBr
 have hBf:B ∈ acFoot fa r:=List.mem_append_left _ hBh
 have hBw:B ∈ wdFoot Bw av pv fl rs:=List.mem_append_right _ (mem_actsFoot hfa hr hBf)
 have hBav:B ∉ vB av:=fun hb => (h.apart1 j fa r hfa hr).2 B hBf (by simp [hb])
 have hoth:∀ b,b ≠ B → ((w.setCell ⟨B,f * 2,none⟩ (.int .i64 v.k)).setCell ⟨B,f * 2 + 1,none⟩ (.int .i64 v.n)).heap[b]? = w.heap[b]?:=fun b hb => two_other _ _ _ _ hb
 have hnd:=(h.apart1 j fa r hfa hr).1
 have hn1:=List.nodup_append.1 hnd
 have hfoot:acFoot fa (r.set i (.slice (some ⟨B,0,none⟩) n cap,⟨ob.fs.set f v,ob.dead⟩)) = acFoot fa r:=by
  unfold acFoot
  rw [rowsB_set hi]
 have hnew:AcOwn ((w.setCell ⟨B,f * 2,none⟩ (.int .i64 v.k)).setCell ⟨B,f * 2 + 1,none⟩ (.int .i64 v.n)) base fa (r.set i (.slice (some ⟨B,0,none⟩) n cap,⟨ob.fs.set f v,ob.dead⟩)) { x with obs:=setObs x.obs i f v } :=
  { kind:=hA.kind,par:=hA.par,M:=hA.M,on:=by rw [hA.on]; exact (setObs_length _ _ _ _).symm,rn:=hA.rn,pc:=hA.pc,bn:=hA.bn,fin:=hA.fin,obs:=by rw [obs_set hi,hA.obs],heap:=hA.heap.setField hi f v,regs:=ownsRow_at_block hA.regs (fun b hb => hoth b (fun e => hn1.2.2 B hBh b (List.mem_append_left _ hb) e.symm)),box:=ownsRow_at_block hA.box (fun b hb => hoth b (fun e => hn1.2.2 B hBh b (List.mem_append_right _ hb) e.symm)) }
 have hrow:SeqOwn fAc 8 42 ((w.setCell ⟨B,f * 2,none⟩ (.int .i64 v.k)).setCell ⟨B,f * 2 + 1,none⟩ (.int .i64 v.n)) base av (fl.set j fa):=by
  rw [set_same hfa]
  exact ownsRow_at_block h.acts (fun b hb => hoth b (fun e => hBav (by rw [← e]; exact hb)))
 have:=h.replace hfa hr hrow hnew (fun b _ _ hb => hoth b (fun e => hb (by rw [e]; exact hBf))) (by rw [hfoot]; exact hnd) (fun b hb => .inl (by rw [← hfoot]; exact hb))
 rw [set_same hfa] at this
 refine ⟨this,rfl,rfl,rfl,by rw [two_size]; exact Nat.le_refl _,fun b _ hb => hoth b (fun e => hb (by rw [e]; exact hBw)),fun b hb => ?_⟩
 have e2:wdFoot Bw av pv fl (rs.set j (r.set i (.slice (some ⟨B,0,none⟩) n cap,⟨ob.fs.set f v,ob.dead⟩))) = wdFoot Bw av pv (fl.set j fa) (rs.set j (r.set i (.slice (some ⟨B,0,none⟩) n cap,⟨ob.fs.set f v,ob.dead⟩))):=by rw [set_same hfa]
 rw [e2] at hb
 rcases wdFoot_set hb with h1 | h1
 ·exact .inl h1
 ·rw [hfoot] at h1
  exact .inl (List.mem_append_right _ (mem_actsFoot hfa hr h1))
theorem WdOwn.pushBox {w':World} (h:WdOwn w base Bw V av pv fl rs) (hfa:fl[j]? = some fa) (hr:rs[j]? = some r) (hx:V.acts[j]? = some x) {g nn c:Nat} (hav:av = .slice (some ⟨g,0,none⟩) nn c) {B n cap:Nat} {l:List Vl}
  (hgr:w.grownBy w' (Value.slice fa.ba fa.bn fa.bc).ownBlock) (hown:SeqOwn fVl 2 86 w' base (.slice (some ⟨B,0,none⟩) n cap) l) (hn:n = l.length) (hB:(Value.slice fa.ba fa.bn fa.bc).ownBlock = some B ∨ B = w.heap.size) :
  WdOwn (w'.setCell ⟨g,j * 8 + 6,none⟩ (.slice (some ⟨B,0,none⟩) n cap)) base Bw { V with acts:=V.acts.set j { x with box:=l } } av pv (fl.set j { fa with ba:=some ⟨B,0,none⟩,bn:=n,bc:=cap }) (rs.set j r) ∧
   Moved w (w'.setCell ⟨g,j * 8 + 6,none⟩ (.slice (some ⟨B,0,none⟩) n cap)) (wdFoot Bw av pv fl rs) (wdFoot Bw av pv (fl.set j { fa with ba:=some ⟨B,0,none⟩,bn:=n,bc:=cap }) (rs.set j r)):=by
 have hA:=h.each j fa r x hfa hr hx
 have hnd:=(h.apart1 j fa r hfa hr).1
 have hn1:=List.nodup_append.1 hnd
 have hn2:=List.nodup_append.1 hn1.2.1
 have hgw:g ∈ wdFoot Bw av pv fl rs:=List.mem_append_left _ (by simp [mem_vB,hav,Value.ownBlock])
 have hoff:∀ b,b < w.heap.size → b ∉ vB (.slice fa.ba fa.bn fa.bc) → w'.heap[b]? = w.heap[b]?:=fun b hb hb' => hgr.block b hb (fun e => hb' (mem_vB.2 e.symm))
 have hlt:∀ b ∈ acFoot fa r,b < w.heap.size:=fun b hb => hA.blk_lt b hb
 have hBfoot:∀ b ∈ vB (.slice (some ⟨B,0,none⟩) n cap),b ∈ vB (.slice fa.ba fa.bn fa.bc) ∨ b = w.heap.size:=fun b hb => by
  rw [mem_vB] at hb
  have e:B = b:=by simpa [Value.ownBlock] using hb
  subst e
  rcases hB with h1 | h1
  ·exact .inl (mem_vB.2 h1)
  ·exact .inr h1
 have hin:∀ b ∈ acFoot { fa with ba:=some ⟨B,0,none⟩,bn:=n,bc:=cap } r,b ∈ acFoot fa r ∨ b ∉ wdFoot Bw av pv fl rs:=fun b hb => by
  simp only [acFoot,List.mem_append] at hb ⊢
  rcases hb with hb | hb | hb
  ·exact .inl (.inl hb)
  ·exact .inl (.inr (.inl hb))
  ·rcases hBfoot b hb with h1 | h1
   ·exact .inl (.inr (.inr h1))
   ·exact .inr (fun h2 => by have:=h.blk_lt b h2; omega)
 refine ⟨h.update1 hfa hr hav (k:=6) (by omega) (fun b hb hb' => hoff b (h.blk_lt b hb) (fun hb2 => hb' (List.mem_append_right _ (List.mem_append_right _ hb2)))) rfl
  { kind:=hA.kind,par:=hA.par,M:=hA.M,on:=hA.on,rn:=hA.rn,pc:=hA.pc,bn:=hn,fin:=hA.fin,obs:=hA.obs,heap:=hA.heap.at_block (fun b hb => hoff b (hlt b (List.mem_append_left _ hb)) (fun hb' => hn1.2.2 b hb b (List.mem_append_right _ hb') rfl)),regs:=ownsRow_at_block hA.regs (fun b hb => hoff b (hlt b (List.mem_append_right _ (List.mem_append_left _ hb))) (fun hb' => hn2.2.2 b hb b hb' rfl)),box:=hown } ?_ hin,hgr.os,hgr.tape,hgr.output,by simp [World.setCell]; exact hgr.size,fun b hb hb' => ?_,fun b hb => ?_⟩
 ·refine List.nodup_append.2 ⟨hn1.1,List.nodup_append.2 ⟨hn2.1,by unfold vB; split <;> simp,fun a ha b hb e => ?_⟩,fun a ha b hb e => ?_⟩
  ·subst e
   rcases hBfoot a hb with h1 | h1
   ·exact hn2.2.2 a ha a h1 rfl
   ·have:=hlt a (List.mem_append_right _ (List.mem_append_left _ ha)); omega
  ·subst e
   rcases List.mem_append.1 hb with hb | hb
   ·exact hn1.2.2 a ha a (List.mem_append_left _ hb) rfl
   ·rcases hBfoot a hb with h1 | h1
    ·exact hn1.2.2 a ha a (List.mem_append_right _ h1) rfl
    ·have:=hlt a (List.mem_append_left _ ha); omega
 ·refine (Deep.blk_setCell_other _ ⟨g,j * 8 + 6,none⟩ _ _ (fun e => hb' (by have e':b = g:=e; rw [e']; exact hgw))).trans (hoff b hb (fun hb2 => hb' (List.mem_append_right _ (mem_actsFoot hfa hr (List.mem_append_right _ (List.mem_append_right _ hb2))))))
 ·rcases wdFoot_set hb with h1 | h1
  ·exact .inl h1
  ·simp only [acFoot,List.mem_append] at h1
   rcases h1 with h1 | h1 | h1
   ·exact .inl (List.mem_append_right _ (mem_actsFoot hfa hr (List.mem_append_left _ (List.mem_append.2 h1))))
   ·exact .inl (List.mem_append_right _ (mem_actsFoot hfa hr (List.mem_append_right _ (List.mem_append_left _ h1))))
   ·rcases hBfoot b h1 with h2 | h2
    ·exact .inl (List.mem_append_right _ (mem_actsFoot hfa hr (List.mem_append_right _ (List.mem_append_right _ h2))))
    ·exact .inr (Nat.le_of_eq h2.symm)
end
end
section
open Go.RowKit
structure PerfOk (V:Wd) (x:Ac) (a b:Int):Prop where
 shp:Shp V
 a:0 ≤ a ∧ a ≤ 7
 b:0 ≤ b ∧ b ≤ 7
 may:hMay x.M x.obs x.roots = true
 prints:V.prints.length ≤ 500
 acts:V.acts.length ≤ 8
theorem PerfOk.words {V:Wd} {x:Ac} {a b:Int} (h:PerfOk V x a b):∀ v ∈ x.regs,v.k = 1 → isW v.n = true:=fun v hv hk => by
 have:=List.all_eq_true.1 (hMay_roots' h.may) v (List.mem_append_left _ hv)
 simpa [vMay,hk,isW] using this
end
section
open Go.RowKit
set_option maxHeartbeats 400000 in
theorem isNoNumber_any (k n:Int) (w:World):Calls Tryz.prog 126 #[.agg #[.int .i64 k,.int .i64 n]] w fun e w' => e = .returned (.bool (k != 1)) ∧ Below w.heap.size w w':=by
 go_enter Tryz.func126,Tryz.ntmps126
 go_wp2
 go_ret
 exact ⟨rfl,below_box _ _⟩
set_option maxHeartbeats 400000 in
theorem num_any (n:Int) (w:World):Calls Tryz.prog 47 #[.int .i64 n] w fun e w' => e = .returned (.agg #[.int .i64 1,.int .i64 n]) ∧ Below w.heap.size w w':=by
 go_enter Tryz.func47,Tryz.ntmps47
 go_wp2
 exact bodyPost_ret (v:=.agg #[.int .i64 1,.int .i64 n]) (by simp [results,Tryz.results47,go_sem]) rfl ⟨rfl,below_box _ _⟩
set_option maxHeartbeats 400000 in
theorem fault_any (e:Int) (w:World):Calls Tryz.prog 129 #[.int .i64 e] w fun r w' => r = .returned (.int .i64 (if e = 2 then 4 else 8)) ∧ w' = w:=by
 by_cases h:e = 2
 ·subst h
  go_enter Tryz.func129,Tryz.ntmps129
  go_wp2
  go_ret
  exact ⟨rfl,rfl⟩
 ·have hb:(e == 2) = false:=by simp [h]
  go_enter Tryz.func129,Tryz.ntmps129
  go_wp2
  go_ret
  exact ⟨by simp,rfl⟩
theorem at_of {V:Wd} {j:Nat} {x:Ac} (h:V.acts[j]? = some x):V.at (j:Int) = x:=by
 show (V.acts[(j:Int).toNat]?).getD noAc = x
 rw [Int.toNat_natCast,h]
 rfl
set_option maxRecDepth 100000 in
set_option maxHeartbeats 800000 in
theorem lives_any (n:Int) (w:World) {base Bw:Nat} {V:Wd} {av pv:Value} {fl:List Fa} {rs:List (List (Value × Ob))} (h:WdOwn w base Bw V av pv fl rs) :
  Calls Tryz.prog 81 #[.pointer (some ⟨Bw,0,none⟩),.int .i64 n] w fun e w' => e = .returned (.bool (livesS V n)) ∧ w' = w:=by
 obtain ⟨c0,_,_⟩:=h.bw
 obtain ⟨RES,hRES⟩:∃ RES,RES = livesS V n:=⟨_,rfl⟩
 have HR:Aside (RES = livesS V n):=hRES
 rw [← hRES]
 clear hRES
 obtain ⟨ao,cc,hav⟩:=h.acts.form
 rw [h.flen] at hav
 rw [hav] at c0
 obtain ⟨N,hN⟩:∃ N,N = V.acts.length:=⟨_,rfl⟩
 have HN:Aside (N = V.acts.length):=hN
 rw [← hN] at c0
 clear hN
 by_cases h1:0 ≤ n
 rotate_left
 ·have HF:Aside (RES = false):=by show RES = false; rw [HR.out]; simp [livesS,h1]
  clear HR h hav
  go_enter Tryz.func81,Tryz.ntmps81
  go_wp2
  go_ret
  exact ⟨ret_bool HF.out.symm,rfl⟩
 by_cases h2:n < (N:Int)
 rotate_left
 ·have HF:Aside (RES = false):=by show RES = false; rw [HR.out]; have:=HN.out; simp [livesS]; intro _ h3; omega
  clear HR h hav
  go_enter Tryz.func81,Tryz.ntmps81
  go_wp2
  go_ret
  exact ⟨ret_bool HF.out.symm,rfl⟩
 obtain ⟨j,rfl⟩:=Int.eq_ofNat_of_zero_le h1
 obtain ⟨x,hx⟩:=at_some (l:=V.acts) (i:=j) (by rw [← HN.out]; omega)
 obtain ⟨fa,r,g,c,R,hfa,hr,hA,hav2,_,k0,k1,k2,k3,k4,k5,k6,k7⟩:=h.cells hx
 rw [hav2] at hav
 simp only [Value.slice.injEq] at hav
 obtain ⟨rfl,_,_⟩:=hav
 have HT:Aside (RES = decide (x.fin = 0)):=by
  show RES = _
  have:=HN.out
  rw [HR.out,livesS,at_of hx,decide_eq_true h1,decide_eq_true (show (j:Int) < (V.acts.length:Int) by omega)]
  simp
 clear HR h hA
 by_cases h3:x.fin = 0
 ·rw [h3] at k7
  have HF:Aside (RES = true):=by show RES = true; rw [HT.out]; simp [h3]
  go_enter Tryz.func81,Tryz.ntmps81
  go_wp2
  go_ret
  exact ⟨ret_bool HF.out.symm,rfl⟩
 ·have h3b:(x.fin == 0) = false:=by simp [h3]
  have HF:Aside (RES = false):=by show RES = false; rw [HT.out]; simp [h3]
  go_enter Tryz.func81,Tryz.ntmps81
  go_wp2
  go_ret
  exact ⟨ret_bool HF.out.symm,rfl⟩
set_option maxRecDepth 100000 in
set_option maxHeartbeats 800000 in
theorem takes_any (n:Int) (w:World) {base Bw:Nat} {V:Wd} {av pv:Value} {fl:List Fa} {rs:List (List (Value × Ob))} (h:WdOwn w base Bw V av pv fl rs) (hbx:∀ (j:Nat) x,V.acts[j]? = some x → x.box.length ≤ 1000000) :
  Calls Tryz.prog 87 #[.pointer (some ⟨Bw,0,none⟩),.int .i64 n] w fun e w' => e = .returned (.bool (takesS V n)) ∧ w' = w:=by
 have hL:=lives_any n w h
 obtain ⟨c0,_,_⟩:=h.bw
 obtain ⟨RES,hRES⟩:∃ RES,RES = takesS V n:=⟨_,rfl⟩
 have HR:Aside (RES = takesS V n):=hRES
 rw [← hRES]
 clear hRES
 by_cases h0:livesS V n = true
 rotate_left
 ·have h0f:livesS V n = false:=by simpa using h0
  rw [h0f] at hL
  have HL:Aside (Calls Tryz.prog 81 #[.pointer (some ⟨Bw,0,none⟩),.int .i64 n] w fun e w' => e = .returned (.bool false) ∧ w' = w):=hL
  have HF:Aside (RES = false):=by show RES = false; rw [HR.out,takesS,h0f]; rfl
  clear hL HR h hbx
  go_enter Tryz.func87,Tryz.ntmps87
  go_wp2_with fail
  refine Calls.mono HL.out ?_
  rintro e w' ⟨rfl,hw'⟩
  replace hw':=hw'.symm
  subst hw'
  go_wp2
  go_ret
  exact ⟨ret_bool HF.out.symm,rfl⟩
 rw [h0] at hL
 have HL:Aside (Calls Tryz.prog 81 #[.pointer (some ⟨Bw,0,none⟩),.int .i64 n] w fun e w' => e = .returned (.bool true) ∧ w' = w):=hL
 have h0':=h0
 simp only [livesS,Bool.and_eq_true,decide_eq_true_eq] at h0'
 obtain ⟨⟨h1,h2⟩,_⟩:=h0'
 obtain ⟨j,rfl⟩:=Int.eq_ofNat_of_zero_le h1
 obtain ⟨x,hx⟩:=at_some (l:=V.acts) (i:=j) (by omega)
 obtain ⟨fa,r,g,c,R,hfa,hr,hA,hav2,_,k0,k1,k2,k3,k4,k5,k6,k7⟩:=h.cells hx
 rw [hav2] at c0
 have hb6:=hbx j x hx
 have HT:Aside (RES = decide (x.box.length < 6)):=by
  show RES = _
  rw [HR.out,takesS,h0,at_of hx]
  simp
 obtain ⟨N,hN⟩:∃ N,N = V.acts.length:=⟨_,rfl⟩
 rw [← hN] at c0 h2
 clear hN hL HR h hA hbx h0
 generalize x.box.length = X at *
 by_cases h3:X < 6
 ·have h3b:(X:Int) < 6:=by omega
  have HF:Aside (RES = true):=by show RES = true; rw [HT.out]; simp [h3]
  go_enter Tryz.func87,Tryz.ntmps87
  go_wp2_with fail
  refine Calls.mono HL.out ?_
  rintro e w' ⟨rfl,hw'⟩
  replace hw':=hw'.symm
  subst hw'
  go_wp2
  go_ret
  exact ⟨ret_bool HF.out.symm,rfl⟩
 ·have h3b:¬ (X:Int) < 6:=by omega
  have HF:Aside (RES = false):=by show RES = false; rw [HT.out]; simp [h3]
  go_enter Tryz.func87,Tryz.ntmps87
  go_wp2_with fail
  refine Calls.mono HL.out ?_
  rintro e w' ⟨rfl,hw'⟩
  replace hw':=hw'.symm
  subst hw'
  go_wp2
  go_ret
  exact ⟨ret_bool (by rw [HF.out]; simp; omega),rfl⟩
set_option maxRecDepth 100000 in
set_option maxHeartbeats 400000 in
theorem needNumber_any (k n:Int) (w:World):Calls Tryz.prog 104 #[.agg #[.int .i64 k,.int .i64 n]] w fun e w' => e = .returned (.int .i64 (if k ≠ 1 then 8 else 0)) ∧ Below w.heap.size w w':=by
 have b1:=below_box w (.cells #[.int .i64 k,.int .i64 n] 86)
 obtain ⟨RES,hRES⟩:∃ RES:Int,RES = if k ≠ 1 then 8 else 0:=⟨_,rfl⟩
 rw [← hRES]
 by_cases h:k = 1
 ·have hb:(k != 1) = false:=by simp [h]
  have HF:Aside (RES = 0):=by show RES = 0; rw [hRES]; simp [h]
  clear hRES h
  go_enter Tryz.func104,Tryz.ntmps104
  go_wp2_with fail
  refine (isNoNumber_any k n _).mono ?_
  rintro e w' ⟨rfl,hb'⟩
  rw [hb]
  go_wp2
  go_ret
  exact ⟨ret_num HF.out.symm,b1.trans (hb'.mono b1.size)⟩
 ·have hb:(k != 1) = true:=by simp [h]
  have HF:Aside (RES = 8):=by show RES = 8; rw [hRES]; simp [h]
  clear hRES h
  go_enter Tryz.func104,Tryz.ntmps104
  go_wp2_with fail
  refine (isNoNumber_any k n _).mono ?_
  rintro e w' ⟨rfl,hb'⟩
  rw [hb]
  go_wp2
  go_ret
  exact ⟨ret_num HF.out.symm,b1.trans (hb'.mono b1.size)⟩
set_option maxHeartbeats 400000 in
theorem result_any (op x y:Int) (w:World) (hx:-1099511627776 ≤ x ∧ x ≤ 1099511627776) (hy:-1099511627776 ≤ y ∧ y ≤ 1099511627776):Calls Tryz.prog 127 #[.int .i64 op,.int .i64 x,.int .i64 y] w fun e w' => e = .returned (.int .i64 (resultS op x y)) ∧ w' = w:=by
 have w1:IntKind.i64.wrap (x + y) = x + y:=by rw [IntKind.wrap_i64]; omega
 have w2:IntKind.i64.wrap (x - y) = x - y:=by rw [IntKind.wrap_i64]; omega
 by_cases h2:op = 2
 ·subst h2
  go_enter Tryz.func127,Tryz.ntmps127
  go_wp2
  go_ret
  exact ⟨ret_num (by simp [resultS]),rfl⟩
 have h2b:(op == 2) = false:=by simp [h2]
 by_cases h3:op = 3
 ·subst h3
  go_enter Tryz.func127,Tryz.ntmps127
  go_wp2
  go_ret
  exact ⟨ret_num (by simp [resultS]),rfl⟩
 have h3b:(op == 3) = false:=by simp [h3]
 by_cases h4:x < y
 ·go_enter Tryz.func127,Tryz.ntmps127
  go_wp2
  go_ret
  exact ⟨ret_num (by simp [resultS,h2,h3,h4]),rfl⟩
 ·go_enter Tryz.func127,Tryz.ntmps127
  go_wp2
  go_ret
  exact ⟨ret_num (by simp [resultS,h2,h3,h4]),rfl⟩
end
end Go.Proofs.YtddokajfafmhhaaGreatDoor
