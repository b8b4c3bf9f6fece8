/- HPureS HPureX VPure RdSpec. -/
import Derived.Test.YtddokajfafmhhaaGreatDoorCHPureM
namespace Go.Proofs.YtddokajfafmhhaaGreatDoor
section
def ren (f:Int → Int) (v:Vl):Vl:=if v.k = 2 then ⟨2,f v.n⟩ else v
theorem mvV_ren (order:List Int) (b:Int):mvV order b = ren (fun p => b + (order.idxOf p:Nat)):=rfl
structure Sim (l l':List Ob) (f:Int → Int) (S:Int → Prop):Prop where
 inj:∀ p q,S p → S q → f p = f q → p = q
 fields:∀ p,S p → fieldsOf l' (f p) = (fieldsOf l p).map (ren f)
 closed:∀ p,S p → ∀ v ∈ fieldsOf l p,v.k = 2 → S v.n
section
variable {l l':List Ob} {f:Int → Int} {S:Int → Prop}
theorem mem_ren (h:Sim l l' f S) {o:List Int} (ho:∀ p ∈ o,S p) {q:Int} (hq:S q):f q ∈ o.map f ↔ q ∈ o:=by
 constructor
 ·intro hm
  obtain ⟨p,hp,e⟩:=List.mem_map.1 hm
  have:=h.inj p q (ho p hp) hq e
  rw [← this]
  exact hp
 ·exact fun hm => List.mem_map_of_mem hm
theorem visit_ren (h:Sim l l' f S) {o:List Int} (ho:∀ p ∈ o,S p) {v:Vl} (hv:v.k = 2 → S v.n):visit (o.map f) (ren f v) = (visit o v).map f:=by
 unfold visit ren
 by_cases hk:v.k = 2
 ·simp only [hk,if_true]
  have hm:=mem_ren h ho (hv hk)
  by_cases hin:v.n ∈ o
  ·rw [if_pos hin,if_pos (hm.2 hin)]
  ·rw [if_neg hin,if_neg (fun x => hin (hm.1 x))]
   simp
 ·simp only [hk,if_false]
theorem visit_all {o:List Int} (ho:∀ p ∈ o,S p) {v:Vl} (hv:v.k = 2 → S v.n):∀ p ∈ visit o v,S p:=by
 unfold visit
 by_cases hk:v.k = 2
 ·rw [if_pos hk]
  by_cases hin:v.n ∈ o
  ·rw [if_pos hin]; exact ho
  ·rw [if_neg hin]
   intro p hp
   rcases List.mem_append.1 hp with hp | hp
   ·exact ho p hp
   ·simp at hp; subst hp; exact hv hk
 ·rw [if_neg hk]; exact ho
theorem visits_all:∀ {vs:List Vl} {o:List Int},(∀ p ∈ o,S p) → (∀ v ∈ vs,v.k = 2 → S v.n) → ∀ p ∈ visits o vs,S p
 | [],_,ho,_ => ho
 | v :: r,o,ho,hv => visits_all (vs:=r) (o:=visit o v) (visit_all ho (hv v (by simp))) (fun u hu => hv u (by simp [hu]))
theorem visits_ren (h:Sim l l' f S):∀ {vs:List Vl} {o:List Int},(∀ p ∈ o,S p) → (∀ v ∈ vs,v.k = 2 → S v.n) → visits (o.map f) (vs.map (ren f)) = (visits o vs).map f
 | [],_,_,_ => rfl
 | v :: r,o,ho,hv => by
  show visits (visit (o.map f) (ren f v)) (r.map (ren f)) = (visits (visit o v) r).map f
  rw [visit_ren h ho (hv v (by simp))]
  exact visits_ren h (visit_all ho (hv v (by simp))) (fun u hu => hv u (by simp [hu]))
theorem bfs_ren (h:Sim l l' f S):∀ (F i:Nat) (o:List Int),(∀ p ∈ o,S p) → bfs l' F i (o.map f) = (bfs l F i o).map f
 | 0,_,_,_ => rfl
 | F + 1,i,o,ho => by
  rw [bfs,bfs,List.getElem?_map]
  cases hi:o[i]? with
  | none => rfl
  | some p =>
   have hp:=ho p (List.mem_of_getElem? hi)
   simp only [Option.map_some]
   rw [h.fields p hp,visits_ren h ho (h.closed p hp)]
   exact bfs_ren h F (i + 1) _ (visits_all ho (h.closed p hp))
theorem bfs_all (h:Sim l l' f S):∀ (F i:Nat) (o:List Int),(∀ p ∈ o,S p) → ∀ p ∈ bfs l F i o,S p
 | 0,_,_,ho => ho
 | F + 1,i,o,ho => by
  rw [bfs]
  cases hi:o[i]? with
  | none => exact ho
  | some p => exact bfs_all h F (i + 1) _ (visits_all ho (h.closed p (ho p (List.mem_of_getElem? hi))))
end
theorem hMay_roots {M:Int} {l:List Ob} {r:List Vl} (h:hMay M l r = true):r.all (vMay l.length) = true:=by
 simp only [hMay,Bool.and_eq_true] at h; exact h.2
theorem reach_all {l l':List Ob} {f:Int → Int} {S:Int → Prop} {roots:List Vl} (h:Sim l l' f S) (hr:∀ v ∈ roots,v.k = 2 → S v.n):∀ p ∈ reach l roots,S p :=
 bfs_all h _ _ _ (visits_all (fun p hp => by cases hp) hr)
def tell (R:List Int) (v:Vl):List Int:=if v.k = 2 then [2,(R.idxOf v.n:Nat)] else [v.k,v.n]
def tellOb (R:List Int) (fs:List Vl):List Int:=[-1,(fs.length:Int)] ++ fs.flatMap (tell R)
def form (l:List Ob) (roots:List Vl):List Int:=roots.flatMap (tell (reach l roots)) ++ (reach l roots).flatMap (fun p => tellOb (reach l roots) (fieldsOf l p))
theorem mv_sim {M:Int} {l pre:List Ob} {roots:List Vl} {order:List Int} (h:hMay M l roots = true) (hmem:∀ p,p ∈ order ↔ p ∈ reach l roots) :
  Sim l (pre ++ mvObs l order (pre.length:Int) order) (fun p => (pre.length:Int) + (order.idxOf p:Nat)) (fun p => p ∈ order) where
 inj:=fun p q hp hq e => by
  have e1:order.idxOf p = order.idxOf q:=by omega
  have a:=idx_at hp
  have b:=idx_at hq
  rw [e1,b] at a
  simpa using a.symm
 fields:=fun p hp => by
  have a:=idx_at hp
  have e:((pre.length:Int) + (order.idxOf p:Nat)).toNat = pre.length + order.idxOf p:=by omega
  rw [fieldsOf_obAt l p]
  unfold fieldsOf
  simp only [e]
  rw [List.getElem?_append_right (by omega),Nat.add_sub_cancel_left,mvObs,List.getElem?_map,a]
  rfl
 closed:=fun p hp v hv hk => (hmem _).2 (reach_closed h (hMay_roots h) ((hmem p).1 hp) hv hk)
theorem vMay_mv {n:Nat} {order:List Int} {b:Nat} {v:Vl} (m:Nat) (hm:b + order.length ≤ m) (hv:vMay n v = true) (hk:v.k = 2 → v.n ∈ order):vMay m (mvV order b v) = true:=by
 unfold mvV
 by_cases h2:v.k = 2
 ·have:=List.idxOf_lt_length_iff.2 (hk h2)
  simp [h2,vMay]
  omega
 ·rw [if_neg h2]
  unfold vMay at hv ⊢
  simp only [h2,if_false] at hv ⊢
  exact hv
theorem oMay_mv {n:Nat} {order:List Int} {b:Nat} {o:Ob} (m:Nat) (hm:b + order.length ≤ m) (ho:oMay n o = true) (hk:Leads order o.fs):oMay m (mvO order b o) = true:=by
 unfold oMay mvO at *
 by_cases hd:o.dead = true
 ·simp only [hd,if_true,List.length_map] at ho ⊢
  exact ho
 ·simp only [hd,List.length_map] at ho ⊢
  simp only [Bool.false_eq_true,if_false,Bool.and_eq_true] at ho ⊢
  refine ⟨ho.1,List.all_eq_true.2 fun u hu => ?_⟩
  obtain ⟨v,hv,rfl⟩:=List.mem_map.1 hu
  exact vMay_mv m hm (List.all_eq_true.1 ho.2 v hv) (hk v hv)
theorem oMay_obAt {M:Int} {l:List Ob} {roots:List Vl} (h:hMay M l roots = true) {p:Int} (hp:0 ≤ p ∧ p < (l.length:Int)):oMay l.length (obAt l p) = true:=by
 simp only [hMay,Bool.and_eq_true] at h
 unfold obAt
 have hlt:p.toNat < l.length:=by omega
 rw [List.getElem?_eq_getElem hlt]
 exact List.all_eq_true.1 h.1.2 _ (List.getElem_mem hlt)
theorem mvObs_length (l:List Ob) (order:List Int) (b:Int) (ps:List Int):(mvObs l order b ps).length = ps.length:=by simp [mvObs]
theorem mv_may {M M':Int} {l pre:List Ob} {roots vs:List Vl} {order:List Int} (h:hMay M l roots = true) (hmem:∀ p,p ∈ order ↔ p ∈ reach l roots) (hpre:hMay M' pre [] = true) (hfit:((pre.length + order.length:Nat):Int) ≤ M') (hvs:vs.all (vMay l.length) = true) (hl:Leads order vs) :
  hMay M' (pre ++ mvObs l order (pre.length:Int) order) (vs.map (mvV order (pre.length:Int))) = true:=by
 have hlen:(pre ++ mvObs l order (pre.length:Int) order).length = pre.length + order.length:=by rw [List.length_append,mvObs_length]
 have hok:=reach_ok h roots (hMay_roots h)
 simp only [hMay,Bool.and_eq_true] at hpre
 simp only [hMay,Bool.and_eq_true]
 rw [hlen]
 refine ⟨⟨?_,List.all_eq_true.2 fun o ho => ?_⟩,List.all_eq_true.2 fun u hu => ?_⟩
 ·have:=hpre.1.1
  simp only [mMay,Bool.and_eq_true,decide_eq_true_eq] at this ⊢
  exact ⟨this.1,hfit⟩
 ·rcases List.mem_append.1 ho with ho | ho
  ·have:=List.all_eq_true.1 hpre.1.2 o ho
   unfold oMay at this ⊢
   split at this
   ·rename_i hd; rw [if_pos hd]; exact this
   ·rename_i hd
    rw [if_neg hd]
    simp only [Bool.and_eq_true] at this ⊢
    refine ⟨this.1,List.all_eq_true.2 fun v hv => ?_⟩
    have h1:=List.all_eq_true.1 this.2 v hv
    unfold vMay at h1 ⊢
    split
    ·rename_i h0; rw [if_pos h0] at h1; exact h1
    ·rename_i h0
     rw [if_neg h0] at h1
     split
     ·rename_i h2; rw [if_pos h2] at h1; exact h1
     ·rename_i h2
      rw [if_neg h2] at h1
      split
      ·rename_i h3; rw [if_pos h3] at h1; simp only [Bool.and_eq_true,decide_eq_true_eq] at h1 ⊢; omega
      ·rename_i h3; rw [if_neg h3] at h1; exact h1
  ·obtain ⟨p,hp,rfl⟩:=List.mem_map.1 ho
   have hp':=(hmem p).1 hp
   exact oMay_mv _ (Nat.le_refl _) (oMay_obAt h (hok.2 p hp')) (fun v hv hk => (hmem _).2 (leads_fields h hp' v hv hk))
 ·obtain ⟨v,hv,rfl⟩:=List.mem_map.1 hu
  exact vMay_mv _ (Nat.le_refl _) (List.all_eq_true.1 hvs v hv) (hl v hv)
end
section
def zeroVals (n:Nat):List Vl:=List.replicate n ⟨0,0⟩
structure AR where
 M:Int
 obs:List Ob
 k:Int
 n:Int
 e:Int
def allocS (M:Int) (l:List Ob) (n:Int):AR :=
 if hMay M l [] = false then ⟨0,[],0,0,8⟩
 else if (decide (1 ≤ n) && decide (n ≤ 4)) = false then ⟨0,[],0,0,2⟩
 else if (l.length:Int) = M then ⟨0,[],0,0,7⟩
 else ⟨M,l ++ [⟨zeroVals n.toNat,false⟩],2,l.length,0⟩
def fieldErr (l:List Ob) (v:Vl) (f:Int):Int :=
 if v.k ≠ 2 then 9 else match l[v.n.toNat]? with
  | none => 0
  | some o => if o.dead then 10 else if f < 0 ∨ (o.fs.length:Int) ≤ f then 2 else 0
theorem ref_place {l:List Ob} {v:Vl} (h:vMay l.length v = true) (hk:v.k = 2):∃ (p:Nat) (o:Ob),v.n = p ∧ p < l.length ∧ l[p]? = some o:=by
 simp [vMay,hk] at h
 obtain ⟨p,hp⟩:=Int.eq_ofNat_of_zero_le h.1
 have hlt:p < l.length:=by omega
 exact ⟨p,l[p],hp,hlt,List.getElem?_eq_getElem hlt⟩
def getS (M:Int) (l:List Ob) (v:Vl) (f:Int):Vl × Int :=
 if hMay M l [v] = false then (⟨0,0⟩,8) else if fieldErr l v f ≠ 0 then (⟨0,0⟩,fieldErr l v f)
 else match l[v.n.toNat]? with
  | none => (⟨0,0⟩,0)
  | some o => match o.fs[f.toNat]? with
   | none => (⟨0,0⟩,0)
   | some x => (x,0)
theorem hMay_vMay {M:Int} {l:List Ob} {r:List Vl} (h:hMay M l r = true) {v:Vl} (hv:v ∈ r):vMay l.length v = true:=by
 simp only [hMay,Bool.and_eq_true] at h
 exact List.all_eq_true.1 h.2 v hv
theorem field_there {l:List Ob} {v:Vl} {f:Int} (hv:vMay l.length v = true) (he:fieldErr l v f = 0):v.k = 2 ∧ ∃ (p q:Nat) (o:Ob) (x:Vl),v.n = p ∧ f = q ∧ l[p]? = some o ∧ o.fs[q]? = some x ∧ o.dead = false:=by
 by_cases hk:v.k = 2
 ·obtain ⟨p,o,hp,hlt,ho⟩:=ref_place hv hk
  simp only [fieldErr,hk,hp,Int.toNat_natCast,ho] at he
  cases hd:o.dead with
  | true => simp [hd] at he
  | false =>
   simp only [hd] at he
   by_cases hf:f < 0 ∨ (o.fs.length:Int) ≤ f
   ·simp [hf] at he
   ·obtain ⟨q,hq⟩:=Int.eq_ofNat_of_zero_le (show 0 ≤ f by omega)
    have hql:q < o.fs.length:=by omega
    exact ⟨hk,p,q,o,o.fs[q],hp,hq,ho,List.getElem?_eq_getElem hql,hd⟩
 ·simp [fieldErr,hk] at he
def setObs (l:List Ob) (p q:Nat) (x:Vl):List Ob :=
 match l[p]? with
 | none => l
 | some o => l.set p ⟨o.fs.set q x,o.dead⟩
def setS (M:Int) (l:List Ob) (v:Vl) (f:Int) (x:Vl):Int × List Ob × Int :=
 if hMay M l [v,x] = false then (0,[],8) else if fieldErr l v f ≠ 0 then (0,[],fieldErr l v f)
 else (M,setObs l v.n.toNat f.toNat x,0)
theorem setObs_length (l:List Ob) (p q:Nat) (x:Vl):(setObs l p q x).length = l.length:=by
 unfold setObs
 split <;> simp
def trS (M:Int) (l:List Ob) (v:Vl) (M':Int) (l':List Ob):List Int × Int :=
 if (hMay M l [v] && hMay M' l' []) = true then
  if (reach l [v]).any (fun p => (obAt l p).dead) = true then ([],10)
  else if M' < ((l'.length + (reach l [v]).length:Nat):Int) then ([],7)
  else (reach l [v],0)
 else ([],8)
theorem mMay_of {M:Int} {l:List Ob} {r:List Vl} (h:hMay M l r = true):0 ≤ M ∧ M ≤ 60:=by
 simp only [hMay,mMay,Bool.and_eq_true,decide_eq_true_eq] at h
 omega
def buryL (l:List Ob) (ps:List Int):List Ob:=ps.foldl (fun r p => r.set p.toNat (⟨[],true⟩:Ob)) l
theorem buryL_length (l:List Ob):∀ ps:List Int,(buryL l ps).length = l.length:=by
 intro ps
 induction ps generalizing l with
 | nil => rfl
 | cons p r ih => show (buryL _ r).length = _; rw [ih]; simp
structure TrR where
 M1:Int
 o1:List Ob
 M2:Int
 o2:List Ob
 v:Vl
 e:Int
def transferS (M:Int) (l:List Ob) (v:Vl) (M':Int) (l':List Ob) (move:Bool):TrR :=
 if (trS M l v M' l').2 = 0 then ⟨M,if move then buryL l (trS M l v M' l').1 else l,M',l' ++ mvObs l (trS M l v M' l').1 l'.length (trS M l v M' l').1,mvV (trS M l v M' l').1 l'.length v,0⟩
 else ⟨0,[],0,[],⟨0,0⟩,(trS M l v M' l').2⟩
theorem trS_ok {M:Int} {l:List Ob} {v:Vl} {M':Int} {l':List Ob} (h:(trS M l v M' l').2 = 0):hMay M l [v] = true ∧ hMay M' l' [] = true ∧ (trS M l v M' l').1 = reach l [v] ∧ (∀ p ∈ reach l [v],(obAt l p).dead = false) ∧ ((l'.length + (reach l [v]).length:Nat):Int) ≤ M':=by
 unfold trS at h ⊢
 by_cases h1:(hMay M l [v] && hMay M' l' []) = true
 ·rw [if_pos h1] at h ⊢
  by_cases h2:(reach l [v]).any (fun p => (obAt l p).dead) = true
  ·rw [if_pos h2] at h; simp at h
  ·rw [if_neg h2] at h ⊢
   by_cases h3:M' < ((l'.length + (reach l [v]).length:Nat):Int)
   ·rw [if_pos h3] at h; simp at h
   ·rw [if_neg h3]
    have h1':=Bool.and_eq_true_iff.1 h1
    refine ⟨h1'.1,h1'.2,rfl,fun p hp => ?_,by omega⟩
    have:=(List.any_eq_false.1 (Bool.not_eq_true _ ▸ h2)) p hp
    simpa using this
 ·rw [if_neg h1] at h; simp at h
theorem vMay_mono {m m':Int} {v:Vl} (h:vMay m v = true) (hm:m ≤ m'):vMay m' v = true:=by
 unfold vMay at h ⊢
 split
 ·rename_i h0; simpa [h0] using h
 ·rename_i h0
  split
  ·rename_i h1; simpa [h0,h1] using h
  ·rename_i h1
   split
   ·rename_i h2
    simp [h2] at h ⊢
    omega
   ·rename_i h2
    simp [h0,h1,h2] at h
theorem oMay_mono {m m':Int} {o:Ob} (h:oMay m o = true) (hm:m ≤ m'):oMay m' o = true:=by
 unfold oMay at h ⊢
 split
 ·rename_i hd; simpa [hd] using h
 ·rename_i hd
  simp only [hd,if_false,Bool.and_eq_true,Bool.false_eq_true] at h ⊢
  exact ⟨h.1,List.all_eq_true.2 fun x hx => vMay_mono (List.all_eq_true.1 h.2 x hx) hm⟩
theorem hMay_parts {M:Int} {l:List Ob} {r:List Vl}:hMay M l r = true ↔ (0 ≤ M ∧ M ≤ 60 ∧ (l.length:Int) ≤ M) ∧ (∀ o ∈ l,oMay l.length o = true) ∧ ∀ v ∈ r,vMay l.length v = true:=by
 simp only [hMay,mMay,Bool.and_eq_true,decide_eq_true_eq,List.all_eq_true]
 exact ⟨fun h => ⟨⟨h.1.1.1.1,h.1.1.1.2,h.1.1.2⟩,h.1.2,h.2⟩,fun h => ⟨⟨⟨⟨h.1.1,h.1.2.1⟩,h.1.2.2⟩,h.2.1⟩,h.2.2⟩⟩
theorem buryL_at (l:List Ob):∀ (ps:List Int),(∀ p ∈ ps,0 ≤ p) → ∀ i:Nat,(buryL l ps)[i]? = if (i:Int) ∈ ps ∧ i < l.length then some ⟨[],true⟩ else l[i]?:=by
 intro ps
 induction ps generalizing l with
 | nil => intro _ i; simp [buryL]
 | cons p r ih =>
  intro hp i
  have h0:=hp p (by simp)
  show (buryL (l.set p.toNat ⟨[],true⟩) r)[i]? = _
  rw [ih _ (fun q hq => hp q (by simp [hq])) i,List.length_set]
  by_cases hr:(i:Int) ∈ r ∧ i < l.length
  ·rw [if_pos hr,if_pos ⟨by simp [hr.1],hr.2⟩]
  ·rw [if_neg hr,List.getElem?_set]
   by_cases he:p.toNat = i
   ·have hpi:(i:Int) = p:=by omega
    rw [if_pos he]
    by_cases hl:i < l.length
    ·rw [if_pos (by omega),if_pos ⟨by simp [hpi],hl⟩]
    ·rw [if_neg (by omega),if_neg (fun x => hl x.2),List.getElem?_eq_none (by omega)]
   ·have hpi:(i:Int) ≠ p:=by omega
    rw [if_neg he,if_neg]
    intro x
    exact hr ⟨by simpa [hpi] using x.1,x.2⟩
theorem bury_may {M:Int} {l:List Ob} {ps:List Int} {roots:List Vl} (h:hMay M l roots = true) (hp:∀ p ∈ ps,0 ≤ p):hMay M (buryL l ps) roots = true:=by
 simp only [hMay,Bool.and_eq_true] at h ⊢
 rw [buryL_length]
 refine ⟨⟨h.1.1,List.all_eq_true.2 fun o ho => ?_⟩,h.2⟩
 obtain ⟨i,hi⟩:=List.getElem?_of_mem ho
 rw [buryL_at l ps hp i] at hi
 split at hi
 ·cases hi
  rfl
 ·exact List.all_eq_true.1 h.1.2 o (List.mem_of_getElem? hi)
end
section
def vObj (t:Int):Bool:=decide (2 ≤ t) && decide (t ≤ 3)
def vJoin (a b:Int):Int:=if a = b then a else if vObj a = true ∧ vObj b = true then 2 else 0
def vAt (k:List Int) (r:Int):Int:=(k[r.toNat]?).getD 0
def vPut (k:List Int) (r x:Int):List Int:=k.set r.toNat x
def vBehind (op a b:Int) (k:List Int):List Int :=
 if op = 1 ∨ op = 2 ∨ op = 3 ∨ op = 4 ∨ op = 8 ∨ op = 16 then vPut k a 1
 else if op = 7 then vPut k a 3
 else if op = 10 then vPut (vPut k a 2) b 2
 else if op = 11 then (if a = b ∨ vAt k b = 2 then vPut k a 2 else vPut k b 0)
 else if op = 12 then vPut (if vAt k b = 3 then vPut k b 0 else k) a (vAt k b)
 else if op = 13 ∨ op = 18 then vPut k a 0
 else if op = 17 then vPut (vPut k b 0) a 1
 else k
def vGoes (op n place:Int):List Int :=
 if op = 0 ∨ op = 19 then [] else if op = 6 then [place + n] else if op = 5 then [place + 1,place + n] else [place + 1]
def vMayDo (op a b:Int) (k:List Int):Bool :=
 if op = 0 then vObj (vAt k 0)
 else if op = 2 ∨ op = 3 ∨ op = 4 then decide (vAt k a = 1) && decide (vAt k b = 1)
 else if op = 5 ∨ op = 15 then decide (vAt k a = 1)
 else if op = 8 ∨ op = 10 then vObj (vAt k b)
 else if op = 9 ∨ op = 14 then vObj (vAt k a) && decide (vAt k b = 1)
 else if op = 11 then vObj (vAt k a) && vObj (vAt k b)
 else if op = 12 then decide (vAt k b ≠ 0)
 else if op = 13 then decide (vAt k a = 3) && decide (vAt k b = 1)
 else if op = 17 then decide (vAt k b = 3)
 else true
abbrev Pt:=Option (List Int)
def vCome (p:Pt) (on:List Int):Pt:=match p with
 | none => some on
 | some k => some (List.zipWith vJoin k on)
def vPt (st:List Pt) (i:Nat):Pt:=(st[i]?).getD none
def vTo (on:List Int) (st:List Pt) (tq:Int):List Pt:=st.set tq.toNat (vCome (vPt st tq.toNat) on)
def vTurn (x:Nat → Nat → Int) (st:List Pt) (i:Nat):List Pt:=match vPt st i with
 | none => st
 | some k => (vGoes (x i 0) (x i 3) i).foldl (vTo (vBehind (x i 0) (x i 1) (x i 2) k)) st
def vTurns (x:Nat → Nat → Int) (st:List Pt) (i:Nat):List Pt:=(List.range i).foldl (vTurn x) st
def vRound (x:Nat → Nat → Int) (L:Nat) (st:List Pt):List Pt:=vTurns x st L
def vStart (L:Nat):List Pt:=(List.replicate L none).set 0 (some [3,3,0,0,0,0,0,0])
def vIter (x:Nat → Nat → Int) (L:Nat):Nat → List Pt → List Pt
 | 0,st => st
 | n + 1,st => vIter x L n (vRound x L st)
def IsFlow (x:Nat → Nat → Int) (L:Nat) (st:List Pt):Prop:=(∃ n,st = vIter x L n (vStart L)) ∧ vRound x L st = st
theorem vIter_fix {x:Nat → Nat → Int} {L:Nat} {st:List Pt} (h:vRound x L st = st):∀ n,vIter x L n st = st
 | 0 => rfl
 | n + 1 => by rw [vIter,h]; exact vIter_fix h n
theorem vIter_add (x:Nat → Nat → Int) (L:Nat):∀ (n m:Nat) (st:List Pt),vIter x L (n + m) st = vIter x L m (vIter x L n st)
 | 0,m,st => by rw [Nat.zero_add]; rfl
 | n + 1,m,st => by rw [Nat.succ_add,vIter,vIter]; exact vIter_add x L n m _
theorem vIter_succ (x:Nat → Nat → Int) (L n:Nat) (st:List Pt):vIter x L (n + 1) st = vRound x L (vIter x L n st):=vIter_add x L n 1 st
theorem IsFlow.one {x:Nat → Nat → Int} {L:Nat} {a b:List Pt} (ha:IsFlow x L a) (hb:IsFlow x L b):a = b:=by
 obtain ⟨⟨n,rfl⟩,fa⟩:=ha
 obtain ⟨⟨m,rfl⟩,fb⟩:=hb
 rcases Nat.le_total n m with h | h
 ·obtain ⟨d,rfl⟩:=Nat.exists_eq_add_of_le h
  rw [vIter_add,vIter_fix fa]
 ·obtain ⟨d,rfl⟩:=Nat.exists_eq_add_of_le h
  rw [vIter_add,vIter_fix fb]
theorem vTurns_succ (x:Nat → Nat → Int) (st:List Pt) (i:Nat):vTurns x st (i + 1) = vTurn x (vTurns x st i) i:=by simp [vTurns,List.range_succ]
def VGood (L:Nat) (st:List Pt):Prop:=st.length = L ∧ ∀ k,some k ∈ st → k.length = 8
theorem vPut_length (k:List Int) (r x:Int):(vPut k r x).length = k.length:=by simp [vPut]
theorem vBehind_length (op a b:Int) (k:List Int):(vBehind op a b k).length = k.length:=by
 unfold vBehind
 repeat' split
 all_goals simp [vPut_length]
theorem VGood.pt {L:Nat} {st:List Pt} (h:VGood L st) {i:Nat} {k:List Int} (hk:vPt st i = some k):k.length = 8:=by
 unfold vPt at hk
 cases hi:st[i]? with
 | none => simp [hi] at hk
 | some p =>
  simp [hi] at hk
  subst hk
  exact h.2 k (List.mem_of_getElem? hi)
theorem VGood.set {L:Nat} {st:List Pt} (h:VGood L st) (i:Nat) {p:Pt} (hp:∀ k,p = some k → k.length = 8):VGood L (st.set i p):=by
 refine ⟨by simp [h.1],fun k hk => ?_⟩
 rcases List.mem_or_eq_of_mem_set hk with hk | hk
 ·exact h.2 k hk
 ·exact hp k hk.symm
theorem vCome_length {p:Pt} {on:List Int} (hp:∀ k,p = some k → k.length = 8) (ho:on.length = 8):∀ k,vCome p on = some k → k.length = 8:=by
 intro k hk
 cases p with
 | none => simp [vCome] at hk; subst hk; exact ho
 | some q => simp [vCome] at hk; subst hk; simp [hp q rfl,ho]
theorem VGood.to {L:Nat} {st:List Pt} (h:VGood L st) {on:List Int} (ho:on.length = 8) (tq:Int):VGood L (vTo on st tq) :=
 h.set _ (vCome_length (fun _ hk => h.pt hk) ho)
theorem VGood.tos {L:Nat} {on:List Int} (ho:on.length = 8):∀ (tos:List Int) {st:List Pt},VGood L st → VGood L (tos.foldl (vTo on) st)
 | [],_,h => h
 | t :: r,_,h => VGood.tos ho r (h.to ho t)
theorem VGood.turn {L:Nat} {st:List Pt} (h:VGood L st) (x:Nat → Nat → Int) (i:Nat):VGood L (vTurn x st i):=by
 unfold vTurn
 cases hi:vPt st i with
 | none => exact h
 | some k => exact VGood.tos (by rw [vBehind_length]; exact h.pt hi) _ h
theorem VGood.turns {L:Nat} {st:List Pt} (h:VGood L st) (x:Nat → Nat → Int):∀ i,VGood L (vTurns x st i)
 | 0 => h
 | i + 1 => by rw [vTurns_succ]; exact (VGood.turns h x i).turn x i
theorem vgood_start (L:Nat):VGood L (vStart L):=by
 refine VGood.set ⟨by simp,fun k hk => ?_⟩ 0 (fun k hk => by simp at hk; subst hk; rfl)
 simp at hk
def vHt (x:Int):Nat:=if x = 0 then 0 else if x = 3 then 2 else 1
def vHts (k:List Int):Nat:=(k.map vHt).sum
def vHp (p:Pt):Nat:=match p with
 | none => 17
 | some k => vHts k
def vMu (st:List Pt):Nat:=(st.map vHp).sum
theorem vHt_le (x:Int):vHt x ≤ 2:=by unfold vHt; split <;> (try split) <;> omega
theorem vHts_le:∀ k:List Int,vHts k ≤ 2 * k.length
 | [] => Nat.le_refl _
 | x :: r => by
  have h1:=vHt_le x
  have h2:=vHts_le r
  simp only [vHts,List.map_cons,List.sum_cons,List.length_cons] at *
  omega
theorem vJoin_ht (a b:Int):vHt (vJoin a b) ≤ vHt a ∧ (vJoin a b ≠ a → vHt (vJoin a b) < vHt a):=by
 unfold vJoin
 by_cases h:a = b
 ·simp [h]
 ·rw [if_neg h]
  by_cases ho:vObj a = true ∧ vObj b = true
  ·rw [if_pos ho]
   simp only [vObj,Bool.and_eq_true,decide_eq_true_eq] at ho
   by_cases h3:a = 3
   ·subst h3; simp [vHt]
   ·have:a = 2:=by omega
    subst this; simp
  ·rw [if_neg ho]
   by_cases h0:a = 0
   ·subst h0; simp
   ·have h1:vHt 0 = 0:=rfl
    have h2:0 < vHt a:=by unfold vHt; rw [if_neg h0]; split <;> omega
    omega
theorem vJoins_ht:∀ (k on:List Int),k.length = on.length → vHts (List.zipWith vJoin k on) ≤ vHts k ∧ (List.zipWith vJoin k on ≠ k → vHts (List.zipWith vJoin k on) < vHts k)
 | [],[],_ => by simp [vHts]
 | a :: k,b :: on,h => by
  have ih:=vJoins_ht k on (by simpa using h)
  have hj:=vJoin_ht a b
  have e1:vHts (vJoin a b :: List.zipWith vJoin k on) = vHt (vJoin a b) + vHts (List.zipWith vJoin k on):=by simp [vHts]
  have e2:vHts (a :: k) = vHt a + vHts k:=by simp [vHts]
  simp only [List.zipWith_cons_cons]
  rw [e1,e2]
  refine ⟨by omega,fun hne => ?_⟩
  by_cases ha:vJoin a b = a
  ·have:List.zipWith vJoin k on ≠ k:=fun e => hne (by rw [ha,e])
   have:=ih.2 this
   omega
  ·have:=hj.2 ha
   omega
theorem vCome_ht {p:Pt} {on:List Int} (hp:∀ k,p = some k → k.length = 8) (ho:on.length = 8):vHp (vCome p on) ≤ vHp p ∧ (vCome p on ≠ p → vHp (vCome p on) < vHp p):=by
 cases p with
 | none =>
  have:=vHts_le on
  simp only [vCome,vHp]
  omega
 | some k =>
  have:=vJoins_ht k on (by rw [hp k rfl,ho])
  simp only [vCome,vHp]
  exact ⟨this.1,fun h => this.2 (fun e => h (by rw [e]))⟩
theorem sum_set:∀ (l:List Nat) (i y:Nat) (hi:i < l.length),(l.set i y).sum + l[i] = l.sum + y
 | a :: r,0,y,_ => by simp; omega
 | a :: r,i + 1,y,hi => by
  have:=sum_set r i y (by simpa using hi)
  simp only [List.set_cons_succ,List.sum_cons,List.getElem_cons_succ]
  omega
theorem vTo_mu {L:Nat} {st:List Pt} (h:VGood L st) {on:List Int} (ho:on.length = 8) (tq:Int):vMu (vTo on st tq) ≤ vMu st ∧ (vTo on st tq ≠ st → vMu (vTo on st tq) < vMu st):=by
 unfold vTo
 by_cases hi:tq.toNat < st.length
 ·have hp:vPt st tq.toNat = st[tq.toNat]:=by simp [vPt,hi]
  have hc:=vCome_ht (p:=vPt st tq.toNat) (on:=on) (fun _ hk => h.pt hk) ho
  have hs:=sum_set (st.map vHp) tq.toNat (vHp (vCome (vPt st tq.toNat) on)) (by simpa using hi)
  rw [← List.map_set] at hs
  simp only [List.getElem_map,← hp] at hs
  unfold vMu
  refine ⟨by omega,fun hne => ?_⟩
  have:=hc.2 (fun e => hne (by rw [e,hp]; simp))
  omega
 ·rw [List.set_eq_of_length_le (by omega)]
  exact ⟨Nat.le_refl _,fun h => absurd rfl h⟩
theorem vTos_mu {L:Nat} {on:List Int} (ho:on.length = 8):∀ (tos:List Int) {st:List Pt},VGood L st → vMu (tos.foldl (vTo on) st) ≤ vMu st ∧ (tos.foldl (vTo on) st ≠ st → vMu (tos.foldl (vTo on) st) < vMu st)
 | [],st,h => ⟨Nat.le_refl _,fun e => absurd rfl e⟩
 | t :: r,st,h => by
  have h1:=vTo_mu h ho t
  have h2:=vTos_mu ho r (h.to ho t)
  simp only [List.foldl_cons]
  refine ⟨Nat.le_trans h2.1 h1.1,fun hne => ?_⟩
  by_cases e:vTo on st t = st
  ·rw [e] at h2 hne ⊢
   exact h2.2 hne
  ·exact Nat.lt_of_le_of_lt h2.1 (h1.2 e)
theorem vTurn_mu {L:Nat} {st:List Pt} (h:VGood L st) (x:Nat → Nat → Int) (i:Nat):vMu (vTurn x st i) ≤ vMu st ∧ (vTurn x st i ≠ st → vMu (vTurn x st i) < vMu st):=by
 unfold vTurn
 cases hi:vPt st i with
 | none => exact ⟨Nat.le_refl _,fun e => absurd rfl e⟩
 | some k => exact vTos_mu (by rw [vBehind_length]; exact h.pt hi) _ h
theorem vTurns_mu {L:Nat} {st:List Pt} (h:VGood L st) (x:Nat → Nat → Int):∀ i,vMu (vTurns x st i) ≤ vMu st ∧ (vTurns x st i ≠ st → vMu (vTurns x st i) < vMu st)
 | 0 => ⟨Nat.le_refl _,fun e => absurd rfl e⟩
 | i + 1 => by
  have h1:=vTurns_mu h x i
  have h2:=vTurn_mu (VGood.turns h x i) x i
  rw [vTurns_succ]
  refine ⟨Nat.le_trans h2.1 h1.1,fun hne => ?_⟩
  by_cases e:vTurns x st i = st
  ·rw [e] at h2 hne ⊢
   exact h2.2 hne
  ·exact Nat.lt_of_le_of_lt h2.1 (h1.2 e)
theorem vMu_le {L:Nat} {st:List Pt} (h:VGood L st):vMu st ≤ 17 * L:=by
 obtain ⟨rfl,h8⟩:=h
 induction st with
 | nil => simp [vMu]
 | cons p r ih =>
  have ih':=ih (fun k hk => h8 k (by simp [hk]))
  have hp:vHp p ≤ 17:=by
   cases p with
   | none => exact Nat.le_refl _
   | some k =>
    have h1:=vHts_le k
    have h2:=h8 k (by simp)
    simp only [vHp]
    omega
  simp only [vMu,List.map_cons,List.sum_cons,List.length_cons] at ih' ⊢
  omega
end
section
structure Ins where
 op:Int
 a:Int
 b:Int
 n:Int
def noIns:Ins:=⟨0,0,0,0⟩
section
variable {bs:List Int} {k k1 k2 k3:Nat} {q a b n er:Int}
end
end
end Go.Proofs.YtddokajfafmhhaaGreatDoor
