/- ASound ASound2. -/
import Derived.Test.YtddokajfafmhhaaGreatDoorCASmall
import Derived.Test.YtddokajfafmhhaaGreatDoorCASend
import Derived.Test.YtddokajfafmhhaaGreatDoorCVGoes
import Derived.Test.YtddokajfafmhhaaGreatDoorCVFlow
import Derived.Test.YtddokajfafmhhaaGreatDoorCAStr
namespace Go.Proofs.YtddokajfafmhhaaGreatDoor
section
theorem get_ok {M:Int} {l:List Ob} {v:Vl} {f:Int} (hm:hMay M l [] = true) (hv:vMay l.length v = true) (hk:v.k = 2) (hd:(obAt l v.n).dead = false) :
  (getS M l v f).2 = 0 ∧ (getS M l v f).1 ∈ fieldsOf l v.n ∨ (getS M l v f).2 = 2:=by
 have hm1:hMay M l [v] = true:=by
  have:=hMay_parts.1 hm
  exact hMay_parts.2 ⟨this.1,this.2.1,fun u hu => by simp at hu; subst hu; exact hv⟩
 obtain ⟨p,o,hp,hlt,ho⟩:=ref_place hv hk
 rw [hp,obAt_some ho] at hd
 have hfe:fieldErr l v f = if f < 0 ∨ (o.fs.length:Int) ≤ f then 2 else 0:=by
  unfold fieldErr
  rw [if_neg (by omega),hp,Int.toNat_natCast,ho]
  simp [hd]
 unfold getS
 rw [if_neg (by simp [hm1]),hfe]
 by_cases hf:f < 0 ∨ (o.fs.length:Int) ≤ f
 ·rw [if_pos hf]
  exact Or.inr (by simp)
 ·rw [if_neg hf,if_neg (by simp),hp,Int.toNat_natCast,ho]
  have hfl:f.toNat < o.fs.length:=by omega
  simp only [List.getElem?_eq_getElem hfl]
  refine Or.inl ⟨trivial,?_⟩
  rw [fieldsOf_obAt,obAt_some ho]
  exact List.getElem_mem hfl
theorem set_ok {M:Int} {l:List Ob} {v x:Vl} {f:Int} (hm:hMay M l [] = true) (hv:vMay l.length v = true) (hx:vMay l.length x = true) (hk:v.k = 2) (hd:(obAt l v.n).dead = false) :
  (∃ (p:Nat) (o:Ob) (q:Nat),v.n = p ∧ l[p]? = some o ∧ q < o.fs.length ∧ setS M l v f x = (M,l.set p ⟨o.fs.set q x,o.dead⟩,0)) ∨ setS M l v f x = (0,[],2):=by
 have hm1:hMay M l [v,x] = true:=by
  have:=hMay_parts.1 hm
  exact hMay_parts.2 ⟨this.1,this.2.1,fun u hu => by simp at hu; rcases hu with rfl | rfl; exact hv; exact hx⟩
 obtain ⟨p,o,hp,hlt,ho⟩:=ref_place hv hk
 rw [hp,obAt_some ho] at hd
 have hfe:fieldErr l v f = if f < 0 ∨ (o.fs.length:Int) ≤ f then 2 else 0:=by
  unfold fieldErr
  rw [if_neg (by omega),hp,Int.toNat_natCast,ho]
  simp [hd]
 unfold setS
 rw [if_neg (by simp [hm1]),hfe]
 by_cases hf:f < 0 ∨ (o.fs.length:Int) ≤ f
 ·rw [if_pos hf]
  exact Or.inr (by simp)
 ·rw [if_neg hf,if_neg (by simp),hp,Int.toNat_natCast]
  refine Or.inl ⟨p,o,f.toNat,rfl,ho,by omega,?_⟩
  unfold setObs
  rw [ho]
theorem set_may {M:Int} {l:List Ob} {r:List Vl} (hm:hMay M l r = true) {p:Nat} {o:Ob} (ho:l[p]? = some o) {q:Nat} {x:Vl} (hx:vMay l.length x = true):hMay M (l.set p ⟨o.fs.set q x,o.dead⟩) r = true:=by
 have hp:=hMay_parts.1 hm
 refine hMay_parts.2 ⟨by simpa using hp.1,fun u hu => ?_,by simpa using hp.2.2⟩
 rw [List.length_set]
 rcases List.mem_or_eq_of_mem_set hu with hu | rfl
 ·exact hp.2.1 u hu
 ·have:=hp.2.1 o (List.mem_of_getElem? ho)
  unfold oMay at this ⊢
  by_cases hd:o.dead = true
  ·simp only [hd,if_true,List.length_set] at this ⊢
   exact this
  ·simp only [hd,Bool.false_eq_true,if_false,List.length_set,Bool.and_eq_true] at this ⊢
   refine ⟨this.1,List.all_eq_true.2 fun y hy => ?_⟩
   rcases List.mem_or_eq_of_mem_set hy with hy | rfl
   ·exact List.all_eq_true.1 this.2 y hy
   ·exact hx
theorem field_may {M:Int} {l:List Ob} {r:List Vl} (hm:hMay M l r = true) {p:Int} {x:Vl} (hx:x ∈ fieldsOf l p):vMay l.length x = true:=List.all_eq_true.1 (fields_may hm p) x hx
theorem vObj_iff {x:Int}:vObj x = true ↔ x = 2 ∨ x = 3:=by
 simp only [vObj,Bool.and_eq_true,decide_eq_true_eq]
 omega
def kNext (i:Ins) (k:List Int):List Int:=if i.op = 0 then kWait else vBehind i.op i.a i.b k
structure Same (a b:Ac):Prop where
 kind:b.kind = a.kind
 par:b.par = a.par
 pc:b.pc = a.pc
 fin:b.fin = a.fin
 M:b.M = a.M
 box:b.box.length = a.box.length
theorem Same.refl (a:Ac):Same a a:=⟨rfl,rfl,rfl,rfl,rfl,rfl⟩
theorem same_clear {a:Ac} (h:AStr a):Same a (clearS a):=by rw [clear_eq h]; exact ⟨rfl,rfl,rfl,rfl,rfl,by simp⟩
structure AloneOk (a:Ac) (k:List Int) (i:Ins) (r:Ac × Int):Prop where
 same:Same a r.1
 str:AStr r.1
 way:0 ≤ r.2 ∧ r.2 ≤ 7
 typ:r.2 = 0 → Typ r.1.obs r.1.regs r.1.box (kNext i k)
set_option maxHeartbeats 1000000 in
theorem alone_ok {a:Ac} (h:AStr a) {k:List Int} (hk:k.length = 8) (ht:Typ a.obs a.regs a.box k) {i:Ins} {G many place:Int} (hi:InsOk G many place i) (hmay:vMayDo i.op i.a i.b k = true) {who:Nat} (hwho:who < 8) (hop:i.op ≠ 13 ∧ i.op ≠ 14 ∧ i.op ≠ 15 ∧ i.op ≠ 17):AloneOk a k i (aloneS a who i):=by
 have ra:=h.reg hi.a
 have rb:=h.reg hi.b
 have ea:((i.a.toNat:Nat):Int) = i.a:=by have:=hi.a; omega
 have eb:((i.b.toNat:Nat):Int) = i.b:=by have:=hi.b; omega
 have la:i.a.toNat < 8:=by have:=hi.a; omega
 have lb:i.b.toNat < 8:=by have:=hi.b; omega
 have numA:vAt k i.a = 1 → (a.reg i.a).k = 1:=fun e => ht.num i.a.toNat _ la ra (by rw [ea]; exact e)
 have numB:vAt k i.b = 1 → (a.reg i.b).k = 1:=fun e => ht.num i.b.toNat _ lb rb (by rw [eb]; exact e)
 have objA:vObj (vAt k i.a) = true → (vAt k (i.a.toNat:Nat) = 2 ∨ vAt k (i.a.toNat:Nat) = 3) ∧ (a.reg i.a).k = 2 ∧ (obAt a.obs (a.reg i.a).n).dead = false:=fun e => by
  have e':vAt k (i.a.toNat:Nat) = 2 ∨ vAt k (i.a.toNat:Nat) = 3:=by rw [ea]; exact vObj_iff.1 e
  have:=ht.obj la ra e'
  exact ⟨e',this.1,this.2 _ (.root this.1)⟩
 have objB:vObj (vAt k i.b) = true → (vAt k (i.b.toNat:Nat) = 2 ∨ vAt k (i.b.toNat:Nat) = 3) ∧ (a.reg i.b).k = 2 ∧ (obAt a.obs (a.reg i.b).n).dead = false:=fun e => by
  have e':vAt k (i.b.toNat:Nat) = 2 ∨ vAt k (i.b.toNat:Nat) = 3:=by rw [eb]; exact vObj_iff.1 e
  have:=ht.obj lb rb e'
  exact ⟨e',this.1,this.2 _ (.root this.1)⟩
 have mnil:=hMay_nil h.may
 unfold aloneS
 by_cases o0:i.op = 0
 ·rw [if_pos o0]
  have hm0:vObj (vAt k 0) = true:=by simpa [vMayDo,o0] using hmay
  have e0:vAt k (0:Nat) = 2 ∨ vAt k (0:Nat) = 3:=vObj_iff.1 hm0
  have r0:=h.reg (r:=0) (by omega)
  have:=(ht.obj (r:=0) (by omega) r0 e0).1
  rw [if_neg (by simp [this])]
  have hkl:(keep1 a.regs).length = a.regs.length:=by cases a.regs <;> simp [keep1]
  refine ⟨⟨rfl,rfl,rfl,rfl,rfl,rfl⟩,⟨by show (keep1 a.regs).length = 8; rw [hkl]; exact h.regs,h.box,h.refs,?_⟩,by show (0:Int) ≤ 0 ∧ (0:Int) ≤ 7; omega,fun _ => ?_⟩
  ·have hp:=h.vals
   refine hMay_parts.2 ⟨hp.1,hp.2.1,fun u hu => ?_⟩
   simp only [Ac.roots,List.mem_append] at hu
   rcases hu with hu | hu
   ·cases hr:a.regs with
    | nil => rw [hr] at hu; simp [keep1] at hu
    | cons v r =>
     rw [hr] at hu
     simp only [keep1,List.mem_cons,List.mem_map] at hu
     rcases hu with rfl | ⟨_,_,rfl⟩
     ·exact hp.2.2 u (List.mem_append_left _ (by rw [hr]; simp))
     ·exact nil_may _
   ·exact hp.2.2 u (List.mem_append_right _ hu)
  ·rw [kNext,if_pos o0]
   exact ht.done e0
 rw [if_neg o0]
 have kN:kNext i k = vBehind i.op i.a i.b k:=by rw [kNext,if_neg o0]
 by_cases o1:i.op = 1
 ·rw [if_pos o1]
  have hw:isW i.n = true:=by have:=hi.n; rw [o1] at this; simp [loOf,hiOf] at this; exact isW_iff.2 this
  refine ⟨⟨rfl,rfl,rfl,rfl,rfl,rfl⟩,h.put (num_may _ hw),by show (0:Int) ≤ 0 ∧ (0:Int) ≤ 7; omega,fun _ => ?_⟩
  rw [kN,show vBehind i.op i.a i.b k = vPut k i.a 1 by simp [vBehind,o1]]
  exact ht.set hk hi.a (Or.inr rfl) (fun _ => rfl)
 rw [if_neg o1]
 by_cases o2:i.op = 2 ∨ i.op = 3 ∨ i.op = 4
 ·rw [if_pos o2]
  have hm2:vAt k i.a = 1 ∧ vAt k i.b = 1:=by
   unfold vMayDo at hmay
   rw [if_neg o0,if_pos o2] at hmay
   simpa using hmay
  unfold reckonS
  rw [if_neg (by simp [numA hm2.1,numB hm2.2])]
  cases hw:isW (resultS i.op (a.reg i.a).n (a.reg i.b).n) with
  | false =>
   simp only [if_true]
   exact ⟨Same.refl a,h,by show (0:Int) ≤ 7 ∧ (7:Int) ≤ 7; omega,fun e => by have:(7:Int) = 0:=e; omega⟩
  | true =>
   simp only [Bool.true_eq_false,if_false]
   refine ⟨⟨rfl,rfl,rfl,rfl,rfl,rfl⟩,h.put (num_may _ hw),by show (0:Int) ≤ 0 ∧ (0:Int) ≤ 7; omega,fun _ => ?_⟩
   rw [kN,show vBehind i.op i.a i.b k = vPut k i.a 1 by unfold vBehind; rw [if_pos (by omega)]]
   exact ht.set hk hi.a (Or.inr rfl) (fun _ => rfl)
 rw [if_neg o2]
 by_cases o5:i.op = 5
 ·rw [if_pos o5]
  have hm5:vAt k i.a = 1:=by simpa [vMayDo,o5] using hmay
  rw [if_neg (by simp [numA hm5])]
  refine ⟨Same.refl a,h,by show (0:Int) ≤ 0 ∧ (0:Int) ≤ 7; omega,fun _ => ?_⟩
  rw [kN,show vBehind i.op i.a i.b k = k by simp [vBehind,o5]]
  exact ht
 rw [if_neg o5]
 by_cases o7:i.op = 7
 ·rw [if_pos o7]
  have hn4:1 ≤ i.n ∧ i.n ≤ 4:=by have:=hi.n; rw [o7] at this; simpa [loOf,hiOf] using this
  unfold makeS
  rcases give_cases h hn4 with ⟨c,hc,hs,hl,e⟩ | ⟨_,_,e⟩
  ·rw [e]
   have hsc:Same a c:=by rcases hc with rfl | rfl; exact Same.refl _; exact same_clear h
   have hct:Typ c.obs c.regs c.box k:=by rcases hc with rfl | rfl; exact ht; exact Typ.clearS h ht
   have h1:=hs.heap (new_may (hMay_nil hs.may) hn4 hl) (by simp)
   refine ⟨⟨hsc.kind,hsc.par,hsc.pc,hsc.fin,hsc.M,hsc.box⟩,h1.put ?_,by show (0:Int) ≤ 0 ∧ (0:Int) ≤ 7; omega,fun _ => ?_⟩
   ·simp [vMay,Ac.heap]
    omega
   ·rw [kN,show vBehind i.op i.a i.b k = vPut k i.a 3 by simp [vBehind,o7]]
    exact hct.new hs.may (tags_may hs.may) hk hi.a (zero_noRef _) rfl
  ·rw [e]
   exact ⟨same_clear h,h.clear,by show (0:Int) ≤ 5 ∧ (5:Int) ≤ 7; omega,fun e => by have:(5:Int) = 0:=e; omega⟩
 rw [if_neg o7]
 by_cases o8:i.op = 8
 ·rw [if_pos o8]
  have hm8:vObj (vAt k i.b) = true:=by simpa [vMayDo,o8] using hmay
  obtain ⟨e',hk2,hd⟩:=objB hm8
  unfold getsS
  rcases get_ok (f:=i.n) mnil (h.regMay hi.b) hk2 hd with ⟨g0,gm⟩ | g2
  ·rw [if_neg (by simp [g0])]
   by_cases hk1:(getS a.M a.obs (a.reg i.b) i.n).1.k = 1
   ·rw [if_neg (by simp [hk1])]
    refine ⟨⟨rfl,rfl,rfl,rfl,rfl,rfl⟩,h.put (field_may h.may gm),by show (0:Int) ≤ 0 ∧ (0:Int) ≤ 7; omega,fun _ => ?_⟩
    rw [kN,show vBehind i.op i.a i.b k = vPut k i.a 1 by simp [vBehind,o8]]
    exact ht.set hk hi.a (Or.inr rfl) (fun _ => hk1)
   ·rw [if_pos hk1]
    exact ⟨Same.refl a,h,by show (0:Int) ≤ 2 ∧ (2:Int) ≤ 7; omega,fun e => by have:(2:Int) = 0:=e; omega⟩
  ·rw [if_pos (by simp [g2]),g2]
   exact ⟨Same.refl a,h,by show (0:Int) ≤ 4 ∧ (4:Int) ≤ 7; omega,fun e => by have:(4:Int) = 0:=e; omega⟩
 rw [if_neg o8]
 by_cases o10:i.op = 10
 ·rw [if_pos o10]
  have hm8:vObj (vAt k i.b) = true:=by simpa [vMayDo,o10] using hmay
  obtain ⟨e',hk2,hd⟩:=objB hm8
  unfold getsS
  rcases get_ok (f:=i.n) mnil (h.regMay hi.b) hk2 hd with ⟨g0,gm⟩ | g2
  ·rw [if_neg (by simp [g0])]
   by_cases hk1:(getS a.M a.obs (a.reg i.b) i.n).1.k = 2
   ·rw [if_neg (by simp [hk1])]
    refine ⟨⟨rfl,rfl,rfl,rfl,rfl,rfl⟩,h.put (field_may h.may gm),by show (0:Int) ≤ 0 ∧ (0:Int) ≤ 7; omega,fun _ => ?_⟩
    rw [kN,show vBehind i.op i.a i.b k = vPut (vPut k i.a 2) i.b 2 by simp [vBehind,o10]]
    have h1:=ht.share hk hi.b (by rw [eb] at e'; exact e')
    have hl1:(vPut k i.b 2).length = 8:=by simp [vPut,hk]
    have e2:vAt (vPut k i.b 2) (i.b.toNat:Nat) = 2:=by rw [vAt_set hk hi.b,if_pos eb]
    have h2:=h1.setShared hl1 hi.a lb rb e2 (.root hk2) gm hk1
    have ec:vPut (vPut k i.b 2) i.a 2 = vPut (vPut k i.a 2) i.b 2:=by
     unfold vPut
     by_cases eab:i.a.toNat = i.b.toNat
     ·rw [eab]
     ·exact List.set_comm _ _ (fun e => eab e.symm)
    rw [ec] at h2
    exact h2
   ·rw [if_pos hk1]
    exact ⟨Same.refl a,h,by show (0:Int) ≤ 3 ∧ (3:Int) ≤ 7; omega,fun e => by have:(3:Int) = 0:=e; omega⟩
  ·rw [if_pos (by simp [g2]),g2]
   exact ⟨Same.refl a,h,by show (0:Int) ≤ 4 ∧ (4:Int) ≤ 7; omega,fun e => by have:(4:Int) = 0:=e; omega⟩
 rw [if_neg o10]
 by_cases o9:i.op = 9
 ·rw [if_pos o9]
  have hm9:vObj (vAt k i.a) = true ∧ vAt k i.b = 1:=by simpa [vMayDo,o9] using hmay
  obtain ⟨e',hk2,hd⟩:=objA hm9.1
  have hb1:=numB hm9.2
  unfold putsS
  rcases set_ok (f:=i.n) mnil (h.regMay hi.a) (h.regMay hi.b) hk2 hd with ⟨p,o,q,hp,ho,hq,e⟩ | e
  ·rw [e]
   simp only [ne_eq,not_true_eq_false,if_false,hb1]
   refine ⟨⟨rfl,rfl,rfl,rfl,rfl,rfl⟩,h.heap (set_may mnil ho (h.regMay hi.b)) (by simp),by show (0:Int) ≤ 0 ∧ (0:Int) ≤ 7; omega,fun _ => ?_⟩
   rw [kN,show vBehind i.op i.a i.b k = k by simp [vBehind,o9]]
   exact ht.putNum h.may (tags_may h.may) la ra e' hp ho q (by omega)
  ·rw [e]
   exact ⟨Same.refl a,h,by show (0:Int) ≤ 4 ∧ (4:Int) ≤ 7; omega,fun e => by have:(4:Int) = 0:=e; omega⟩
 rw [if_neg o9]
 by_cases o11:i.op = 11
 ·rw [if_pos o11]
  have hm11:vObj (vAt k i.a) = true ∧ vObj (vAt k i.b) = true:=by simpa [vMayDo,o11] using hmay
  obtain ⟨e',hk2,hd⟩:=objA hm11.1
  obtain ⟨e'',hkb,_⟩:=objB hm11.2
  unfold putsS
  rcases set_ok (f:=i.n) mnil (h.regMay hi.a) (h.regMay hi.b) hk2 hd with ⟨p,o,q,hp,ho,hq,e⟩ | e
  ·rw [e]
   simp only [ne_eq,not_true_eq_false,if_false,hkb]
   refine ⟨⟨rfl,rfl,rfl,rfl,rfl,rfl⟩,h.heap (set_may mnil ho (h.regMay hi.b)) (by simp),by show (0:Int) ≤ 0 ∧ (0:Int) ≤ 7; omega,fun _ => ?_⟩
   have e3:vBehind i.op i.a i.b k = if ((i.a.toNat:Nat):Int) = (i.b.toNat:Nat) ∨ vAt k (i.b.toNat:Nat) = 2 then vPut k (i.a.toNat:Nat) 2 else vPut k (i.b.toNat:Nat) 0:=by rw [ea,eb]; simp [vBehind,o11]
   rw [kN,e3]
   exact ht.putRef h.may (tags_may h.may) hk la lb ra e' hp ho q rb e''
  ·rw [e]
   exact ⟨Same.refl a,h,by show (0:Int) ≤ 4 ∧ (4:Int) ≤ 7; omega,fun e => by have:(4:Int) = 0:=e; omega⟩
 rw [if_neg o11]
 by_cases o12:i.op = 12
 ·rw [if_pos o12]
  refine ⟨⟨rfl,rfl,rfl,rfl,rfl,rfl⟩,h.put (h.regMay hi.b),by show (0:Int) ≤ 0 ∧ (0:Int) ≤ 7; omega,fun _ => ?_⟩
  rw [kN,show vBehind i.op i.a i.b k = vPut (if vAt k i.b = 3 then vPut k i.b 0 else k) i.a (vAt k i.b) by simp [vBehind,o12]]
  exact ht.move hk hi.a hi.b rb
 rw [if_neg o12]
 by_cases o16:i.op = 16
 ·rw [if_pos o16]
  have hw:isW (who:Int) = true:=isW_iff.2 (by omega)
  refine ⟨⟨rfl,rfl,rfl,rfl,rfl,rfl⟩,h.put (num_may _ hw),by show (0:Int) ≤ 0 ∧ (0:Int) ≤ 7; omega,fun _ => ?_⟩
  rw [kN,show vBehind i.op i.a i.b k = vPut k i.a 1 by simp [vBehind,o16]]
  exact ht.set hk hi.a (Or.inr rfl) (fun _ => rfl)
 rw [if_neg o16]
 by_cases o18:i.op = 18
 ·rw [if_pos o18]
  refine ⟨⟨rfl,rfl,rfl,rfl,rfl,rfl⟩,h.put (nil_may _),by show (0:Int) ≤ 0 ∧ (0:Int) ≤ 7; omega,fun _ => ?_⟩
  rw [kN,show vBehind i.op i.a i.b k = vPut k i.a 0 by simp [vBehind,o18]]
  exact ht.set hk hi.a (Or.inl rfl) (fun e => by omega)
 rw [if_neg o18]
 by_cases o19:i.op = 19
 ·rw [if_pos o19]
  exact ⟨Same.refl a,h,by show (0:Int) ≤ 1 ∧ (1:Int) ≤ 7; omega,fun e => by have:(1:Int) = 0:=e; omega⟩
 rw [if_neg o19]
 have o6:i.op = 6:=by have:=hi.op; omega
 refine ⟨Same.refl a,h,by show (0:Int) ≤ 0 ∧ (0:Int) ≤ 7; omega,fun _ => ?_⟩
 rw [kN,show vBehind i.op i.a i.b k = k by simp [vBehind,o6]]
 exact ht
end
section
theorem put_get {w:Wd} {n:Nat} {a:Ac} (hn:n < w.acts.length) (i:Nat):(w.put (n:Int) a).acts[i]? = if i = n then some a else w.acts[i]?:=by
 simp only [Wd.put,Int.toNat_natCast,List.getElem?_set]
 by_cases e:i = n
 ·subst e; rw [if_pos rfl,if_pos rfl,if_pos hn]
 ·rw [if_neg e,if_neg (fun x => e x.symm)]
theorem at_put {w:Wd} {n:Nat} {a:Ac} (hn:n < w.acts.length) (i:Nat):(w.put (n:Int) a).at (i:Int) = if i = n then a else w.at i:=by
 unfold Wd.at
 rw [Int.toNat_natCast,put_get hn]
 by_cases e:i = n
 ·rw [if_pos e,if_pos e]; rfl
 ·rw [if_neg e,if_neg e]
structure AOk (G:Nat) (L:Nat → Nat) (S:Nat → List Pt) (a:Ac) (i:Nat):Prop where
 kind:0 ≤ a.kind ∧ a.kind < (G:Int)
 par:-1 ≤ a.par ∧ a.par < (i:Int)
 pc:-1 ≤ a.pc ∧ a.pc < (L a.kind.toNat:Int)
 fin:0 ≤ a.fin ∧ a.fin ≤ 7
 str:AStr a
 gone:a.fin = 0 ∨ (a.box = [] ∧ a.obs = [] ∧ a.pc = -1)
 typ:a.fin = 0 → ∃ k,k.length = 8 ∧ Typ a.obs a.regs a.box k ∧ (a.pc = -1 → k = kWait) ∧ (0 ≤ a.pc → vPt (S a.kind.toNat) a.pc.toNat = some k)
structure WOk (G:Nat) (L:Nat → Nat) (S:Nat → List Pt) (w:Wd):Prop where
 len:1 ≤ w.acts.length ∧ w.acts.length ≤ 8
 prints:w.prints.length ≤ 500
 told:∀ t ∈ w.prints,prMay w.acts.length t = true
 acts:∀ i a,w.acts[i]? = some a → AOk G L S a i
section
variable {G:Nat} {L:Nat → Nat} {X:Nat → Nat → Nat → Int} {S:Nat → List Pt}
theorem AOk.change {a b:Ac} {i:Nat} (h:AOk G L S a i) (h0:a.fin = 0) (hk:b.kind = a.kind) (hp:b.par = a.par) (hpc:b.pc = a.pc) (hf:b.fin = a.fin) (hs:AStr b) (ht:∀ k,Typ a.obs a.regs a.box k → Typ b.obs b.regs b.box k):AOk G L S b i where
 kind:=by rw [hk]; exact h.kind
 par:=by rw [hp]; exact h.par
 pc:=by rw [hpc,hk]; exact h.pc
 fin:=by rw [hf]; exact h.fin
 str:=hs
 gone:=Or.inl (by rw [hf]; exact h0)
 typ:=fun _ => by
  obtain ⟨k,h1,h2,h3,h4⟩:=h.typ h0
  exact ⟨k,h1,ht k h2,by rw [hpc]; exact h3,by rw [hpc,hk]; exact h4⟩
theorem AOk.clear {a:Ac} {i:Nat} (h:AOk G L S a i):AOk G L S (clearS a) i:=by
 have hs:=clear_same h.str
 by_cases h0:a.fin = 0
 ·exact h.change h0 hs.1 hs.2.1 hs.2.2.1 hs.2.2.2.1 h.str.clear (fun _ ht => Typ.clearS h.str ht)
 ·refine ⟨by rw [hs.1]; exact h.kind,by rw [hs.2.1]; exact h.par,by rw [hs.2.2.1,hs.1]; exact h.pc,by rw [hs.2.2.2.1]; exact h.fin,h.str.clear,?_,fun e => absurd (hs.2.2.2.1.symm.trans e) h0⟩
  rcases h.gone with e | ⟨e1,e2,e3⟩
  ·exact absurd e h0
  ·refine Or.inr ⟨?_,?_,by rw [hs.2.2.1]; exact e3⟩
   ·exact List.eq_nil_of_length_eq_zero (by rw [clear_box h.str,e1]; rfl)
   ·refine List.eq_nil_of_length_eq_zero ?_
    have:=kept_len h.str
    rw [e2] at this
    rw [clear_obs h.str]
    simpa using this
theorem WOk.at {w:Wd} (h:WOk G L S w) {n:Int} (hn:0 ≤ n ∧ n < (w.acts.length:Int)):w.acts[n.toNat]? = some (w.at n) ∧ AOk G L S (w.at n) n.toNat:=by
 have hl:n.toNat < w.acts.length:=by omega
 have e:w.acts[n.toNat]? = some (w.at n):=by unfold Wd.at; rw [List.getElem?_eq_getElem hl]; rfl
 exact ⟨e,h.acts _ _ e⟩
theorem WOk.put {w:Wd} (h:WOk G L S w) {n:Int} (hn:0 ≤ n ∧ n < (w.acts.length:Int)) {a:Ac} (ha:AOk G L S a n.toNat):WOk G L S (w.put n a) where
 len:=by rw [put_len]; exact h.len
 prints:=h.prints
 told:=by rw [put_len]; exact h.told
 acts:=fun i b hb => by
  have e:n = ((n.toNat:Nat):Int):=by omega
  rw [e,put_get (by omega)] at hb
  by_cases hi:i = n.toNat
  ·rw [if_pos hi] at hb
   simp at hb
   subst hb
   rw [hi]
   exact ha
  ·rw [if_neg hi] at hb
   exact h.acts i b hb
theorem lives_iff {w:Wd} {n:Int}:livesS w n = true ↔ (0 ≤ n ∧ n < (w.acts.length:Int)) ∧ (w.at n).fin = 0:=by simp [livesS]
theorem takes_iff {w:Wd} {n:Int}:takesS w n = true ↔ ((0 ≤ n ∧ n < (w.acts.length:Int)) ∧ (w.at n).fin = 0) ∧ (w.at n).box.length < 6:=by simp [takesS,lives_iff]
theorem AOk.told {a:Ac} {i:Nat} (h:AOk G L S a i) (h0:a.fin = 0) (hb:a.box.length < 6) {n m:Int} (hn:isW n = true) (hm:isW m = true):AOk G L S (toldS a n m) i:=by
 have hs:=told_same h.str n m
 exact h.change h0 hs.1 hs.2.1 hs.2.2.1 hs.2.2.2.1 (h.str.told hn hm hb) (fun _ ht => Typ.told h.str ht n m)
theorem WOk.tell {w:Wd} (h:WOk G L S w) (tq:Int) {n m:Int} (hn:isW n = true) (hm:isW m = true):WOk G L S (tellS w tq n m):=by
 unfold tellS
 by_cases ht:takesS w tq = true
 ·rw [if_pos ht]
  obtain ⟨⟨h1,h2⟩,h3⟩:=takes_iff.1 ht
  exact h.put h1 ((h.at h1).2.told h2 h3 hn hm)
 ·rw [if_neg ht]; exact h
structure Mid (G:Nat) (L:Nat → Nat) (S:Nat → List Pt) (w:Wd) (who:Nat) (K:Option (List Int)) (kind pc:Int):Prop where
 len:1 ≤ w.acts.length ∧ w.acts.length ≤ 8
 prints:w.prints.length ≤ 500
 told:∀ t ∈ w.prints,prMay w.acts.length t = true
 others:∀ i a,w.acts[i]? = some a → i ≠ who → AOk G L S a i
 there:who < w.acts.length
 str:AStr (w.at who)
 fin:(w.at who).fin = 0
 kindOf:(w.at who).kind = kind ∧ 0 ≤ kind ∧ kind < (G:Int)
 par:-1 ≤ (w.at who).par ∧ (w.at who).par < (who:Int)
 pcOf:(w.at who).pc = pc
 typ:∀ k,K = some k → Typ (w.at who).obs (w.at who).regs (w.at who).box k
theorem Mid.put {w:Wd} {who:Nat} {K K':Option (List Int)} {kind pc:Int} (h:Mid G L S w who K kind pc) {b:Ac} (hk:b.kind = (w.at who).kind) (hp:b.par = (w.at who).par) (hpc:b.pc = (w.at who).pc) (hf:b.fin = (w.at who).fin) (hs:AStr b) (ht:∀ k,K' = some k → Typ b.obs b.regs b.box k):Mid G L S (w.put who b) who K' kind pc:=by
 have e:(w.put (who:Int) b).at (who:Int) = b:=by rw [at_put h.there,if_pos rfl]
 refine ⟨by rw [put_len]; exact h.len,h.prints,by rw [put_len]; exact h.told,fun i a ha hi => ?_,by rw [put_len]; exact h.there,?_,?_,?_,?_,?_,?_⟩
 ·rw [put_get h.there,if_neg hi] at ha
  exact h.others i a ha hi
 ·rw [e]; exact hs
 ·rw [e,hf]; exact h.fin
 ·rw [e,hk]; exact h.kindOf
 ·rw [e,hp]; exact h.par
 ·rw [e,hpc]; exact h.pcOf
 ·rw [e]; exact ht
theorem Mid.less {w:Wd} {who:Nat} {K:Option (List Int)} {kind pc:Int} (h:Mid G L S w who K kind pc):Mid G L S w who none kind pc :=
 ⟨h.len,h.prints,h.told,h.others,h.there,h.str,h.fin,h.kindOf,h.par,h.pcOf,fun k hk => by cases hk⟩
theorem Mid.putOther {w:Wd} {who tq:Nat} {K:Option (List Int)} {kind pc:Int} (h:Mid G L S w who K kind pc) (hto:tq < w.acts.length) (hne:tq ≠ who) {b:Ac} (hb:AOk G L S b tq):Mid G L S (w.put tq b) who K kind pc:=by
 have e:(w.put (tq:Int) b).at (who:Int) = w.at who:=by rw [at_put hto,if_neg (fun x => hne x.symm)]
 refine ⟨by rw [put_len]; exact h.len,h.prints,by rw [put_len]; exact h.told,fun i a ha hi => ?_,by rw [put_len]; exact h.there,?_,?_,?_,?_,?_,?_⟩
 ·rw [put_get hto] at ha
  by_cases hi':i = tq
  ·rw [if_pos hi'] at ha
   simp at ha
   subst ha
   rw [hi']
   exact hb
  ·rw [if_neg hi'] at ha
   exact h.others i a ha hi
 all_goals rw [e]
 ·exact h.str
 ·exact h.fin
 ·exact h.kindOf
 ·exact h.par
 ·exact h.pcOf
 ·exact h.typ
theorem Mid.ends {w:Wd} {who:Nat} {K:Option (List Int)} {kind pc:Int} (h:Mid G L S w who K kind pc) {way:Int} (hw:1 ≤ way ∧ way ≤ 7) (hL:1 ≤ L kind.toNat):WOk G L S (endS w who way):=by
 unfold endS
 refine WOk.tell ?_ _ (isW_iff.2 (by have:=h.there; have:=h.len; omega)) (isW_iff.2 (by omega))
 have hnil:∀ v ∈ (w.at who).regs.map (fun _ => nilV),vMay (([]:List Ob).length:Int) v = true:=fun v hv => by
  obtain ⟨_,_,rfl⟩:=List.mem_map.1 hv
  exact nil_may _
 have hM:=h.str.vals.1
 refine ⟨by rw [put_len]; exact h.len,h.prints,by rw [put_len]; exact h.told,fun i a ha => ?_⟩
 rw [put_get h.there] at ha
 by_cases hi:i = who
 ·rw [if_pos hi] at ha
  simp only [Option.some.injEq] at ha
  subst ha
  rw [hi]
  refine ⟨by show 0 ≤ (w.at who).kind ∧ (w.at who).kind < (G:Int); rw [h.kindOf.1]; exact h.kindOf.2,h.par,⟨by show (-1:Int) ≤ -1; omega,?_⟩,⟨by show 0 ≤ way; omega,by show way ≤ 7; omega⟩,⟨by simp [endedS,h.str.regs],by simp [endedS],by simp [endedS],?_⟩,Or.inr ⟨rfl,rfl,rfl⟩,fun e => ?_⟩
  ·show (-1:Int) < (L (w.at who).kind.toNat:Int)
   rw [h.kindOf.1]; omega
  ·refine hMay_parts.2 ⟨⟨hM.1,hM.2.1,by simpa [endedS] using hM.1⟩,by simp [endedS],fun v hv => ?_⟩
   simp only [endedS,Ac.roots,List.append_nil] at hv
   exact hnil v hv
  ·have:way = 0:=e
   omega
 ·rw [if_neg hi] at ha
  exact h.others i a ha hi
theorem Mid.goes {w:Wd} {who:Nat} {k:List Int} {kind pc:Int} (h:Mid G L S w who (some k) kind pc) (hk:k.length = 8) (hpc:-1 ≤ pc ∧ pc < (L kind.toNat:Int)) (hw:pc = -1 → k = kWait) (hg:0 ≤ pc → ∃ k',vPt (S kind.toNat) pc.toNat = some k' ∧ k'.length = 8 ∧ ∀ r:Nat,r < 8 → vJoin (vAt k' r) (vAt k r) = vAt k' r):WOk G L S w:=by
 refine ⟨h.len,h.prints,h.told,fun i a ha => ?_⟩
 by_cases hi:i = who
 ·subst hi
  have e:=at_of ha
  have ht:=h.typ k rfl
  have hs:=h.str
  have hf:=h.fin
  have hp:=h.par
  have hko:=h.kindOf
  have hpo:=h.pcOf
  rw [e] at ht hs hf hp hko hpo
  refine ⟨by rw [hko.1]; exact hko.2,hp,by rw [hpo,hko.1]; exact hpc,by rw [hf]; exact ⟨Int.le_refl _,by omega⟩,hs,Or.inl hf,fun _ => ?_⟩
  rw [hpo,hko.1]
  by_cases h1:pc = -1
  ·exact ⟨k,hk,ht,fun _ => hw h1,fun h0 => by omega⟩
  ·obtain ⟨k',h2,h3,h4⟩:=hg (by omega)
   exact ⟨k',h3,ht.join h4,fun h0 => absurd h0 h1,fun _ => h2⟩
 ·exact h.others i a ha hi
structure Left (G:Nat) (L:Nat → Nat) (S:Nat → List Pt) (who:Nat) (i:Ins) (k:List Int) (kind pc:Int) (r:Wd × Int):Prop where
 way:0 ≤ r.2 ∧ r.2 ≤ 7
 mid:Mid G L S r.1 who (if r.2 = 0 then some (kNext i k) else none) kind pc
theorem trS_run {M:Int} {l:List Ob} {v:Vl} {M':Int} {l':List Ob} (h1:hMay M l [v] = true) (h2:hMay M' l' [] = true) (hal:∀ p ∈ reach l [v],(obAt l p).dead = false) :
  trS M l v M' l' = if M' < ((l'.length + (reach l [v]).length:Nat):Int) then ([],7) else (reach l [v],0):=by
 unfold trS
 rw [if_pos (by simp [h1,h2]),if_neg]
 rw [List.any_eq_true]
 rintro ⟨p,hp,hd⟩
 rw [hal p hp] at hd
 cases hd
theorem transfer_run {M:Int} {l:List Ob} {v:Vl} {M':Int} {l':List Ob} (move:Bool) (h1:hMay M l [v] = true) (h2:hMay M' l' [] = true) (hal:∀ p ∈ reach l [v],(obAt l p).dead = false) :
  transferS M l v M' l' move = if M' < ((l'.length + (reach l [v]).length:Nat):Int) then ⟨0,[],0,[],⟨0,0⟩,7⟩ else ⟨M,if move then buryL l (reach l [v]) else l,M',l' ++ mvObs l (reach l [v]) l'.length (reach l [v]),mvV (reach l [v]) l'.length v,0⟩:=by
 unfold transferS
 rw [trS_run h1 h2 hal]
 by_cases hr:M' < ((l'.length + (reach l [v]).length:Nat):Int)
 ·rw [if_pos hr,if_pos hr]; simp
 ·rw [if_neg hr,if_neg hr]; simp
theorem one_may {a:Ac} (h:AStr a) {v:Vl} (hv:vMay a.obs.length v = true):hMay a.M a.obs [v] = true:=by
 have:=hMay_parts.1 h.may
 exact hMay_parts.2 ⟨this.1,this.2.1,fun u hu => by simp at hu; subst hu; exact hv⟩
theorem AStr.recv {a:Ac} (h:AStr a) {M':Int} {lf:List Ob} {v:Vl} (hb:a.box.length < 6) (hmf:hMay M' lf [v] = true) (hk:v.k = 2) (hr:((a.obs.length + (reach lf [v]).length:Nat):Int) ≤ a.M) :
  AStr ((a.heap a.M (a.obs ++ mvObs lf (reach lf [v]) a.obs.length (reach lf [v]))).push (mvV (reach lf [v]) a.obs.length v)):=by
 have m:=mv_may (pre:=a.obs) (vs:=[v]) hmf (fun p => Iff.rfl) (hMay_nil h.may) hr (hMay_roots hmf) (fun u hu huk => reach_root hu huk)
 have h1:=h.heap (hMay_nil m) (by simp)
 refine h1.push hb (by simp [mvV,hk]) ?_
 exact (hMay_parts.1 m).2.2 _ (by simp)
end
end
end Go.Proofs.YtddokajfafmhhaaGreatDoor
