/- HBoxes. -/
import Derived.Test.YtepifccbbmdfcaaGreatDoorCBHPureX
namespace Go.Proofs.YtepifccbbmdfcaaGreatDoor
section
def vObj (t:Int):Bool:=decide (2<=t) && decide (t<=3)
def vJoin (a b:Int):Int:=if a=b then a else if vObj a=true/\vObj b=true then 2 else 0
def vAt (k:List Int) (r:Int):Int:=(k[r.toNat]?).getD 0
def vPut (k:List Int) (r x:Int):List Int:=k.set r.toNat x
def vBehind (op a b:Int) (k:List Int):List Int :=
 if op=1\/op=2\/op=3\/op=4\/op=8\/op=16 then vPut k a 1
 else if op=7 then vPut k a 3
 else if op=10 then vPut (vPut k a 2) b 2
 else if op=11 then (if a=b\/vAt k b=2 then vPut k a 2 else vPut k b 0)
 else if op=12 then vPut (if vAt k b=3 then vPut k b 0 else k) a (vAt k b)
 else if op=13\/op=18 then vPut k a 0
 else if op=17 then vPut (vPut k b 0) a 1
 else k
def vGoes (op n place:Int):List Int :=
 if op=0\/op=19 then [] else if op=6 then [place+n] else if op=5 then [place+1,place+n] else [place+1]
def vMayDo (op a b:Int) (k:List Int):Bool :=
 if op=0 then vObj (vAt k 0)
 else if op=2\/op=3\/op=4 then decide (vAt k a=1) && decide (vAt k b=1)
 else if op=5\/op=15 then decide (vAt k a=1)
 else if op=8\/op=10 then vObj (vAt k b)
 else if op=9\/op=14 then vObj (vAt k a) && decide (vAt k b=1)
 else if op=11 then vObj (vAt k a) && vObj (vAt k b)
 else if op=12 then decide (vAt k b≠0)
 else if op=13 then decide (vAt k a=3) && decide (vAt k b=1)
 else if op=17 then decide (vAt k b=3)
 else true
abbrev Pt:=Option (List Int)
def vCome (p:Pt) (on:List Int):Pt:=match p with
 | none=>some on
 | some k=>some (List.zipWith vJoin k on)
def vPt (st:List Pt) (i:Nat):Pt:=(st[i]?).getD none
def vTo (on:List Int) (st:List Pt) (tq:Int):List Pt:=st.set tq.toNat (vCome (vPt st tq.toNat) on)
def vTurn (x:Nat->Nat->Int) (st:List Pt) (i:Nat):List Pt:=match vPt st i with
 | none=>st
 | some k=>(vGoes (x i 0) (x i 3) i).foldl (vTo (vBehind (x i 0) (x i 1) (x i 2) k)) st
def vTurns (x:Nat->Nat->Int) (st:List Pt) (i:Nat):List Pt:=(List.range i).foldl (vTurn x) st
def vRound (x:Nat->Nat->Int) (L:Nat) (st:List Pt):List Pt:=vTurns x st L
def vStart (L:Nat):List Pt:=(List.replicate L none).set 0 (some [3,3,0,0,0,0,0,0])
def vIter (x:Nat->Nat->Int) (L:Nat):Nat->List Pt->List Pt
 | 0,st=>st
 | n+1,st=>vIter x L n (vRound x L st)
def IsFlow (x:Nat->Nat->Int) (L:Nat) (st:List Pt):Prop:=(∃ n,st=vIter x L n (vStart L))/\vRound x L st=st
theorem vIter_fix {x:Nat->Nat->Int} {L:Nat} {st:List Pt} (h:vRound x L st=st):∀ n,vIter x L n st=st
 | 0=>rfl
 | n+1=>by rw[vIter,h];exact vIter_fix h n
theorem vIter_add (x:Nat->Nat->Int) (L:Nat):∀ (n m:Nat) (st:List Pt),vIter x L (n+m) st=vIter x L m (vIter x L n st)
 | 0,m,st=>by rw[Nat.zero_add];rfl
 | n+1,m,st=>by rw[Nat.succ_add,vIter,vIter];exact vIter_add x L n m _
theorem vIter_succ (x:Nat->Nat->Int) (L n:Nat) (st:List Pt):vIter x L (n+1) st=vRound x L (vIter x L n st):=vIter_add x L n 1 st
theorem IsFlow.one {x:Nat->Nat->Int} {L:Nat} {a b:List Pt} (ha:IsFlow x L a) (hb:IsFlow x L b):a=b:=by
 obtain⟨⟨n,rfl⟩,fa⟩:=ha;obtain⟨⟨m,rfl⟩,fb⟩:=hb
 rcases Nat.le_total n m with h | h
 ·obtain⟨d,rfl⟩:=Nat.exists_eq_add_of_le h
  rw[vIter_add,vIter_fix fa]
 ·obtain⟨d,rfl⟩:=Nat.exists_eq_add_of_le h
  rw[vIter_add,vIter_fix fb]
theorem vTurns_succ (x:Nat->Nat->Int) (st:List Pt) (i:Nat):vTurns x st (i+1)=vTurn x (vTurns x st i) i:=by simp[vTurns,List.range_succ]
def VGood (L:Nat) (st:List Pt):Prop:=st.length=L/\∀ k,some k∈st->k.length=8
theorem vPut_length (k:List Int) (r x:Int):(vPut k r x).length=k.length:=by simp[vPut]
theorem vBehind_length (op a b:Int) (k:List Int):(vBehind op a b k).length=k.length:=by
 unfold vBehind
 repeat' split
 all_goals simp[vPut_length]
theorem VGood.pt {L:Nat} {st:List Pt} (h:VGood L st) {i:Nat} {k:List Int} (hk:vPt st i=some k):k.length=8:=by
 unfold vPt at hk
 cases hi:st[i]? with
 | none=>simp[hi] at hk
 | some p =>
  simp[hi] at hk;subst hk;exact h.2 k (List.mem_of_getElem? hi)
theorem VGood.set {L:Nat} {st:List Pt} (h:VGood L st) (i:Nat) {p:Pt} (hp:∀ k,p=some k->k.length=8):VGood L (st.set i p):=by
 refine⟨by simp[h.1],fun k hk=>?_⟩
 rcases List.mem_or_eq_of_mem_set hk with hk | hk
 ·exact h.2 k hk
 ·exact hp k hk.symm
theorem vCome_length {p:Pt} {on:List Int} (hp:∀ k,p=some k->k.length=8) (ho:on.length=8):∀ k,vCome p on=some k->k.length=8:=by
 intro k hk
 cases p with
 | none=>simp[vCome] at hk;subst hk;exact ho
 | some q=>simp[vCome] at hk;subst hk;simp[hp q rfl,ho]
theorem VGood.to {L:Nat} {st:List Pt} (h:VGood L st) {on:List Int} (ho:on.length=8) (tq:Int):VGood L (vTo on st tq) :=
 h.set _ (vCome_length (fun _ hk=>h.pt hk) ho)
theorem VGood.tos {L:Nat} {on:List Int} (ho:on.length=8):∀ (tos:List Int) {st:List Pt},VGood L st->VGood L (tos.foldl (vTo on) st)
 | [],_,h=>h
 | t :: r,_,h=>VGood.tos ho r (h.to ho t)
theorem VGood.turn {L:Nat} {st:List Pt} (h:VGood L st) (x:Nat->Nat->Int) (i:Nat):VGood L (vTurn x st i):=by
 unfold vTurn
 cases hi:vPt st i with
 | none=>exact h
 | some k=>exact VGood.tos (by rw[vBehind_length];exact h.pt hi) _ h
theorem VGood.turns {L:Nat} {st:List Pt} (h:VGood L st) (x:Nat->Nat->Int):∀ i,VGood L (vTurns x st i)
 | 0=>h
 | i+1=>by rw[vTurns_succ];exact(VGood.turns h x i).turn x i
theorem vgood_start (L:Nat):VGood L (vStart L):=by
 refine VGood.set ⟨by simp,fun k hk=>?_⟩ 0 (fun k hk=>by simp at hk;subst hk;rfl);simp at hk
def vHt (x:Int):Nat:=if x=0 then 0 else if x=3 then 2 else 1
def vHts (k:List Int):Nat:=(k.map vHt).sum
def vHp (p:Pt):Nat:=match p with
 | none=>17
 | some k=>vHts k
def vMu (st:List Pt):Nat:=(st.map vHp).sum
theorem vHt_le (x:Int):vHt x<=2:=by unfold vHt;split <;> (try split) <;> omega
theorem vHts_le:∀ k:List Int,vHts k<=2*k.length
 | []=>Nat.le_refl _
 | x :: r=>by
  have h1:=vHt_le x;have h2:=vHts_le r;simp only[vHts,List.map_cons,List.sum_cons,List.length_cons] at *;omega
theorem vJoin_ht (a b:Int):vHt (vJoin a b)<=vHt a/\(vJoin a b≠a->vHt (vJoin a b)<vHt a):=by
 unfold vJoin
 by_cases h:a=b
 ·simp[h]
 ·rw[if_neg h]
  by_cases ho:vObj a=true/\vObj b=true
  ·rw[if_pos ho]
   simp only[vObj,Bool.and_eq_true,decide_eq_true_eq] at ho
   by_cases h3:a=3
   ·subst h3;simp[vHt]
   ·have:a=2:=by omega
    subst this;simp
  ·rw[if_neg ho]
   by_cases h0:a=0
   ·subst h0;simp
   ·have h1:vHt 0=0:=rfl
    have h2:0<vHt a:=by unfold vHt;rw[if_neg h0];split <;> omega
    omega
theorem vJoins_ht:∀ (k on:List Int),k.length=on.length->vHts (List.zipWith vJoin k on)<=vHts k/\(List.zipWith vJoin k on≠k->vHts (List.zipWith vJoin k on)<vHts k)
 | [],[],_=>by simp[vHts]
 | a :: k,b :: on,h=>by
  have ih:=vJoins_ht k on (by simpa using h);have hj:=vJoin_ht a b;have e1:vHts (vJoin a b :: List.zipWith vJoin k on)=vHt (vJoin a b)+vHts (List.zipWith vJoin k on):=by simp[vHts]
  have e2:vHts (a :: k)=vHt a+vHts k:=by simp[vHts]
  simp only[List.zipWith_cons_cons];rw[e1,e2];refine⟨by omega,fun hne=>?_⟩
  by_cases ha:vJoin a b=a
  ·have:List.zipWith vJoin k on≠k:=fun e=>hne (by rw[ha,e])
   have:=ih.2 this;omega
  ·have:=hj.2 ha
   omega
theorem vCome_ht {p:Pt} {on:List Int} (hp:∀ k,p=some k->k.length=8) (ho:on.length=8):vHp (vCome p on)<=vHp p/\(vCome p on≠p->vHp (vCome p on)<vHp p):=by
 cases p with
 | none =>
  have:=vHts_le on;simp only[vCome,vHp];omega
 | some k =>
  have:=vJoins_ht k on (by rw[hp k rfl,ho]);simp only[vCome,vHp];exact⟨this.1,fun h=>this.2 (fun e=>h (by rw[e]))⟩
theorem sum_set:∀ (l:List Nat) (i y:Nat) (hi:i<l.length),(l.set i y).sum+l[i]=l.sum+y
 | a :: r,0,y,_=>by simp;omega
 | a :: r,i+1,y,hi=>by
  have:=sum_set r i y (by simpa using hi);simp only[List.set_cons_succ,List.sum_cons,List.getElem_cons_succ];omega
theorem vTo_mu {L:Nat} {st:List Pt} (h:VGood L st) {on:List Int} (ho:on.length=8) (tq:Int):vMu (vTo on st tq)<=vMu st/\(vTo on st tq≠st->vMu (vTo on st tq)<vMu st):=by
 unfold vTo
 by_cases hi:tq.toNat<st.length
 ·have hp:vPt st tq.toNat=st[tq.toNat]:=by simp[vPt,hi]
  have hc:=vCome_ht (p:=vPt st tq.toNat) (on:=on) (fun _ hk=>h.pt hk) ho;have hs:=sum_set (st.map vHp) tq.toNat (vHp (vCome (vPt st tq.toNat) on)) (by simpa using hi);rw[<- List.map_set] at hs;simp only[List.getElem_map,<- hp] at hs
  unfold vMu
  refine⟨by omega,fun hne=>?_⟩;have:=hc.2 (fun e=>hne (by rw[e,hp];simp));omega
 ·rw[List.set_eq_of_length_le (by omega)]
  exact⟨Nat.le_refl _,fun h=>absurd rfl h⟩
theorem vTos_mu {L:Nat} {on:List Int} (ho:on.length=8):∀ (tos:List Int) {st:List Pt},VGood L st->vMu (tos.foldl (vTo on) st)<=vMu st/\(tos.foldl (vTo on) st≠st->vMu (tos.foldl (vTo on) st)<vMu st)
 | [],st,h=>⟨Nat.le_refl _,fun e=>absurd rfl e⟩
 | t :: r,st,h=>by
  have h1:=vTo_mu h ho t;have h2:=vTos_mu ho r (h.to ho t);simp only[List.foldl_cons];refine⟨Nat.le_trans h2.1 h1.1,fun hne=>?_⟩
  by_cases e:vTo on st t=st
  ·rw[e] at h2 hne ⊢
   exact h2.2 hne
  ·exact Nat.lt_of_le_of_lt h2.1 (h1.2 e)
theorem vTurn_mu {L:Nat} {st:List Pt} (h:VGood L st) (x:Nat->Nat->Int) (i:Nat):vMu (vTurn x st i)<=vMu st/\(vTurn x st i≠st->vMu (vTurn x st i)<vMu st):=by
 unfold vTurn
 cases hi:vPt st i with
 | none=>exact⟨Nat.le_refl _,fun e=>absurd rfl e⟩
 | some k=>exact vTos_mu (by rw[vBehind_length];exact h.pt hi) _ h
theorem vTurns_mu {L:Nat} {st:List Pt} (h:VGood L st) (x:Nat->Nat->Int):∀ i,vMu (vTurns x st i)<=vMu st/\(vTurns x st i≠st->vMu (vTurns x st i)<vMu st)
 | 0=>⟨Nat.le_refl _,fun e=>absurd rfl e⟩
 | i+1=>by
  have h1:=vTurns_mu h x i;have h2:=vTurn_mu (VGood.turns h x i) x i;rw[vTurns_succ];refine⟨Nat.le_trans h2.1 h1.1,fun hne=>?_⟩
  by_cases e:vTurns x st i=st
  ·rw[e] at h2 hne ⊢
   exact h2.2 hne
  ·exact Nat.lt_of_le_of_lt h2.1 (h1.2 e)
theorem vMu_le {L:Nat} {st:List Pt} (h:VGood L st):vMu st<=17*L:=by
 obtain⟨rfl,h8⟩:=h
 induction st with
 | nil=>simp[vMu]
 | cons p r ih =>
  have ih':=ih (fun k hk=>h8 k (by simp[hk]));have hp:vHp p<=17:=by
   cases p with
   | none=>exact Nat.le_refl _
   | some k =>
    have h1:=vHts_le k;have h2:=h8 k (by simp);simp only[vHp];omega
  simp only[vMu,List.map_cons,List.sum_cons,List.length_cons] at ih' ⊢;omega
end
section
def okOp (op:Int):Bool:=decide (0<=op) && decide (op<=19)
def okReg (r:Int):Bool:=decide (0<=r) && decide (r<=7)
def aOf (op:Int):Bool:=op != 0 && op != 6 && op != 19
def bOf (op:Int):Bool:=(decide (2<=op) && decide (op<=4)) || (decide (8<=op) && decide (op<=14)) || op == 17
def nOf (op:Int):Bool:=op == 1 || (decide (5<=op) && decide (op<=11)) || op == 17
def loOf (op:Int):Int:=if op=1 then -1099511627776 else if op=5\/op=6 then -60 else if op=7 then 1 else 0
def hiOf (op:Int):Int:=if op=1 then 1099511627776 else if op=5\/op=6 then 60 else if op=7 then 4 else if 8<=op/\op<=11 then 3 else if op=17 then 5 else 0
def partsFault (op a b n:Int):Int :=
 if okOp op=false then 3
 else if okReg a=false\/okReg b=false\/n<loOf op\/hiOf op<n then 2
 else if (a≠0/\aOf op=false)\/(b≠0/\bOf op=false) then 4
 else 0
def beside (op n place many:Int):Bool:=(op == 5 || op == 6) && (decide (place+n<0) || decide (many<=place+n))
def insFault (kinds many place op a b n:Int):Int :=
 if partsFault op a b n≠0 then partsFault op a b n
 else if beside op n place many=true\/(op=17/\kinds<=n) then 2
 else if place=many-1/\op≠0/\op≠19/\op≠6 then 5
 else 0
section
variable {kinds many place op a b n:Int}
theorem ins_parts (h:partsFault op a b n≠0):insFault kinds many place op a b n=partsFault op a b n:=by rw[insFault,if_pos h]
theorem ins_beside (hp:partsFault op a b n=0) (h:beside op n place many=true):insFault kinds many place op a b n=2:=by
 rw[insFault,if_neg (by simp[hp]),if_pos (Or.inl h)]
theorem ins_spawn (hp:partsFault op a b n=0) (h:op=17) (h':kinds<=n):insFault kinds many place op a b n=2:=by
 rw[insFault,if_neg (by simp[hp]),if_pos (Or.inr ⟨h,h'⟩)]
theorem ins_rest (hp:partsFault op a b n=0) (h:beside op n place many=false) (h':¬ (op=17/\kinds<=n)) :
  insFault kinds many place op a b n=if place=many-1/\op≠0/\op≠19/\op≠6 then 5 else 0:=by
 rw[insFault,if_neg (by simp[hp]),if_neg (by simp[h];omega)]
theorem ins_short (hp:partsFault op a b n=0) (h:beside op n place many=false) (h':¬ (op=17/\kinds<=n)) (hl:place=many-1) (hg:(op != 0 && op != 19 && op != 6)=true):insFault kinds many place op a b n=5:=by
 rw[ins_rest hp h h',if_pos];simp at hg;exact⟨hl,hg.1.1,hg.1.2,hg.2⟩
theorem ins_last (hp:partsFault op a b n=0) (h:beside op n place many=false) (h':¬ (op=17/\kinds<=n)) (hg:(op != 0 && op != 19 && op != 6)=false):insFault kinds many place op a b n=0:=by
 rw[ins_rest hp h h',if_neg];simp at hg;omega
theorem ins_inner (hp:partsFault op a b n=0) (h:beside op n place many=false) (h':¬ (op=17/\kinds<=n)) (hl:place≠many-1):insFault kinds many place op a b n=0:=by
 rw[ins_rest hp h h',if_neg (fun c=>hl c.1)]
end
def first (f:Nat->Int):Nat->Nat->Int
 | 0,_=>0
 | n+1,i=>if f i≠0 then f i else first f n (i+1)
theorem first_hit (f:Nat->Int) (n i:Nat) (h:i<n) (hf:f i≠0):first f (n-i) i=f i:=by
 obtain⟨k,hk⟩:∃ k,n-i=k+1:=⟨n-i-1,by omega⟩;rw[hk,first,if_pos hf]
theorem first_pass (f:Nat->Int) (n i:Nat) (h:i<n) (hf:f i=0):first f (n-i) i=first f (n-(i+1)) (i+1):=by
 obtain⟨k,hk⟩:∃ k,n-i=k+1:=⟨n-i-1,by omega⟩;rw[hk,first,if_neg (by simp[hf]),show n-(i+1)=k by omega]
def rowFault (kinds many:Nat) (x:Nat->Nat->Int):Int :=
 if many<1\/60<many then 1 else first (fun i=>insFault kinds many i (x i 0) (x i 1) (x i 2) (x i 3)) many 0
def progFault (G:Nat) (L:Nat->Nat) (X:Nat->Nat->Nat->Int):Int :=
 if G=0 then 6 else if 6<G then 1 else first (fun r=>rowFault G (L r) (X r)) G 0
end
section
structure Ins where
 op:Int
 a:Int
 b:Int
 n:Int
section
variable {bs:List Int} {k k1 k2 k3:Nat} {q a b n er:Int}
end
end
section
structure Ac where
 kind:Int
 par:Int
 M:Int
 obs:List Ob
 regs:List Vl
 pc:Int
 box:List Vl
 fin:Int
structure Wd where
 acts:List Ac
 prints:List (Int × Int)
structure Ax where
 kind:Int
 who:Int
 n:Int
 m:Int
def numV (n:Int):Vl:=⟨1,n⟩
def nilV:Vl:=⟨0,0⟩
def isW (n:Int):Bool:=decide (-1099511627776<=n) && decide (n<=1099511627776)
def noAc:Ac:=⟨0,0,0,[],[],0,[],0⟩
def Ac.reg (a:Ac) (r:Int):Vl:=(a.regs[r.toNat]?).getD nilV
def Ac.put (a:Ac) (r:Int) (v:Vl):Ac:={ a with regs:=a.regs.set r.toNat v }
def Ac.heap (a:Ac) (M:Int) (l:List Ob):Ac:={ a with M:=M,obs:=l }
def Ac.push (a:Ac) (v:Vl):Ac:={ a with box:=a.box++[v] }
def Ac.roots (a:Ac):List Vl:=a.regs++a.box
def Wd.at (w:Wd) (n:Int):Ac:=(w.acts[n.toNat]?).getD noAc
def Wd.put (w:Wd) (n:Int) (a:Ac):Wd:={ w with acts:=w.acts.set n.toNat a }
def clearS (a:Ac):Ac :=
 if (collectS a.M a.obs a.roots).2.2=0 then { a with M:=(collectS a.M a.obs a.roots).1.1,obs:=(collectS a.M a.obs a.roots).1.2,regs:=(collectS a.M a.obs a.roots).2.1.take a.regs.length,box:=(collectS a.M a.obs a.roots).2.1.drop a.regs.length } else a
def giveS (a:Ac) (n:Int):Ac × Option Vl :=
 if (allocS a.M a.obs n).e=0 then (a.heap (allocS a.M a.obs n).M (allocS a.M a.obs n).obs,some ⟨(allocS a.M a.obs n).k,(allocS a.M a.obs n).n⟩)
 else if (allocS a.M a.obs n).e=7 then
  (if (allocS (clearS a).M (clearS a).obs n).e=0 then ((clearS a).heap (allocS (clearS a).M (clearS a).obs n).M (allocS (clearS a).M (clearS a).obs n).obs,some ⟨(allocS (clearS a).M (clearS a).obs n).k,(allocS (clearS a).M (clearS a).obs n).n⟩)
  else (clearS a,none))
 else (a,none)
def livesS (w:Wd) (n:Int):Bool:=(decide (0<=n) && decide (n<(w.acts.length:Int))) && decide ((w.at n).fin=0)
def takesS (w:Wd) (n:Int):Bool:=livesS w n && decide ((w.at n).box.length<6)
def toldS (a:Ac) (n m:Int):Ac:=match giveS a 2 with
 | (b,none)=>b
 | (b,some v)=>{ b with obs:=setObs (setObs b.obs v.n.toNat 0 (numV n)) v.n.toNat 1 (numV m),box:=b.box++[v] }
def tellS (w:Wd) (tq n m:Int):Wd:=if takesS w tq=true then w.put tq (toldS (w.at tq) n m) else w
def endedS (a:Ac) (way:Int):Ac:={ a with regs:=a.regs.map (fun _=>nilV),box:=[],obs:=[],pc:=-1,fin:=way }
def endS (w:Wd) (who:Nat) (way:Int):Wd:=tellS (w.put who (endedS (w.at who) way)) (w.at who).par who way
def faultS (e:Int):Int:=if e=2 then 4 else 8
def keep1:List Vl->List Vl
 | []=>[]
 | v :: r=>v :: r.map (fun _=>nilV)
def resultS (op x y:Int):Int:=if op=2 then x+y else if op=3 then x-y else if x<y then 1 else 0
def reckonS (a:Ac) (i:Ins):Ac × Int :=
 if (a.reg i.a).k≠1\/(a.reg i.b).k≠1 then (a,8)
 else if isW (resultS i.op (a.reg i.a).n (a.reg i.b).n)=false then (a,7)
 else (a.put i.a (numV (resultS i.op (a.reg i.a).n (a.reg i.b).n)),0)
def makeS (a:Ac) (i:Ins):Ac × Int:=match giveS a i.n with
 | (b,none)=>(b,5)
 | (b,some v)=>(b.put i.a v,0)
def getsS (a:Ac) (i:Ins) (kind way:Int):Ac × Int :=
 if (getS a.M a.obs (a.reg i.b) i.n).2≠0 then (a,faultS (getS a.M a.obs (a.reg i.b) i.n).2)
 else if (getS a.M a.obs (a.reg i.b) i.n).1.k≠kind then (a,way)
 else (a.put i.a (getS a.M a.obs (a.reg i.b) i.n).1,0)
def putsS (a:Ac) (i:Ins) (kind:Int):Ac × Int :=
 if (setS a.M a.obs (a.reg i.a) i.n (a.reg i.b)).2.2≠0 then (a,faultS (setS a.M a.obs (a.reg i.a) i.n (a.reg i.b)).2.2)
 else if (a.reg i.b).k≠kind then (a,8)
 else (a.heap (setS a.M a.obs (a.reg i.a) i.n (a.reg i.b)).1 (setS a.M a.obs (a.reg i.a) i.n (a.reg i.b)).2.1,0)
def aloneS (a:Ac) (who:Nat) (i:Ins):Ac × Int :=
 if i.op=0 then (if (a.reg 0).k≠2 then (a,8) else ({ a with regs:=keep1 a.regs },0))
 else if i.op=1 then (a.put i.a (numV i.n),0)
 else if i.op=2\/i.op=3\/i.op=4 then reckonS a i
 else if i.op=5 then (a,if (a.reg i.a).k≠1 then 8 else 0)
 else if i.op=7 then makeS a i
 else if i.op=8 then getsS a i 1 2
 else if i.op=10 then getsS a i 2 3
 else if i.op=9 then putsS a i 1
 else if i.op=11 then putsS a i 2
 else if i.op=12 then (a.put i.a (a.reg i.b),0)
 else if i.op=16 then (a.put i.a (numV who),0)
 else if i.op=18 then (a.put i.a nilV,0)
 else if i.op=19 then (a,1)
 else (a,0)
def leadsDead (a:Ac) (v:Vl):Bool:=(reach a.obs [v]).any fun p=>(obAt a.obs p).dead
def arriveS (w:Wd) (who:Nat) (tq:Int) (t:TrR):Wd :=
 if t.e≠0 then w else (w.put who ((w.at who).heap t.M1 t.o1)).put tq ((((w.put who ((w.at who).heap t.M1 t.o1)).at tq).heap t.M2 t.o2).push t.v)
def trW (w:Wd) (who:Nat) (r tq:Int) (move:Bool):TrR:=transferS (w.at who).M (w.at who).obs ((w.at who).reg r) (w.at tq).M (w.at tq).obs move
def deliverS (w:Wd) (who:Nat) (r tq:Int) (move:Bool):Wd :=
 if (trW w who r tq move).e=7 then arriveS (w.put tq (clearS (w.at tq))) who tq (trW (w.put tq (clearS (w.at tq))) who r tq move)
 else arriveS w who tq (trW w who r tq move)
def goneS (w:Wd) (who:Nat) (i:Ins):Wd :=
 if takesS w ((w.at who).reg i.b).n=false then w
 else if i.op=13/\((w.at who).reg i.b).n=who then w.put who ((w.at who).push ((w.at who).reg i.a))
 else deliverS w who i.a ((w.at who).reg i.b).n (decide (i.op=13))
def sendS (w:Wd) (who:Nat) (i:Ins):Wd × Int :=
 if ((w.at who).reg i.a).k≠2\/((w.at who).reg i.b).k≠1\/leadsDead (w.at who) ((w.at who).reg i.a)=true then (w,8)
 else if i.op=13 then ((goneS w who i).put who (((goneS w who i).at who).put i.a nilV),0)
 else (goneS w who i,0)
def reportS (w:Wd) (who:Nat) (i:Ins):Wd × Int :=
 if ((w.at who).reg i.a).k≠1 then (w,8)
 else if w.prints.length<500 then ({ w with prints:=w.prints++[((who:Int),((w.at who).reg i.a).n)] },0)
 else (w,0)
def beginS (kind par M:Int) (l:List Ob) (v:Vl):Ac:=⟨kind,par,M,l,[v,nilV,nilV,nilV,nilV,nilV,nilV,nilV],-1,[],0⟩
def spawnS (w:Wd) (who:Nat) (i:Ins):Wd × Int :=
 if ((w.at who).reg i.b).k≠2 then (w,8)
 else if 8<=w.acts.length then (w,6)
 else if (transferS (w.at who).M (w.at who).obs ((w.at who).reg i.b) (w.at who).M [] true).e≠0 then (w,8)
 else
  (⟨(w.put who ((((w.at who).heap (transferS (w.at who).M (w.at who).obs ((w.at who).reg i.b) (w.at who).M [] true).M1 (transferS (w.at who).M (w.at who).obs ((w.at who).reg i.b) (w.at who).M [] true).o1).put i.b nilV).put i.a (numV w.acts.length))).acts ++
   [beginS i.n who (transferS (w.at who).M (w.at who).obs ((w.at who).reg i.b) (w.at who).M [] true).M2 (transferS (w.at who).M (w.at who).obs ((w.at who).reg i.b) (w.at who).M [] true).o2 (transferS (w.at who).M (w.at who).obs ((w.at who).reg i.b) (w.at who).M [] true).v],w.prints⟩,0)
def performS (w:Wd) (who:Nat) (i:Ins):Wd × Int :=
 if i.op=13\/i.op=14 then sendS w who i
 else if i.op=15 then reportS w who i
 else if i.op=17 then spawnS w who i
 else (w.put who (aloneS (w.at who) who i).1,(aloneS (w.at who) who i).2)
def nextS (a:Ac) (i:Ins):Int :=
 if i.op=0 then -1 else if i.op=6\/(i.op=5/\(a.reg i.a).k=1/\(a.reg i.a).n=0) then a.pc+i.n else a.pc+1
def takeS (a:Ac):Ac:=match a.box with
 | []=>a
 | v :: r=>{ (a.put 1 v) with box:=r,pc:=0 }
def insAt (X:Nat->Nat->Nat->Int) (k i:Int):Ins:=⟨X k.toNat i.toNat 0,X k.toNat i.toNat 1,X k.toNat i.toNat 2,X k.toNat i.toNat 3⟩
def doneS (w:Wd) (who:Nat) (i:Ins):Wd :=
 if (performS w who i).2≠0 then endS (performS w who i).1 who (performS w who i).2 else (performS w who i).1
def stepS (X:Nat->Nat->Nat->Int) (w:Wd) (who:Nat):Wd :=
 if livesS w who=false then w
 else if (w.at who).pc=-1 then w.put who (takeS (w.at who))
 else doneS (w.put who { (w.at who) with pc:=nextS (w.at who) (insAt X (w.at who).kind (w.at who).pc) }) who (insAt X (w.at who).kind (w.at who).pc)
def actS (X:Nat->Nat->Nat->Int) (w:Wd) (a:Ax):Wd :=
 if (w.acts.length:Int)<=a.who then w
 else if a.kind=1 then stepS X w a.who.toNat
 else if a.kind=2 then w.put a.who (clearS (w.at a.who))
 else tellS w a.who a.n a.m
def axFault (a:Ax):Int :=
 if a.kind≠1/\a.kind≠2/\a.kind≠3 then 3
 else if a.who<0\/8<=a.who\/isW a.n=false\/isW a.m=false then 2
 else 0
def acMay (G:Nat) (L:Nat->Nat) (a:Ac) (num:Nat):Bool :=
 ((((((decide (0<=a.kind) && decide (a.kind<(G:Int))) && (decide (-1<=a.par) && decide (a.par<(num:Int)))) && (decide (-1<=a.pc) && decide (a.pc<(L a.kind.toNat:Int)))) && (decide (0<=a.fin) && decide (a.fin<=8))) &&
  (decide (a.regs.length=8) && decide (a.box.length<=6))) && a.box.all (fun v=>decide (v.k=2))) && (hMay a.M a.obs a.roots && (decide (a.fin=0) || (decide (a.box.length=0) && (decide (a.obs.length=0) && decide (a.pc=-1)))))
def prMay (n:Nat) (t:Int × Int):Bool:=(decide (0<=t.1) && decide (t.1<(n:Int))) && isW t.2
def acsMay (G:Nat) (L:Nat->Nat):List Ac->Nat->Bool
 | [],_=>true
 | a :: r,i=>acMay G L a i && acsMay G L r (i+1)
def wdMay (G:Nat) (L:Nat->Nat) (w:Wd):Bool :=
 ((decide (1<=w.acts.length) && decide (w.acts.length<=8)) && decide (w.prints.length<=500)) && (w.prints.all (prMay w.acts.length) && acsMay G L w.acts 0)
def newW (M:Int):Wd:=⟨[beginS 0 (-1) M [⟨[numV 0,numV 0],false⟩] ⟨2,0⟩],[]⟩
def runS (X:Nat->Nat->Nat->Int):Wd->List Ax->Wd × Int
 | w,[]=>(w,0)
 | w,a :: r=>if axFault a≠0 then (⟨[],[]⟩,axFault a) else runS X (actS X w a) r
end
section
open Go.RowKit
structure AcAt (w:World) (b o:Nat) (x:Ac) (oa:Option Addr) (oc:Nat) (ra:Option Addr) (rc:Nat) (ba:Option Addr) (bc:Nat):Prop where
 c0:w.cell? ⟨b,o,none⟩=some (.int .i64 x.kind)
 c1:w.cell? ⟨b,o+1,none⟩=some (.int .i64 x.par)
 c2:w.cell? ⟨b,o+2,none⟩=some (.int .i64 x.M)
 c3:w.cell? ⟨b,o+3,none⟩=some (.slice oa x.obs.length oc)
 c4:w.cell? ⟨b,o+4,none⟩=some (.slice ra x.regs.length rc)
 c5:w.cell? ⟨b,o+5,none⟩=some (.int .i64 x.pc)
 c6:w.cell? ⟨b,o+6,none⟩=some (.slice ba x.box.length bc)
 c7:w.cell? ⟨b,o+7,none⟩=some (.int .i64 x.fin)
 obs:ObsAt w oa x.obs
 regs:ValsAt w ra x.regs
 box:ValsAt w ba x.box
 rlen:16*x.regs.length<=140737488351232
 blen:16*x.box.length<=140737488351232
structure ActsAt (w:World) (ao:Option Addr) (l:List Ac):Prop where
 cell:∀ i x,l[i]?=some x->∃ b o oa oc ra rc ba bc,ao=some ⟨b,o,none⟩/\AcAt w b (o+i*8) x oa oc ra rc ba bc
 many:112*l.length<=140737488351232
structure ToldAt (w:World) (ao:Option Addr) (l:List (Int × Int)):Prop where
 cell:∀ i x,l[i]?=some x->∃ b o,ao=some ⟨b,o,none⟩/\w.cell? ⟨b,o+i*2,none⟩=some (.int .i64 x.1)/\w.cell? ⟨b,o+i*2+1,none⟩=some (.int .i64 x.2)
 many:16*l.length<=140737488351232
theorem ActsAt.nil (w:World) (ao:Option Addr):ActsAt w ao []:=⟨fun i x hi=>by simp at hi,by show 112*0<=140737488351232;omega⟩
theorem ToldAt.nil (w:World) (ao:Option Addr):ToldAt w ao []:=⟨fun i x hi=>by simp at hi,by show 16*0<=140737488351232;omega⟩
end
section
open Go.RowKit
theorem boxes1 (w:World) (o0:Obj):(w.alloc o0).heap[w.heap.size]?=some o0/\Keeps w (w.alloc o0)/\Below w.heap.size w (w.alloc o0)/\(w.alloc o0).heap.size=w.heap.size+1:=by
 exact⟨Deep.blk_alloc_new w o0,Keeps.alloc w o0,below_box w o0,by simp⟩
theorem boxes2 (w:World) (o0 o1:Obj):((w.alloc o0).alloc o1).heap[w.heap.size]?=some o0/\((w.alloc o0).alloc o1).heap[w.heap.size+1]?=some o1/\Keeps w ((w.alloc o0).alloc o1)/\Below w.heap.size w ((w.alloc o0).alloc o1)/\((w.alloc o0).alloc o1).heap.size=w.heap.size+1+1:=by
 obtain⟨h0,hk,hb,hs⟩:=boxes1 w o0;exact⟨(Deep.blk_alloc_lt _ _ _ (by rw[hs];omega)).trans h0,by rw[<- hs];exact Deep.blk_alloc_new _ _,hk.trans (Keeps.alloc _ _),hb.alloc (by rw[hs];omega) _,by simp[hs]⟩
theorem boxes3 (w:World) (o0 o1 o2:Obj):(((w.alloc o0).alloc o1).alloc o2).heap[w.heap.size]?=some o0/\(((w.alloc o0).alloc o1).alloc o2).heap[w.heap.size+1]?=some o1/\(((w.alloc o0).alloc o1).alloc o2).heap[w.heap.size+1+1]?=some o2/\Keeps w (((w.alloc o0).alloc o1).alloc o2)/\Below w.heap.size w (((w.alloc o0).alloc o1).alloc o2)/\(((w.alloc o0).alloc o1).alloc o2).heap.size=w.heap.size+1+1+1:=by
 obtain⟨h0,h1,hk,hb,hs⟩:=boxes2 w o0 o1;exact⟨(Deep.blk_alloc_lt _ _ _ (by rw[hs];omega)).trans h0,(Deep.blk_alloc_lt _ _ _ (by rw[hs];omega)).trans h1,by rw[<- hs];exact Deep.blk_alloc_new _ _,hk.trans (Keeps.alloc _ _),hb.alloc (by rw[hs];omega) _,by simp[hs]⟩
theorem boxes4 (w:World) (o0 o1 o2 o3:Obj):((((w.alloc o0).alloc o1).alloc o2).alloc o3).heap[w.heap.size]?=some o0/\((((w.alloc o0).alloc o1).alloc o2).alloc o3).heap[w.heap.size+1]?=some o1/\((((w.alloc o0).alloc o1).alloc o2).alloc o3).heap[w.heap.size+1+1]?=some o2/\((((w.alloc o0).alloc o1).alloc o2).alloc o3).heap[w.heap.size+1+1+1]?=some o3/\Keeps w ((((w.alloc o0).alloc o1).alloc o2).alloc o3)/\Below w.heap.size w ((((w.alloc o0).alloc o1).alloc o2).alloc o3)/\((((w.alloc o0).alloc o1).alloc o2).alloc o3).heap.size=w.heap.size+1+1+1+1:=by
 obtain⟨h0,h1,h2,hk,hb,hs⟩:=boxes3 w o0 o1 o2;exact⟨(Deep.blk_alloc_lt _ _ _ (by rw[hs];omega)).trans h0,(Deep.blk_alloc_lt _ _ _ (by rw[hs];omega)).trans h1,(Deep.blk_alloc_lt _ _ _ (by rw[hs];omega)).trans h2,by rw[<- hs];exact Deep.blk_alloc_new _ _,hk.trans (Keeps.alloc _ _),hb.alloc (by rw[hs];omega) _,by simp[hs]⟩
theorem boxes5 (w:World) (o0 o1 o2 o3 o4:Obj):(((((w.alloc o0).alloc o1).alloc o2).alloc o3).alloc o4).heap[w.heap.size]?=some o0/\(((((w.alloc o0).alloc o1).alloc o2).alloc o3).alloc o4).heap[w.heap.size+1]?=some o1/\(((((w.alloc o0).alloc o1).alloc o2).alloc o3).alloc o4).heap[w.heap.size+1+1]?=some o2/\(((((w.alloc o0).alloc o1).alloc o2).alloc o3).alloc o4).heap[w.heap.size+1+1+1]?=some o3/\(((((w.alloc o0).alloc o1).alloc o2).alloc o3).alloc o4).heap[w.heap.size+1+1+1+1]?=some o4/\Keeps w (((((w.alloc o0).alloc o1).alloc o2).alloc o3).alloc o4)/\Below w.heap.size w (((((w.alloc o0).alloc o1).alloc o2).alloc o3).alloc o4)/\(((((w.alloc o0).alloc o1).alloc o2).alloc o3).alloc o4).heap.size=w.heap.size+1+1+1+1+1:=by
 obtain⟨h0,h1,h2,h3,hk,hb,hs⟩:=boxes4 w o0 o1 o2 o3;exact⟨(Deep.blk_alloc_lt _ _ _ (by rw[hs];omega)).trans h0,(Deep.blk_alloc_lt _ _ _ (by rw[hs];omega)).trans h1,(Deep.blk_alloc_lt _ _ _ (by rw[hs];omega)).trans h2,(Deep.blk_alloc_lt _ _ _ (by rw[hs];omega)).trans h3,by rw[<- hs];exact Deep.blk_alloc_new _ _,hk.trans (Keeps.alloc _ _),hb.alloc (by rw[hs];omega) _,by simp[hs]⟩
theorem boxes6 (w:World) (o0 o1 o2 o3 o4 o5:Obj):((((((w.alloc o0).alloc o1).alloc o2).alloc o3).alloc o4).alloc o5).heap[w.heap.size]?=some o0/\((((((w.alloc o0).alloc o1).alloc o2).alloc o3).alloc o4).alloc o5).heap[w.heap.size+1]?=some o1/\((((((w.alloc o0).alloc o1).alloc o2).alloc o3).alloc o4).alloc o5).heap[w.heap.size+1+1]?=some o2/\((((((w.alloc o0).alloc o1).alloc o2).alloc o3).alloc o4).alloc o5).heap[w.heap.size+1+1+1]?=some o3/\((((((w.alloc o0).alloc o1).alloc o2).alloc o3).alloc o4).alloc o5).heap[w.heap.size+1+1+1+1]?=some o4/\((((((w.alloc o0).alloc o1).alloc o2).alloc o3).alloc o4).alloc o5).heap[w.heap.size+1+1+1+1+1]?=some o5/\Keeps w ((((((w.alloc o0).alloc o1).alloc o2).alloc o3).alloc o4).alloc o5)/\Below w.heap.size w ((((((w.alloc o0).alloc o1).alloc o2).alloc o3).alloc o4).alloc o5)/\((((((w.alloc o0).alloc o1).alloc o2).alloc o3).alloc o4).alloc o5).heap.size=w.heap.size+1+1+1+1+1+1:=by
 obtain⟨h0,h1,h2,h3,h4,hk,hb,hs⟩:=boxes5 w o0 o1 o2 o3 o4;exact⟨(Deep.blk_alloc_lt _ _ _ (by rw[hs];omega)).trans h0,(Deep.blk_alloc_lt _ _ _ (by rw[hs];omega)).trans h1,(Deep.blk_alloc_lt _ _ _ (by rw[hs];omega)).trans h2,(Deep.blk_alloc_lt _ _ _ (by rw[hs];omega)).trans h3,(Deep.blk_alloc_lt _ _ _ (by rw[hs];omega)).trans h4,by rw[<- hs];exact Deep.blk_alloc_new _ _,hk.trans (Keeps.alloc _ _),hb.alloc (by rw[hs];omega) _,by simp[hs]⟩
end
end Go.Proofs.YtepifccbbmdfcaaGreatDoor
