/- ASound2. -/
import Derived.Test.YtepifccbbmdfcaaGreatDoorCBASend
import Derived.Test.YtepifccbbmdfcaaGreatDoorCBASound
namespace Go.Proofs.YtepifccbbmdfcaaGreatDoor
theorem put_get {w:Wd} {n:Nat} {a:Ac} (hn:n<w.acts.length) (i:Nat):(w.put (n:Int) a).acts[i]?=if i=n then some a else w.acts[i]?:=by
 simp only[Wd.put,Int.toNat_natCast,List.getElem?_set]
 by_cases e:i=n
 ·subst e;rw[if_pos rfl,if_pos rfl,if_pos hn]
 ·rw[if_neg e,if_neg (fun x=>e x.symm)]
theorem at_put {w:Wd} {n:Nat} {a:Ac} (hn:n<w.acts.length) (i:Nat):(w.put (n:Int) a).at (i:Int)=if i=n then a else w.at i:=by
 unfold Wd.at
 rw[Int.toNat_natCast,put_get hn]
 by_cases e:i=n
 ·rw[if_pos e,if_pos e];rfl
 ·rw[if_neg e,if_neg e]
structure AOk (G:Nat) (L:Nat->Nat) (S:Nat->List Pt) (a:Ac) (i:Nat):Prop where
 kind:0<=a.kind/\a.kind<(G:Int)
 par:-1<=a.par/\a.par<(i:Int)
 pc:-1<=a.pc/\a.pc<(L a.kind.toNat:Int)
 fin:0<=a.fin/\a.fin<=7
 str:AStr a
 gone:a.fin=0\/(a.box=[]/\a.obs=[]/\a.pc=-1)
 typ:a.fin=0->∃ k,k.length=8/\Typ a.obs a.regs a.box k/\(a.pc=-1->k=kWait)/\(0<=a.pc->vPt (S a.kind.toNat) a.pc.toNat=some k)
structure WOk (G:Nat) (L:Nat->Nat) (S:Nat->List Pt) (w:Wd):Prop where
 len:1<=w.acts.length/\w.acts.length<=8
 prints:w.prints.length<=500
 told:∀ t∈w.prints,prMay w.acts.length t=true
 acts:∀ i a,w.acts[i]?=some a->AOk G L S a i
section
variable {G:Nat} {L:Nat->Nat} {X:Nat->Nat->Nat->Int} {S:Nat->List Pt}
theorem AOk.change {a b:Ac} {i:Nat} (h:AOk G L S a i) (h0:a.fin=0) (hk:b.kind=a.kind) (hp:b.par=a.par) (hpc:b.pc=a.pc) (hf:b.fin=a.fin) (hs:AStr b) (ht:∀ k,Typ a.obs a.regs a.box k->Typ b.obs b.regs b.box k):AOk G L S b i where
 kind:=by rw[hk];exact h.kind
 par:=by rw[hp];exact h.par
 pc:=by rw[hpc,hk];exact h.pc
 fin:=by rw[hf];exact h.fin
 str:=hs
 gone:=Or.inl (by rw[hf];exact h0)
 typ:=fun _=>by
  obtain⟨k,h1,h2,h3,h4⟩:=h.typ h0;exact⟨k,h1,ht k h2,by rw[hpc];exact h3,by rw[hpc,hk];exact h4⟩
theorem AOk.clear {a:Ac} {i:Nat} (h:AOk G L S a i):AOk G L S (clearS a) i:=by
 have hs:=clear_same h.str
 by_cases h0:a.fin=0
 ·exact h.change h0 hs.1 hs.2.1 hs.2.2.1 hs.2.2.2.1 h.str.clear (fun _ ht=>Typ.clearS h.str ht)
 ·refine⟨by rw[hs.1];exact h.kind,by rw[hs.2.1];exact h.par,by rw[hs.2.2.1,hs.1];exact h.pc,by rw[hs.2.2.2.1];exact h.fin,h.str.clear,?_,fun e=>absurd (hs.2.2.2.1.symm.trans e) h0⟩
  rcases h.gone with e | ⟨e1,e2,e3⟩
  ·exact absurd e h0
  ·refine Or.inr ⟨?_,?_,by rw[hs.2.2.1];exact e3⟩
   ·exact List.eq_nil_of_length_eq_zero (by rw[clear_box h.str,e1];rfl)
   ·refine List.eq_nil_of_length_eq_zero ?_
    have:=kept_len h.str;rw[e2] at this
    rw[clear_obs h.str]
    simpa using this
theorem WOk.at {w:Wd} (h:WOk G L S w) {n:Int} (hn:0<=n/\n<(w.acts.length:Int)):w.acts[n.toNat]?=some (w.at n)/\AOk G L S (w.at n) n.toNat:=by
 have hl:n.toNat<w.acts.length:=by omega
 have e:w.acts[n.toNat]?=some (w.at n):=by unfold Wd.at;rw[List.getElem?_eq_getElem hl];rfl
 exact⟨e,h.acts _ _ e⟩
theorem WOk.put {w:Wd} (h:WOk G L S w) {n:Int} (hn:0<=n/\n<(w.acts.length:Int)) {a:Ac} (ha:AOk G L S a n.toNat):WOk G L S (w.put n a) where
 len:=by rw[put_len];exact h.len
 prints:=h.prints
 told:=by rw[put_len];exact h.told
 acts:=fun i b hb=>by
  have e:n=((n.toNat:Nat):Int):=by omega
  rw[e,put_get (by omega)] at hb
  by_cases hi:i=n.toNat
  ·rw[if_pos hi] at hb
   simp at hb;subst hb;rw[hi];exact ha
  ·rw[if_neg hi] at hb
   exact h.acts i b hb
theorem lives_iff {w:Wd} {n:Int}:livesS w n=true↔(0<=n/\n<(w.acts.length:Int))/\(w.at n).fin=0:=by simp[livesS]
theorem takes_iff {w:Wd} {n:Int}:takesS w n=true↔((0<=n/\n<(w.acts.length:Int))/\(w.at n).fin=0)/\(w.at n).box.length<6:=by simp[takesS,lives_iff]
theorem AOk.told {a:Ac} {i:Nat} (h:AOk G L S a i) (h0:a.fin=0) (hb:a.box.length<6) {n m:Int} (hn:isW n=true) (hm:isW m=true):AOk G L S (toldS a n m) i:=by
 have hs:=told_same h.str n m;exact h.change h0 hs.1 hs.2.1 hs.2.2.1 hs.2.2.2.1 (h.str.told hn hm hb) (fun _ ht=>Typ.told h.str ht n m)
theorem WOk.tell {w:Wd} (h:WOk G L S w) (tq:Int) {n m:Int} (hn:isW n=true) (hm:isW m=true):WOk G L S (tellS w tq n m):=by
 unfold tellS
 by_cases ht:takesS w tq=true
 ·rw[if_pos ht]
  obtain⟨⟨h1,h2⟩,h3⟩:=takes_iff.1 ht;exact h.put h1 ((h.at h1).2.told h2 h3 hn hm)
 ·rw[if_neg ht];exact h
structure Mid (G:Nat) (L:Nat->Nat) (S:Nat->List Pt) (w:Wd) (who:Nat) (K:Option (List Int)) (kind pc:Int):Prop where
 len:1<=w.acts.length/\w.acts.length<=8
 prints:w.prints.length<=500
 told:∀ t∈w.prints,prMay w.acts.length t=true
 others:∀ i a,w.acts[i]?=some a->i≠who->AOk G L S a i
 there:who<w.acts.length
 str:AStr (w.at who)
 fin:(w.at who).fin=0
 kindOf:(w.at who).kind=kind/\0<=kind/\kind<(G:Int)
 par:-1<=(w.at who).par/\(w.at who).par<(who:Int)
 pcOf:(w.at who).pc=pc
 typ:∀ k,K=some k->Typ (w.at who).obs (w.at who).regs (w.at who).box k
theorem Mid.put {w:Wd} {who:Nat} {K K':Option (List Int)} {kind pc:Int} (h:Mid G L S w who K kind pc) {b:Ac} (hk:b.kind=(w.at who).kind) (hp:b.par=(w.at who).par) (hpc:b.pc=(w.at who).pc) (hf:b.fin=(w.at who).fin) (hs:AStr b) (ht:∀ k,K'=some k->Typ b.obs b.regs b.box k):Mid G L S (w.put who b) who K' kind pc:=by
 have e:(w.put (who:Int) b).at (who:Int)=b:=by rw[at_put h.there,if_pos rfl]
 refine⟨by rw[put_len];exact h.len,h.prints,by rw[put_len];exact h.told,fun i a ha hi=>?_,by rw[put_len];exact h.there,?_,?_,?_,?_,?_,?_⟩
 ·rw[put_get h.there,if_neg hi] at ha
  exact h.others i a ha hi
 ·rw[e];exact hs
 ·rw[e,hf];exact h.fin
 ·rw[e,hk];exact h.kindOf
 ·rw[e,hp];exact h.par
 ·rw[e,hpc];exact h.pcOf
 ·rw[e];exact ht
theorem Mid.less {w:Wd} {who:Nat} {K:Option (List Int)} {kind pc:Int} (h:Mid G L S w who K kind pc):Mid G L S w who none kind pc :=
 ⟨h.len,h.prints,h.told,h.others,h.there,h.str,h.fin,h.kindOf,h.par,h.pcOf,fun k hk=>by cases hk⟩
theorem Mid.putOther {w:Wd} {who tq:Nat} {K:Option (List Int)} {kind pc:Int} (h:Mid G L S w who K kind pc) (hto:tq<w.acts.length) (hne:tq≠who) {b:Ac} (hb:AOk G L S b tq):Mid G L S (w.put tq b) who K kind pc:=by
 have e:(w.put (tq:Int) b).at (who:Int)=w.at who:=by rw[at_put hto,if_neg (fun x=>hne x.symm)]
 refine⟨by rw[put_len];exact h.len,h.prints,by rw[put_len];exact h.told,fun i a ha hi=>?_,by rw[put_len];exact h.there,?_,?_,?_,?_,?_,?_⟩
 ·rw[put_get hto] at ha
  by_cases hi':i=tq
  ·rw[if_pos hi'] at ha
   simp at ha;subst ha;rw[hi'];exact hb
  ·rw[if_neg hi'] at ha
   exact h.others i a ha hi
 all_goals rw[e]
 ·exact h.str
 ·exact h.fin
 ·exact h.kindOf
 ·exact h.par
 ·exact h.pcOf
 ·exact h.typ
theorem Mid.ends {w:Wd} {who:Nat} {K:Option (List Int)} {kind pc:Int} (h:Mid G L S w who K kind pc) {way:Int} (hw:1<=way/\way<=7) (hL:1<=L kind.toNat):WOk G L S (endS w who way):=by
 unfold endS
 refine WOk.tell ?_ _ (isW_iff.2 (by have:=h.there;have:=h.len;omega)) (isW_iff.2 (by omega));have hnil:∀ v∈(w.at who).regs.map (fun _=>nilV),vMay (([]:List Ob).length:Int) v=true:=fun v hv=>by
  obtain⟨_,_,rfl⟩:=List.mem_map.1 hv;exact nil_may _
 have hM:=h.str.vals.1;refine⟨by rw[put_len];exact h.len,h.prints,by rw[put_len];exact h.told,fun i a ha=>?_⟩;rw[put_get h.there] at ha
 by_cases hi:i=who
 ·rw[if_pos hi] at ha
  simp only[Option.some.injEq] at ha;subst ha;rw[hi];refine⟨by show 0<=(w.at who).kind/\(w.at who).kind<(G:Int);rw[h.kindOf.1];exact h.kindOf.2,h.par,⟨by show(-1:Int)<=-1;omega,?_⟩,⟨by show 0<=way;omega,by show way<=7;omega⟩,⟨by simp[endedS,h.str.regs],by simp[endedS],by simp[endedS],?_⟩,Or.inr ⟨rfl,rfl,rfl⟩,fun e=>?_⟩
  ·show(-1:Int)<(L (w.at who).kind.toNat:Int)
   rw[h.kindOf.1];omega
  ·refine hMay_parts.2 ⟨⟨hM.1,hM.2.1,by simpa[endedS] using hM.1⟩,by simp[endedS],fun v hv=>?_⟩
   simp only[endedS,Ac.roots,List.append_nil] at hv;exact hnil v hv
  ·have:way=0:=e
   omega
 ·rw[if_neg hi] at ha
  exact h.others i a ha hi
theorem Mid.goes {w:Wd} {who:Nat} {k:List Int} {kind pc:Int} (h:Mid G L S w who (some k) kind pc) (hk:k.length=8) (hpc:-1<=pc/\pc<(L kind.toNat:Int)) (hw:pc=-1->k=kWait) (hg:0<=pc->∃ k',vPt (S kind.toNat) pc.toNat=some k'/\k'.length=8/\∀ r:Nat,r<8->vJoin (vAt k' r) (vAt k r)=vAt k' r):WOk G L S w:=by
 refine⟨h.len,h.prints,h.told,fun i a ha=>?_⟩
 by_cases hi:i=who
 ·subst hi
  have e:=at_of ha;have ht:=h.typ k rfl;have hs:=h.str;have hf:=h.fin;have hp:=h.par;have hko:=h.kindOf;have hpo:=h.pcOf;rw[e] at ht hs hf hp hko hpo;refine⟨by rw[hko.1];exact hko.2,hp,by rw[hpo,hko.1];exact hpc,by rw[hf];exact⟨Int.le_refl _,by omega⟩,hs,Or.inl hf,fun _=>?_⟩;rw[hpo,hko.1]
  by_cases h1:pc=-1
  ·exact⟨k,hk,ht,fun _=>hw h1,fun h0=>by omega⟩
  ·obtain⟨k',h2,h3,h4⟩:=hg (by omega)
   exact⟨k',h3,ht.join h4,fun h0=>absurd h0 h1,fun _=>h2⟩
 ·exact h.others i a ha hi
structure Left (G:Nat) (L:Nat->Nat) (S:Nat->List Pt) (who:Nat) (i:Ins) (k:List Int) (kind pc:Int) (r:Wd × Int):Prop where
 way:0<=r.2/\r.2<=7
 mid:Mid G L S r.1 who (if r.2=0 then some (kNext i k) else none) kind pc
theorem trS_run {M:Int} {l:List Ob} {v:Vl} {M':Int} {l':List Ob} (h1:hMay M l [v]=true) (h2:hMay M' l' []=true) (hal:∀ p∈reach l [v],(obAt l p).dead=false) :
  trS M l v M' l'=if M' < ((l'.length+(reach l [v]).length:Nat):Int) then ([],7) else (reach l [v],0):=by
 unfold trS
 rw[if_pos (by simp[h1,h2]),if_neg];rw[List.any_eq_true];rintro⟨p,hp,hd⟩;rw[hal p hp] at hd
 cases hd
theorem transfer_run {M:Int} {l:List Ob} {v:Vl} {M':Int} {l':List Ob} (move:Bool) (h1:hMay M l [v]=true) (h2:hMay M' l' []=true) (hal:∀ p∈reach l [v],(obAt l p).dead=false) :
  transferS M l v M' l' move=if M' < ((l'.length+(reach l [v]).length:Nat):Int) then ⟨0,[],0,[],⟨0,0⟩,7⟩ else ⟨M,if move then buryL l (reach l [v]) else l,M',l'++mvObs l (reach l [v]) l'.length (reach l [v]),mvV (reach l [v]) l'.length v,0⟩:=by
 unfold transferS
 rw[trS_run h1 h2 hal]
 by_cases hr:M' < ((l'.length+(reach l [v]).length:Nat):Int)
 ·rw[if_pos hr,if_pos hr];simp
 ·rw[if_neg hr,if_neg hr];simp
theorem one_may {a:Ac} (h:AStr a) {v:Vl} (hv:vMay a.obs.length v=true):hMay a.M a.obs [v]=true:=by
 have:=hMay_parts.1 h.may;exact hMay_parts.2 ⟨this.1,this.2.1,fun u hu=>by simp at hu;subst hu;exact hv⟩
theorem AStr.recv {a:Ac} (h:AStr a) {M':Int} {lf:List Ob} {v:Vl} (hb:a.box.length<6) (hmf:hMay M' lf [v]=true) (hk:v.k=2) (hr:((a.obs.length+(reach lf [v]).length:Nat):Int)<=a.M) :
  AStr ((a.heap a.M (a.obs++mvObs lf (reach lf [v]) a.obs.length (reach lf [v]))).push (mvV (reach lf [v]) a.obs.length v)):=by
 have m:=mv_may (pre:=a.obs) (vs:=[v]) hmf (fun p=>Iff.rfl) (hMay_nil h.may) hr (hMay_roots hmf) (fun u hu huk=>reach_root hu huk);have h1:=h.heap (hMay_nil m) (by simp);refine h1.push hb (by simp[mvV,hk]) ?_;exact(hMay_parts.1 m).2.2 _ (by simp)
end
end Go.Proofs.YtepifccbbmdfcaaGreatDoor
