/- ASimA. -/
import Derived.Test.YtihpkcccfgbcmaaGreatDoorCETopClearTSolo
namespace Go.Proofs.YtihpkcccfgbcmaaGreatDoor
structure ASim (R:Int->Int->Prop) (a b:Ac):Prop where
 bis:Bis a.obs b.obs R
 regs:VRs R a.regs b.regs
 box:VRs R a.box b.box
 kind:b.kind=a.kind
 par:b.par=a.par
 M:b.M=a.M
 pc:b.pc=a.pc
 fin:b.fin=a.fin
def ASm (a b:Ac):Prop:=∃ R,ASim R a b
section
variable {R:Int->Int->Prop} {a b c d:Ac}
theorem ASim.symm (h:ASim R a b):ASim (fun p q=>R q p) b a:=⟨h.bis.symm,h.regs.symm,h.box.symm,h.kind.symm,h.par.symm,h.M.symm,h.pc.symm,h.fin.symm⟩
theorem ASm.symm (h:ASm a b):ASm b a:=by obtain⟨R,h⟩:=h;exact⟨_,h.symm⟩
theorem ASm.refl (h:AStr a):ASm a a:=by
 have hv:∀ x:Vl,vMay a.obs.length x=true->VR (fun p q=>p=q/\0<=p/\p<(a.obs.length:Int)) x x:=fun x hx =>
  ⟨rfl,fun e=>⟨rfl,vMay_ref hx e⟩,fun _=>rfl⟩
 have hvs:∀ l:List Vl,(∀ x∈l,vMay a.obs.length x=true)->VRs (fun p q=>p=q/\0<=p/\p<(a.obs.length:Int)) l l:=fun l hl =>
  ⟨rfl,fun i u v h1 h2=>by rw[h1] at h2;simp at h2;subst h2;exact hv u (hl u (List.mem_of_getElem? h1))⟩
 have hp:=h.vals;refine⟨fun p q=>p=q/\0<=p/\p<(a.obs.length:Int),⟨fun p q k=>k.2,fun p q k=>k.1 ▸ k.2,fun p q q' k k'=>k.1.symm.trans k'.1,fun p p' q k k'=>k.1.trans k'.1.symm,fun p q k=>by rw[k.1],fun p q k=>?_⟩,hvs _ (fun x hx=>hp.2.2 x (List.mem_append_left _ hx)),hvs _ (fun x hx=>hp.2.2 x (List.mem_append_right _ hx)),rfl,rfl,rfl,rfl,rfl⟩;rw[<- k.1];refine hvs _ (fun x hx=>?_);have:=fields_may h.may p
 rw[fieldsOf_obAt] at this
 exact List.all_eq_true.1 this x hx
theorem ASim.roots (h:ASim R a b):VRs R a.roots b.roots:=h.regs.app h.box
theorem ASim.reg (h:ASim R a b) (ha:AStr a) {r:Int} (hr:0<=r/\r<=7):VR R (a.reg r) (b.reg r):=by
 obtain⟨v,hv,hr⟩:=h.regs.get (ha.reg hr);have:b.reg r=v:=by unfold Ac.reg;rw[hv];rfl
 rw[this];exact hr
theorem ASim.put (h:ASim R a b) {u v:Vl} (k:VR R u v) (r:Int):ASim R (a.put r u) (b.put r v) :=
 ⟨h.bis,h.regs.set k _,h.box,h.kind,h.par,h.M,h.pc,h.fin⟩
theorem ASim.count (h:ASim R a b) (ha:AStr a) (hb:AStr b):(kept b).length=(kept a).length:=by
 unfold kept
 rw[keptOf_length (reach_ok ha.may _ (hMay_roots ha.may)),keptOf_length (reach_ok hb.may _ (hMay_roots hb.may))];exact(h.bis.led ha.may hb.may h.roots).1
theorem ASim.clear (h:ASim R a b) (ha:AStr a):ASm (clearS a) b:=by
 have hcl:∀ p∈kept a,∀ x∈(obAt a.obs p).fs,x.k=2->x.n∈kept a:=fun p hp x hx hk =>
  (kept_mem ha _).2 (reach_closed ha.may (hMay_roots ha.may) ((kept_mem ha p).1 hp) (by rw[fieldsOf_obAt];exact hx) hk)
 have hr:∀ x∈a.roots,x.k=2->x.n∈kept a:=fun x hx hk=>(kept_mem ha _).2 (reach_root hx hk)
 obtain⟨k,hvs⟩:=h.bis.keep hcl;rw[clear_eq ha];exact⟨_,k,hvs _ _ h.regs (fun x hx=>hr x (List.mem_append_left _ hx)),hvs _ _ h.box (fun x hx=>hr x (List.mem_append_right _ hx)),h.kind,h.par,h.M,h.pc,h.fin⟩
theorem ASm.clear (h:ASm a b) (ha:AStr a):ASm (clearS a) b:=by obtain⟨R,h⟩:=h;exact h.clear ha
theorem ASm.clear' (h:ASm a b) (hb:AStr b):ASm a (clearS b):=(h.symm.clear hb).symm
theorem ASm.clears (h:ASm a b) (ha:AStr a) (hb:AStr b):ASm (clearS a) (clearS b):=(h.clear ha).clear' hb
theorem ASim.new (h:ASim R a b) {o:Ob} (ho:∀ x∈o.fs,x.k≠2):∃ Q,ASim Q (a.heap a.M (a.obs++[o])) (b.heap b.M (b.obs++[o]))/\VR Q ⟨2,a.obs.length⟩ ⟨2,b.obs.length⟩ :=
 ⟨_,⟨h.bis.new ho,h.regs.mono (fun _ _=>Or.inl),h.box.mono (fun _ _=>Or.inl),h.kind,h.par,h.M,h.pc,h.fin⟩,rfl,fun _=>Or.inr ⟨rfl,rfl⟩,fun e=>absurd rfl e⟩
theorem ASm.room (h:ASm a b) (ha:AStr a) (hb:AStr b) (hc:c=a\/c=clearS a) (hl:(c.obs.length:Int)≠c.M) (_:(b.obs.length:Int)=b.M) (h2:((clearS b).obs.length:Int)=(clearS b).M):False:=by
 obtain⟨R,h⟩:=h;have hn:=h.count ha hb;rw[clear_obs hb,(clear_same hb).2.2.2.2,h.M,hn] at h2;have:=kept_len ha;have hv:=ha.vals.1
 rcases hc with rfl | rfl
 ·omega
 ·rw[clear_obs ha,(clear_same ha).2.2.2.2] at hl
  exact hl h2
theorem ASm.either (h:ASm a b) (ha:AStr a) (hb:AStr b) (hc:c=a\/c=clearS a) (hd:d=b\/d=clearS b):ASm c d:=by
 rcases hc with rfl | rfl <;> rcases hd with rfl | rfl
 ·exact h
 ·exact h.clear' hb
 ·exact h.clear ha
 ·exact h.clears ha hb
theorem ASm.give (h:ASm a b) (ha:AStr a) (hb:AStr b) {n:Int} (hn:1<=n/\n<=4) :
  (∃ R c d u v,giveS a n=(c,some u)/\giveS b n=(d,some v)/\ASim R c d/\VR R u v)\/(giveS a n=(clearS a,none)/\giveS b n=(clearS b,none)/\ASm (clearS a) (clearS b)):=by
 rcases give_cases ha hn with⟨c,hc,_,hlc,ec⟩ | ⟨e1,e2,ea⟩ <;> rcases give_cases hb hn with⟨d,hd,_,hld,ed⟩ | ⟨f1,f2,eb⟩
 ·obtain⟨R,hcd⟩:=h.either ha hb hc hd
  obtain⟨Q,k1,k2⟩:=hcd.new (o:=⟨zeroVals n.toNat,false⟩) (zero_noRef _);exact .inl ⟨Q,_,_,_,_,ec,ed,k1,k2⟩
 ·exact(h.room ha hb hc hlc f1 f2).elim
 ·exact(h.symm.room hb ha hd hld e1 e2).elim
 ·exact .inr ⟨ea,eb,h.clears ha hb⟩
theorem ASm.told (h:ASm a b) (ha:AStr a) (hb:AStr b) (n m:Int):ASm (toldS a n m) (toldS b n m):=by
 rcases told_cases ha n m with⟨c,hc,_,hlc,ec⟩ | ⟨e1,e2,ea⟩ <;> rcases told_cases hb n m with⟨d,hd,_,hld,ed⟩ | ⟨f1,f2,eb⟩
 ·obtain⟨R,hcd⟩:=h.either ha hb hc hd
  obtain⟨Q,k1,k2⟩:=hcd.new (o:=toldOb n m) (fun v hv=>by simp[toldOb] at hv;rcases hv with rfl | rfl <;> simp[numV]);rw[ec,ed];exact⟨Q,k1.bis,k1.regs,k1.box.app (VRs.one k2),k1.kind,k1.par,k1.M,k1.pc,k1.fin⟩
 ·exact(h.room ha hb hc hlc f1 f2).elim
 ·exact(h.symm.room hb ha hd hld e1 e2).elim
 ·rw[ea,eb];exact h.clears ha hb
theorem VR.numV (R:Int->Int->Prop) (n:Int):VR R (numV n) (numV n):=VR.plain (by simp[_root_.Go.Proofs.YtihpkcccfgbcmaaGreatDoor.numV])
theorem VR.nilV (R:Int->Int->Prop):VR R nilV nilV:=VR.plain (by decide)
theorem VR.num {u v:Vl} (h:VR R u v) (hk:u.k=1):v.n=u.n:=h.2.2 (by omega)
theorem ASim.place (h:ASim R a b) {u v:Vl} (k:VR R u v) (hk:u.k=2):∃ (p q:Nat) (o o':Ob),u.n=p/\v.n=q/\a.obs[p]?=some o/\b.obs[q]?=some o'/\R p q/\o'.dead=o.dead/\VRs R o.fs o'.fs:=by
 have hr:=k.2.1 hk;have h1:=h.bis.left _ _ hr;have h2:=h.bis.right _ _ hr;obtain⟨p,hp⟩:=Int.eq_ofNat_of_zero_le h1.1;obtain⟨q,hq⟩:=Int.eq_ofNat_of_zero_le h2.1;rw[hp] at h1 hr;rw[hq] at h2 hr;have hpl:p<a.obs.length:=by omega
 have hql:q<b.obs.length:=by omega
 have e1:=obAt_some (List.getElem?_eq_getElem hpl);have e2:=obAt_some (List.getElem?_eq_getElem hql);have hd:=h.bis.dead _ _ hr;have hF:=h.bis.fields _ _ hr;rw[e1,e2] at hd hF;exact⟨p,q,_,_,hp,hq,List.getElem?_eq_getElem hpl,List.getElem?_eq_getElem hql,hr,hd,hF⟩
theorem ASim.err (h:ASim R a b) {u v:Vl} (k:VR R u v) (f:Int):fieldErr b.obs v f=fieldErr a.obs u f:=by
 unfold fieldErr
 rw[k.1]
 by_cases hk:u.k=2
 ·obtain⟨p,q,o,o',hp,hq,ho,ho',_,hd,hF⟩:=h.place k hk
  rw[if_neg (by simp[hk]),if_neg (by simp[hk]),hp,hq,Int.toNat_natCast,Int.toNat_natCast,ho,ho'];simp only[hd,hF.1]
 ·rw[if_pos hk,if_pos hk]
theorem ASim.get (h:ASim R a b) {u v:Vl} (ha:hMay a.M a.obs [u]=true) (hb:hMay b.M b.obs [v]=true) (k:VR R u v) (f:Int):(getS b.M b.obs v f).2=(getS a.M a.obs u f).2/\VR R (getS a.M a.obs u f).1 (getS b.M b.obs v f).1:=by
 have he:=h.err k f;have na:¬ hMay a.M a.obs [u]=false:=by simp[ha]
 have nb:¬ hMay b.M b.obs [v]=false:=by simp[hb]
 unfold getS
 rw[if_neg na,if_neg nb,he]
 by_cases h0:fieldErr a.obs u f=0
 ·obtain⟨hk,p,x,o,z,hp,hf,ho,hz,_⟩:=field_there (hMay_vMay ha (by simp)) h0
  obtain⟨p',q,o1,o',hp',hq,ho1,ho',_,hd,hF⟩:=h.place k hk;obtain rfl:p=p':=by omega
  rw[ho] at ho1;simp only[Option.some.injEq] at ho1;subst ho1;obtain⟨y,hy,hr⟩:=hF.get hz;rw[if_neg (by simp[h0]),if_neg (by simp[h0]),hp,hq,hf];simp only[Int.toNat_natCast,ho,ho',hz,hy];exact⟨trivial,hr⟩
 ·rw[if_pos h0,if_pos h0]
  exact⟨rfl,VR.plain (show(0:Int)≠2 by decide)⟩
theorem ASim.setF (h:ASim R a b) {u v x y:Vl} (ha:hMay a.M a.obs [u,x]=true) (hb:hMay b.M b.obs [v,y]=true) (k:VR R u v) (kx:VR R x y) (f:Int) :
  (setS b.M b.obs v f y).2.2=(setS a.M a.obs u f x).2.2/\((setS a.M a.obs u f x).2.2=0->ASim R (a.heap (setS a.M a.obs u f x).1 (setS a.M a.obs u f x).2.1) (b.heap (setS b.M b.obs v f y).1 (setS b.M b.obs v f y).2.1)):=by
 have he:=h.err k f;have na:¬ hMay a.M a.obs [u,x]=false:=by simp[ha]
 have nb:¬ hMay b.M b.obs [v,y]=false:=by simp[hb]
 unfold setS
 rw[if_neg na,if_neg nb,he]
 by_cases h0:fieldErr a.obs u f=0
 ·rw[if_neg (by simp[h0]),if_neg (by simp[h0])]
  have hk:u.k=2:=(field_there (hMay_vMay ha (by simp)) h0).1;obtain⟨p,q,o,o',hp,hq,ho,ho',hr,hd,hF⟩:=h.place k hk;refine⟨rfl,fun _=>?_⟩;simp only[hp,hq,Int.toNat_natCast,setObs,ho,ho'];exact⟨h.bis.set hr ho ho' kx _,h.regs,h.box,h.kind,h.par,h.M,h.pc,h.fin⟩
 ·rw[if_pos h0,if_pos h0]
  exact⟨rfl,fun e=>absurd e h0⟩
theorem keep1_sim {x y:List Vl} (h:VRs R x y):VRs R (keep1 x) (keep1 y):=by
 cases x with
 | nil =>
  have:=h.1
  cases y with
  | nil=>exact VRs.nil
  | cons _ _=>simp at this
 | cons u r =>
  cases y with
  | nil=>have:=h.1;simp at this
  | cons v s =>
   have ht:=h.tail;exact(VRs.one ht.1).app (VRs.nils ht.2.1)
theorem AStr.two (h:AStr a) {u v:Vl} (hu:vMay a.obs.length u=true) (hv:vMay a.obs.length v=true):hMay a.M a.obs [u,v]=true:=by
 have:=hMay_parts.1 h.may;exact hMay_parts.2 ⟨this.1,this.2.1,fun w hw=>by simp at hw;rcases hw with rfl | rfl;exact hu;exact hv⟩
theorem ASm.alone (h:ASm a b) (ha:AStr a) (hb:AStr b) {i:Ins} {G many place:Int} (hi:InsOk G many place i) (who:Nat):(aloneS b who i).2=(aloneS a who i).2/\ASm (aloneS a who i).1 (aloneS b who i).1:=by
 have hh:=h;obtain⟨R,h⟩:=h;have kA:=h.reg ha hi.a;have kB:=h.reg ha hi.b
 unfold aloneS
 by_cases h0:i.op=0
 ·rw[if_pos h0,if_pos h0,(h.reg ha (r:=0) (by omega)).1]
  by_cases hk:(a.reg 0).k≠2
  ·rw[if_pos hk,if_pos hk];exact⟨rfl,hh⟩
  ·rw[if_neg hk,if_neg hk]
   exact⟨rfl,R,h.bis,keep1_sim h.regs,h.box,h.kind,h.par,h.M,h.pc,h.fin⟩
 rw[if_neg h0,if_neg h0]
 by_cases h1:i.op=1
 ·rw[if_pos h1,if_pos h1]
  exact⟨rfl,R,h.put (VR.numV _ _) _⟩
 rw[if_neg h1,if_neg h1]
 by_cases h2:i.op=2\/i.op=3\/i.op=4
 ·rw[if_pos h2,if_pos h2]
  unfold reckonS
  rw[kA.1,kB.1]
  by_cases hk:(a.reg i.a).k≠1\/(a.reg i.b).k≠1
  ·rw[if_pos hk,if_pos hk];exact⟨rfl,hh⟩
  ·rw[if_neg hk,if_neg hk,kA.num (by omega),kB.num (by omega)]
   split
   ·exact⟨rfl,hh⟩
   ·exact⟨rfl,R,h.put (VR.numV _ _) _⟩
 rw[if_neg h2,if_neg h2]
 by_cases h3:i.op=5
 ·rw[if_pos h3,if_pos h3,kA.1]
  exact⟨rfl,hh⟩
 rw[if_neg h3,if_neg h3]
 by_cases h4:i.op=7
 ·rw[if_pos h4,if_pos h4]
  have hn:=hi.n
  unfold makeS
  rcases hh.give ha hb (n:=i.n) (by simp[loOf,hiOf,h4] at hn;omega) with⟨Q,c,d,u,v,e1,e2,k1,k2⟩ | ⟨e1,e2,k⟩
  ·rw[e1,e2];exact⟨rfl,Q,k1.put k2 _⟩
  ·rw[e1,e2];exact⟨rfl,k⟩
 rw[if_neg h4,if_neg h4];have hg:∀ kind way:Int,(getsS b i kind way).2=(getsS a i kind way).2/\ASm (getsS a i kind way).1 (getsS b i kind way).1:=fun kind way=>by
  obtain⟨e,k⟩:=h.get (one_may ha (ha.regMay hi.b)) (one_may hb (hb.regMay hi.b)) kB i.n
  unfold getsS
  rw[e,k.1]
  split
  ·exact⟨rfl,hh⟩
  split
  ·exact⟨rfl,hh⟩
  ·exact⟨rfl,R,h.put k _⟩
 have hs:∀ kind:Int,(putsS b i kind).2=(putsS a i kind).2/\ASm (putsS a i kind).1 (putsS b i kind).1:=fun kind=>by
  obtain⟨e,k⟩:=h.setF (ha.two (ha.regMay hi.a) (ha.regMay hi.b)) (hb.two (hb.regMay hi.a) (hb.regMay hi.b)) kA kB i.n
  unfold putsS
  rw[e,kB.1]
  by_cases hz:(setS a.M a.obs (a.reg i.a) i.n (a.reg i.b)).2.2≠0
  ·rw[if_pos hz,if_pos hz];exact⟨rfl,hh⟩
  ·rw[if_neg hz,if_neg hz]
   split
   ·exact⟨rfl,hh⟩
   ·exact⟨rfl,R,k (by omega)⟩
 by_cases h5:i.op=8
 ·rw[if_pos h5,if_pos h5];exact hg 1 2
 rw[if_neg h5,if_neg h5]
 by_cases h6:i.op=10
 ·rw[if_pos h6,if_pos h6];exact hg 2 3
 rw[if_neg h6,if_neg h6]
 by_cases h7:i.op=9
 ·rw[if_pos h7,if_pos h7];exact hs 1
 rw[if_neg h7,if_neg h7]
 by_cases h8:i.op=11
 ·rw[if_pos h8,if_pos h8];exact hs 2
 rw[if_neg h8,if_neg h8]
 by_cases h9:i.op=12
 ·rw[if_pos h9,if_pos h9];exact⟨rfl,R,h.put kB _⟩
 rw[if_neg h9,if_neg h9]
 by_cases h10:i.op=16
 ·rw[if_pos h10,if_pos h10];exact⟨rfl,R,h.put (VR.numV _ _) _⟩
 rw[if_neg h10,if_neg h10]
 by_cases h11:i.op=18
 ·rw[if_pos h11,if_pos h11];exact⟨rfl,R,h.put (VR.nilV _) _⟩
 rw[if_neg h11,if_neg h11]
 by_cases h12:i.op=19
 ·rw[if_pos h12,if_pos h12];exact⟨rfl,hh⟩
 rw[if_neg h12,if_neg h12];exact⟨rfl,hh⟩
theorem ASm.ended (h:ASm a b) (way:Int):ASm (endedS a way) (endedS b way):=by
 obtain⟨R,h⟩:=h;refine⟨fun _ _=>False,⟨fun p q k=>k.elim,fun p q k=>k.elim,fun p q q' k=>k.elim,fun p p' q k=>k.elim,fun p q k=>k.elim,fun p q k=>k.elim⟩,VRs.nils h.regs.1,VRs.nil,h.kind,h.par,h.M,rfl,rfl⟩
theorem ASm.take (h:ASm a b):ASm (takeS a) (takeS b):=by
 have hh:=h;obtain⟨R,h⟩:=h;have hbx:=h.box
 unfold takeS
 cases hx:a.box with
 | nil =>
  rw[hx] at hbx
  cases hy:b.box with
  | nil=>exact hh
  | cons _ _=>rw[hy] at hbx;have:=hbx.1;simp at this
 | cons u r =>
  rw[hx] at hbx
  cases hy:b.box with
  | nil=>rw[hy] at hbx;have:=hbx.1;simp at this
  | cons v s =>
   rw[hy] at hbx;have ht:=hbx.tail;exact⟨R,h.bis,h.regs.set ht.1 _,ht.2,h.kind,h.par,h.M,rfl,h.fin⟩
theorem ASim.dead (h:ASim R a b) {u v:Vl} (ha:hMay a.M a.obs [u]=true) (hb:hMay b.M b.obs [v]=true) (k:VR R u v):leadsDead b v=leadsDead a u:=by
 obtain⟨_,hmem,_,hto⟩:=h.bis.led ha hb (VRs.one k)
 unfold leadsDead
 rw[Bool.eq_iff_iff,List.any_eq_true,List.any_eq_true]
 constructor
 ·rintro⟨q,hq,hd⟩
  obtain⟨_,_,_,hto'⟩:=h.bis.symm.led hb ha (VRs.one k.symm);obtain⟨p,hp⟩:=hto' q hq;exact⟨p,(hmem p q hp).2 hq,by rw[<- h.bis.dead p q hp];exact hd⟩
 ·rintro⟨p,hp,hd⟩
  obtain⟨q,hq⟩:=hto p hp;exact⟨q,(hmem p q hq).1 hp,by rw[h.bis.dead p q hq];exact hd⟩
end
end Go.Proofs.YtihpkcccfgbcmaaGreatDoor
