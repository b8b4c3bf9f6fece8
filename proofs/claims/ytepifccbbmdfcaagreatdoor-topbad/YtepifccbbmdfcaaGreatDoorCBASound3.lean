/- ASound3. -/
import Derived.Test.YtepifccbbmdfcaaGreatDoorCBASound2
namespace Go.Proofs.YtepifccbbmdfcaaGreatDoor
section
variable {G:Nat} {L:Nat->Nat} {X:Nat->Nat->Nat->Int} {S:Nat->List Pt}
theorem alive_of {a:Ac} (h:AStr a) {k:List Int} (ht:Typ a.obs a.regs a.box k) {r:Int} (hr:0<=r/\r<=7) (ho:vObj (vAt k r)=true):(a.reg r).k=2/\hMay a.M a.obs [a.reg r]=true/\∀ p∈reach a.obs [a.reg r],(obAt a.obs p).dead=false:=by
 have e:((r.toNat:Nat):Int)=r:=by omega
 have:=ht.obj (r:=r.toNat) (by omega) (h.reg hr) (by rw[e];exact vObj_iff.1 ho);refine⟨this.1,one_may h (h.regMay hr),fun p hp=>?_⟩;obtain⟨v,hv,hr'⟩:=rc_of_reach hp;simp at hv;subst hv;exact this.2 p hr'
theorem not_leadsDead {a:Ac} {v:Vl} (h:∀ p∈reach a.obs [v],(obAt a.obs p).dead=false):leadsDead a v=false:=by
 unfold leadsDead
 rw[List.any_eq_false];intro p hp;rw[h p hp];simp
theorem arrive_other {w:Wd} {who tq:Nat} {k:List Int} {kind pc:Int} (h:Mid G L S w who (some k) kind pc) (hk:k.length=8) (hto:tq<w.acts.length) (hne:tq≠who) (hf:(w.at tq).fin=0) (hb:(w.at tq).box.length<6) {r:Int} (hr:0<=r/\r<=7) (move:Bool) (ho:vObj (vAt k r)=true) (hu:move=true->vAt k r=3) :
  (trW w who r tq move).e=7\/((trW w who r tq move).e=0/\Mid G L S (arriveS w who tq (trW w who r tq move)) who (some (if move then vPut k r 0 else k)) kind pc):=by
 obtain⟨hk2,hm1,hal⟩:=alive_of h.str (h.typ k rfl) hr ho;have hBo:AOk G L S (w.at tq) tq:=h.others tq _ (by unfold Wd.at;rw[Int.toNat_natCast,List.getElem?_eq_getElem hto];rfl) hne
 unfold trW
 rw[transfer_run move hm1 (hMay_nil hBo.str.may) hal]
 by_cases hroom:(w.at tq).M<(((w.at tq).obs.length+(reach (w.at who).obs [(w.at who).reg r]).length:Nat):Int)
 ·rw[if_pos hroom];exact Or.inl rfl
 ·rw[if_neg hroom]
  refine Or.inr ⟨rfl,?_⟩
  unfold arriveS
  rw[if_neg (by simp)];have hM1:Mid G L S (w.put who ((w.at who).heap (w.at who).M (if move then buryL (w.at who).obs (reach (w.at who).obs [(w.at who).reg r]) else (w.at who).obs))) who (some (if move then vPut k r 0 else k)) kind pc:=by
   cases move with
   | true =>
    simp only[if_true];have e3:=hu rfl;have er:((r.toNat:Nat):Int)=r:=by omega
    have hbm:hMay (w.at who).M (buryL (w.at who).obs (reach (w.at who).obs [(w.at who).reg r])) []=true:=bury_may (hMay_nil h.str.may) (fun p hp=>((reach_ok hm1 _ (hMay_roots hm1)).2 p hp).1);refine h.put (K':=some (vPut k r 0)) rfl rfl rfl rfl (h.str.heap hbm (by rw[buryL_length];exact Nat.le_refl _)) (fun k' hk'=>?_);simp at hk';subst hk';have:=(h.typ k rfl).bury h.str.may hk (a:=r.toNat) (by omega) (by rw[er];exact e3) (h.str.reg hr)
    rw[er] at this
    exact this
   | false =>
    simp only[Bool.false_eq_true,if_false];exact h.put rfl rfl rfl rfl h.str (fun k' hk'=>h.typ k' hk')
  have hto1:tq<(w.put who ((w.at who).heap (w.at who).M (if move then buryL (w.at who).obs (reach (w.at who).obs [(w.at who).reg r]) else (w.at who).obs))).acts.length:=by rw[put_len];exact hto
  refine hM1.putOther hto1 hne ?_;have e:(w.put who ((w.at who).heap (w.at who).M (if move then buryL (w.at who).obs (reach (w.at who).obs [(w.at who).reg r]) else (w.at who).obs))).at tq=w.at tq:=by rw[at_put h.there,if_neg hne]
  rw[e];exact hBo.change hf rfl rfl rfl rfl (hBo.str.recv hb hm1 hk2 (by omega)) (fun k' hk'=>hk'.recv hBo.str.may hm1 hk2 hal)
theorem arrive_self {w:Wd} {who:Nat} {k:List Int} {kind pc:Int} (h:Mid G L S w who (some k) kind pc) (hb:(w.at who).box.length<6) {r:Int} (hr:0<=r/\r<=7) (ho:vObj (vAt k r)=true) :
  (trW w who r who false).e=7\/((trW w who r who false).e=0/\Mid G L S (arriveS w who who (trW w who r who false)) who (some k) kind pc):=by
 obtain⟨hk2,hm1,hal⟩:=alive_of h.str (h.typ k rfl) hr ho
 unfold trW
 rw[transfer_run false hm1 (hMay_nil h.str.may) hal]
 by_cases hroom:(w.at who).M<(((w.at who).obs.length+(reach (w.at who).obs [(w.at who).reg r]).length:Nat):Int)
 ·rw[if_pos hroom];exact Or.inl rfl
 ·rw[if_neg hroom]
  refine Or.inr ⟨rfl,?_⟩
  unfold arriveS
  rw[if_neg (by simp)];simp only[Bool.false_eq_true,if_false];have hM1:Mid G L S (w.put who ((w.at who).heap (w.at who).M (w.at who).obs)) who (some k) kind pc:=h.put rfl rfl rfl rfl h.str (fun k' hk'=>h.typ k' hk');have e:(w.put who ((w.at who).heap (w.at who).M (w.at who).obs)).at who=w.at who:=by rw[at_put h.there,if_pos rfl];rfl
  refine hM1.put (K':=some k) rfl rfl rfl rfl ?_ (fun k' hk'=>?_)
  ·rw[e]
   exact h.str.recv hb hm1 hk2 (by omega)
  ·rw[e]
   exact(h.typ k' hk').recv h.str.may hm1 hk2 hal
theorem arrive_full {w:Wd} {who:Nat} {tq:Int} {t:TrR} (h:t.e=7):arriveS w who tq t=w:=by
 unfold arriveS
 rw[if_pos (by omega)]
theorem Mid.clearMe {w:Wd} {who:Nat} {k:List Int} {kind pc:Int} (h:Mid G L S w who (some k) kind pc):Mid G L S (w.put who (clearS (w.at who))) who (some k) kind pc:=by
 have hs:=clear_same h.str;exact h.put hs.1 hs.2.1 hs.2.2.1 hs.2.2.2.1 h.str.clear (fun k' hk'=>Typ.clearS h.str (h.typ k' hk'))
theorem Mid.clearOther {w:Wd} {who tq:Nat} {K:Option (List Int)} {kind pc:Int} (h:Mid G L S w who K kind pc) (hto:tq<w.acts.length) (hne:tq≠who):Mid G L S (w.put tq (clearS (w.at tq))) who K kind pc :=
 h.putOther hto hne (h.others tq _ (by unfold Wd.at;rw[Int.toNat_natCast,List.getElem?_eq_getElem hto];rfl) hne).clear
theorem deliver_other {w:Wd} {who tq:Nat} {k:List Int} {kind pc:Int} (h:Mid G L S w who (some k) kind pc) (hk:k.length=8) (hto:tq<w.acts.length) (hne:tq≠who) (hf:(w.at tq).fin=0) (hb:(w.at tq).box.length<6) {r:Int} (hr:0<=r/\r<=7) (move:Bool) (ho:vObj (vAt k r)=true) (hu:move=true->vAt k r=3) :
  Mid G L S (deliverS w who r tq move) who (some (if move then vPut k r 0 else k)) kind pc:=by
 have weak:∀ {w'},Mid G L S w' who (some k) kind pc->Mid G L S w' who (some (if move then vPut k r 0 else k)) kind pc:=fun {w'} h'=>by
  cases move with
  | false=>exact h'
  | true=>exact⟨h'.len,h'.prints,h'.told,h'.others,h'.there,h'.str,h'.fin,h'.kindOf,h'.par,h'.pcOf,fun k' hk'=>by simp at hk';subst hk';exact(h'.typ k rfl).forget hk hr⟩
 unfold deliverS
 rcases arrive_other h hk hto hne hf hb hr move ho hu with e | ⟨e,hm⟩
 ·rw[if_pos e]
  have h1:=h.clearOther hto hne;have hBo:AOk G L S (w.at tq) tq:=h.others tq _ (by unfold Wd.at;rw[Int.toNat_natCast,List.getElem?_eq_getElem hto];rfl) hne;have e1:(w.put tq (clearS (w.at tq))).at tq=clearS (w.at tq):=by rw[at_put hto,if_pos rfl]
  have hs:=clear_same hBo.str
  rcases arrive_other h1 hk (by rw[put_len];exact hto) hne (by rw[e1,hs.2.2.2.1];exact hf) (by rw[e1,clear_box hBo.str];exact hb) hr move ho hu with e' | ⟨_,hm⟩
  ·rw[arrive_full e']
   exact weak h1
  ·exact hm
 ·rw[if_neg (by omega)]
  exact hm
theorem deliver_self {w:Wd} {who:Nat} {k:List Int} {kind pc:Int} (h:Mid G L S w who (some k) kind pc) (hb:(w.at who).box.length<6) {r:Int} (hr:0<=r/\r<=7) (ho:vObj (vAt k r)=true):Mid G L S (deliverS w who r who false) who (some k) kind pc:=by
 unfold deliverS
 rcases arrive_self h hb hr ho with e | ⟨e,hm⟩
 ·rw[if_pos e]
  have h1:=h.clearMe;have e1:(w.put who (clearS (w.at who))).at who=clearS (w.at who):=by rw[at_put h.there,if_pos rfl]
  rcases arrive_self h1 (by rw[e1,clear_box h.str];exact hb) hr ho with e' | ⟨_,hm⟩
  ·rw[arrive_full e']
   exact h1
  ·exact hm
 ·rw[if_neg (by omega)]
  exact hm
theorem send_left {w:Wd} {who:Nat} {i:Ins} {k:List Int} {kind pc:Int} (h:Mid G L S w who (some k) kind pc) (hk:k.length=8) {many place:Int} (hi:InsOk G many place i) (hop:i.op=13\/i.op=14) (hmay:vMayDo i.op i.a i.b k=true):Left G L S who i k kind pc (sendS w who i):=by
 have hm:vObj (vAt k i.a)=true/\vAt k i.b=1/\(i.op=13->vAt k i.a=3):=by
  rcases hop with o | o
  ·have:vAt k i.a=3/\vAt k i.b=1:=by simpa[vMayDo,o] using hmay
   exact⟨vObj_iff.2 (Or.inr this.1),this.2,fun _=>this.1⟩
  ·have:vObj (vAt k i.a)=true/\vAt k i.b=1:=by simpa[vMayDo,o] using hmay
   exact⟨this.1,this.2,fun e=>by omega⟩
 obtain⟨hk2,hm1,hal⟩:=alive_of h.str (h.typ k rfl) hi.a hm.1;have eb:((i.b.toNat:Nat):Int)=i.b:=by have:=hi.b;omega
 have ea:((i.a.toNat:Nat):Int)=i.a:=by have:=hi.a;omega
 have hb1:((w.at who).reg i.b).k=1:=(h.typ k rfl).num i.b.toNat _ (by have:=hi.b;omega) (h.str.reg hi.b) (by rw[eb];exact hm.2.1);have kN:kNext i k=if i.op=13 then vPut k i.a 0 else k:=by
  unfold kNext
  rw[if_neg (by omega)]
  rcases hop with o | o <;> simp[vBehind,o]
 unfold sendS
 rw[if_neg (by simp[hk2,hb1,not_leadsDead hal])];have clear1:∀ {w'},Mid G L S w' who (some (vPut k i.a 0)) kind pc->Mid G L S (w'.put who ((w'.at who).put i.a nilV)) who (some (vPut k i.a 0)) kind pc:=fun {w'} h'=>by
  refine h'.put rfl rfl rfl rfl (h'.str.put (nil_may _)) (fun k' hk'=>?_);simp at hk';subst hk';have hl:(vPut k i.a 0).length=8:=by simp[vPut,hk]
  have:=(h'.typ _ rfl).set hl hi.a (x:=0) (v:=nilV) (Or.inl rfl) (fun e=>by omega);have e2:vPut (vPut k i.a 0) i.a 0=vPut k i.a 0:=by simp[vPut]
  rw[e2] at this
  exact this
 have forget:∀ {w'},Mid G L S w' who (some k) kind pc->Mid G L S w' who (some (vPut k i.a 0)) kind pc:=fun {w'} h' =>
  ⟨h'.len,h'.prints,h'.told,h'.others,h'.there,h'.str,h'.fin,h'.kindOf,h'.par,h'.pcOf,fun k' hk'=>by simp at hk';subst hk';exact(h'.typ k rfl).forget hk hi.a⟩
 by_cases o13:i.op=13
 ·rw[if_pos o13]
  refine⟨by show(0:Int)<=0/\(0:Int)<=7;omega,?_⟩;simp only[if_true];rw[kN,if_pos o13]
  unfold goneS
  by_cases htk:takesS w ((w.at who).reg i.b).n=false
  ·rw[if_pos htk]
   exact clear1 (forget h)
  ·rw[if_neg htk]
   obtain⟨⟨t1,t2⟩,t3⟩:=takes_iff.1 (by simpa using htk)
   by_cases hself:((w.at who).reg i.b).n=(who:Int)
   ·rw[if_pos ⟨o13,hself⟩]
    have e3:=hm.2.2 o13;rw[hself] at t3;have hs:AStr ((w.at who).push ((w.at who).reg i.a)):=h.str.push t3 hk2 (h.str.regMay hi.a);have ew:((w.put who ((w.at who).push ((w.at who).reg i.a))).put who (((w.put who ((w.at who).push ((w.at who).reg i.a))).at who).put i.a nilV))=w.put who (((w.at who).push ((w.at who).reg i.a)).put i.a nilV):=by
     rw[at_put h.there,if_pos rfl];simp[Wd.put]
    rw[ew];refine h.put rfl rfl rfl rfl (hs.put (nil_may _)) (fun k' hk'=>?_);simp at hk';subst hk';have:=(h.typ k rfl).toBox hk (a:=i.a.toNat) (by have:=hi.a;omega) (by rw[ea];exact e3) (h.str.reg hi.a);rw[ea] at this
    exact this
   ·rw[if_neg (fun e=>hself e.2)]
    have et:((w.at who).reg i.b).n=((((w.at who).reg i.b).n.toNat:Nat):Int):=by omega
    have hd:decide (i.op=13)=true:=by simp[o13]
    rw[hd,et];rw[et] at t2 t3;have:=deliver_other h hk (tq:=((w.at who).reg i.b).n.toNat) (by omega) (by omega) t2 t3 hi.a true hm.1 (fun _=>hm.2.2 o13);simp only[if_true] at this
    exact clear1 this
 ·rw[if_neg o13]
  refine⟨by show(0:Int)<=0/\(0:Int)<=7;omega,?_⟩;simp only[if_true];rw[kN,if_neg o13]
  unfold goneS
  by_cases htk:takesS w ((w.at who).reg i.b).n=false
  ·rw[if_pos htk]
   exact h
  ·rw[if_neg htk,if_neg (fun e=>o13 e.1)]
   obtain⟨⟨t1,t2⟩,t3⟩:=takes_iff.1 (by simpa using htk);have hd:decide (i.op=13)=false:=by simp[o13]
   rw[hd]
   by_cases hself:((w.at who).reg i.b).n=(who:Int)
   ·rw[hself] at t3 ⊢
    exact deliver_self h t3 hi.a hm.1
   ·have et:((w.at who).reg i.b).n=((((w.at who).reg i.b).n.toNat:Nat):Int):=by omega
    rw[et];rw[et] at t2 t3;have:=deliver_other h hk (tq:=((w.at who).reg i.b).n.toNat) (by omega) (by omega) t2 t3 hi.a false hm.1 (fun e=>by cases e)
    simpa using this
theorem Mid.none {w:Wd} {who:Nat} {i:Ins} {k:List Int} {kind pc:Int} (h:Mid G L S w who (some k) kind pc) {way:Int} (hw:1<=way/\way<=7):Left G L S who i k kind pc (w,way) :=
 ⟨by show 0<=way/\way<=7;omega,by show Mid G L S w who (if way=0 then _ else _) kind pc;rw[if_neg (by omega)];exact h.less⟩
theorem report_left {w:Wd} {who:Nat} {i:Ins} {k:List Int} {kind pc:Int} (h:Mid G L S w who (some k) kind pc) {many place:Int} (hi:InsOk G many place i) (hop:i.op=15) (hmay:vMayDo i.op i.a i.b k=true):Left G L S who i k kind pc (reportS w who i):=by
 have hm:vAt k i.a=1:=by simpa[vMayDo,hop] using hmay
 have ea:((i.a.toNat:Nat):Int)=i.a:=by have:=hi.a;omega
 have ha1:((w.at who).reg i.a).k=1:=(h.typ k rfl).num i.a.toNat _ (by have:=hi.a;omega) (h.str.reg hi.a) (by rw[ea];exact hm);have kN:kNext i k=k:=by simp[kNext,hop,vBehind]
 unfold reportS
 rw[if_neg (by simp[ha1])]
 by_cases hp:w.prints.length<500
 ·rw[if_pos hp]
  refine⟨by show(0:Int)<=0/\(0:Int)<=7;omega,?_⟩;simp only[if_true];rw[kN];refine⟨h.len,by simp only[List.length_append,List.length_singleton];omega,fun t ht=>?_,h.others,h.there,h.str,h.fin,h.kindOf,h.par,h.pcOf,h.typ⟩
  rcases List.mem_append.1 ht with ht | ht
  ·exact h.told t ht
  ·simp at ht
   subst ht;have:=h.str.num hi.a ha1;have:=h.there;simp[prMay,isW];omega
 ·rw[if_neg hp]
  exact⟨by show(0:Int)<=0/\(0:Int)<=7;omega,by simp only[if_true];rw[kN];exact h⟩
theorem spawn_left {w:Wd} {who:Nat} {i:Ins} {k:List Int} {kind pc:Int} (h:Mid G L S w who (some k) kind pc) (hk:k.length=8) {many place:Int} (hi:InsOk G many place i) (hop:i.op=17) (hmay:vMayDo i.op i.a i.b k=true):Left G L S who i k kind pc (spawnS w who i):=by
 have hm:vAt k i.b=3:=by simpa[vMayDo,hop] using hmay
 have eb:((i.b.toNat:Nat):Int)=i.b:=by have:=hi.b;omega
 obtain⟨hk2,hm1,hal⟩:=alive_of h.str (h.typ k rfl) hi.b (vObj_iff.2 (Or.inr hm));have hv:=h.str.vals;have hok:=reach_ok hm1 _ (hMay_roots hm1);have kN:kNext i k=vPut (vPut k i.b 0) i.a 1:=by simp[kNext,hop,vBehind]
 unfold spawnS
 rw[if_neg (by simp[hk2])]
 by_cases h8:8<=w.acts.length
 ·rw[if_pos h8];exact h.none (by omega)
 ·rw[if_neg h8]
  have hemp:hMay (w.at who).M [] []=true:=hMay_parts.2 ⟨⟨hv.1.1,hv.1.2.1,by simpa using hv.1.1⟩,by simp,by simp⟩;have hlen:=hok.len;have ht:transferS (w.at who).M (w.at who).obs ((w.at who).reg i.b) (w.at who).M [] true=⟨(w.at who).M,buryL (w.at who).obs (reach (w.at who).obs [(w.at who).reg i.b]),(w.at who).M,mvObs (w.at who).obs (reach (w.at who).obs [(w.at who).reg i.b]) 0 (reach (w.at who).obs [(w.at who).reg i.b]),mvV (reach (w.at who).obs [(w.at who).reg i.b]) 0 ((w.at who).reg i.b),0⟩:=by
   rw[transfer_run true hm1 hemp hal,if_neg (by simp;omega)];simp
  rw[ht];rw[if_neg (by simp)];refine⟨by show(0:Int)<=0/\(0:Int)<=7;omega,?_⟩;simp only[if_true];rw[kN];have hbm:hMay (w.at who).M (buryL (w.at who).obs (reach (w.at who).obs [(w.at who).reg i.b])) []=true:=bury_may (hMay_nil h.str.may) (fun p hp=>(hok.2 p hp).1);have s1:=h.str.heap hbm (by rw[buryL_length];exact Nat.le_refl _);have s2:=s1.put (r:=i.b) (v:=nilV) (nil_may _);have hw8:isW (w.acts.length:Int)=true:=isW_iff.2 (by omega)
  have s3:=s2.put (r:=i.a) (v:=numV w.acts.length) (num_may _ hw8);have t1:=(h.typ k rfl).bury h.str.may hk (a:=i.b.toNat) (by have:=hi.b;omega) (by rw[eb];exact hm) (h.str.reg hi.b);rw[eb] at t1;have hl1:(vPut k i.b 0).length=8:=by simp[vPut,hk]
  have t2:=t1.set hl1 hi.b (x:=0) (v:=nilV) (Or.inl rfl) (fun e=>by omega);have e2:vPut (vPut k i.b 0) i.b 0=vPut k i.b 0:=by simp[vPut]
  rw[e2] at t2;have t3:=t2.set hl1 hi.a (x:=1) (v:=numV w.acts.length) (Or.inr rfl) (fun _=>rfl);have M1:Mid G L S (w.put who ((((w.at who).heap (w.at who).M (buryL (w.at who).obs (reach (w.at who).obs [(w.at who).reg i.b]))).put i.b nilV).put i.a (numV w.acts.length))) who (some (vPut (vPut k i.b 0) i.a 1)) kind pc :=
   h.put rfl rfl rfl rfl s3 (fun k' hk'=>by simp at hk';subst hk';exact t3)
  obtain⟨W1,hW1⟩:∃ W1,W1=w.put who ((((w.at who).heap (w.at who).M (buryL (w.at who).obs (reach (w.at who).obs [(w.at who).reg i.b]))).put i.b nilV).put i.a (numV w.acts.length)):=⟨_,rfl⟩;have hl1:W1.acts.length=w.acts.length:=by rw[hW1,put_len]
  have hp1:W1.prints=w.prints:=by rw[hW1];rfl
  rw[<- hW1] at M1 ⊢;have hN:AOk G L S (beginS i.n who (w.at who).M (mvObs (w.at who).obs (reach (w.at who).obs [(w.at who).reg i.b]) 0 (reach (w.at who).obs [(w.at who).reg i.b])) (mvV (reach (w.at who).obs [(w.at who).reg i.b]) 0 ((w.at who).reg i.b))) w.acts.length:=by
   have hn:=hi.n;rw[hop] at hn;simp[loOf,hiOf] at hn;have hG:=hi.spawn hop;have hth:=h.there;have m:=mv_may (pre:=[]) (vs:=[(w.at who).reg i.b]) hm1 (fun p=>Iff.rfl) hemp (by simp;omega) (hMay_roots hm1) (fun u hu huk=>reach_root hu huk);simp only[List.nil_append,List.length_nil] at m;have e0:((0:Nat):Int)=0:=rfl;rw[e0] at m;have mp:=hMay_parts.1 m;refine⟨⟨hn.1,hG⟩,⟨by show(-1:Int)<=who;omega,by show(who:Int)<w.acts.length;omega⟩,⟨by show(-1:Int)<=-1;omega,?_⟩,⟨by show(0:Int)<=0;omega,by show(0:Int)<=7;omega⟩,⟨rfl,by simp[beginS],by simp[beginS],?_⟩,Or.inl rfl,fun _=>⟨kWait,rfl,typ_begin hm1 hk2 hal,fun _=>rfl,fun h0=>?_⟩⟩
   ·show(-1:Int)<(L i.n.toNat:Int)
    omega
   ·refine hMay_parts.2 ⟨mp.1,mp.2.1,fun u hu=>?_⟩
    simp only[beginS,Ac.roots,List.append_nil,List.mem_cons,List.not_mem_nil,or_false] at hu
    rcases hu with rfl | hu
    ·exact mp.2.2 _ (by simp)
    ·have:u=nilV:=by rcases hu with h | h | h | h | h | h | h <;> exact h
     rw[this];exact nil_may _
   ·have:(0:Int)<=-1:=h0
    omega
  generalize beginS i.n who (w.at who).M (mvObs (w.at who).obs (reach (w.at who).obs [(w.at who).reg i.b]) 0 (reach (w.at who).obs [(w.at who).reg i.b])) (mvV (reach (w.at who).obs [(w.at who).reg i.b]) 0 ((w.at who).reg i.b))=B at hN ⊢;have hg:∀ j:Nat,j<W1.acts.length->(W1.acts++[B])[j]?=W1.acts[j]?:=fun j hj=>List.getElem?_append_left hj
  have eat:(⟨W1.acts++[B],w.prints⟩:Wd).at who=W1.at who:=by
   unfold Wd.at
   simp only[Int.toNat_natCast];rw[hg who M1.there]
  refine⟨by simp only[List.length_append,List.length_singleton];omega,h.prints,fun t ht=>?_,fun j b hb hj=>?_,by simp only[List.length_append,List.length_singleton];have:=M1.there;omega,?_,?_,?_,?_,?_,?_⟩
  ·have:=h.told t ht
   simp only[prMay,Bool.and_eq_true,decide_eq_true_eq,List.length_append,List.length_singleton] at this ⊢
   exact⟨⟨this.1.1,by omega⟩,this.2⟩
  ·by_cases hjl:j<W1.acts.length
   ·rw[hg j hjl] at hb
    exact M1.others j b hb hj
   ·rw[List.getElem?_append_right (by omega)] at hb
    obtain⟨h1,h2⟩:=List.getElem?_eq_some_iff.1 hb;simp at h1 h2;have ej:j=w.acts.length:=by omega
    rw[<- h2,ej];exact hN
  all_goals rw[eat]
  ·exact M1.str
  ·exact M1.fin
  ·exact M1.kindOf
  ·exact M1.par
  ·exact M1.pcOf
  ·exact M1.typ
theorem perform_left {w:Wd} {who:Nat} {i:Ins} {k:List Int} {kind pc:Int} (h:Mid G L S w who (some k) kind pc) (hk:k.length=8) {many place:Int} (hi:InsOk G many place i) (hmay:vMayDo i.op i.a i.b k=true):Left G L S who i k kind pc (performS w who i):=by
 unfold performS
 by_cases o1:i.op=13\/i.op=14
 ·rw[if_pos o1];exact send_left h hk hi o1 hmay
 ·rw[if_neg o1]
  by_cases o2:i.op=15
  ·rw[if_pos o2];exact report_left h hi o2 hmay
  ·rw[if_neg o2]
   by_cases o3:i.op=17
   ·rw[if_pos o3];exact spawn_left h hk hi o3 hmay
   ·rw[if_neg o3]
    have:=alone_ok h.str hk (h.typ k rfl) hi hmay (who:=who) (by have:=h.there;have:=h.len;omega) ⟨fun e=>o1 (Or.inl e),fun e=>o1 (Or.inr e),o2,o3⟩;refine⟨this.way,h.put this.same.kind this.same.par this.same.pc this.same.fin this.str (fun k' hk'=>?_)⟩
    by_cases e:(aloneS (w.at who) who i).2=0
    ·rw[if_pos e] at hk'
     simp at hk';subst hk';exact this.typ e
    ·rw[if_neg e] at hk'
     cases hk'
theorem insOk_at (V:Ver G L X S) {k i:Nat} (hk:k<G) (hi:i<L k):InsOk G (L k) i (insAt X k i):=by
 have:=insOk_of (V.ins k i hk hi)
 simpa[insAt] using this
theorem WOk.step (V:Ver G L X S) {w:Wd} (h:WOk G L S w) {who:Nat}:WOk G L S (stepS X w who):=by
 unfold stepS
 cases hl:livesS w who with
 | false=>simp only[if_true];exact h
 | true =>
  simp only[Bool.true_eq_false,if_false];obtain⟨hin,hf⟩:=lives_iff.1 hl;obtain⟨hg,ha⟩:=h.at hin;rw[Int.toNat_natCast] at hg ha;obtain⟨a,ea⟩:∃ a,a=w.at who:=⟨_,rfl⟩;rw[<- ea] at hg ha hf ⊢;obtain⟨k,hk,ht,hwt,hpt⟩:=ha.typ hf
  by_cases hp:a.pc=-1
  ·rw[if_pos hp]
   obtain rfl:=hwt hp;refine h.put hin ?_;rw[Int.toNat_natCast]
   unfold takeS
   cases hb:a.box with
   | nil=>exact ha
   | cons v r =>
    have hkk:=ha.kind;have hkG:a.kind.toNat<G:=by omega
    have hLk:=(V.rows _ hkG).1;rw[hb] at ht;have hvm:vMay a.obs.length v=true:=ha.str.vals.2.2 v (List.mem_append_right _ (by rw[hb];simp));obtain⟨k0,q0,q1,q2⟩:=(V.flow _ hkG).begins (by omega);refine⟨ha.kind,ha.par,⟨by show(-1:Int)<=0;omega,by show(0:Int)<(L a.kind.toNat:Int);omega⟩,ha.fin,⟨by simp[Ac.put,ha.str.regs],?_,fun u hu=>ha.str.refs u (by rw[hb];exact List.mem_cons_of_mem _ hu),?_⟩,Or.inl hf,fun _=>⟨k0,q1,(ht.take).le q2,fun e=>by have:(0:Int)=-1:=e;omega,fun _=>q0⟩⟩
    ·have:=ha.str.box
     rw[hb] at this
     simp only[List.length_cons] at this
     show r.length<=6
     omega
    ·have hv:=ha.str.vals
     refine hMay_parts.2 ⟨hv.1,hv.2.1,fun u hu=>?_⟩;simp only[Ac.roots,Ac.put,List.mem_append] at hu
     rcases hu with hu | hu
     ·rcases List.mem_or_eq_of_mem_set hu with hu | rfl
      ·exact hv.2.2 u (List.mem_append_left _ hu)
      ·exact hvm
     ·exact hv.2.2 u (List.mem_append_right _ (by rw[hb];exact List.mem_cons_of_mem _ hu))
  ·rw[if_neg hp]
   have hpc:=ha.pc;have hkk:=ha.kind;have hkG:a.kind.toNat<G:=by omega
   have hpl:a.pc.toNat<L a.kind.toNat:=by omega
   have hkp:=hpt (by omega);have ek:((a.kind.toNat:Nat):Int)=a.kind:=by omega
   have ep:((a.pc.toNat:Nat):Int)=a.pc:=by omega
   have hI:=insOk_at V hkG hpl;rw[ek,ep] at hI;have hmay:vMayDo (insAt X a.kind a.pc).op (insAt X a.kind a.pc).a (insAt X a.kind a.pc).b k=true:=V.may _ _ k hkG hpl hkp;obtain⟨i,ei⟩:∃ i,i=insAt X a.kind a.pc:=⟨_,rfl⟩;rw[<- ei] at hI hmay ⊢;have hwl:who<w.acts.length:=by omega
   have eat:(w.put who { a with pc:=nextS a i }).at who={ a with pc:=nextS a i }:=by rw[at_put hwl,if_pos rfl]
   have hM:Mid G L S (w.put who { a with pc:=nextS a i }) who (some k) a.kind (nextS a i):=by
    refine⟨by rw[put_len];exact h.len,h.prints,by rw[put_len];exact h.told,fun j b hb hj=>?_,by rw[put_len];exact hwl,?_,?_,?_,?_,?_,?_⟩
    ·rw[put_get hwl,if_neg hj] at hb
     exact h.acts j b hb
    all_goals rw[eat]
    ·exact⟨ha.str.regs,ha.str.box,ha.str.refs,ha.str.may⟩
    ·exact hf
    ·exact⟨rfl,hkk⟩
    ·exact ha.par
    ·intro k' hk'
     simp at hk';subst hk';exact ht
   have hLf:=perform_left hM hk hI hmay
   unfold doneS
   by_cases e0:(performS (w.put who { a with pc:=nextS a i }) who i).2=0
   ·rw[if_neg (by simp[e0])]
    have hmid:=hLf.mid;rw[if_pos e0] at hmid;have hkn:(kNext i k).length=8:=by unfold kNext;split;rfl;rw[vBehind_length];exact hk
    by_cases o0:i.op=0
    ·have en:nextS a i=-1:=by simp[nextS,o0]
     refine hmid.goes hkn (by rw[en];omega) (fun _=>by simp[kNext,o0]) (fun h0=>by rw[en] at h0;omega)
    ·have o19:i.op≠19:=fun e=>by
      have:(performS (w.put who { a with pc:=nextS a i }) who i).2=1:=by
       unfold performS
       rw[if_neg (by omega),if_neg (by omega),if_neg (by omega)];simp[aloneS,e]
      omega
     have hx:X a.kind.toNat a.pc.toNat 0=i.op/\X a.kind.toNat a.pc.toNat 1=i.a/\X a.kind.toNat a.pc.toNat 2=i.b/\X a.kind.toNat a.pc.toNat 3=i.n:=by rw[ei];exact⟨rfl,rfl,rfl,rfl⟩
     have hj:(nextS a i)∈vGoes (X a.kind.toNat a.pc.toNat 0) (X a.kind.toNat a.pc.toNat 3) (a.pc.toNat:Nat)/\0<=nextS a i/\nextS a i<(L a.kind.toNat:Int):=by
      rw[hx.1,hx.2.2.2,ep]
      unfold nextS vGoes
      rw[if_neg o0,if_neg (by omega)]
      by_cases o6:i.op=6
      ·rw[if_pos (Or.inl o6),if_pos o6]
       exact⟨by simp,hI.jump (Or.inr o6)⟩
      ·rw[if_neg o6]
       have hnl:a.pc≠(L a.kind.toNat:Int)-1:=fun e=>by have:=hI.last e;omega
       by_cases o5:i.op=5
       ·rw[if_pos o5]
        by_cases hz:(a.reg i.a).k=1/\(a.reg i.a).n=0
        ·rw[if_pos (Or.inr ⟨o5,hz⟩)]
         exact⟨by simp,hI.jump (Or.inl o5)⟩
        ·rw[if_neg (by rintro(e | e);exact o6 e;exact hz e.2)]
         exact⟨by simp,by omega,by omega⟩
       ·rw[if_neg o5,if_neg (by rintro(e | e);exact o6 e;exact o5 e.1)]
        exact⟨by simp,by omega,by omega⟩
     obtain⟨k',g1,g2,g3⟩:=(V.flow _ hkG).goes hpl hkp hj.1 hj.2;refine hmid.goes hkn ⟨by omega,hj.2.2⟩ (fun e=>by omega) (fun _=>⟨k',g1,g2,?_⟩);rw[hx.1,hx.2.1,hx.2.2.1] at g3;have ekn:kNext i k=vBehind i.op i.a i.b k:=by rw[kNext,if_neg o0]
     rw[ekn];exact g3
   ·rw[if_pos e0]
    have:=hLf.way;exact hLf.mid.ends (by omega) (V.rows _ hkG).1
theorem WOk.act (V:Ver G L X S) {w:Wd} (h:WOk G L S w) {a:Ax} (ha:axFault a=0):WOk G L S (actS X w a):=by
 unfold axFault at ha
 by_cases h1:a.kind≠1/\a.kind≠2/\a.kind≠3
 ·rw[if_pos h1] at ha;omega
 rw[if_neg h1] at ha
 by_cases h2:a.who<0\/8<=a.who\/isW a.n=false\/isW a.m=false
 ·rw[if_pos h2] at ha;omega
 have hn:isW a.n=true:=by cases e:isW a.n with | true=>rfl | false=>exact absurd (Or.inr (Or.inr (Or.inl e))) h2
 have hm:isW a.m=true:=by cases e:isW a.m with | true=>rfl | false=>exact absurd (Or.inr (Or.inr (Or.inr e))) h2
 unfold actS
 by_cases hl:(w.acts.length:Int)<=a.who
 ·rw[if_pos hl];exact h
 rw[if_neg hl];have hin:0<=a.who/\a.who<(w.acts.length:Int):=by omega
 by_cases k1:a.kind=1
 ·rw[if_pos k1];exact h.step V
 rw[if_neg k1]
 by_cases k2:a.kind=2
 ·rw[if_pos k2];exact h.put hin (h.at hin).2.clear
 ·rw[if_neg k2];exact h.tell a.who hn hm
theorem wok_new (V:Ver G L X S) (hG:0<G) {M:Int} (hM:2<=M/\M<=60):WOk G L S (newW M):=by
 refine⟨by simp[newW],by simp[newW],by simp[newW],fun i a ha=>?_⟩;have h0:i=0/\a=beginS 0 (-1) M [⟨[numV 0,numV 0],false⟩] ⟨2,0⟩:=by
  obtain⟨h1,h2⟩:=List.getElem?_eq_some_iff.1 ha;simp[newW] at h1 h2;exact⟨h1,h2.symm⟩
 obtain⟨rfl,rfl⟩:=h0;have hL:=V.rows 0 hG;have hr:∀ v∈(beginS 0 (-1) M [⟨[numV 0,numV 0],false⟩] ⟨2,0⟩).roots,v=⟨2,0⟩\/v=nilV:=fun v hv=>by
  simp only[beginS,Ac.roots,List.append_nil,List.mem_cons,List.not_mem_nil,or_false] at hv
  rcases hv with h | h | h | h | h | h | h | h <;> simp[h]
 refine⟨⟨by show(0:Int)<=0;omega,by show(0:Int)<G;omega⟩,⟨by show(-1:Int)<=-1;omega,by show(-1:Int)<((0:Nat):Int);omega⟩,⟨by show(-1:Int)<=-1;omega,by show(-1:Int)<(L (0:Int).toNat:Int);have:(0:Int).toNat=0:=rfl;rw[this];omega⟩,⟨by show(0:Int)<=0;omega,by show(0:Int)<=7;omega⟩,⟨rfl,by simp[beginS],by simp[beginS],?_⟩,Or.inl rfl,fun _=>⟨kWait,rfl,?_,fun _=>rfl,fun e=>by have:(0:Int)<=-1:=e;omega⟩⟩
 ·refine hMay_parts.2 ⟨⟨by show 0<=M;omega,by show M<=60;omega,by show((1:Nat):Int)<=M;omega⟩,fun o ho=>?_,fun v hv=>?_⟩
  ·simp[beginS] at ho
   subst ho;exact(show oMay ((1:Nat):Int) ⟨[numV 0,numV 0],false⟩=true by decide)
  ·rcases hr v hv with rfl | rfl
   ·exact(show vMay ((1:Nat):Int) ⟨2,0⟩=true by decide)
   ·exact nil_may _
 ·refine⟨fun j u hj hu h1=>by rw[kWait_at] at h1;split at h1 <;> omega,?_⟩
  have one:∀ t u,tagsOf kWait (beginS 0 (-1) M [⟨[numV 0,numV 0],false⟩] ⟨2,0⟩).regs (beginS 0 (-1) M [⟨[numV 0,numV 0],false⟩] ⟨2,0⟩).box t u->t=1/\u=⟨2,0⟩:=fun t u hu=>by
   rcases hu with⟨j,hj,hu,ho',rfl⟩ | ⟨j,hj,_⟩
   ·rw[kWait_at] at ho' ⊢
    by_cases e0:j=0
    ·subst e0
     simp[beginS] at hu;exact⟨by simp[tagOf],hu.symm⟩
    ·rw[if_neg e0] at ho';omega
   ·simp[beginS] at hj
  have rc:∀ p,Rc [⟨[numV 0,numV 0],false⟩] ⟨2,0⟩ p->p=0:=fun p hp=>by
   induction hp using Rc.ind with
   | root _=>rfl
   | @step q u _ hu huk ih =>
    subst ih;simp[fieldsOf,numV] at hu;subst hu;simp at huk
  refine⟨fun t u hu=>by rw[(one t u hu).2],fun t u p hu hp=>?_,fun t t' u u' p hu hu' _ _=>by rw[(one t u hu).1,(one t' u' hu').1]⟩;rw[(one t u hu).2] at hp;rw[rc p hp]
  rfl
theorem acsMay_of {acts:List Ac}:∀ {n:Nat},(∀ i a,acts[i]?=some a->AOk G L S a (n+i))->acsMay G L acts n=true:=by
 induction acts with
 | nil=>intro n _;rfl
 | cons a r ih =>
  intro n h;simp only[acsMay,Bool.and_eq_true];have h0:=h 0 a rfl;refine⟨acMay_parts.2 ⟨h0.kind,h0.par,h0.pc,⟨h0.fin.1,by have:=h0.fin.2;omega⟩,h0.str,h0.gone⟩,ih (n:=n+1) (fun i b hb=>?_)⟩;have:=h (i+1) b (by simpa using hb);rw[show n+1+i=n+(i+1) by omega];exact this
theorem WOk.may {w:Wd} (h:WOk G L S w):wdMay G L w=true:=by
 simp only[wdMay,Bool.and_eq_true,decide_eq_true_eq,List.all_eq_true];exact⟨⟨h.len,h.prints⟩,h.told,acsMay_of (n:=0) (fun i a ha=>by rw[Nat.zero_add];exact h.acts i a ha)⟩
end
end Go.Proofs.YtepifccbbmdfcaaGreatDoor
