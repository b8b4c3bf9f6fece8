/- TClearP. -/
import Derived.Test.YtihpkcccfgbcmaaGreatDoorCBFacts
import Derived.Test.YtihpkcccfgbcmaaGreatDoorCBWIsWorld
import Derived.Test.YtihpkcccfgbcmaaGreatDoorCETopClearASimA
namespace Go.Proofs.YtihpkcccfgbcmaaGreatDoor
section
structure WSim (w x:Wd):Prop where
 len:x.acts.length=w.acts.length
 prints:x.prints=w.prints
 acts:∀ i:Nat,i<w.acts.length->ASm (w.at i) (x.at i)
def WStr (w:Wd):Prop:=∀ i:Nat,i<w.acts.length->AStr (w.at i)
section
variable {w x:Wd}
theorem at_mem {i:Nat} (h:i<w.acts.length):w.acts[i]?=some (w.at i):=by
 unfold Wd.at
 rw[Int.toNat_natCast,List.getElem?_eq_getElem h]
 rfl
theorem WStr.of {G:Nat} {L:Nat->Nat} {S:Nat->List Pt} (h:WOk G L S w):WStr w:=fun i hi=>(h.acts i _ (at_mem hi)).str
theorem WStr.put (h:WStr w) {n:Nat} {a:Ac} (ha:AStr a):WStr (w.put n a):=fun i hi=>by
 rw[put_len] at hi
 by_cases hn:n<w.acts.length
 ·rw[at_put hn]
  split
  ·exact ha
  ·exact h i hi
 ·have:w.put n a=w:=by
   unfold Wd.put
   rw[Int.toNat_natCast,List.set_eq_of_length_le (by omega)]
  rw[this];exact h i hi
theorem WSim.put (h:WSim w x) {n:Nat} {a b:Ac} (k:n<w.acts.length->ASm a b):WSim (w.put n a) (x.put n b):=by
 refine⟨by rw[put_len,put_len];exact h.len,h.prints,fun i hi=>?_⟩;rw[put_len] at hi
 by_cases hn:n<w.acts.length
 ·rw[at_put hn,at_put (by rw[h.len];exact hn)]
  split
  ·exact k hn
  ·exact h.acts i hi
 ·have e:∀ (w:Wd) (a:Ac),w.acts.length<=n->w.put n a=w:=fun w a hw=>by
   unfold Wd.put
   rw[Int.toNat_natCast,List.set_eq_of_length_le (by omega)]
  rw[e w a (by omega),e x b (by rw[h.len];omega)];exact h.acts i hi
theorem WSim.lives (h:WSim w x) (n:Int):livesS x n=livesS w n:=by
 unfold livesS
 rw[h.len]
 by_cases hn:0<=n/\n<(w.acts.length:Int)
 ·obtain⟨i,rfl⟩:=Int.eq_ofNat_of_zero_le hn.1
  obtain⟨R,k⟩:=h.acts i (by omega);rw[k.fin]
 ·have:(decide (0<=n) && decide (n<(w.acts.length:Int)))=false:=by
   simp only[Bool.and_eq_false_iff,decide_eq_false_iff_not];omega
  rw[this];rfl
theorem WSim.takes (h:WSim w x) (n:Int):takesS x n=takesS w n:=by
 unfold takesS
 rw[h.lives]
 cases hl:livesS w n with
 | false=>rfl
 | true =>
  obtain⟨⟨h1,h2⟩,_⟩:=lives_iff.1 hl;obtain⟨i,rfl⟩:=Int.eq_ofNat_of_zero_le h1;obtain⟨R,k⟩:=h.acts i (by omega);rw[k.box.1]
theorem WSim.tell (h:WSim w x) (hw:WStr w) (hx:WStr x) (tq n m:Int):WSim (tellS w tq n m) (tellS x tq n m):=by
 unfold tellS
 rw[h.takes]
 by_cases ht:takesS w tq=true
 ·rw[if_pos ht,if_pos ht]
  obtain⟨⟨⟨h1,h2⟩,_⟩,_⟩:=takes_iff.1 ht;obtain⟨i,rfl⟩:=Int.eq_ofNat_of_zero_le h1;exact h.put (fun hi=>(h.acts i hi).told (hw i hi) (hx i (by rw[h.len];exact hi)) n m)
 ·rw[if_neg ht,if_neg ht];exact h
theorem ended_str {a:Ac} (h:AStr a) (way:Int):AStr (endedS a way):=by
 have hp:=h.vals.1;refine⟨by simp[endedS,h.regs],by simp[endedS],by simp[endedS],hMay_parts.2 ⟨⟨hp.1,hp.2.1,hp.1⟩,fun o ho=>by simp[endedS] at ho,fun v hv=>?_⟩⟩;simp only[endedS,Ac.roots,List.append_nil,List.mem_map] at hv;obtain⟨_,_,rfl⟩:=hv;exact nil_may _
theorem WSim.ends (h:WSim w x) (hw:WStr w) (hx:WStr x) {who:Nat} (hl:who<w.acts.length) (way:Int):WSim (endS w who way) (endS x who way):=by
 unfold endS
 obtain⟨R,k⟩:=h.acts who hl;rw[k.par];exact(h.put (fun _=>ASm.ended ⟨R,k⟩ way)).tell (hw.put (ended_str (hw who hl) way)) (hx.put (ended_str (hx who (by rw[h.len];exact hl)) way)) _ _ _
theorem AStr.pc {a:Ac} (h:AStr a) (pc:Int):AStr { a with pc:=pc }:=⟨h.regs,h.box,h.refs,h.may⟩
theorem tr_of {w:Wd} (hw:WStr w) {who tq:Nat} (h1:who<w.acts.length) (h2:tq<w.acts.length) {r:Int} (hr:0<=r/\r<=7) (hd:leadsDead (w.at who) ((w.at who).reg r)=false) (move:Bool) :
  trW w who r tq move=if (w.at tq).M<(((w.at tq).obs.length+(reach (w.at who).obs [(w.at who).reg r]).length:Nat):Int) then ⟨0,[],0,[],⟨0,0⟩,7⟩
   else ⟨(w.at who).M,if move then buryL (w.at who).obs (reach (w.at who).obs [(w.at who).reg r]) else (w.at who).obs,(w.at tq).M,(w.at tq).obs++mvObs (w.at who).obs (reach (w.at who).obs [(w.at who).reg r]) (w.at tq).obs.length (reach (w.at who).obs [(w.at who).reg r]),mvV (reach (w.at who).obs [(w.at who).reg r]) (w.at tq).obs.length ((w.at who).reg r),0⟩:=by
 refine transfer_run move (one_may (hw who h1) ((hw who h1).regMay hr)) (hMay_nil (hw tq h2).may) (fun p hp=>?_)
 unfold leadsDead at hd
 rw[List.any_eq_false] at hd;have:=hd p hp
 simpa using this
theorem WSim.arrive (h:WSim w x) (hw:WStr w) (hx:WStr x) {who tq:Nat} (h1:who<w.acts.length) (h2:tq<w.acts.length) {r:Int} (hr:0<=r/\r<=7) (hd:leadsDead (w.at who) ((w.at who).reg r)=false) (move:Bool) (hm:move=true->tq≠who)
  (e1:(trW w who r tq move).e=0) (e2:(trW x who r tq move).e=0):WSim (arriveS w who tq (trW w who r tq move)) (arriveS x who tq (trW x who r tq move)):=by
 have g1:who<x.acts.length:=by rw[h.len];exact h1
 have g2:tq<x.acts.length:=by rw[h.len];exact h2
 have aw:=hw who h1;have at_:=hw tq h2;have bw:=hx who g1;have bt:=hx tq g2;obtain⟨R,kw⟩:=h.acts who h1;have kr:=kw.reg aw hr;have hd':leadsDead (x.at who) ((x.at who).reg r)=false:=by rw[kw.dead (one_may aw (aw.regMay hr)) (one_may bw (bw.regMay hr)) kr];exact hd
 have hma:=one_may aw (aw.regMay hr);have hmb:=one_may bw (bw.regMay hr);obtain⟨_,hmem,_,_⟩:=kw.bis.led hma hmb (VRs.one kr);have ho:∀ {a:Ac} {u:Vl},hMay a.M a.obs [u]=true->∀ p∈reach a.obs [u],0<=p:=fun {a u} hm p hp=>((reach_ok hm _ (hMay_roots hm)).2 p hp).1
 have tw:=tr_of hw h1 h2 hr hd move;have tx:=tr_of hx g1 g2 hr hd' move
 by_cases c1:(w.at tq).M<(((w.at tq).obs.length+(reach (w.at who).obs [(w.at who).reg r]).length:Nat):Int)
 ·rw[if_pos c1] at tw;rw[tw] at e1;simp at e1
 rw[if_neg c1] at tw
 by_cases c2:(x.at tq).M<(((x.at tq).obs.length+(reach (x.at who).obs [(x.at who).reg r]).length:Nat):Int)
 ·rw[if_pos c2] at tx;rw[tx] at e2;simp at e2
 rw[if_neg c2] at tx
 unfold arriveS
 rw[if_neg (by simp[e1]),if_neg (by simp[e2])];rw[tw,tx];have hs:ASm ((w.at who).heap (w.at who).M (if move then buryL (w.at who).obs (reach (w.at who).obs [(w.at who).reg r]) else (w.at who).obs)) ((x.at who).heap (x.at who).M (if move then buryL (x.at who).obs (reach (x.at who).obs [(x.at who).reg r]) else (x.at who).obs)):=by
  cases move with
  | false=>exact⟨R,kw.bis,kw.regs,kw.box,kw.kind,kw.par,kw.M,kw.pc,kw.fin⟩
  | true=>exact⟨R,kw.bis.bury (ho hma) (ho hmb) hmem,kw.regs,kw.box,kw.kind,kw.par,kw.M,kw.pc,kw.fin⟩
 have hA:=h.put (n:=who) (fun _=>hs);refine hA.put (fun _=>?_);rw[at_put h1,at_put g1]
 by_cases e:tq=who
 ·subst e
  have hmv:move=false:=by
   cases move with
   | false=>rfl
   | true=>exact absurd rfl (hm rfl)
  subst hmv;rw[if_pos rfl,if_pos rfl];obtain⟨Q,b1,b2,b3⟩:=kw.bis.recv kr hma hmb kw.bis;exact⟨Q,b1,kw.regs.mono b2,(kw.box.mono b2).app (VRs.one b3),kw.kind,kw.par,kw.M,kw.pc,kw.fin⟩
 ·rw[if_neg e,if_neg e]
  obtain⟨T,kt⟩:=h.acts tq h2;obtain⟨Q,b1,b2,b3⟩:=kw.bis.recv kr hma hmb kt.bis;exact⟨Q,b1,kt.regs.mono b2,(kt.box.mono b2).app (VRs.one b3),kt.kind,kt.par,kt.M,kt.pc,kt.fin⟩
theorem WStr.clear (hw:WStr w) {n:Nat} (h:n<w.acts.length):WStr (w.put n (clearS (w.at n))):=hw.put (hw n h).clear
theorem WSim.clear (h:WSim w x) (hw:WStr w) {n:Nat} (hn:n<w.acts.length):WSim (w.put n (clearS (w.at n))) x:=by
 refine⟨by rw[put_len];exact h.len,h.prints,fun i hi=>?_⟩;rw[put_len] at hi;rw[at_put hn]
 split
 ·rename_i e
  subst e;exact(h.acts i hi).clear (hw i hi)
 ·exact h.acts i hi
theorem WSim.symm (h:WSim w x):WSim x w:=⟨h.len.symm,h.prints.symm,fun i hi=>(h.acts i (by rw[<- h.len];exact hi)).symm⟩
theorem WSim.clears (h:WSim w x) (hw:WStr w) (hx:WStr x) {n:Nat} (hn:n<w.acts.length):WSim (w.put n (clearS (w.at n))) (x.put n (clearS (x.at n))) :=
 ((h.clear hw hn).symm.clear hx (by rw[h.len];exact hn)).symm
theorem clear_dead (hw:WStr w) {who tq:Nat} (h1:who<w.acts.length) (h2:tq<w.acts.length) {r:Int} (hr:0<=r/\r<=7) :
  leadsDead ((w.put tq (clearS (w.at tq))).at who) (((w.put tq (clearS (w.at tq))).at who).reg r)=leadsDead (w.at who) ((w.at who).reg r)/\(reach ((w.put tq (clearS (w.at tq))).at who).obs [((w.put tq (clearS (w.at tq))).at who).reg r]).length=(reach (w.at who).obs [(w.at who).reg r]).length:=by
 rw[at_put h2]
 by_cases e:who=tq
 ·subst e
  rw[if_pos rfl];have a:=hw who h1;obtain⟨R,k⟩:=((ASm.refl a).clear a).symm;exact⟨k.dead (one_may a (a.regMay hr)) (one_may a.clear (a.clear.regMay hr)) (k.reg a hr),(k.bis.led (one_may a (a.regMay hr)) (one_may a.clear (a.clear.regMay hr)) (VRs.one (k.reg a hr))).1⟩
 ·rw[if_neg e];exact⟨rfl,rfl⟩
theorem deliver_cases (hw:WStr w) {who tq:Nat} (h1:who<w.acts.length) (h2:tq<w.acts.length) {r:Int} (hr:0<=r/\r<=7) (hd:leadsDead (w.at who) ((w.at who).reg r)=false) (move:Bool) :
  (∃ v,(v=w\/v=w.put tq (clearS (w.at tq)))/\(trW v who r tq move).e=0/\deliverS w who r tq move=arriveS v who tq (trW v who r tq move)/\(((kept (w.at tq)).length+(reach (w.at who).obs [(w.at who).reg r]).length:Nat):Int)<=(w.at tq).M)
  \/ (deliverS w who r tq move=w.put tq (clearS (w.at tq))/\(w.at tq).M<(((kept (w.at tq)).length+(reach (w.at who).obs [(w.at who).reg r]).length:Nat):Int)):=by
 have hc:=clear_dead hw h1 h2 hr (who:=who) (tq:=tq);have ha:=hw tq h2;have hkl:=kept_len ha;have tw:=tr_of hw h1 h2 hr hd move;have tc:=tr_of (hw.clear h2) (by rw[put_len];exact h1) (by rw[put_len];exact h2) hr (by rw[hc.1];exact hd) move;rw[hc.2] at tc;have et:(w.put tq (clearS (w.at tq))).at tq=clearS (w.at tq):=by rw[at_put h2,if_pos rfl]
 rw[et,clear_obs ha,(clear_same ha).2.2.2.2] at tc
 unfold deliverS
 by_cases c1:(w.at tq).M<(((w.at tq).obs.length+(reach (w.at who).obs [(w.at who).reg r]).length:Nat):Int)
 ·rw[if_pos c1] at tw
  rw[tw,if_pos rfl]
  by_cases c2:(w.at tq).M<(((kept (w.at tq)).length+(reach (w.at who).obs [(w.at who).reg r]).length:Nat):Int)
  ·rw[if_pos c2] at tc
   rw[tc];exact .inr ⟨arrive_full rfl,c2⟩
  ·rw[if_neg c2] at tc
   exact .inl ⟨_,.inr rfl,by rw[tc],rfl,by omega⟩
 ·rw[if_neg c1] at tw
  exact .inl ⟨w,.inl rfl,by rw[tw],by rw[tw,if_neg (by simp)],by omega⟩
theorem WSim.deliver (h:WSim w x) (hw:WStr w) (hx:WStr x) {who tq:Nat} (h1:who<w.acts.length) (h2:tq<w.acts.length) {r:Int} (hr:0<=r/\r<=7) (hd:leadsDead (w.at who) ((w.at who).reg r)=false) (move:Bool) (hm:move=true->tq≠who) :
  WSim (deliverS w who r tq move) (deliverS x who r tq move):=by
 have g1:who<x.acts.length:=by rw[h.len];exact h1
 have g2:tq<x.acts.length:=by rw[h.len];exact h2
 obtain⟨R,kw⟩:=h.acts who h1;obtain⟨T,kt⟩:=h.acts tq h2;have aw:=hw who h1;have bw:=hx who g1;have hd':leadsDead (x.at who) ((x.at who).reg r)=false:=by rw[kw.dead (one_may aw (aw.regMay hr)) (one_may bw (bw.regMay hr)) (kw.reg aw hr)];exact hd
 have hcnt:=(kw.bis.led (one_may aw (aw.regMay hr)) (one_may bw (bw.regMay hr)) (VRs.one (kw.reg aw hr))).1;have hk:=kt.count (hw tq h2) (hx tq g2)
 rcases deliver_cases hw h1 h2 hr hd move with⟨v,hv,ev,e,c⟩ | ⟨e,c⟩ <;> rcases deliver_cases hx g1 g2 hr hd' move with⟨y,hy,ey,f,d⟩ | ⟨f,d⟩
 ·rw[e,f]
  have hvy:WSim v y:=by
   rcases hv with rfl | rfl <;> rcases hy with rfl | rfl
   ·exact h
   ·exact(h.symm.clear hx g2).symm
   ·exact h.clear hw h2
   ·exact h.clears hw hx h2
  have hvs:WStr v/\v.acts.length=w.acts.length/\leadsDead (v.at who) ((v.at who).reg r)=false:=by
   rcases hv with rfl | rfl
   ·exact⟨hw,rfl,hd⟩
   ·exact⟨hw.clear h2,put_len _ _ _,by rw[(clear_dead hw h1 h2 hr).1];exact hd⟩
  have hys:WStr y:=by
   rcases hy with rfl | rfl
   ·exact hx
   ·exact hx.clear g2
  exact hvy.arrive hvs.1 hys (by rw[hvs.2.1];exact h1) (by rw[hvs.2.1];exact h2) hr hvs.2.2 move hm ev ey
 ·rw[hk,hcnt,kt.M] at d;omega
 ·rw[hk,hcnt,kt.M] at d;omega
 ·rw[e,f];exact h.clears hw hx h2
theorem WSim.send (h:WSim w x) (hw:WStr w) (hx:WStr x) {who:Nat} (h1:who<w.acts.length) {i:Ins} {G many place:Int} (hi:InsOk G many place i):(sendS x who i).2=(sendS w who i).2/\WSim (sendS w who i).1 (sendS x who i).1:=by
 have g1:who<x.acts.length:=by rw[h.len];exact h1
 obtain⟨R,k⟩:=h.acts who h1;have aw:=hw who h1;have bw:=hx who g1;have kA:=k.reg aw hi.a;have kB:=k.reg aw hi.b;have hde:=k.dead (one_may aw (aw.regMay hi.a)) (one_may bw (bw.regMay hi.a)) kA
 unfold sendS
 rw[kA.1,kB.1,hde]
 by_cases c:((w.at who).reg i.a).k≠2\/((w.at who).reg i.b).k≠1\/leadsDead (w.at who) ((w.at who).reg i.a)=true
 ·rw[if_pos c,if_pos c];exact⟨rfl,h⟩
 rw[if_neg c,if_neg c];simp only[not_or,Classical.not_not] at c;obtain⟨c1,c2,c3⟩:=c;have c3':leadsDead (w.at who) ((w.at who).reg i.a)=false:=by simpa using c3
 have hn:=kB.num c2;have hg:WSim (goneS w who i) (goneS x who i):=by
  unfold goneS
  rw[hn,h.takes]
  by_cases ht:takesS w ((w.at who).reg i.b).n=false
  ·rw[if_pos ht,if_pos ht];exact h
  rw[if_neg ht,if_neg ht]
  by_cases hs:i.op=13/\((w.at who).reg i.b).n=who
  ·rw[if_pos hs,if_pos hs]
   exact h.put (fun _=>⟨R,k.bis,k.regs,k.box.app (VRs.one kA),k.kind,k.par,k.M,k.pc,k.fin⟩)
  ·rw[if_neg hs,if_neg hs]
   obtain⟨⟨⟨t1,t2⟩,_⟩,_⟩:=takes_iff.1 (show takesS w ((w.at who).reg i.b).n=true by simpa using ht);obtain⟨tq,e⟩:=Int.eq_ofNat_of_zero_le t1;rw[e] at t2 hs ⊢;exact h.deliver hw hx h1 (by omega) hi.a c3' _ (fun hm he=>hs ⟨by simpa using hm,by rw[he]⟩)
 by_cases o:i.op=13
 ·rw[if_pos o,if_pos o]
  refine⟨rfl,hg.put (fun hl=>?_)⟩;obtain⟨Q,kq⟩:=hg.acts who hl;exact⟨Q,kq.put (VR.nilV _) _⟩
 ·rw[if_neg o,if_neg o];exact⟨rfl,hg⟩
theorem WSim.report (h:WSim w x) (hw:WStr w) {who:Nat} (h1:who<w.acts.length) {i:Ins} (hi:0<=i.a/\i.a<=7):(reportS x who i).2=(reportS w who i).2/\WSim (reportS w who i).1 (reportS x who i).1:=by
 obtain⟨R,k⟩:=h.acts who h1;have kA:=k.reg (hw who h1) hi
 unfold reportS
 rw[kA.1,h.prints]
 by_cases c:((w.at who).reg i.a).k≠1
 ·rw[if_pos c,if_pos c];exact⟨rfl,h⟩
 rw[if_neg c,if_neg c,kA.num (by omega)]
 split
 ·exact⟨rfl,h.len,rfl,h.acts⟩
 ·exact⟨rfl,h⟩
theorem WSim.spawn (h:WSim w x) (hw:WStr w) (hx:WStr x) {who:Nat} (h1:who<w.acts.length) {i:Ins} (hib:0<=i.b/\i.b<=7):(spawnS x who i).2=(spawnS w who i).2/\WSim (spawnS w who i).1 (spawnS x who i).1:=by
 have g1:who<x.acts.length:=by rw[h.len];exact h1
 obtain⟨R,k⟩:=h.acts who h1;have aw:=hw who h1;have bw:=hx who g1;have kB:=k.reg aw hib;have hma:=one_may aw (aw.regMay hib);have hmb:=one_may bw (bw.regMay hib);obtain⟨hlen,hmem,_,_⟩:=k.bis.led hma hmb (VRs.one kB);have hde:=k.dead hma hmb kB;have hnil:∀ {a:Ac},AStr a->hMay a.M [] []=true:=fun {a} ha=>by
  have:=ha.vals.1;exact hMay_parts.2 ⟨⟨this.1,this.2.1,this.1⟩,by simp,by simp⟩
 have ho:∀ {a:Ac} {u:Vl},hMay a.M a.obs [u]=true->∀ p∈reach a.obs [u],0<=p:=fun {a u} hm p hp=>((reach_ok hm _ (hMay_roots hm)).2 p hp).1
 unfold spawnS
 rw[kB.1,h.len]
 by_cases c:((w.at who).reg i.b).k≠2
 ·rw[if_pos c,if_pos c];exact⟨rfl,h⟩
 rw[if_neg c,if_neg c]
 by_cases c8:8<=w.acts.length
 ·rw[if_pos c8,if_pos c8];exact⟨rfl,h⟩
 rw[if_neg c8,if_neg c8]
 cases hd:leadsDead (w.at who) ((w.at who).reg i.b) with
 | true =>
  have e:∀ {a:Ac} {u:Vl},hMay a.M a.obs [u]=true->AStr a->leadsDead a u=true->(transferS a.M a.obs u a.M [] true).e≠0:=fun {a u} hm ha hd=>by
   have:(trS a.M a.obs u a.M []).2=10:=by
    unfold leadsDead at hd
    unfold trS
    rw[if_pos (by simp[hm,hnil ha]),if_pos hd]
   unfold transferS
   rw[if_neg (by omega)];simp[this]
  rw[if_pos (e hma aw hd),if_pos (e hmb bw (by rw[hde];exact hd))];exact⟨rfl,h⟩
 | false =>
  have hal:∀ {a:Ac} {u:Vl},leadsDead a u=false->∀ p∈reach a.obs [u],(obAt a.obs p).dead=false:=fun {a u} hd p hp=>by
   unfold leadsDead at hd
   rw[List.any_eq_false] at hd;have:=hd p hp
   simpa using this
  have hfit:∀ {a:Ac} {u:Vl},hMay a.M a.obs [u]=true->¬ a.M<((([]:List Ob).length+(reach a.obs [u]).length:Nat):Int):=fun {a u} hm=>by
   have h1:=(reach_ok hm _ (hMay_roots hm)).len;have h2:=(hMay_parts.1 hm).1.2.2;simp only[List.length_nil];omega
  rw[transfer_run true hma (hnil aw) (hal hd),transfer_run true hmb (hnil bw) (hal (by rw[hde];exact hd)),if_neg (hfit hma),if_neg (hfit hmb)];simp only[ne_eq,not_true_eq_false,if_false,if_true];obtain⟨Q,b1,b2,b3⟩:=k.bis.recv (l':=[]) (m':=[]) (Q:=fun _ _=>False) kB hma hmb ⟨fun p q k=>k.elim,fun p q k=>k.elim,fun p q q' k=>k.elim,fun p p' q k=>k.elim,fun p q k=>k.elim,fun p q k=>k.elim⟩;have hp:=h.put (n:=who) (a:=(((w.at who).heap (w.at who).M (buryL (w.at who).obs (reach (w.at who).obs [(w.at who).reg i.b]))).put i.b nilV).put i.a (numV w.acts.length)) (b:=(((x.at who).heap (x.at who).M (buryL (x.at who).obs (reach (x.at who).obs [(x.at who).reg i.b]))).put i.b nilV).put i.a (numV w.acts.length))
   (fun _=>⟨R,((ASim.mk (k.bis.bury (ho hma) (ho hmb) hmem) k.regs k.box k.kind k.par k.M k.pc k.fin:ASim R ((w.at who).heap (w.at who).M (buryL (w.at who).obs (reach (w.at who).obs [(w.at who).reg i.b]))) ((x.at who).heap (x.at who).M (buryL (x.at who).obs (reach (x.at who).obs [(x.at who).reg i.b])))).put (VR.nilV _) _).put (VR.numV _ _) _⟩)
  refine⟨trivial,by simp[hp.len,put_len],h.prints,fun j hj=>?_⟩;simp only[List.length_append,put_len,List.length_cons,List.length_nil] at hj
  by_cases e:j<w.acts.length
  ·have:=hp.acts j (by rw[put_len];exact e)
   unfold Wd.at at this ⊢
   simp only[Int.toNat_natCast] at this ⊢
   rw[List.getElem?_append_left (by rw[put_len];exact e),List.getElem?_append_left (by rw[put_len,h.len];exact e)];exact this
  ·obtain rfl:j=w.acts.length:=by omega
   unfold Wd.at
   simp only[Int.toNat_natCast];rw[List.getElem?_append_right (by rw[put_len];exact Nat.le_refl _),List.getElem?_append_right (by rw[put_len,h.len];exact Nat.le_refl _),put_len,put_len,h.len,Nat.sub_self];have hnils:VRs Q [nilV,nilV,nilV,nilV,nilV,nilV,nilV] [nilV,nilV,nilV,nilV,nilV,nilV,nilV]:=(VRs.nils (R:=Q) (a:=[nilV,nilV,nilV,nilV,nilV,nilV,nilV]) (b:=[nilV,nilV,nilV,nilV,nilV,nilV,nilV]) rfl)
   exact⟨Q,b1,(VRs.one b3).app hnils,VRs.nil,rfl,rfl,k.M,rfl,rfl⟩
theorem WSim.perform (h:WSim w x) (hw:WStr w) (hx:WStr x) {who:Nat} (h1:who<w.acts.length) {i:Ins} {G many place:Int} (hi:InsOk G many place i):(performS x who i).2=(performS w who i).2/\WSim (performS w who i).1 (performS x who i).1:=by
 unfold performS
 by_cases o1:i.op=13\/i.op=14
 ·rw[if_pos o1,if_pos o1];exact h.send hw hx h1 hi
 rw[if_neg o1,if_neg o1]
 by_cases o2:i.op=15
 ·rw[if_pos o2,if_pos o2];exact h.report hw h1 hi.a
 rw[if_neg o2,if_neg o2]
 by_cases o3:i.op=17
 ·rw[if_pos o3,if_pos o3];exact h.spawn hw hx h1 hi.b
 rw[if_neg o3,if_neg o3];have k:=(h.acts who h1).alone (hw who h1) (hx who (by rw[h.len];exact h1)) hi who;exact⟨k.1,h.put (fun _=>k.2)⟩
end
section
variable {G:Nat} {L:Nat->Nat} {X:Nat->Nat->Nat->Int} {S:Nat->List Pt} {w x:Wd}
theorem WOk.left (V:Ver G L X S) (h:WOk G L S w) {who:Nat} (hl:livesS w who=true) (hp:(w.at who).pc≠-1) :
  InsOk G (L (w.at who).kind.toNat) (w.at who).pc (insAt X (w.at who).kind (w.at who).pc) /\
  WStr (performS (w.put who { (w.at who) with pc:=nextS (w.at who) (insAt X (w.at who).kind (w.at who).pc) }) who (insAt X (w.at who).kind (w.at who).pc)).1:=by
 obtain⟨hin,hf⟩:=lives_iff.1 hl;obtain⟨hg,ha⟩:=h.at hin;rw[Int.toNat_natCast] at hg ha;obtain⟨a,ea⟩:∃ a,a=w.at who:=⟨_,rfl⟩;rw[<- ea] at hg ha hf hp ⊢;obtain⟨k,hk,ht,hwt,hpt⟩:=ha.typ hf;have hpc:=ha.pc;have hkk:=ha.kind;have hkG:a.kind.toNat<G:=by omega
 have hpl:a.pc.toNat<L a.kind.toNat:=by omega
 have hkp:=hpt (by omega);have ek:((a.kind.toNat:Nat):Int)=a.kind:=by omega
 have ep:((a.pc.toNat:Nat):Int)=a.pc:=by omega
 have hI:=insOk_at V hkG hpl;rw[ek,ep] at hI;have hmay:vMayDo (insAt X a.kind a.pc).op (insAt X a.kind a.pc).a (insAt X a.kind a.pc).b k=true:=V.may _ _ k hkG hpl hkp;refine⟨hI,?_⟩;obtain⟨i,ei⟩:∃ i,i=insAt X a.kind a.pc:=⟨_,rfl⟩;rw[<- ei] at hI hmay ⊢;have hwl:who<w.acts.length:=by omega
 have eat:(w.put who { a with pc:=nextS a i }).at who={ a with pc:=nextS a i }:=by rw[at_put hwl,if_pos rfl]
 have hM:Mid G L S (w.put who { a with pc:=nextS a i }) who (some k) a.kind (nextS a i):=by
  refine⟨by rw[put_len];exact h.len,h.prints,by rw[put_len];exact h.told,fun j b hb hj=>?_,by rw[put_len];exact hwl,?_,?_,?_,?_,?_,?_⟩
  ·rw[put_get hwl,if_neg hj] at hb
   exact h.acts j b hb
  all_goals rw[eat]
  ·exact⟨ha.str.regs,ha.str.box,ha.str.refs,ha.str.may⟩
  ·exact hf
  ·exact⟨rfl,hkk⟩
  ·exact ha.par
  ·intro k' hk'
   simp at hk';subst hk';exact ht
 have hmid:=(perform_left hM hk hI hmay).mid;intro j hj
 by_cases e:j=who
 ·subst e;exact hmid.str
 ·exact(hmid.others j _ (at_mem hj) e).str
theorem WSim.step (V:Ver G L X S) (hw:WOk G L S w) (hx:WOk G L S x) (h:WSim w x) (who:Nat):WSim (stepS X w who) (stepS X x who):=by
 unfold stepS
 rw[h.lives]
 cases hl:livesS w who with
 | false=>rw[if_pos rfl,if_pos rfl];exact h
 | true =>
  have hne:¬ true=false:=by simp
  rw[if_neg hne,if_neg hne];have h1:who<w.acts.length:=by have:=(lives_iff.1 hl).1;omega
  have g1:who<x.acts.length:=by rw[h.len];exact h1
  have hlx:livesS x who=true:=by rw[h.lives];exact hl
  obtain⟨R,k⟩:=h.acts who h1;have hsw:=WStr.of hw;have hsx:=WStr.of hx;rw[k.pc]
  by_cases hp:(w.at who).pc=-1
  ·rw[if_pos hp,if_pos hp]
   exact h.put (fun _=>(ASm.take ⟨R,k⟩))
  ·rw[if_neg hp,if_neg hp]
   obtain⟨hI,hs⟩:=hw.left V hl hp;obtain⟨_,hs'⟩:=hx.left V hlx (by rw[k.pc];exact hp);rw[k.kind,k.pc] at hs';rw[k.kind];have en:nextS (x.at who) (insAt X (w.at who).kind (w.at who).pc)=nextS (w.at who) (insAt X (w.at who).kind (w.at who).pc):=by
    have kA:=k.reg (hsw who h1) hI.a
    unfold nextS
    rw[k.pc,kA.1]
    by_cases e1:((w.at who).reg (insAt X (w.at who).kind (w.at who).pc).a).k=1
    ·rw[kA.num e1]
    ·simp[e1]
   rw[en] at hs' ⊢;have hpt:=h.put (n:=who) (a:={ (w.at who) with pc:=nextS (w.at who) (insAt X (w.at who).kind (w.at who).pc) }) (b:={ (x.at who) with pc:=nextS (w.at who) (insAt X (w.at who).kind (w.at who).pc) }) (fun _=>⟨R,k.bis,k.regs,k.box,k.kind,k.par,k.M,rfl,k.fin⟩);have hP:=hpt.perform (hsw.put ((hsw who h1).pc _)) (hsx.put ((hsx who g1).pc _)) (by rw[put_len];exact h1) hI
   unfold doneS
   rw[hP.1]
   split
   ·have hl2:who<(performS (w.put who { (w.at who) with pc:=nextS (w.at who) (insAt X (w.at who).kind (w.at who).pc) }) who (insAt X (w.at who).kind (w.at who).pc)).1.acts.length:=by
     have:=(perform_rest (w.put who { (w.at who) with pc:=nextS (w.at who) (insAt X (w.at who).kind (w.at who).pc) }) who (insAt X (w.at who).kind (w.at who).pc)).2.1;rw[put_len] at this
     omega
    exact hP.2.ends hs hs' hl2 _
   ·exact hP.2
theorem WSim.act (V:Ver G L X S) (hw:WOk G L S w) (hx:WOk G L S x) (h:WSim w x) {a:Ax} (ha:axFault a=0):WSim (actS X w a) (actS X x a):=by
 have h0:0<=a.who:=by
  unfold axFault at ha
  split at ha
  ·omega
  ·split at ha
   ·omega
   ·rename_i c;omega
 obtain⟨who,e⟩:=Int.eq_ofNat_of_zero_le h0
 unfold actS
 rw[h.len,e]
 by_cases hl:(w.acts.length:Int)<=(who:Nat)
 ·rw[if_pos hl,if_pos hl];exact h
 rw[if_neg hl,if_neg hl]
 by_cases k1:a.kind=1
 ·rw[if_pos k1,if_pos k1];exact h.step V hw hx _
 rw[if_neg k1,if_neg k1]
 by_cases k2:a.kind=2
 ·rw[if_pos k2,if_pos k2];exact h.clears (WStr.of hw) (WStr.of hx) (by omega)
 ·rw[if_neg k2,if_neg k2];exact h.tell (WStr.of hw) (WStr.of hx) _ _ _
theorem WSim.refl (h:WOk G L S w):WSim w w:=⟨rfl,rfl,fun i hi=>ASm.refl (WStr.of h i hi)⟩
theorem WSim.collect (hw:WOk G L S w) (h:WSim w x) {who:Int} (h0:0<=who) (n m:Int):WSim (actS X w ⟨2,who,n,m⟩) x:=by
 obtain⟨j,rfl⟩:=Int.eq_ofNat_of_zero_le h0
 unfold actS
 simp only
 by_cases hl:(w.acts.length:Int)<=(j:Nat)
 ·rw[if_pos hl];exact h
 rw[if_neg hl,if_neg (by omega),if_pos trivial];exact h.clear (WStr.of hw) (by omega)
theorem ax_who {a:Ax} (ha:axFault a=0):0<=a.who:=by
 unfold axFault at ha
 split at ha
 ·omega
 ·split at ha
  ·omega
  ·rename_i c;omega
theorem WSim.run (V:Ver G L X S):∀ (l:List Ax) {w x:Wd},WOk G L S w->WOk G L S x->WSim w x->(∀ a∈l,axFault a=0)->WSim (runS X w l).1 (runS X x (l.filter fun a=>decide (a.kind≠2))).1
 | [],w,x,_,_,h,_=>h
 | a :: r,w,x,hw,hx,h,hl=>by
  have h0:=hl a (by simp);have hr:∀ b∈r,axFault b=0:=fun b hb=>hl b (by simp[hb])
  rw[runS,if_neg (by simp[h0])]
  by_cases hk:a.kind=2
  ·rw[List.filter_cons_of_neg (by simp[hk])]
   refine WSim.run V r (hw.act V h0) hx ?_ hr;have e:a=⟨2,a.who,a.n,a.m⟩:=by rw[<- hk]
   rw[e];exact WSim.collect hw h (ax_who h0) _ _
  ·rw[List.filter_cons_of_pos (by simp[hk]),runS,if_neg (by simp[h0])]
   exact WSim.run V r (hw.act V h0) (hx.act V h0) (h.act V hw hx h0) hr
theorem ASm.form {a b:Ac} (h:ASm a b) (ha:AStr a) (hb:AStr b):b.kind=a.kind/\b.par=a.par/\b.pc=a.pc/\b.fin=a.fin/\b.box.length=a.box.length/\form b.obs b.roots=form a.obs a.roots:=by
 obtain⟨R,h⟩:=h;exact⟨h.kind,h.par,h.pc,h.fin,h.box.1,h.bis.forms ha.may hb.may h.roots⟩
end
end
section
open Go.RowKit
section
variable {w w':World} {R:Nat}
end
def pX (l:List Rw):Nat->Nat->Nat->Int:=xOf (programS l 14)
def pL (l:List Rw):Nat->Nat:=lenOf (programS l 14)
def pF (l:List Rw) (r:Nat):List Pt:=flowS (xOf (programS l 14) r) (lenOf (programS l 14) r)
theorem play_ver (l:List Rw):Ver 3 (pL l) (pX l) (pF l):=(ver_of (by show(ckS 3 (lenOf (programS l 14)) (xOf (programS l 14))).2.2=0;exact congrArg (fun q=>q.2.2) (program_ok l 14))).2
end
section
open Go.RowKit
def bareS (l:List Ax):List Ax:=l.filter fun a=>decide (a.kind≠2)
def pieceS (k:Int) (i:Nat) (a:Ax):List Ax:=a :: (if (i:Int) % k=0 then [⟨2,(i:Int) % 3,0,0⟩] else [])
def moreS (k:Int):Nat->List Ax->List Ax
 | _,[]=>[]
 | i,a :: r=>pieceS k i a++moreS k (i+1) r
theorem more_app (k:Int):∀ (l m:List Ax) (i:Nat),moreS k i (l++m)=moreS k i l++moreS k (i+l.length) m
 | [],m,i=>rfl
 | a :: r,m,i=>by
  rw[List.cons_append,moreS,moreS,more_app k r m (i+1),List.append_assoc,List.length_cons,show i+1+r.length=i+(r.length+1) by omega]
theorem more_next (k:Int) (l:List Ax) {i:Nat} {a:Ax} (ha:l[i]?=some a):moreS k 0 (l.take (i+1))=moreS k 0 (l.take i)++pieceS k i a:=by
 have hi:=(List.getElem?_eq_some_iff.1 ha).1;rw[List.take_add_one,ha,Option.toList_some,more_app,List.length_take,show min i l.length=i by omega,Nat.zero_add];simp[moreS]
theorem bare_next (l:List Ax) {i:Nat} {a:Ax} (ha:l[i]?=some a):bareS (l.take (i+1))=bareS (l.take i)++(if a.kind=2 then [] else [a]):=by
 unfold bareS
 rw[List.take_add_one,ha,Option.toList_some,List.filter_append]
 by_cases h:a.kind=2 <;> simp[h]
theorem bare_more (k:Int):∀ (l:List Ax) (i:Nat),bareS (moreS k i l)=bareS l
 | [],_=>rfl
 | a :: r,i=>by
  have ih:=bare_more k r (i+1);have hp:bareS (pieceS k i a)=bareS [a]:=by
   unfold bareS pieceS
   by_cases h:a.kind=2 <;> split <;> simp[h]
  have e:∀ x y:List Ax,bareS (x++y)=bareS x++bareS y:=fun x y=>List.filter_append ..
  rw[moreS,e,hp,ih,<- e]
  rfl
theorem more_len (k:Int):∀ (l:List Ax) (i:Nat),(moreS k i l).length<=2*l.length
 | [],_=>Nat.le_refl _
 | a :: r,i=>by
  have ih:=more_len k r (i+1);have hp:(pieceS k i a).length<=2:=by unfold pieceS;split <;> simp
  rw[moreS,List.length_append,List.length_cons];omega
theorem more_ok (k:Int):∀ (l:List Ax) (i:Nat),(∀ a∈l,axFault a=0)->∀ a∈moreS k i l,axFault a=0
 | [],_,_,a,ha=>by cases ha
 | b :: r,i,h,a,ha=>by
  rcases List.mem_append.1 ha with ha | ha
  ·unfold pieceS at ha
   rcases List.mem_cons.1 ha with rfl | ha
   ·exact h _ (by simp)
   ·split at ha
    ·simp at ha
     subst ha;have w2:isW 0=true:=isW_iff.2 (by omega)
     unfold axFault
     simp only;rw[if_neg (by omega),w2,if_neg (by simp;omega)]
    ·cases ha
  ·exact more_ok k r (i+1) (fun c hc=>h c (by simp[hc])) a ha
structure Alk (V V':Wd):Prop where
 len:V'.acts.length=V.acts.length
 prints:V'.prints=V.prints
 forms:∀ (i:Nat) x y,V.acts[i]?=some x->V'.acts[i]?=some y->FormOk x/\FormOk y/\formL y=formL x
theorem formOk_of {G:Nat} {L:Nat->Nat} {S:Nat->List Pt} {V:Wd} (h:WOk G L S V) {i:Nat} {x:Ac} (hx:V.acts[i]?=some x):FormOk x :=
 ⟨(h.acts i x hx).str.regs,(h.acts i x hx).str.box,(h.acts i x hx).str.may⟩
theorem alk_of {G:Nat} {L:Nat->Nat} {S:Nat->List Pt} {V V':Wd} (h:WOk G L S V) (h':WOk G L S V') (hs:WSim V V'):Alk V V':=by
 refine⟨hs.len,hs.prints,fun i x y hx hy=>⟨formOk_of h hx,formOk_of h' hy,?_⟩⟩;have hi:=(List.getElem?_eq_some_iff.1 hx).1;have k:=hs.acts i hi;have ex:V.at (i:Int)=x:=by unfold Wd.at;rw[Int.toNat_natCast,hx];rfl
 have ey:V'.at (i:Int)=y:=by unfold Wd.at;rw[Int.toNat_natCast,hy];rfl
 rw[ex,ey] at k;obtain⟨k1,k2,k3,k4,k5,k6⟩:=k.form (h.acts i x hx).str (h'.acts i y hy).str
 unfold formL
 rw[k1,k2,k3,k4,k5];exact congrArg _ k6
theorem Alk.two {A B C:Wd} (h:Alk A B) (k:Alk C B):Alk A C:=by
 refine⟨k.len.symm.trans h.len,k.prints.symm.trans h.prints,fun i x z hx hz=>?_⟩;have hi:=(List.getElem?_eq_some_iff.1 hx).1;obtain⟨y,hy⟩:=at_some (l:=B.acts) (i:=i) (by rw[h.len];exact hi);obtain⟨f1,_,e1⟩:=h.forms i x y hx hy;obtain⟨f3,_,e2⟩:=k.forms i z y hz hy;exact⟨f1,f3,e2.symm.trans e1⟩
theorem clear_ok (l m:List Rw) (most k:Int):∃ B M:Wd,runWS 3 (pL l) (pX l) (2+pick most 40) (bareS (actsS m 60))=(B,0)/\runWS 3 (pL l) (pX l) (2+pick most 40) (moreS k 0 (actsS m 60))=(M,0)/\Alk (playS l m most) B/\Alk (playS l m most) M:=by
 have hp:=pick_bd (n:=most) (many:=40) (by omega);have h0:=wok_new (play_ver l) (by omega) (M:=2+pick most 40) (by omega);have hE:wnewE 3 (pL l) (pX l) (2+pick most 40)=0:=by
  unfold wnewE
  rw[show ckS 3 (pL l) (pX l)=(0,0,0) from program_ok l 14,if_neg (by simp),if_neg (by omega)]
 have hA:=actsS_ok m 60;have hl:=actsS_len m 60;have hM:=more_ok k (actsS m 60) 0 hA;have hml:=more_len k (actsS m 60) 0;have hBA:∀ a∈bareS (actsS m 60),axFault a=0:=fun a ha=>hA a (List.mem_filter.1 ha).1
 have hbl:(bareS (actsS m 60)).length<=(actsS m 60).length:=List.length_filter_le _ _;have rA:=WOk.run (play_ver l) _ h0 hA;have rB:=WOk.run (play_ver l) _ h0 hBA;have rM:=WOk.run (play_ver l) _ h0 hM;have sA:=WSim.run (play_ver l) (actsS m 60) h0 h0 (WSim.refl h0) hA;have sM:=WSim.run (play_ver l) (moreS k 0 (actsS m 60)) h0 h0 (WSim.refl h0) hM;have eM:((moreS k 0 (actsS m 60)).filter fun a=>decide (a.kind≠2))=bareS (actsS m 60):=bare_more k _ 0
 rw[eM] at sM;have kA:Alk (playS l m most) (runS (pX l) (newW (2+pick most 40)) (bareS (actsS m 60))).1:=alk_of rA.2 rB.2 sA;have kM:Alk (runS (pX l) (newW (2+pick most 40)) (moreS k 0 (actsS m 60))).1 (runS (pX l) (newW (2+pick most 40)) (bareS (actsS m 60))).1:=alk_of rM.2 rB.2 sM;refine⟨_,_,?_,?_,kA,kA.two kM⟩
 ·unfold runWS
  rw[hE,if_neg (by simp),if_neg (by omega)];exact Prod.ext rfl rB.1
 ·unfold runWS
  rw[hE,if_neg (by simp),if_neg (by omega)];exact Prod.ext rfl rM.1
end
end Go.Proofs.YtihpkcccfgbcmaaGreatDoor
