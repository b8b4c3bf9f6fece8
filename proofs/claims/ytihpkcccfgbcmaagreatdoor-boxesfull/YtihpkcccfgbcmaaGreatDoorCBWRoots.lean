/- WRoots. -/
import Derived.Lib.AppendZeros
import Derived.Test.YtihpkcccfgbcmaaGreatDoorCBWOwn5
namespace Go.Proofs.YtihpkcccfgbcmaaGreatDoor
set_option maxRecDepth 100000
set_option maxHeartbeats 8000000
section
open Go.RowKit
def Shp (V:Wd):Prop:=∀ (j:Nat) x,V.acts[j]?=some x->x.regs.length=8/\x.box.length<=6
theorem Shp.set {V:Wd} (h:Shp V) {j:Nat} {y:Ac} (h8:y.regs.length=8) (h6:y.box.length<=6):Shp { V with acts:=V.acts.set j y }:=fun i x hx=>by
 simp only at hx;rw[List.getElem?_set] at hx
 split at hx
 ·split at hx
  ·simp only[Option.some.injEq] at hx
   subst hx;exact⟨h8,h6⟩
  ·cases hx
 ·exact h i x hx
theorem rowsB_map (rows:List (Value × Ob)):rowsB rows=(rows.map (·.1)).flatMap vB:=by
 unfold rowsB
 rw[List.flatMap_map]
theorem rowsB_set {rows:List (Value × Ob)} {i:Nat} {v:Value} {ob ob':Ob} (hi:rows[i]?=some (v,ob)):rowsB (rows.set i (v,ob'))=rowsB rows:=by
 rw[rowsB_map,rowsB_map,List.map_set,set_same];rw[List.getElem?_map,hi]
 rfl
theorem obs_set {rows:List (Value × Ob)} {i:Nat} {v:Value} {ob:Ob} (hi:rows[i]?=some (v,ob)) (f:Nat) (x:Vl):(rows.set i (v,(⟨ob.fs.set f x,ob.dead⟩:Ob))).map (·.2)=setObs (rows.map (·.2)) i f x:=by
 unfold setObs
 rw[List.getElem?_map,hi];simp[List.map_set]
section
variable {w:World} {base Bw:Nat} {V:Wd} {av pv:Value} {fl:List Fa} {rs:List (List (Value × Ob))} {j:Nat} {fa:Fa} {r:List (Value × Ob)} {x:Ac}
theorem WdOwn.setField (h:WdOwn w base Bw V av pv fl rs) (hfa:fl[j]?=some fa) (hr:rs[j]?=some r) (hx:V.acts[j]?=some x) {i B n cap:Nat} {ob:Ob} (hi:r[i]?=some (.slice (some ⟨B,0,none⟩) n cap,ob)) (f:Nat) (v:Vl) :
  WdOwn ((w.setCell ⟨B,f*2,none⟩ (.int .i64 v.k)).setCell ⟨B,f*2+1,none⟩ (.int .i64 v.n)) base Bw { V with acts:=V.acts.set j { x with obs:=setObs x.obs i f v } } av pv fl (rs.set j (r.set i (.slice (some ⟨B,0,none⟩) n cap,⟨ob.fs.set f v,ob.dead⟩))) /\
   Moved w ((w.setCell ⟨B,f*2,none⟩ (.int .i64 v.k)).setCell ⟨B,f*2+1,none⟩ (.int .i64 v.n)) (wdFoot Bw av pv fl rs) (wdFoot Bw av pv fl (rs.set j (r.set i (.slice (some ⟨B,0,none⟩) n cap,⟨ob.fs.set f v,ob.dead⟩)))):=by
 have hA:=h.each j fa r x hfa hr hx;have hBr:B∈rowsB r:=List.mem_flatMap.2 ⟨_,List.mem_of_getElem? hi,by rw[mem_vB];rfl⟩;have hBh:B∈vB (.slice fa.oa fa.on fa.oc)++rowsB r:=List.mem_append_right _ hBr;have hBf:B∈acFoot fa r:=List.mem_append_left _ hBh;have hBw:B∈wdFoot Bw av pv fl rs:=List.mem_append_right _ (mem_actsFoot hfa hr hBf);have hBav:B∉vB av:=fun hb=>(h.apart1 j fa r hfa hr).2 B hBf (by simp[hb])
 have hoth:∀ b,b≠B->((w.setCell ⟨B,f*2,none⟩ (.int .i64 v.k)).setCell ⟨B,f*2+1,none⟩ (.int .i64 v.n)).heap[b]?=w.heap[b]?:=fun b hb=>two_other _ _ _ _ hb
 have hnd:=(h.apart1 j fa r hfa hr).1;have hn1:=List.nodup_append.1 hnd;have hfoot:acFoot fa (r.set i (.slice (some ⟨B,0,none⟩) n cap,⟨ob.fs.set f v,ob.dead⟩))=acFoot fa r:=by
  unfold acFoot
  rw[rowsB_set hi]
 have hnew:AcOwn ((w.setCell ⟨B,f*2,none⟩ (.int .i64 v.k)).setCell ⟨B,f*2+1,none⟩ (.int .i64 v.n)) base fa (r.set i (.slice (some ⟨B,0,none⟩) n cap,⟨ob.fs.set f v,ob.dead⟩)) { x with obs:=setObs x.obs i f v } :=
  { kind:=hA.kind,par:=hA.par,M:=hA.M,on:=by rw[hA.on];exact(setObs_length _ _ _ _).symm,rn:=hA.rn,pc:=hA.pc,bn:=hA.bn,fin:=hA.fin,obs:=by rw[obs_set hi,hA.obs],heap:=hA.heap.setField hi f v,regs:=ownsRow_at_block hA.regs (fun b hb=>hoth b (fun e=>hn1.2.2 B hBh b (List.mem_append_left _ hb) e.symm)),box:=ownsRow_at_block hA.box (fun b hb=>hoth b (fun e=>hn1.2.2 B hBh b (List.mem_append_right _ hb) e.symm)) }
 have hrow:SeqOwn fAc 8 56 ((w.setCell ⟨B,f*2,none⟩ (.int .i64 v.k)).setCell ⟨B,f*2+1,none⟩ (.int .i64 v.n)) base av (fl.set j fa):=by
  rw[set_same hfa];exact ownsRow_at_block h.acts (fun b hb=>hoth b (fun e=>hBav (by rw[<- e];exact hb)))
 have:=h.replace hfa hr hrow hnew (fun b _ _ hb=>hoth b (fun e=>hb (by rw[e];exact hBf))) (by rw[hfoot];exact hnd) (fun b hb=>.inl (by rw[<- hfoot];exact hb));rw[set_same hfa] at this
 refine⟨this,rfl,rfl,rfl,by rw[two_size];exact Nat.le_refl _,fun b _ hb=>hoth b (fun e=>hb (by rw[e];exact hBw)),fun b hb=>?_⟩;have e2:wdFoot Bw av pv fl (rs.set j (r.set i (.slice (some ⟨B,0,none⟩) n cap,⟨ob.fs.set f v,ob.dead⟩)))=wdFoot Bw av pv (fl.set j fa) (rs.set j (r.set i (.slice (some ⟨B,0,none⟩) n cap,⟨ob.fs.set f v,ob.dead⟩))):=by rw[set_same hfa]
 rw[e2] at hb
 rcases wdFoot_set hb with h1 | h1
 ·exact .inl h1
 ·rw[hfoot] at h1
  exact .inl (List.mem_append_right _ (mem_actsFoot hfa hr h1))
theorem WdOwn.pushBox {w':World} (h:WdOwn w base Bw V av pv fl rs) (hfa:fl[j]?=some fa) (hr:rs[j]?=some r) (hx:V.acts[j]?=some x) {g nn c:Nat} (hav:av=.slice (some ⟨g,0,none⟩) nn c) {B n cap:Nat} {l:List Vl}
  (hgr:w.grownBy w' (Value.slice fa.ba fa.bn fa.bc).ownBlock) (hown:SeqOwn fVl 2 66 w' base (.slice (some ⟨B,0,none⟩) n cap) l) (hn:n=l.length) (hB:(Value.slice fa.ba fa.bn fa.bc).ownBlock=some B\/B=w.heap.size) :
  WdOwn (w'.setCell ⟨g,j*8+6,none⟩ (.slice (some ⟨B,0,none⟩) n cap)) base Bw { V with acts:=V.acts.set j { x with box:=l } } av pv (fl.set j { fa with ba:=some ⟨B,0,none⟩,bn:=n,bc:=cap }) (rs.set j r) /\
   Moved w (w'.setCell ⟨g,j*8+6,none⟩ (.slice (some ⟨B,0,none⟩) n cap)) (wdFoot Bw av pv fl rs) (wdFoot Bw av pv (fl.set j { fa with ba:=some ⟨B,0,none⟩,bn:=n,bc:=cap }) (rs.set j r)):=by
 have hA:=h.each j fa r x hfa hr hx;have hnd:=(h.apart1 j fa r hfa hr).1;have hn1:=List.nodup_append.1 hnd;have hn2:=List.nodup_append.1 hn1.2.1;have hgw:g∈wdFoot Bw av pv fl rs:=List.mem_append_left _ (by simp[mem_vB,hav,Value.ownBlock]);have hoff:∀ b,b<w.heap.size->b∉vB (.slice fa.ba fa.bn fa.bc)->w'.heap[b]?=w.heap[b]?:=fun b hb hb'=>hgr.block b hb (fun e=>hb' (mem_vB.2 e.symm))
 have hlt:∀ b∈acFoot fa r,b<w.heap.size:=fun b hb=>hA.blk_lt b hb
 have hBfoot:∀ b∈vB (.slice (some ⟨B,0,none⟩) n cap),b∈vB (.slice fa.ba fa.bn fa.bc)\/b=w.heap.size:=fun b hb=>by
  rw[mem_vB] at hb;have e:B=b:=by simpa[Value.ownBlock] using hb
  subst e
  rcases hB with h1 | h1
  ·exact .inl (mem_vB.2 h1)
  ·exact .inr h1
 have hin:∀ b∈acFoot { fa with ba:=some ⟨B,0,none⟩,bn:=n,bc:=cap } r,b∈acFoot fa r\/b∉wdFoot Bw av pv fl rs:=fun b hb=>by
  simp only[acFoot,List.mem_append] at hb ⊢
  rcases hb with hb | hb | hb
  ·exact .inl (.inl hb)
  ·exact .inl (.inr (.inl hb))
  ·rcases hBfoot b hb with h1 | h1
   ·exact .inl (.inr (.inr h1))
   ·exact .inr (fun h2=>by have:=h.blk_lt b h2;omega)
 refine⟨h.update1 hfa hr hav (k:=6) (by omega) (fun b hb hb'=>hoff b (h.blk_lt b hb) (fun hb2=>hb' (List.mem_append_right _ (List.mem_append_right _ hb2)))) rfl
  { kind:=hA.kind,par:=hA.par,M:=hA.M,on:=hA.on,rn:=hA.rn,pc:=hA.pc,bn:=hn,fin:=hA.fin,obs:=hA.obs,heap:=hA.heap.at_block (fun b hb=>hoff b (hlt b (List.mem_append_left _ hb)) (fun hb'=>hn1.2.2 b hb b (List.mem_append_right _ hb') rfl)),regs:=ownsRow_at_block hA.regs (fun b hb=>hoff b (hlt b (List.mem_append_right _ (List.mem_append_left _ hb))) (fun hb'=>hn2.2.2 b hb b hb' rfl)),box:=hown } ?_ hin,hgr.os,hgr.tape,hgr.output,by simp[World.setCell];exact hgr.size,fun b hb hb'=>?_,fun b hb=>?_⟩
 ·refine List.nodup_append.2 ⟨hn1.1,List.nodup_append.2 ⟨hn2.1,by unfold vB;split <;> simp,fun a ha b hb e=>?_⟩,fun a ha b hb e=>?_⟩
  ·subst e
   rcases hBfoot a hb with h1 | h1
   ·exact hn2.2.2 a ha a h1 rfl
   ·have:=hlt a (List.mem_append_right _ (List.mem_append_left _ ha));omega
  ·subst e
   rcases List.mem_append.1 hb with hb | hb
   ·exact hn1.2.2 a ha a (List.mem_append_left _ hb) rfl
   ·rcases hBfoot a hb with h1 | h1
    ·exact hn1.2.2 a ha a (List.mem_append_right _ h1) rfl
    ·have:=hlt a (List.mem_append_left _ ha);omega
 ·refine(Deep.blk_setCell_other _ ⟨g,j*8+6,none⟩ _ _ (fun e=>hb' (by have e':b=g:=e;rw[e'];exact hgw))).trans (hoff b hb (fun hb2=>hb' (List.mem_append_right _ (mem_actsFoot hfa hr (List.mem_append_right _ (List.mem_append_right _ hb2))))))
 ·rcases wdFoot_set hb with h1 | h1
  ·exact .inl h1
  ·simp only[acFoot,List.mem_append] at h1
   rcases h1 with h1 | h1 | h1
   ·exact .inl (List.mem_append_right _ (mem_actsFoot hfa hr (List.mem_append_left _ (List.mem_append.2 h1))))
   ·exact .inl (List.mem_append_right _ (mem_actsFoot hfa hr (List.mem_append_right _ (List.mem_append_left _ h1))))
   ·rcases hBfoot b h1 with h2 | h2
    ·exact .inl (List.mem_append_right _ (mem_actsFoot hfa hr (List.mem_append_right _ (List.mem_append_right _ h2))))
    ·exact .inr (Nat.le_of_eq h2.symm)
end
end
section
open Go.RowKit
structure PerfOk (V:Wd) (x:Ac) (a b:Int):Prop where
 shp:Shp V
 a:0<=a/\a<=7
 b:0<=b/\b<=7
 may:hMay x.M x.obs x.roots=true
 prints:V.prints.length<=500
 acts:V.acts.length<=8
theorem PerfOk.words {V:Wd} {x:Ac} {a b:Int} (h:PerfOk V x a b):∀ v∈x.regs,v.k=1->isW v.n=true:=fun v hv hk=>by
 have:=List.all_eq_true.1 (hMay_roots' h.may) v (List.mem_append_left _ hv)
 simpa[vMay,hk,isW] using this
end
section
open Go.RowKit
theorem isNoNumber_any (k n:Int) (w:World):Calls Tryz.prog 166 #[.agg #[.int .i64 k,.int .i64 n]] w fun e w'=>e=.returned (.bool (k != 1))/\Below w.heap.size w w':=by
 go_enter Tryz.func166,Tryz.ntmps166
 go_wp2
 go_ret
 exact⟨rfl,below_box _ _⟩
theorem num_any (n:Int) (w:World):Calls Tryz.prog 73 #[.int .i64 n] w fun e w'=>e=.returned (.agg #[.int .i64 1,.int .i64 n])/\Below w.heap.size w w':=by
 go_enter Tryz.func73,Tryz.ntmps73
 go_wp2
 exact bodyPost_ret (v:=.agg #[.int .i64 1,.int .i64 n]) (by simp[results,Tryz.results73,go_sem]) rfl ⟨rfl,below_box _ _⟩
theorem fault_any (e:Int) (w:World):Calls Tryz.prog 169 #[.int .i64 e] w fun r w'=>r=.returned (.int .i64 (if e=2 then 4 else 8))/\w'=w:=by
 by_cases h:e=2
 ·subst h
  go_enter Tryz.func169,Tryz.ntmps169
  go_wp2
  go_ret
  exact⟨rfl,rfl⟩
 ·have hb:(e == 2)=false:=by simp[h]
  go_enter Tryz.func169,Tryz.ntmps169
  go_wp2
  go_ret
  exact⟨by simp,rfl⟩
theorem at_of {V:Wd} {j:Nat} {x:Ac} (h:V.acts[j]?=some x):V.at (j:Int)=x:=by
 show(V.acts[(j:Int).toNat]?).getD noAc=x
 rw[Int.toNat_natCast,h]
 rfl
theorem lives_any (n:Int) (w:World) {base Bw:Nat} {V:Wd} {av pv:Value} {fl:List Fa} {rs:List (List (Value × Ob))} (h:WdOwn w base Bw V av pv fl rs) :
  Calls Tryz.prog 87 #[.pointer (some ⟨Bw,0,none⟩),.int .i64 n] w fun e w'=>e=.returned (.bool (livesS V n))/\w'=w:=by
 obtain⟨c0,_,_⟩:=h.bw;obtain⟨RES,hRES⟩:∃ RES,RES=livesS V n:=⟨_,rfl⟩;have HR:Aside (RES=livesS V n):=hRES;rw[<- hRES];clear hRES;obtain⟨ao,cc,hav⟩:=h.acts.form;rw[h.flen] at hav;rw[hav] at c0;obtain⟨N,hN⟩:∃ N,N=V.acts.length:=⟨_,rfl⟩;have HN:Aside (N=V.acts.length):=hN;rw[<- hN] at c0;clear hN
 by_cases h1:0<=n
 rotate_left
 ·have HF:Aside (RES=false):=by show RES=false;rw[HR.out];simp[livesS,h1]
  clear HR h hav
  go_enter Tryz.func87,Tryz.ntmps87
  go_wp2
  go_ret
  exact⟨ret_bool HF.out.symm,rfl⟩
 by_cases h2:n<(N:Int)
 rotate_left
 ·have HF:Aside (RES=false):=by show RES=false;rw[HR.out];have:=HN.out;simp[livesS];intro _ h3;omega
  clear HR h hav
  go_enter Tryz.func87,Tryz.ntmps87
  go_wp2
  go_ret
  exact⟨ret_bool HF.out.symm,rfl⟩
 obtain⟨j,rfl⟩:=Int.eq_ofNat_of_zero_le h1;obtain⟨x,hx⟩:=at_some (l:=V.acts) (i:=j) (by rw[<- HN.out];omega);obtain⟨fa,r,g,c,R,hfa,hr,hA,hav2,_,k0,k1,k2,k3,k4,k5,k6,k7⟩:=h.cells hx;rw[hav2] at hav;simp only[Value.slice.injEq] at hav;obtain⟨rfl,_,_⟩:=hav;have HT:Aside (RES=decide (x.fin=0)):=by
  show RES=_
  have:=HN.out;rw[HR.out,livesS,at_of hx,decide_eq_true h1,decide_eq_true (show(j:Int)<(V.acts.length:Int) by omega)];simp
 clear HR h hA
 by_cases h3:x.fin=0
 ·rw[h3] at k7
  have HF:Aside (RES=true):=by show RES=true;rw[HT.out];simp[h3]
  go_enter Tryz.func87,Tryz.ntmps87
  go_wp2
  go_ret
  exact⟨ret_bool HF.out.symm,rfl⟩
 ·have h3b:(x.fin == 0)=false:=by simp[h3]
  have HF:Aside (RES=false):=by show RES=false;rw[HT.out];simp[h3]
  go_enter Tryz.func87,Tryz.ntmps87
  go_wp2
  go_ret
  exact⟨ret_bool HF.out.symm,rfl⟩
theorem takes_any (n:Int) (w:World) {base Bw:Nat} {V:Wd} {av pv:Value} {fl:List Fa} {rs:List (List (Value × Ob))} (h:WdOwn w base Bw V av pv fl rs) (hbx:∀ (j:Nat) x,V.acts[j]?=some x->x.box.length<=1000000) :
  Calls Tryz.prog 94 #[.pointer (some ⟨Bw,0,none⟩),.int .i64 n] w fun e w'=>e=.returned (.bool (takesS V n))/\w'=w:=by
 have hL:=lives_any n w h;obtain⟨c0,_,_⟩:=h.bw;obtain⟨RES,hRES⟩:∃ RES,RES=takesS V n:=⟨_,rfl⟩;have HR:Aside (RES=takesS V n):=hRES;rw[<- hRES];clear hRES
 by_cases h0:livesS V n=true
 rotate_left
 ·have h0f:livesS V n=false:=by simpa using h0
  rw[h0f] at hL;have HL:Aside (Calls Tryz.prog 87 #[.pointer (some ⟨Bw,0,none⟩),.int .i64 n] w fun e w'=>e=.returned (.bool false)/\w'=w):=hL;have HF:Aside (RES=false):=by show RES=false;rw[HR.out,takesS,h0f];rfl
  clear hL HR h hbx
  go_enter Tryz.func94,Tryz.ntmps94
  go_wp2_with fail
  refine Calls.mono HL.out ?_;rintro e w' ⟨rfl,hw'⟩;replace hw':=hw'.symm;subst hw';go_wp2
  go_ret
  exact⟨ret_bool HF.out.symm,rfl⟩
 rw[h0] at hL;have HL:Aside (Calls Tryz.prog 87 #[.pointer (some ⟨Bw,0,none⟩),.int .i64 n] w fun e w'=>e=.returned (.bool true)/\w'=w):=hL;have h0':=h0;simp only[livesS,Bool.and_eq_true,decide_eq_true_eq] at h0';obtain⟨⟨h1,h2⟩,_⟩:=h0';obtain⟨j,rfl⟩:=Int.eq_ofNat_of_zero_le h1;obtain⟨x,hx⟩:=at_some (l:=V.acts) (i:=j) (by omega);obtain⟨fa,r,g,c,R,hfa,hr,hA,hav2,_,k0,k1,k2,k3,k4,k5,k6,k7⟩:=h.cells hx
 rw[hav2] at c0;have hb6:=hbx j x hx;have HT:Aside (RES=decide (x.box.length<6)):=by
  show RES=_
  rw[HR.out,takesS,h0,at_of hx];simp
 obtain⟨N,hN⟩:∃ N,N=V.acts.length:=⟨_,rfl⟩;rw[<- hN] at c0 h2;clear hN hL HR h hA hbx h0;generalize x.box.length=X at *
 by_cases h3:X<6
 ·have h3b:(X:Int)<6:=by omega
  have HF:Aside (RES=true):=by show RES=true;rw[HT.out];simp[h3]
  go_enter Tryz.func94,Tryz.ntmps94
  go_wp2_with fail
  refine Calls.mono HL.out ?_;rintro e w' ⟨rfl,hw'⟩;replace hw':=hw'.symm;subst hw';go_wp2
  go_ret
  exact⟨ret_bool HF.out.symm,rfl⟩
 ·have h3b:¬ (X:Int)<6:=by omega
  have HF:Aside (RES=false):=by show RES=false;rw[HT.out];simp[h3]
  go_enter Tryz.func94,Tryz.ntmps94
  go_wp2_with fail
  refine Calls.mono HL.out ?_;rintro e w' ⟨rfl,hw'⟩;replace hw':=hw'.symm;subst hw';go_wp2
  go_ret
  exact⟨ret_bool (by rw[HF.out];simp;omega),rfl⟩
theorem needNumber_any (k n:Int) (w:World):Calls Tryz.prog 130 #[.agg #[.int .i64 k,.int .i64 n]] w fun e w'=>e=.returned (.int .i64 (if k≠1 then 8 else 0))/\Below w.heap.size w w':=by
 have b1:=below_box w (.cells #[.int .i64 k,.int .i64 n] 66);obtain⟨RES,hRES⟩:∃ RES:Int,RES=if k≠1 then 8 else 0:=⟨_,rfl⟩
 rw[<- hRES]
 by_cases h:k=1
 ·have hb:(k != 1)=false:=by simp[h]
  have HF:Aside (RES=0):=by show RES=0;rw[hRES];simp[h]
  clear hRES h
  go_enter Tryz.func130,Tryz.ntmps130
  go_wp2_with fail
  refine(isNoNumber_any k n _).mono ?_;rintro e w' ⟨rfl,hb'⟩;rw[hb];go_wp2
  go_ret
  exact⟨ret_num HF.out.symm,b1.trans (hb'.mono b1.size)⟩
 ·have hb:(k != 1)=true:=by simp[h]
  have HF:Aside (RES=8):=by show RES=8;rw[hRES];simp[h]
  clear hRES h
  go_enter Tryz.func130,Tryz.ntmps130
  go_wp2_with fail
  refine(isNoNumber_any k n _).mono ?_;rintro e w' ⟨rfl,hb'⟩;rw[hb];go_wp2
  go_ret
  exact⟨ret_num HF.out.symm,b1.trans (hb'.mono b1.size)⟩
theorem result_any (op x y:Int) (w:World) (hx:-1099511627776<=x/\x<=1099511627776) (hy:-1099511627776<=y/\y<=1099511627776):Calls Tryz.prog 167 #[.int .i64 op,.int .i64 x,.int .i64 y] w fun e w'=>e=.returned (.int .i64 (resultS op x y))/\w'=w:=by
 have w1:IntKind.i64.wrap (x+y)=x+y:=by rw[IntKind.wrap_i64];omega
 have w2:IntKind.i64.wrap (x-y)=x-y:=by rw[IntKind.wrap_i64];omega
 by_cases h2:op=2
 ·subst h2
  go_enter Tryz.func167,Tryz.ntmps167
  go_wp2
  go_ret
  exact⟨ret_num (by simp[resultS]),rfl⟩
 have h2b:(op == 2)=false:=by simp[h2]
 by_cases h3:op=3
 ·subst h3
  go_enter Tryz.func167,Tryz.ntmps167
  go_wp2
  go_ret
  exact⟨ret_num (by simp[resultS]),rfl⟩
 have h3b:(op == 3)=false:=by simp[h3]
 by_cases h4:x<y
 ·go_enter Tryz.func167,Tryz.ntmps167
  go_wp2
  go_ret
  exact⟨ret_num (by simp[resultS,h2,h3,h4]),rfl⟩
 ·go_enter Tryz.func167,Tryz.ntmps167
  go_wp2
  go_ret
  exact⟨ret_num (by simp[resultS,h2,h3,h4]),rfl⟩
end
section
open Go.RowKit
theorem isNoObject_any (k n:Int) (w:World):Calls Tryz.prog 125 #[.agg #[.int .i64 k,.int .i64 n]] w fun e w'=>e=.returned (.bool (k != 2))/\Below w.heap.size w w':=by
 go_enter Tryz.func125,Tryz.ntmps125
 go_wp2
 go_ret
 exact⟨rfl,below_box _ _⟩
theorem isWord_any (n:Int) (w:World):Calls Tryz.prog 58 #[.int .i64 n] w fun e w'=>e=.returned (.bool (isW n))/\w'=w:=by
 go_enter Tryz.func58,Tryz.ntmps58
 go_wp2
 all_goals
  go_ret
  refine⟨ret_bool ?_,rfl⟩;simp[isW, *] <;> omega
def noObj (l:List Vl):Bool:=l.any (fun v=>v.k != 2)
theorem indexFunc_any (ao:Option Addr) (cap:Nat) (l:List Vl) (w:World) (h:ValsAt w ao l) (hl:16*l.length<=140737488351232) :
  Calls Tryz.prog 165 #[.slice ao l.length cap,.func (.func 125) #[] #[]] w fun e w'=>∃ z:Int,e=.returned (.int .i64 z)/\decide (0<=z)=noObj l/\Below w.heap.size w w':=by
 obtain⟨L,hL⟩:∃ L,L=l.length:=⟨_,rfl⟩;have HL:Aside (L=l.length):=hL;rw[<- hL] at hl ⊢;clear hL
 go_enter Tryz.func165,Tryz.ntmps165
 go_wp2
 go_loopg [8] L (fun g s8 wr=>∃ i:Nat,i<=L/\g=L-i/\s8=.int .i64 i/\Below w.heap.size w wr/\noObj l=noObj (l.drop i))
 case atStart=>exact⟨0,Nat.zero_le _,rfl,rfl,Below.refl _ _,by simp⟩
 case round =>
  obtain⟨i,hi,rfl,rfl,hbr,hno⟩:=hrel;have HNO:Aside (noObj l=noObj (l.drop i)):=hno;clear hno
  by_cases hiL:i<L
  ·have hiz:(i:Int)<(L:Int):=by omega
   obtain⟨⟨k,n⟩,hv⟩:=at_some (l:=l) (i:=i) (by rw[<- HL.out];exact hiL);have HV:Aside (l[i]?=some ⟨k,n⟩):=hv;obtain⟨b,o,rfl,a1,a2⟩:=h i _ hv;replace a1:=Keeps.below hbr _ _ a1;replace a2:=Keeps.below hbr _ _ a2;simp only at a1 a2;clear hv;have hd:noObj (l.drop i)=((k != 2) || noObj (l.drop (i+1))):=by
    obtain⟨hlt,e⟩:=List.getElem?_eq_some_iff.1 HV.out;rw[List.drop_eq_getElem_cons hlt,e]
    rfl
   have HD:Aside (noObj (l.drop i)=((k != 2) || noObj (l.drop (i+1)))):=hd;clear hd
   go_wp2_with fail
   refine(isNoObject_any k n _).mono ?_;rintro e w' ⟨rfl,hb'⟩;have hb2:=hbr.trans (hb'.mono hbr.size);clear hb'
   by_cases hk:k=2
   ·have hkb:(k != 2)=false:=by simp[hk]
    have HK:Aside ((k != 2)=false):=hkb;rw[hkb]
    go_wp2_with fail
    go_roundg (L-(i+1))
    case measure=>go_light;omega
    case rel=>go_light;exact⟨i+1,by omega,rfl,by go_num,hb2,by rw[HNO.out,HD.out,HK.out];rfl⟩
   ·have hkb:(k != 2)=true:=by simp[hk]
    have HK:Aside ((k != 2)=true):=hkb;rw[hkb]
    go_wp2_with fail
    go_ret
    exact⟨i,rfl,by rw[HNO.out,HD.out,HK.out];simp,hb2⟩
  ·obtain rfl:i=L:=by omega
   go_wp2
   go_ret
   refine⟨-1,rfl,?_,hbr⟩;rw[HNO.out,List.drop_eq_nil_of_le (by rw[<- HL.out];exact Nat.le_refl _)]
   rfl
theorem containsFunc_any (ao:Option Addr) (cap:Nat) (l:List Vl) (w:World) (h:ValsAt w ao l) (hl:16*l.length<=140737488351232) :
  Calls Tryz.prog 124 #[.slice ao l.length cap,.func (.func 125) #[] #[]] w fun e w'=>e=.returned (.bool (noObj l))/\Below w.heap.size w w':=by
 have hI:=indexFunc_any ao cap l w h hl;obtain⟨L,hL⟩:∃ L,L=l.length:=⟨_,rfl⟩;rw[<- hL] at hI ⊢;have HI:Aside (Calls Tryz.prog 165 #[.slice ao L cap,.func (.func 125) #[] #[]] w _):=hI;clear hI hL
 go_enter Tryz.func124,Tryz.ntmps124
 go_wp2_with fail
 refine Calls.mono HI.out ?_;rintro e w' ⟨z,rfl,hz,hb⟩;have HZ:Aside (decide (0<=z)=noObj l):=hz;clear hz;go_wp2
 go_ret
 exact⟨ret_bool (by rw[<- HZ.out]),hb⟩
theorem wpList_append_run {P:Program} {w w':World} {ops:Array Oper} {rest:List Oper} {o:Oper} {a:Act} {Q:Exit->Act->World->Prop} (hgd:o.guard=none) (p q:Operand) (t1 t2:TypeId)
  (ho:o.op=.call { callee:=.builtin .append,args:=#[p,q],argTypes:=#[t1,t2] }) (v1 v2 r:Value) (hp:a.eval p=v1) (hq:a.eval q=v2)
  (hrun:(Builtin.append_ #[t1,t2] o.type #[v1,v2]).run P w=.ok r w') (h:wpList P ops Q rest (a.put o.dst r) w'):wpList P ops Q (o :: rest) a w:=by
 refine wpList_plain hgd fun K hK=>?_
 unfold Oper.wp execOp
 simp only[ho,resolve,invoke,builtin,Sem.run_bind,Sem.run_pure,Result.andThen_ok,List.map_toArray,List.map_cons,List.map_nil,hp,hq,hrun];exact hK _ _ h
theorem zeroCells_size (z:Array Value) (n:Nat):(Builtin.zeroCells z n).size=n*z.size:=by simp[Builtin.zeroCells]
theorem grow_any (n:Nat) (w:World) (hn:16*n<=281474976710656) :
  Calls Tryz.prog 122 #[.slice none 0 0,.int .i64 n] w fun e w'=>∃ v,e=.returned v/\SeqOwn fVl 2 66 w' w.heap.size v []/\Below w.heap.size w w':=by
 by_cases h0:n=0
 ·subst h0
  go_enter Tryz.func122,Tryz.ntmps122
  go_wp2
  go_ret
  exact⟨_,rfl,seqOwn_nil _ _,Below.refl _ _⟩
 ·obtain⟨i0,hi0,hzz⟩:=Option.map_eq_some_iff.1 (show(Tryz.prog.info? 66).map (fun i=>(i.zero,i.size,i.bytes))=some (some (.agg #[.int .i64 0,.int .i64 0]),2,16) by kernel_rfl)
  simp only[Prod.mk.injEq] at hzz;obtain⟨hz0,hz1,hz2⟩:=hzz;have hnz:(0:Int)<(n:Int):=by omega
  have hrun:=Go.Lib.run_append_nil_zeros (P:=Tryz.prog) w 54 3 54 66 i0 _ .i64 .i64 Tryz.underlying54 Tryz.underlying3 hi0 hz0 n (by omega) (by omega) (by omega) (by rw[hz2];omega);have hge:=grownCap_ge w n 0 66;have hle:=grownCap_le_maxLen w n 0 66 (by unfold maxLen;omega);have hown:SeqOwn fVl 2 66 (w.drew.alloc (.cells (Builtin.zeroCells (Value.cells (.agg #[.int .i64 0,.int .i64 0])) n++Builtin.zeroCells (Value.cells (.agg #[.int .i64 0,.int .i64 0])) (grownCap w n 0 66-n)) 66)) w.heap.size (.slice (some ⟨w.heap.size,0,none⟩) 0 (grownCap w n 0 66)) [] :=
   ⟨by simp,.inr ⟨w.heap.size,_,_,rfl,Nat.le_refl _,Deep.blk_alloc_new w.drew _,Nat.zero_le _,hle,by
    rw[Array.size_append,zeroCells_size,zeroCells_size]
    show n*2+(grownCap w n 0 66-n)*2=_
    omega,by simp⟩⟩
  have hbel:Below w.heap.size w (w.drew.alloc (.cells (Builtin.zeroCells (Value.cells (.agg #[.int .i64 0,.int .i64 0])) n++Builtin.zeroCells (Value.cells (.agg #[.int .i64 0,.int .i64 0])) (grownCap w n 0 66-n)) 66)):=(Below.refl _ _).drew.alloc (Nat.le_refl _) _;generalize w.drew.alloc (.cells (Builtin.zeroCells (Value.cells (.agg #[.int .i64 0,.int .i64 0])) n++Builtin.zeroCells (Value.cells (.agg #[.int .i64 0,.int .i64 0])) (grownCap w n 0 66-n)) 66)=W1 at *
  generalize grownCap w n 0 66=Cp at *;clear hi0 hz0 hz1 hz2
  go_enter Tryz.func122,Tryz.ntmps122
  have HR:Aside ((Builtin.append_ #[54,3] 54 #[.slice none 0 0,.int .i64 n]).run Tryz.prog w=.ok (.slice (some ⟨w.heap.size,0,none⟩) n Cp) W1):=hrun;clear hrun
  go_wp2_with (at_builtin;refine wpList_append_run rfl _ _ _ _ (by rfl) _ _ _ (by simp[Act.eval]) (by simp[Act.eval]) HR.out ?_)
  go_ret
  exact⟨_,rfl,hown,hbel⟩
theorem wpList_seqAll {α:Type} {f:α->List Value} {s:Nat} {e tS:TypeId} {bytes:Nat} {P:Program} (T:RowT P f s tS e bytes) {w:World} {base:Nat} {v:Value} {l:List α} {ops:Array Oper} {rest:List Oper} {o:Oper} {a:Act} {Q:Exit->Act->World->Prop} (hgd:o.guard=none) (p q:Operand)
  (ho:o.op=.call { callee:=.builtin .append,args:=#[p,q],argTypes:=#[tS,tS] }) (hp:a.eval p=v) (hO:SeqOwn f s e w base v l) (hb:base<=w.heap.size)
  (fs:List α) (fa:Option Addr) (fc:Nat) (hq:a.eval q=.slice fa fs.length fc) (hfs:SeqAt f s w fa fs) (hl:(l.length+fs.length)*bytes<=140737488355328) (hl2:l.length+fs.length<=maxLen)
  (h:∀ v' w',SeqOwn f s e w' base v' (l++fs)->Below base w w'->wpList P ops Q rest (a.put o.dst v') w') :
  wpList P ops Q (o :: rest) a w:=by
 by_cases hpos:0<fs.length
 ·refine wpList_seq T hgd p q ho hp hO hb fs fa fc hq hfs hpos hl hl2 ?_
  intro g cap w' hO' _ hb' _;exact h _ _ hO' hb'
 ·have he:fs=[]:=List.eq_nil_of_length_eq_zero (by omega)
  subst he;refine wpList_append_run hgd p q tS tS ho v (.slice fa 0 fc) v hp (by simpa using hq) (run_seq_zero T hO fa fc) ?_;exact h v w (by simpa using hO) (Below.refl _ _)
theorem concat_any (b:Nat) (ra ba:Option Addr) (rc bc:Nat) (regs box:List Vl) (w:World) (c0:w.cell? ⟨b,0,none⟩=some (.slice ra regs.length rc)) (c1:w.cell? ⟨b,1,none⟩=some (.slice ba box.length bc)) (hr:ValsAt w ra regs) (hb:ValsAt w ba box)
  (hrl:16*regs.length<=140737488351232) (hbl:box.length<=6) :
  Calls Tryz.prog 83 #[.slice (some ⟨b,0,none⟩) 2 2] w fun e w'=>∃ va vc,e=.returned (.slice va (regs.length+box.length) vc)/\ValsAt w' va (regs++box)/\Below w.heap.size w w':=by
 have hmx:maxLen=9223372036854775807:=rfl;have sr:=seqVl_of hr;have sb:=seqVl_of hb;have HS:Aside (SeqAt fVl 2 w ra regs/\SeqAt fVl 2 w ba box):=⟨sr,sb⟩;clear hr hb sr sb;obtain⟨R,hR⟩:∃ R,R=regs.length:=⟨_,rfl⟩;obtain⟨X,hX⟩:∃ X,X=box.length:=⟨_,rfl⟩;have HL:Aside (R=regs.length/\X=box.length):=⟨hR,hX⟩;rw[<- hR] at c0 hrl ⊢;rw[<- hX] at c1 hbl ⊢;clear hR hX
 go_enter Tryz.func83,Tryz.ntmps83
 go_wp2_with fail
 go_loopg [3,11] 2 (fun g s3 s11 wr=>∃ i n:Nat,i<=2/\g=2-i/\s11=.int .i64 i/\s3=.int .i64 n/\(i=0->n=0)/\(i=1->n=R)/\(i=2->n=R+X)/\wr=w)
 case atStart=>exact⟨0,0,by omega,rfl,rfl,rfl,fun _=>rfl,fun h=>by omega,fun h=>by omega,rfl⟩
 case round =>
  obtain⟨i,n,hi,rfl,rfl,rfl,h0,h1,h2,hw⟩:=hrel;replace hw:=hw.symm;subst hw
  by_cases hi2:i<2
  ·have hiz:(i:Int)<2:=by omega
   rcases (by omega:i=0\/i=1) with rfl | rfl
   ·obtain rfl:=h0 rfl
    go_wp2_with fail
    go_roundg (2-(0+1))
    case measure=>go_light;omega
    case rel=>go_light;exact⟨1,R,by omega,rfl,by go_num,by simp,fun h=>by omega,fun _=>rfl,fun h=>by omega,rfl⟩
   ·obtain rfl:=h1 rfl
    go_wp2_with fail
    go_roundg (2-(1+1))
    case measure=>go_light;omega
    case rel=>go_light;exact⟨2,n+X,by omega,rfl,by go_num,by simp,fun h=>by omega,fun h=>by omega,fun _=>rfl,rfl⟩
  ·obtain rfl:i=2:=by omega
   obtain rfl:=h2 rfl;clear h0 h1 h2
   go_wp2_with fail
   refine(grow_any (R+X) _ (by omega)).mono ?_;rintro e w1 ⟨v,rfl,hO,hb1⟩;have HO:Aside (SeqOwn fVl 2 66 w1 w.heap.size v []/\Below w.heap.size w w1):=⟨hO,hb1⟩;clear hO hb1;have hb1s:=HO.out.2.size
   go_wp2_with fail
   go_loopg [6,27] 2 (fun g s6 s27 wr=>∃ i:Nat,i<=2/\g=2-i/\s27=.int .i64 i/\SeqOwn fVl 2 66 wr w.heap.size s6 (if i=0 then [] else if i=1 then regs else regs++box)/\Below w.heap.size w wr)
   case atStart=>exact⟨0,by omega,rfl,rfl,HO.out.1,HO.out.2⟩
   case round =>
    obtain⟨i,hi,rfl,rfl,hO,hbr⟩:=hrel
    by_cases hi2:i<2
    ·have hiz:(i:Int)<2:=by omega
     rcases (by omega:i=0\/i=1) with rfl | rfl
     ·have hfs:=(HS.out.1).keeps (Keeps.below hbr)
      replace hO:SeqOwn fVl 2 66 wr w.heap.size u6 ([]):=hO;have hcc:=Keeps.below hbr _ _ c0;have hsz:=hbr.size
      go_wp2_with (at_builtin;refine wpList_seqAll Tryz.rowVl rfl _ _ (by rfl) (v:=u6) (by simp[Act.eval]) hO hsz regs ra rc (by simp[Act.eval];exact HL.out.1) hfs (by have:=HL.out;simp;omega) (by have:=HL.out;simp;omega) ?_;rintro v2 w2 hO2 hb2)
      go_roundg (2-(0+1))
      case measure=>go_light;omega
      case rel=>go_light;exact⟨1,by omega,rfl,by go_num,hO2,hbr.trans hb2⟩
     ·have hfs:=(HS.out.2).keeps (Keeps.below hbr)
      replace hO:SeqOwn fVl 2 66 wr w.heap.size u6 (regs):=hO;have hcc:=Keeps.below hbr _ _ c1;have hsz:=hbr.size
      go_wp2_with (at_builtin;refine wpList_seqAll Tryz.rowVl rfl _ _ (by rfl) (v:=u6) (by simp[Act.eval]) hO hsz box ba bc (by simp[Act.eval];exact HL.out.2) hfs (by have:=HL.out;rw[<- this.1,<- this.2];omega) (by have:=HL.out;rw[<- this.1,<- this.2];omega) ?_;rintro v2 w2 hO2 hb2)
      go_roundg (2-(1+1))
      case measure=>go_light;omega
      case rel=>go_light;exact⟨2,by omega,rfl,by go_num,hO2,hbr.trans hb2⟩
    ·obtain rfl:i=2:=by omega
     replace hO:SeqOwn fVl 2 66 wr w.heap.size u6 (regs++box):=hO;obtain⟨va,vc,rfl⟩:=hO.form;have HV:Aside (ValsAt wr va (regs++box)):=seqVl_to (SeqOwn.at (f:=fVl) (s:=2) (fun _=>rfl) hO);clear hO
     go_wp2_with fail
     go_ret
     exact⟨va,vc,by rw[HL.out.1,HL.out.2];simp,HV.out,hbr⟩
end
end Go.Proofs.YtihpkcccfgbcmaaGreatDoor
