/- ATake. -/
import Derived.Test.YtepifccbbmdfcaaGreatDoorCBASend
namespace Go.Proofs.YtepifccbbmdfcaaGreatDoor
set_option maxRecDepth 100000
set_option maxHeartbeats 8000000
section
open Go.RowKit
theorem Shp.put {V:Wd} (h:Shp V) {n:Int} {y:Ac} (hy:∀ x,V.acts[n.toNat]?=some x->y.regs.length=8/\y.box.length<=6):Shp (V.put n y):=fun i z hz=>by
 simp only[Wd.put] at hz;rw[List.getElem?_set] at hz
 split at hz
 ·rename_i e
  split at hz
  ·rename_i hl
   simp only[Option.some.injEq] at hz;subst hz;obtain⟨x,hx⟩:=at_some hl;exact hy x hx
  ·cases hz
 ·exact h i z hz
theorem put_regs (a:Ac) (r:Int) (v:Vl):(a.put r v).regs.length=a.regs.length:=by simp[Ac.put]
theorem keep1_len (l:List Vl):(keep1 l).length=l.length:=by cases l <;> simp[keep1]
theorem makeS_shp (a:Ac) (i:Ins):(makeS a i).1.regs.length=a.regs.length/\(makeS a i).1.box.length=a.box.length:=by
 have h1:=giveS_regs (a:=a) (n:=i.n);have h2:=giveS_box (a:=a) (n:=i.n)
 unfold makeS
 generalize giveS a i.n=G at *;obtain⟨y,o⟩:=G
 cases o with
 | none=>exact⟨h1,h2⟩
 | some v=>exact⟨(put_regs _ _ _).trans h1,h2⟩
theorem reckonS_shp (a:Ac) (i:Ins):(reckonS a i).1.regs.length=a.regs.length/\(reckonS a i).1.box.length=a.box.length:=by
 unfold reckonS
 split
 ·exact⟨rfl,rfl⟩
 ·split
  ·exact⟨rfl,rfl⟩
  ·exact⟨put_regs _ _ _,rfl⟩
theorem getsS_shp (a:Ac) (i:Ins) (k w:Int):(getsS a i k w).1.regs.length=a.regs.length/\(getsS a i k w).1.box.length=a.box.length:=by
 unfold getsS
 split
 ·exact⟨rfl,rfl⟩
 ·split
  ·exact⟨rfl,rfl⟩
  ·exact⟨put_regs _ _ _,rfl⟩
theorem putsS_shp (a:Ac) (i:Ins) (k:Int):(putsS a i k).1.regs.length=a.regs.length/\(putsS a i k).1.box.length=a.box.length:=by
 unfold putsS
 split
 ·exact⟨rfl,rfl⟩
 ·split
  ·exact⟨rfl,rfl⟩
  ·exact⟨rfl,rfl⟩
theorem aloneS_shp (a:Ac) (who:Nat) (i:Ins):(aloneS a who i).1.regs.length=a.regs.length/\(aloneS a who i).1.box.length=a.box.length:=by
 unfold aloneS
 by_cases h0:i.op=0
 ·rw[if_pos h0]
  by_cases hk:(a.reg 0).k≠2
  ·rw[if_pos hk];exact⟨rfl,rfl⟩
  ·rw[if_neg hk];exact⟨keep1_len _,rfl⟩
 rw[if_neg h0]
 by_cases h1:i.op=1
 ·rw[if_pos h1]
  exact⟨put_regs _ _ _,rfl⟩
 rw[if_neg h1]
 by_cases h2:i.op=2\/i.op=3\/i.op=4
 ·rw[if_pos h2]
  exact reckonS_shp a i
 rw[if_neg h2]
 by_cases h3:i.op=5
 ·rw[if_pos h3]
  exact⟨rfl,rfl⟩
 rw[if_neg h3]
 by_cases h4:i.op=7
 ·rw[if_pos h4]
  exact makeS_shp a i
 rw[if_neg h4]
 by_cases h5:i.op=8
 ·rw[if_pos h5]
  exact getsS_shp a i 1 2
 rw[if_neg h5]
 by_cases h6:i.op=10
 ·rw[if_pos h6]
  exact getsS_shp a i 2 3
 rw[if_neg h6]
 by_cases h7:i.op=9
 ·rw[if_pos h7]
  exact putsS_shp a i 1
 rw[if_neg h7]
 by_cases h8:i.op=11
 ·rw[if_pos h8]
  exact putsS_shp a i 2
 rw[if_neg h8]
 by_cases h9:i.op=12
 ·rw[if_pos h9]
  exact⟨put_regs _ _ _,rfl⟩
 rw[if_neg h9]
 by_cases h10:i.op=16
 ·rw[if_pos h10]
  exact⟨put_regs _ _ _,rfl⟩
 rw[if_neg h10]
 by_cases h11:i.op=18
 ·rw[if_pos h11]
  exact⟨put_regs _ _ _,rfl⟩
 rw[if_neg h11]
 by_cases h12:i.op=19
 ·rw[if_pos h12]
  exact⟨rfl,rfl⟩
 rw[if_neg h12];exact⟨rfl,rfl⟩
theorem put_at {V:Wd} {n m:Int} {y:Ac}:(V.put n y).at m=if n.toNat=m.toNat/\n.toNat<V.acts.length then y else V.at m:=by
 unfold Wd.at Wd.put
 simp only;rw[List.getElem?_set]
 by_cases e:n.toNat=m.toNat
 ·rw[if_pos e]
  by_cases hl:n.toNat<V.acts.length
  ·rw[if_pos hl,if_pos ⟨e,hl⟩]
   rfl
  ·rw[if_neg hl,if_neg (fun h=>hl h.2),<- e,List.getElem?_eq_none (by omega)]
 ·rw[if_neg e,if_neg (fun h=>e h.1)]
theorem Shp.arrive {V:Wd} (h:Shp V) {who:Nat} {tq:Int} {T:TrR} (h5:(V.at tq).box.length<6):Shp (arriveS V who tq T):=by
 unfold arriveS
 split
 ·exact h
 ·have h1:Shp (V.put who ((V.at who).heap T.M1 T.o1)):=h.put (fun x hx=>by rw[at_get hx];exact h _ x hx)
  refine h1.put (fun x hx=>⟨?_,?_⟩)
  ·rw[at_get hx]
   exact(h1 _ x hx).1
  ·show((((V.put who ((V.at who).heap T.M1 T.o1)).at tq).heap T.M2 T.o2).push T.v).box.length<=6
   have e:((V.put who ((V.at who).heap T.M1 T.o1)).at tq).box=(V.at tq).box:=by
    rw[put_at]
    split
    ·rename_i hc
     have:V.at tq=V.at (who:Int):=by
      unfold Wd.at
      rw[hc.1]
     rw[this]
     rfl
    ·rfl
   show(((V.put who ((V.at who).heap T.M1 T.o1)).at tq).box++[T.v]).length<=6
   rw[e,List.length_append];simp only[List.length_cons,List.length_nil];omega
theorem Shp.deliver {V:Wd} (h:Shp V) {who:Nat} {r tq:Int} {mv:Bool} (h5:(V.at tq).box.length<6):Shp (deliverS V who r tq mv):=by
 unfold deliverS
 split
 ·refine Shp.arrive (h.put (fun x hx=>?_)) ?_
  ·rw[at_get hx]
   exact⟨clearS_regs.trans (h _ x hx).1,by rw[clearS_box];exact(h _ x hx).2⟩
  ·rw[put_at]
   split
   ·rw[clearS_box];exact h5
   ·exact h5
 ·exact h.arrive h5
theorem Shp.gone {V:Wd} (h:Shp V) {who:Nat} {i:Ins}:Shp (goneS V who i):=by
 unfold goneS
 by_cases ht:takesS V ((V.at who).reg i.b).n=false
 ·rw[if_pos ht]
  exact h
 ·rw[if_neg ht]
  have h5:(V.at ((V.at who).reg i.b).n).box.length<6:=by
   simp only[takesS,Bool.not_eq_false,Bool.and_eq_true,decide_eq_true_eq] at ht;exact ht.2
  split
  ·rename_i hc
   refine h.put (fun x hx=>?_);rw[hc.2] at h5;rw[at_get hx] at h5 ⊢;exact⟨(h _ x hx).1,by simp[Ac.push];omega⟩
  ·exact h.deliver h5
theorem gone_len (V:Wd) (who:Nat) (i:Ins):(goneS V who i).acts.length=V.acts.length:=by
 unfold goneS
 split
 ·rfl
 ·split
  ·exact put_len _ _ _
  ·exact deliver_len _ _ _ _ _
theorem Shp.send {V:Wd} (h:Shp V) {who:Nat} {i:Ins}:Shp (sendS V who i).1/\(sendS V who i).1.acts.length=V.acts.length:=by
 unfold sendS
 split
 ·exact⟨h,rfl⟩
 ·split
  ·exact⟨h.gone.put (fun x hx=>by rw[at_get hx];exact⟨(put_regs _ _ _).trans (h.gone _ x hx).1,(h.gone _ x hx).2⟩),(put_len _ _ _).trans (gone_len _ _ _)⟩
  ·exact⟨h.gone,gone_len _ _ _⟩
theorem Shp.perform {V:Wd} (h:Shp V) {who:Nat} {i:Ins}:Shp (performS V who i).1/\V.acts.length<=(performS V who i).1.acts.length:=by
 unfold performS
 split
 ·exact⟨h.send.1,Nat.le_of_eq h.send.2.symm⟩
 split
 ·unfold reportS
  split
  ·exact⟨h,Nat.le_refl _⟩
  ·split
   ·exact⟨h,Nat.le_refl _⟩
   ·exact⟨h,Nat.le_refl _⟩
 split
 ·unfold spawnS
  split
  ·exact⟨h,Nat.le_refl _⟩
  split
  ·exact⟨h,Nat.le_refl _⟩
  split
  ·exact⟨h,Nat.le_refl _⟩
  ·have h1:=h.put (n:=who) (y:=(((V.at who).heap (transferS (V.at who).M (V.at who).obs ((V.at who).reg i.b) (V.at who).M [] true).M1 (transferS (V.at who).M (V.at who).obs ((V.at who).reg i.b) (V.at who).M [] true).o1).put i.b nilV).put i.a (numV V.acts.length)) (fun x hx=>by
    rw[at_get hx];exact⟨((put_regs _ _ _).trans (put_regs _ _ _)).trans (h _ x hx).1,(h _ x hx).2⟩)
   refine⟨fun j x hx=>?_,by simp[Wd.put]⟩;simp only at hx
   by_cases hj:j<(V.put who ((((V.at who).heap (transferS (V.at who).M (V.at who).obs ((V.at who).reg i.b) (V.at who).M [] true).M1 (transferS (V.at who).M (V.at who).obs ((V.at who).reg i.b) (V.at who).M [] true).o1).put i.b nilV).put i.a (numV V.acts.length))).acts.length
   ·rw[List.getElem?_append_left hj] at hx
    exact h1 j x hx
   ·rw[List.getElem?_append_right (by omega)] at hx
    have:=List.mem_of_getElem? hx;simp only[List.mem_singleton] at this
    subst this
    exact⟨rfl,by simp[beginS]⟩
 ·refine⟨h.put (fun x hx=>?_),by rw[put_len];exact Nat.le_refl _⟩
  rw[at_get hx];have:=aloneS_shp x who i;exact⟨this.1.trans (h _ x hx).1,by rw[this.2];exact(h _ x hx).2⟩
end
section
open Go.RowKit
theorem WdOwn.pcAt {w:World} {base Bw:Nat} {V:Wd} {av pv:Value} {fl:List Fa} {rs:List (List (Value × Ob))} (h:WdOwn w base Bw V av pv fl rs) {g nn c:Nat} (hav:av=.slice (some ⟨g,0,none⟩) nn c) {j:Nat} {x:Ac} (hx:V.acts[j]?=some x):w.cell? ⟨g,j*8+5,none⟩=some (.int .i64 x.pc):=by
 obtain⟨fa,r,g',c',R,hfa,hr,hA,hav2,hR,_,_,_,_,_,k5,_,_⟩:=h.cells hx;rw[hav] at hav2;simp only[Value.slice.injEq,Option.some.injEq,Addr.mk.injEq,and_true] at hav2;obtain⟨rfl,_,_⟩:=hav2;exact k5
theorem next_any (op a b n:Int) (w:World) {base Bw:Nat} {V:Wd} {av pv:Value} {fl:List Fa} {rs:List (List (Value × Ob))} (h:WdOwn w base Bw V av pv fl rs) {j:Nat} {x:Ac} (hx:V.acts[j]?=some x) {g nn c:Nat} (hav:av=.slice (some ⟨g,0,none⟩) nn c) (h8:x.regs.length=8) (ha:0<=a/\a<=7)
  (hpc:-1<=x.pc/\x.pc<1000000) (hn:-1099511627776<=n/\n<=1099511627776) :
  Calls Tryz.prog 75 #[.pointer (some ⟨g,j*8,none⟩),.agg #[.int .i64 op,.int .i64 a,.int .i64 b,.int .i64 n]] w fun e w'=>e=.returned (.int .i64 (nextS x ⟨op,a,b,n⟩))/\Below w.heap.size w w':=by
 obtain⟨qa,va,rfl,hqa,hva,era⟩:=reg_of ha h8;obtain⟨N0,k1,b1,s1⟩:=boxes1 w (.cells #[.int .i64 op,.int .i64 qa,.int .i64 b,.int .i64 n] 43);have h1:=h.below b1;obtain⟨R,fa,r,rc,hfa,hr,hra,k4,kq,kf,hRl,_⟩:=h1.regAt hav hx h8;obtain⟨q1,q2⟩:=kq qa _ hva;have k5:=h1.pcAt hav hx;have e0:(w.alloc (.cells #[.int .i64 op,.int .i64 qa,.int .i64 b,.int .i64 n] 43)).cell? ⟨w.heap.size,0,none⟩=some (.int .i64 op):=cell_blk N0 0
 have e1:(w.alloc (.cells #[.int .i64 op,.int .i64 qa,.int .i64 b,.int .i64 n] 43)).cell? ⟨w.heap.size,1,none⟩=some (.int .i64 qa):=cell_blk N0 1;have e3:(w.alloc (.cells #[.int .i64 op,.int .i64 qa,.int .i64 b,.int .i64 n] 43)).cell? ⟨w.heap.size,3,none⟩=some (.int .i64 n):=cell_blk N0 3;have HNX:Aside (nextS x ⟨op,qa,b,n⟩=if op=0 then -1 else if op=6\/(op=5/\va.k=1/\va.n=0) then x.pc+n else x.pc+1):=by
  show nextS x ⟨op,qa,b,n⟩=_
  simp only[nextS,era]
 generalize nextS x ⟨op,qa,b,n⟩=RN at *;generalize x.pc=pc at *;have hw1:IntKind.i64.wrap (pc+n)=pc+n:=by rw[IntKind.wrap_i64];omega
 have hw2:IntKind.i64.wrap (pc+1)=pc+1:=by rw[IntKind.wrap_i64];omega
 obtain⟨xk,xn⟩:=va;simp only at q1 q2 HNX;have HB:Aside (Below w.heap.size w (w.alloc (.cells #[.int .i64 op,.int .i64 qa,.int .i64 b,.int .i64 n] 43))):=b1;clear h h1 kq kf hav N0 b1 k1 s1 era hva;have hza:(qa:Int)<8:=by omega
 by_cases h0:op=0
 ·have HR:Aside (RN=-1):=by show RN=-1;rw[HNX.out,if_pos h0]
  clear HNX;subst h0
  go_enter Tryz.func75,Tryz.ntmps75
  go_wp2
  go_ret
  exact⟨ret_num HR.out.symm,HB.out⟩
 have z0:(op == 0)=false:=by simp[h0]
 have hrest:∀ z:Int,RN=z->RN=z:=fun _ h=>h
 by_cases h6:op=6
 ·have HR:Aside (RN=pc+n):=by show RN=_;rw[HNX.out,if_neg h0,if_pos (.inl h6)]
  clear HNX;subst h6
  go_enter Tryz.func75,Tryz.ntmps75
  go_upto_region 5 with fail
  generalize w.alloc (.cells #[.int .i64 6,.int .i64 qa,.int .i64 b,.int .i64 n] 43)=W at *
  go_quiet (fail)
  go_wp2
  go_ret
  exact⟨ret_num HR.out.symm,below_drewN HB.out _⟩
 have z6:(op == 6)=false:=by simp[h6]
 by_cases h5:op=5
 ·subst h5
  go_enter Tryz.func75,Tryz.ntmps75
  go_upto_region 4 with fail
  generalize w.alloc (.cells #[.int .i64 5,.int .i64 qa,.int .i64 b,.int .i64 n] 43)=W at *;have hSof:∀ w',Below W.heap.size W w'->(w'.cell? ⟨w.heap.size,0,none⟩=some (.int .i64 5)/\w'.cell? ⟨w.heap.size,1,none⟩=some (.int .i64 qa)/\w'.cell? ⟨g,j*8+4,none⟩=some (.slice (some ⟨R,0,none⟩) 8 rc)/\w'.cell? ⟨R,qa*2,none⟩=some (.int .i64 xk)/\w'.cell? ⟨R,qa*2+1,none⟩=some (.int .i64 xn)):=fun w' hb'=>⟨Keeps.below hb' _ _ e0,Keeps.below hb' _ _ e1,Keeps.below hb' _ _ k4,Keeps.below hb' _ _ q1,Keeps.below hb' _ _ q2⟩
  have hB:Below W.heap.size W W.drew:=(Below.refl _ _).drew;refine wp_region_need (fun _=>true) (fun w'=>w'.cell? ⟨w.heap.size,0,none⟩=some (.int .i64 5)/\w'.cell? ⟨w.heap.size,1,none⟩=some (.int .i64 qa)/\w'.cell? ⟨g,j*8+4,none⟩=some (.slice (some ⟨R,0,none⟩) 8 rc)/\w'.cell? ⟨R,qa*2,none⟩=some (.int .i64 xk)/\w'.cell? ⟨R,qa*2+1,none⟩=some (.int .i64 xn)) (by kernel_rfl) (hSof _ hB) (fun hS=>?_);generalize W.drew=wc0 at hS hB ⊢
  refine tkN 0 hS ?_;refine tkN 1 hS ?_;refine tkN 2 hS ?_;refine tkN 3 hS ?_;refine tkN 4 hS ?_;refine tkN 5 hS ?_;refine tkN 6 hS ?_;refine tkN 7 hS ?_;refine tkN 8 hS ?_;refine tkN 9 hS ?_;refine tkN 10 hS ?_;refine tkN 11 hS ?_;refine stN 12 (fun K hK=>?_);go_simp;refine(num_any _ _).mono ?_;rintro e wn ⟨rfl,hbn⟩;have hBn:=hB.trans (hbn.mono hB.size);refine otN hK ((hSof _ hBn)) ?_;clear hK;replace hS:=(hSof _ hBn)
  clear hB;replace k5:=Keeps.below hBn _ _ k5;replace e3:=Keeps.below hBn _ _ e3;replace HB:Aside _:=HB.out.trans (hBn.mono HB.out.size)
  by_cases hz:xk=1/\xn=0
  ·obtain⟨rfl,rfl⟩:=hz
   have HR:Aside (RN=pc+n):=by show RN=_;rw[HNX.out,if_neg h0,if_pos (.inr ⟨rfl,rfl,rfl⟩)]
   clear HNX;refine tkN 13 hS ?_;refine tkN 14 hS ?_;refine tkN 15 hS ?_;refine dnN ?_
   go_upto_region 5 with fail
   go_quiet (fail)
   go_wp2
   go_ret
   exact⟨ret_num HR.out.symm,below_drewN HB.out _⟩
  ·have HR:Aside (RN=pc+1):=by show RN=_;rw[HNX.out,if_neg h0,if_neg (by simp;exact fun h1=>fun h2=>hz ⟨h1,h2⟩)]
   clear HNX
   by_cases hk:xk=1
   ·have hk2:¬ xn=0:=fun h=>hz ⟨hk,h⟩
    clear hz;refine tkN 13 hS ?_;refine tkN 14 hS ?_;refine tkN 15 hS ?_;refine dnN ?_;go_wp2
    go_ret
    exact⟨ret_num HR.out.symm,HB.out⟩
   ·clear hz
    refine tkN 13 hS ?_;refine tkN 14 hS ?_;refine tkN 15 hS ?_;refine dnN ?_;go_wp2
    go_ret
    exact⟨ret_num HR.out.symm,HB.out⟩
 have z5:(op == 5)=false:=by simp[h5]
 have HR:Aside (RN=pc+1):=by show RN=_;rw[HNX.out,if_neg h0,if_neg (by simp[h6,h5])]
 clear HNX
 go_enter Tryz.func75,Tryz.ntmps75
 go_upto_region 4 with fail
 generalize w.alloc (.cells #[.int .i64 op,.int .i64 qa,.int .i64 b,.int .i64 n] 43)=W at *;have hSof:∀ w',Below W.heap.size W w'->(w'.cell? ⟨w.heap.size,0,none⟩=some (.int .i64 op)/\w'.cell? ⟨w.heap.size,1,none⟩=some (.int .i64 qa)/\w'.cell? ⟨g,j*8+4,none⟩=some (.slice (some ⟨R,0,none⟩) 8 rc)/\w'.cell? ⟨R,qa*2,none⟩=some (.int .i64 xk)/\w'.cell? ⟨R,qa*2+1,none⟩=some (.int .i64 xn)):=fun w' hb'=>⟨Keeps.below hb' _ _ e0,Keeps.below hb' _ _ e1,Keeps.below hb' _ _ k4,Keeps.below hb' _ _ q1,Keeps.below hb' _ _ q2⟩
 have hB:Below W.heap.size W W.drew:=(Below.refl _ _).drew;refine wp_region_need (fun _=>true) (fun w'=>w'.cell? ⟨w.heap.size,0,none⟩=some (.int .i64 op)/\w'.cell? ⟨w.heap.size,1,none⟩=some (.int .i64 qa)/\w'.cell? ⟨g,j*8+4,none⟩=some (.slice (some ⟨R,0,none⟩) 8 rc)/\w'.cell? ⟨R,qa*2,none⟩=some (.int .i64 xk)/\w'.cell? ⟨R,qa*2+1,none⟩=some (.int .i64 xn)) (by kernel_rfl) (hSof _ hB) (fun hS=>?_);generalize W.drew=wc0 at hS hB ⊢
 refine tkN 0 hS ?_;refine tkN 1 hS ?_;refine tkN 2 hS ?_;refine tkN 3 hS ?_;refine skN 4 hS ?_;refine skN 5 hS ?_;refine skN 6 hS ?_;refine skN 7 hS ?_;refine skN 8 hS ?_;refine skN 9 hS ?_;refine skN 10 hS ?_;refine skN 11 hS ?_;refine skN 12 hS ?_;refine skN 13 hS ?_;refine tkN 14 hS ?_;refine tkN 15 hS ?_;refine dnN ?_;replace k5:=Keeps.below hB _ _ k5;replace HB:Aside _:=HB.out.trans (hB.mono HB.out.size)
 go_wp2
 go_ret
 exact⟨ret_num HR.out.symm,HB.out⟩
end
section
open Go.RowKit
def setAll:List Value->Nat->List Value->List Value
 | xs,_,[]=>xs
 | xs,o,u :: r=>setAll (xs.set o u) (o+1) r
theorem setAll_eq:∀ (vs xs:List Value) (o:Nat),o+vs.length<=xs.length->setAll xs o vs=xs.take o++vs++xs.drop (o+vs.length)
 | [],xs,o,_=>by simp[setAll]
 | u :: r,xs,o,h=>by
  simp only[List.length_cons] at h;rw[setAll,setAll_eq r (xs.set o u) (o+1) (by rw[List.length_set];omega)];have h1:(xs.set o u).take (o+1)=xs.take o++[u]:=by
   rw[List.take_add_one,List.take_set,List.getElem?_set,if_pos rfl,if_pos (by omega)];rw[List.set_eq_of_length_le (by rw[List.length_take];omega)]
   rfl
  have h2:(xs.set o u).drop (o+1+r.length)=xs.drop (o+(u :: r).length):=by
   rw[List.drop_set_of_lt (by omega)];simp only[List.length_cons]
   congr 1
   omega
  rw[h1,h2];simp
theorem ownsRow_setCells {base g:Nat} {e:TypeId} {s n:Nat} {v:Value} (hg:v.ownBlock=some g):∀ (vs xs:List Value) (o:Nat) (w:World),w.ownsRow base e s v n xs->(w.setCells g o vs).ownsRow base e s v n (setAll xs o vs)
 | [],_,_,_,h=>h
 | u :: r,xs,o,_,h=>ownsRow_setCells hg r (xs.set o u) (o+1) _ (ownsRow_set h hg o u)
theorem wrote_setCells (g:Nat):∀ (vs:List Value) (o:Nat) (w:World),Wrote w (w.setCells g o vs) [g]
 | [],_,w=>Wrote.refl w _
 | u :: r,o,w=>(show Wrote w (w.setCell ⟨g,o,none⟩ u) [g] from ⟨rfl,rfl,rfl,by simp[World.setCell],fun b hb=>Deep.blk_setCell_other _ ⟨g,o,none⟩ _ _ (by simpa using hb)⟩).trans (wrote_setCells g r (o+1) _)
theorem SeqOwn.cut {w:World} {base g n c:Nat} {l:List Vl} (h:SeqOwn fVl 2 66 w base (.slice (some ⟨g,0,none⟩) n c) l) (k:Nat) (hk:k<=l.length):SeqOwn fVl 2 66 w base (.slice (some ⟨g,0,none⟩) k c) (l.take k):=by
 rcases h.2 with⟨hv,_⟩ | ⟨g',cap,cur,hv,hb,hg,h1,h2,h3,h4⟩
 ·cases hv
 simp only[Value.slice.injEq,Option.some.injEq,Addr.mk.injEq,and_true] at hv;obtain⟨rfl,rfl,rfl⟩:=hv;have hl:(l.take k).length=k:=by rw[List.length_take];omega
 refine⟨?_,.inr ⟨g,c,cur,by rw[hl],hb,hg,by omega,h2,h3,?_⟩⟩
 ·rw[flat_len (f:=fVl) (s:=2) (fun _=>rfl)]
 ·rw[flat_take (f:=fVl) (s:=2) (fun _=>rfl),<- h4,List.take_take,hl,Nat.min_eq_left (by omega)]
theorem delete1_any (v:Vl) (l:List Vl) (B c:Nat) (w:World) {base:Nat} (h:SeqOwn fVl 2 66 w base (.slice (some ⟨B,0,none⟩) (l.length+1) c) (v :: l)) :
  Calls Tryz.prog 106 #[.slice (some ⟨B,0,none⟩) (l.length+1) c,.int .i64 0,.int .i64 1] w fun e w'=>e=.returned (.slice (some ⟨B,0,none⟩) l.length c)/\Wrote w w' [B]/\SeqOwn fVl 2 66 w' base (.slice (some ⟨B,0,none⟩) l.length c) l:=by
 have hcap:l.length+1<=c:=by
  rcases h.2 with⟨hv,_⟩ | ⟨g',cap,cur,hv,_,_,h1,_⟩
  ·cases hv
  simp only[Value.slice.injEq] at hv;obtain⟨_,_,rfl⟩:=hv
  simpa using h1
 have hmax:c<=maxLen:=by
  rcases h.2 with⟨hv,_⟩ | ⟨g',cap,cur,hv,_,_,_,h2,_⟩
  ·cases hv
  simp only[Value.slice.injEq] at hv;obtain⟨_,_,rfl⟩:=hv;exact h2
 have hd:SeqOwn fVl 2 66 w.drew base (.slice (some ⟨B,0,none⟩) (l.length+1) c) (v :: l):=h;have hnl:(l.flatMap fVl).length=l.length*2:=flat_len (f:=fVl) (s:=2) (fun _=>rfl) l;have hxs:((v :: l).flatMap fVl).length=(l.length+1)*2:=by rw[flat_len (f:=fVl) (s:=2) (fun _=>rfl)];rfl
 have h1:=ownsRow_setCells (g:=B) rfl (l.flatMap fVl) _ 0 _ hd;rw[setAll_eq _ _ _ (by rw[hnl,hxs];omega)] at h1;have hlast:∃ z:Vl,((v :: l).flatMap fVl).take 0++l.flatMap fVl++((v :: l).flatMap fVl).drop (0+(l.flatMap fVl).length)=(l++[z]).flatMap fVl:=by
  have e:((v :: l).flatMap fVl).drop (0+(l.flatMap fVl).length)=((v :: l).drop l.length).flatMap fVl:=by
   rw[flat_drop (f:=fVl) (s:=2) (fun _=>rfl),hnl,Nat.zero_add]
  obtain⟨z,hz⟩:∃ z,(v :: l).drop l.length=[z]:=by
   have:((v :: l).drop l.length).length=1:=by simp
   exact List.length_eq_one_iff.1 this
  exact⟨z,by rw[e,hz];simp⟩
 obtain⟨z,hz⟩:=hlast;rw[hz] at h1;have h1':SeqOwn fVl 2 66 (w.drew.setCells B 0 (l.flatMap fVl)) base (.slice (some ⟨B,0,none⟩) (l.length+1) c) (l++[z]):=by
  unfold SeqOwn
  rw[show(l++[z]).length=(v :: l).length by simp];exact h1
 have hw1:=wrote_setCells B (l.flatMap fVl) 0 w.drew;obtain⟨W2,hrun,hw2,hown⟩:=clear_own h1' l.length 0 (c-l.length) (by simp) 0;have hfin:=hown.cut l.length (by simp);have e3:((l++[z]).take l.length++List.replicate (0+1) nilV++(l++[z]).drop (l.length+(0+1))).take l.length=l:=by simp
 rw[e3] at hfin;have HFIN:Aside (Wrote w W2 [B]/\SeqOwn fVl 2 66 W2 base (.slice (some ⟨B,0,none⟩) l.length c) l):=⟨(show Wrote w w.drew [B] from ⟨rfl,rfl,rfl,rfl,fun _ _=>rfl⟩).trans (hw1.trans hw2),hfin⟩;obtain⟨news,hnews⟩:∃ news,news=l.flatMap fVl:=⟨_,rfl⟩;obtain⟨A,hAeq,hsrc⟩:∃ A:Addr,(if c=1 then (some ⟨B,0,none⟩:Option Addr) else some ⟨B,2,none⟩)=some A/\Hid (∀ t u,news[t]?=some u->w.drew.cell? (A.add t)=some u):=by
  by_cases hc:c=1
  ·have h0:l=[]:=List.eq_nil_of_length_eq_zero (by omega)
   exact⟨⟨B,0,none⟩,by rw[if_pos hc],fun t u hu=>by rw[hnews,h0] at hu;simp at hu⟩
  ·refine⟨⟨B,2,none⟩,by rw[if_neg hc],fun t u hu=>?_⟩
   have:=ownsRow_cell hd rfl (j:=2+t) (u:=u) (by rw[List.flatMap_cons,List.getElem?_append_right (by simp[fVl])];simpa[fVl,<- hnews] using hu);rw[Addr.add_lit];exact this
 have s1:Hid (news.length=l.length*2):=by rw[hnews];exact hnl
 have s2:Hid (∀ u∈news,u.oneCell'=true):=by
  intro u hu;rw[hnews] at hu;simp only[List.mem_flatMap] at hu;obtain⟨v,hv,hu⟩:=hu;simp[fVl] at hu
  rcases hu with rfl | rfl <;> rfl
 have s3:Hid (∀ t,t<news.length->(w.drew.cell? ⟨B,0+0*2+t,none⟩).isSome=true/\w.drew.frozen? ⟨B,0+0*2+t,none⟩=false):=by
  intro t ht;rw[s1.out] at ht;have ht2:t<((v :: l).flatMap fVl).length:=by rw[hxs];omega
  obtain⟨u,hu⟩:=at_some ht2;have:=ownsRow_cell hd rfl hu;simp only[Nat.zero_mul,Nat.zero_add];exact⟨by rw[this];rfl,ownsRow_frozen hd rfl t⟩
 rw[<- hnews] at hrun;obtain⟨W1,hW1⟩:∃ W1,W1=w.drew.setCells B 0 news:=⟨_,rfl⟩;rw[<- hW1] at hrun;have hW:Hid (W1=w.drew.setCells B (0+0*2) news):=hW1;have hrun':(Builtin.clear_ #[48] 0 #[.slice (some ⟨B,l.length*2,none⟩) 1 (c-l.length)]).run Tryz.prog W1=.ok (.tuple #[]) W2:=hrun;obtain⟨i0,hi0,hz1⟩:∃ i0,Tryz.prog.info? 66=some i0/\i0.size=2:=by
  have hi:(Tryz.prog.info? 66).map (·.size)=some 2:=by kernel_rfl
  obtain⟨i0,q1,q2⟩:=Option.map_eq_some_iff.1 hi;exact⟨i0,q1,q2⟩
 generalize l.length=L at *;have hc1:¬ c=L:=by omega
 have hz2:(1:Int)<=(L:Int)+1:=by omega
 clear hfin hown hw2 hw1 h1 h1' hz hd h hnl hxs e3 hrun hW1 hnews
 go_enter Tryz.func106,Tryz.ntmps106
 go_upto_region 5 with fail
 go_region_law (refine step_append_room rfl (.tmp 22) (.tmp 25) 48 rfl 66 i0 2 Tryz.underlying48 hi0 hz1 B 0 0 c (by simp[Act.eval,Act.put]) A L (c-1) news (by simp[Act.eval,Act.put]) s1.out hsrc.out s2.out (by omega) s3.out ?_;rw[<- hW.out])
 go_wp2
 go_ret
 exact⟨rfl,HFIN.out.1,HFIN.out.2⟩
end
section
open Go.RowKit
theorem WdOwn.popBox {w w':World} {base Bw:Nat} {V:Wd} {av pv:Value} {fl:List Fa} {rs:List (List (Value × Ob))} {j:Nat} {fa:Fa} {r:List (Value × Ob)} {x:Ac} (h:WdOwn w base Bw V av pv fl rs) (hfa:fl[j]?=some fa) (hr:rs[j]?=some r) (hx:V.acts[j]?=some x) {g nn c:Nat} (hav:av=.slice (some ⟨g,0,none⟩) nn c) {B bc:Nat} {l:List Vl}
  (hba:fa.ba=some ⟨B,0,none⟩) (hwr:Wrote w w' [B]) (hown:SeqOwn fVl 2 66 w' base (.slice (some ⟨B,0,none⟩) l.length bc) l) :
  ∃ fl' rs',WdOwn (w'.setCell ⟨g,j*8+6,none⟩ (.slice (some ⟨B,0,none⟩) l.length bc)) base Bw { V with acts:=V.acts.set j { x with box:=l } } av pv fl' rs'/\Moved w (w'.setCell ⟨g,j*8+6,none⟩ (.slice (some ⟨B,0,none⟩) l.length bc)) (wdFoot Bw av pv fl rs) (wdFoot Bw av pv fl' rs'):=by
 have e:(Value.slice fa.ba fa.bn fa.bc).ownBlock=some B:=by rw[hba];rfl
 exact⟨_,_,h.pushBox hfa hr hx hav (w':=w') (by rw[e];exact⟨hwr.os,hwr.tape,hwr.output,Nat.le_of_eq hwr.size.symm,fun k _ hk=>hwr.other k (by simp;exact fun e=>hk (by rw[e]))⟩) hown rfl (.inl e)⟩
theorem takeMessage_any (w:World) {base Bw:Nat} {V:Wd} {av pv:Value} {fl:List Fa} {rs:List (List (Value × Ob))} (h:WdOwn w base Bw V av pv fl rs) {j:Nat} {x:Ac} (hx:V.acts[j]?=some x) {g nn c:Nat} (hav:av=.slice (some ⟨g,0,none⟩) nn c) (h8:x.regs.length=8) :
  Calls Tryz.prog 74 #[.pointer (some ⟨g,j*8,none⟩)] w fun e w'=>e=.returned (.tuple #[])/\∃ fl' rs',WdOwn w' base Bw { V with acts:=V.acts.set j (takeS x) } av pv fl' rs'/\Moved w w' (wdFoot Bw av pv fl rs) (wdFoot Bw av pv fl' rs'):=by
 obtain⟨fa,r,hfa,hr,hA,k0,k1,k2,k3,k4,k5,k6,k7⟩:=h.cellsAt hav hx;have HAV:Aside (av=.slice (some ⟨g,0,none⟩) nn c):=hav;have HW:Aside (WdOwn w base Bw V av pv fl rs):=h;clear k0 k1 k2 k3 k5 k7
 cases hbx:x.box with
 | nil =>
  have HT:Aside (takeS x=x):=by show takeS x=x;unfold takeS;rw[hbx]
  rw[HT.out];rw[hbx] at k6;clear h hav hA k4
  go_enter Tryz.func74,Tryz.ntmps74
  go_wp2
  exact bodyPost_ret (v:=.tuple #[]) (by simp[results,Tryz.results74,go_sem]) rfl ⟨rfl,_,_,HW.out.same hx (Below.refl _ _),Moved.of_below (Below.refl _ _)⟩
 | cons v l =>
  obtain⟨vk,vn⟩:=v;have HT:Aside (takeS x={ (x.put 1 ⟨vk,vn⟩) with box:=l,pc:=0 }):=by show takeS x=_;unfold takeS;rw[hbx]
  rw[HT.out];have hB0:=hA.box;rw[hA.bn,hbx] at hB0;obtain⟨B,bc,eB⟩:∃ B bc,(Value.slice fa.ba (l.length+1) fa.bc)=.slice (some ⟨B,0,none⟩) (l.length+1) bc:=by
   rcases ownsRow_form hB0 with⟨_,h0⟩ | ⟨B,bc,e,_⟩
   ·simp at h0
   ·exact⟨B,bc,e⟩
  simp only[Value.slice.injEq] at eB;obtain⟨hba,_,hbc⟩:=eB;rw[hbx] at k6;rw[hba,hbc] at k6 hB0;have b0:=ownsRow_cell hB0 rfl (j:=0) (u:=.int .i64 vk) rfl;have b1:=ownsRow_cell hB0 rfl (j:=1) (u:=.int .i64 vn) rfl;obtain⟨R,fa2,r2,rc,hfa2,hr2,hR1,k4',kq,kf,hRl,_,hrc⟩:=h.regAt hav hx h8;rw[hfa] at hfa2;rw[hr] at hr2;simp only[Option.some.injEq] at hfa2 hr2;subst hfa2 hr2;obtain⟨v1,hv1⟩:=at_some (l:=x.regs) (i:=1) (by omega)
  obtain⟨q1,q2⟩:=kq 1 _ hv1;simp only[Nat.one_mul] at q1 q2;have hlz:((l.length:Int)+1 == 0)=false:=by simp;omega
  simp only[List.length_cons] at k6;have hS1:=fun w' (hb:Below w.heap.size w w')=>(h.below hb).setReg hfa hr hx hR1 (q:=1) (by omega) ⟨vk,vn⟩
  have hBR:B≠R:=fun e=>by
   have hn1:=List.nodup_append.1 (h.apart1 j fa r hfa hr).1;have hn2:=List.nodup_append.1 hn1.2.1;exact hn2.2.2 R (by rw[mem_vB,hR1];rfl) B (by rw[mem_vB,hba];rfl) e.symm
  have hgl:g<w.heap.size:=(World.ownsRow.lt h.acts g (by rw[hav];rfl)).2;clear h hav hA kq k4
  go_enter Tryz.func74,Tryz.ntmps74
  go_upto_region 1 with fail
  have hSof:∀ w',Below w.heap.size w w'->(w'.cell? ⟨g,j*8+4,none⟩=some (.slice (some ⟨R,0,none⟩) 8 rc)/\w'.cell? ⟨g,j*8+6,none⟩=some (.slice (some ⟨B,0,none⟩) (l.length+1) bc)/\w'.cell? ⟨B,0,none⟩=some (.int .i64 vk)/\w'.cell? ⟨B,1,none⟩=some (.int .i64 vn)):=fun w' hb'=>⟨Keeps.below hb' _ _ k4',Keeps.below hb' _ _ k6,Keeps.below hb' _ _ b0,Keeps.below hb' _ _ b1⟩
  have hBd:Below w.heap.size w w.drew:=(Below.refl _ _).drew;refine wp_region_need (fun j=>j != 11) (fun w'=>w'.cell? ⟨g,j*8+4,none⟩=some (.slice (some ⟨R,0,none⟩) 8 rc)/\w'.cell? ⟨g,j*8+6,none⟩=some (.slice (some ⟨B,0,none⟩) (l.length+1) bc)/\w'.cell? ⟨B,0,none⟩=some (.int .i64 vk)/\w'.cell? ⟨B,1,none⟩=some (.int .i64 vn)) (by kernel_rfl) (hSof _ hBd) (fun hS=>?_);generalize w.drew=wn at hS hBd ⊢
  replace q1:=Keeps.below hBd _ _ q1;replace q2:=Keeps.below hBd _ _ q2;have kf':∀ i,wn.frozen? ⟨R,i,none⟩=false:=fun i=>(hBd.frozen hRl).trans (kf i)
  refine tkN 0 hS ?_;refine tkN 1 hS ?_;refine tkN 2 hS ?_;refine tkN 3 hS ?_;refine tkN 4 hS ?_;refine tkN 5 hS ?_;refine tkN 6 hS ?_;refine tkN 7 hS ?_;refine tkN 8 hS ?_;refine tkN 9 hS ?_;refine tkN 10 hS ?_;refine stN 11 (fun K hK=>?_);go_simp;refine laN hK ?_;clear hK;have z1:WdOwn ((wn.setCell ⟨R,2,none⟩ (.int .i64 vk)).setCell ⟨R,3,none⟩ (.int .i64 vn)) base Bw { V with acts:=V.acts.set j { x with regs:=x.regs.set 1 ⟨vk,vn⟩ } } av pv fl rs:=(hS1 wn hBd).1
  have zM:Moved w ((wn.setCell ⟨R,2,none⟩ (.int .i64 vk)).setCell ⟨R,3,none⟩ (.int .i64 vn)) (wdFoot Bw av pv fl rs) (wdFoot Bw av pv fl rs):=(Moved.of_below hBd).trans (hS1 wn hBd).2;clear hS hS1 hSof q1 q2 kf' b0 b1 k6 k4' kf hBd;generalize (wn.setCell ⟨R,2,none⟩ (.int .i64 vk)).setCell ⟨R,3,none⟩ (.int .i64 vn)=W1 at *;have x1:=set_at hx { x with regs:=x.regs.set 1 ⟨vk,vn⟩ };have hA1:=z1.each j fa r _ hfa hr x1
  have k6:=z1.cell hfa HAV.out (k:=6) rfl;have k5:=z1.cell hfa HAV.out (k:=5) rfl;have hbn:fa.bn=l.length+1:=by rw[hA1.bn];simp[hbx]
  rw[hbn,hba,hbc] at k6;have hB1:=hA1.box;rw[hbn,hba,hbc] at hB1;simp only[hbx] at hB1;have hfz:=z1.fz HAV.out;have hgB:g≠B:=fun e=>(z1.apart1 j fa r hfa hr).2 B (List.mem_append_right _ (List.mem_append_right _ (by rw[mem_vB,hba];rfl))) (by rw[<- e];simp[mem_vB,HAV.out,Value.ownBlock])
  go_wp2_with fail
  refine(delete1_any ⟨vk,vn⟩ l B bc W1 hB1).mono ?_;rintro e W2 ⟨rfl,hwr,hown⟩;have hgk:W2.heap[g]?=W1.heap[g]?:=hwr.other g (by simpa using hgB);replace k6:=(World.cell?_of_block (a:=⟨g,j*8+6,none⟩) hgk).trans k6;replace k5:=(World.cell?_of_block (a:=⟨g,j*8+5,none⟩) hgk).trans k5;replace hfz:∀ i,W2.frozen? ⟨g,i,none⟩=false:=fun i=>by
   have:=hfz i;simp only[World.frozen?,hgk] at this ⊢
   exact this
  obtain⟨fl2,rs2,z2,zM2⟩:=z1.popBox hfa hr x1 HAV.out hba hwr hown;obtain⟨fl3,rs3,z3,zM3⟩:=z2.setPc (set_at x1 _) HAV.out 0;have zM4:=(zM.trans zM2).trans zM3;simp only[List.set_set] at z3;clear z1 z2 zM zM2 zM3 hA1 hB1 x1 hown hwr;go_wp2
  go_end0
  exact⟨rfl,_,_,z3,zM4⟩
end
end Go.Proofs.YtepifccbbmdfcaaGreatDoor
