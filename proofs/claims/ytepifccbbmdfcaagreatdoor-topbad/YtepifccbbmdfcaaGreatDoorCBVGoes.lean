/- VGoes. -/
import Derived.ChangeKeysEq
import Derived.Test.YtepifccbbmdfcaaGreatDoorCBVMayDo
namespace Go.Proofs.YtepifccbbmdfcaaGreatDoor
set_option maxRecDepth 100000
set_option maxHeartbeats 8000000
section
open Go.RowKit
abbrev ptV (c:Bool) (k:List Int):Value:=.agg #[.bool c,.int .i64 (vAt k 0),.int .i64 (vAt k 1),.int .i64 (vAt k 2),.int .i64 (vAt k 3),.int .i64 (vAt k 4),.int .i64 (vAt k 5),.int .i64 (vAt k 6),.int .i64 (vAt k 7)]
abbrev ptA (c:Bool) (k:List Int):Array Value:=#[.bool c,.int .i64 (vAt k 0),.int .i64 (vAt k 1),.int .i64 (vAt k 2),.int .i64 (vAt k 3),.int .i64 (vAt k 4),.int .i64 (vAt k 5),.int .i64 (vAt k 6),.int .i64 (vAt k 7)]
theorem comeTo_new (k on:List Int) (w:World) :
  Calls Tryz.prog 100 #[ptV false k,regV on] w fun e w'=>e=.returned (ptV true on)/\Below w.heap.size w w':=by
 go_enter Tryz.func100,Tryz.ntmps100
 go_wp2
 exact bodyPost_ret (v:=ptV true on) (by simp[results,Tryz.results100,go_sem]) rfl ⟨rfl,((below_box _ _).alloc (by simp) _).alloc (by simp;omega) _⟩
theorem pt_at {w:World} {B:Nat} {c:Bool} {k:List Int} {t:TypeId} (h:w.heap[B]?=some (.cells (ptA c k) t (0,0))) {a:Nat} (ha:a<8):w.cell? ⟨B,1+a,none⟩=some (.int .i64 (vAt k a)):=by
 rw[vCell_blk h]
 match a,ha with
 | 0,_=>rfl
 | 1,_=>rfl
 | 2,_=>rfl
 | 3,_=>rfl
 | 4,_=>rfl
 | 5,_=>rfl
 | 6,_=>rfl
 | 7,_=>rfl
 | a+8,h=>omega
theorem pt_set {w:World} {B:Nat} {c:Bool} {k:List Int} {t:TypeId} (h:w.heap[B]?=some (.cells (ptA c k) t (0,0))) (hk:k.length=8) {a:Nat} (ha:a<8) (x:Int):(w.setCell ⟨B,1+a,none⟩ (.int .i64 x)).heap[B]?=some (.cells (ptA c (vPut k a x)) t (0,0)):=by
 rw[vSet_blk h];have p0:vAt (vPut k a x) 0=if 0=a then x else vAt k 0:=vAt_put hk ha x 0
 have p1:vAt (vPut k a x) 1=if 1=a then x else vAt k 1:=vAt_put hk ha x 1
 have p2:vAt (vPut k a x) 2=if 2=a then x else vAt k 2:=vAt_put hk ha x 2
 have p3:vAt (vPut k a x) 3=if 3=a then x else vAt k 3:=vAt_put hk ha x 3
 have p4:vAt (vPut k a x) 4=if 4=a then x else vAt k 4:=vAt_put hk ha x 4
 have p5:vAt (vPut k a x) 5=if 5=a then x else vAt k 5:=vAt_put hk ha x 5
 have p6:vAt (vPut k a x) 6=if 6=a then x else vAt k 6:=vAt_put hk ha x 6
 have p7:vAt (vPut k a x) 7=if 7=a then x else vAt k 7:=vAt_put hk ha x 7
 rw[ptA,ptA,p0,p1,p2,p3,p4,p5,p6,p7]
 match a,ha with
 | 0,_=>rfl
 | 1,_=>rfl
 | 2,_=>rfl
 | 3,_=>rfl
 | 4,_=>rfl
 | 5,_=>rfl
 | 6,_=>rfl
 | 7,_=>rfl
 | a+8,h=>omega
def kJ (k on:List Int):Nat->List Int
 | 0=>k
 | r+1=>vPut (kJ k on r) r (vJoin (vAt (kJ k on r) r) (vAt on r))
theorem kJ_len {k on:List Int} (hk:k.length=8):∀ r,(kJ k on r).length=8
 | 0=>hk
 | r+1=>by rw[kJ,vPut_length];exact kJ_len hk r
theorem kJ_at {k on:List Int} (hk:k.length=8):∀ r:Nat,r<=8->∀ i:Nat,vAt (kJ k on r) i=if i<r then vJoin (vAt k i) (vAt on i) else vAt k i
 | 0,_,i=>by simp[kJ]
 | r+1,hr,i=>by
  have ih:=kJ_at (on:=on) hk r (by omega);rw[kJ,vAt_put (kJ_len hk r) (by omega)]
  by_cases e:i=r
  ·subst e
   rw[if_pos rfl,if_pos (by omega),ih,if_neg (by omega)]
  ·rw[if_neg e,ih]
   by_cases h:i<r
   ·rw[if_pos h,if_pos (by omega)]
   ·rw[if_neg h,if_neg (by omega)]
theorem vAt_ext {a b:List Int} (ha:a.length=8) (hb:b.length=8) (h:∀ i:Nat,i<8->vAt a i=vAt b i):a=b:=by
 refine List.ext_getElem (by omega) fun i h1 h2=>?_
 have:=h i (by omega)
 unfold vAt at this
 simp only[Int.toNat_natCast,List.getElem?_eq_getElem h1,List.getElem?_eq_getElem h2] at this
 exact this
theorem kJ_all {k on:List Int} (hk:k.length=8) (ho:on.length=8):kJ k on 8=List.zipWith vJoin k on:=by
 refine vAt_ext (kJ_len hk 8) (by simp[hk,ho]) fun i hi=>?_
 rw[kJ_at hk 8 (by omega),if_pos hi]
 unfold vAt
 simp only[Int.toNat_natCast,List.getElem?_zipWith];rw[List.getElem?_eq_getElem (by omega),List.getElem?_eq_getElem (by omega)]
 rfl
theorem comeTo_more (k on:List Int) (w:World) (hk:k.length=8) (ho:on.length=8) :
  Calls Tryz.prog 100 #[ptV true k,regV on] w fun e w'=>e=.returned (ptV true (List.zipWith vJoin k on))/\Below w.heap.size w w':=by
 go_enter Tryz.func100,Tryz.ntmps100
 go_upto_region 3 with fail
 obtain⟨N0,N1,N2,b1,hs⟩:=vBoxes3 w (Obj.cells (ptA true k) 101) (Obj.cells (regA on) 99) (Obj.cells #[.bool false,.int .i64 0,.int .i64 0,.int .i64 0,.int .i64 0,.int .i64 0,.int .i64 0,.int .i64 0,.int .i64 0] 101);generalize ((w.alloc (Obj.cells (ptA true k) 101)).alloc (Obj.cells (regA on) 99)).alloc (Obj.cells #[.bool false,.int .i64 0,.int .i64 0,.int .i64 0,.int .i64 0,.int .i64 0,.int .i64 0,.int .i64 0,.int .i64 0] 101)=W at *
 go_wp2
 go_loopg [11] 8 (fun g s11 wr=>∃ r:Nat,r<=8/\g=8-r/\s11=.int .i64 r/\wr.heap[w.heap.size]?=some (.cells (ptA true (kJ k on r)) 101 (0,0))/\wr.heap[w.heap.size+1]?=some (.cells (regA on) 99 (0,0))/\wr.heap[w.heap.size+1+1]?=some (.cells #[.bool false,.int .i64 0,.int .i64 0,.int .i64 0,.int .i64 0,.int .i64 0,.int .i64 0,.int .i64 0,.int .i64 0] 101 (0,0))/\Below w.heap.size w wr)
 case atStart=>exact⟨0,Nat.zero_le _,rfl,rfl,N0,N1,N2,b1⟩
 case round =>
  clear N0 N1 N2 b1 hs;obtain⟨r,hr,rfl,rfl,N0,N1,N2,b1⟩:=hrel
  by_cases hr8:r<8
  ·have hrz:(r:Int)<8:=by omega
   have hl:=kJ_len (on:=on) hk r;have q0:=pt_at N0 hr8;have q1:=reg_at N1 hr8;have fz:∀ j,wr.frozen? ⟨w.heap.size,j,none⟩=false:=fun j=>by simp[World.frozen?,N0]
   go_upto_region 6 with fail
   refine wp_region_need (fun j=>j != 11) (fun w'=>w'.cell? ⟨w.heap.size,1+r,none⟩=some (.int .i64 (vAt (kJ k on r) r))/\w'.cell? ⟨w.heap.size+1,r,none⟩=some (.int .i64 (vAt on r))) (by kernel_rfl) ⟨q0,q1⟩ (fun hS=>?_);refine tkN 0 hS ?_;refine tkN 1 hS ?_;refine tkN 2 hS ?_;refine tkN 3 hS ?_;refine tkN 4 hS ?_;refine tkN 5 hS ?_;refine tkN 6 hS ?_;refine tkN 7 hS ?_;refine tkN 9 hS ?_;refine stN 8 (fun K hK=>?_)
   go_simp;refine(join_any _ _ _).mono ?_;rintro e w' ⟨rfl,rfl⟩;refine otN hK (hS) ?_;clear hK;replace hS:=hS;refine tkN 10 hS ?_;refine stN 11 (fun K hK=>?_);go_simp;refine laN hK ?_;clear hK;have M0:((wr.setCell ⟨w.heap.size,1+r,none⟩ (.int .i64 (vJoin (vAt (kJ k on r) r) (vAt on r)))).drew).heap[w.heap.size]?=some (.cells (ptA true (kJ k on (r+1))) 101 (0,0)):=pt_set N0 hl hr8 _;have M1:((wr.setCell ⟨w.heap.size,1+r,none⟩ (.int .i64 (vJoin (vAt (kJ k on r) r) (vAt on r)))).drew).heap[w.heap.size+1]?=_:=(Deep.blk_setCell_other wr ⟨w.heap.size,1+r,none⟩ _ (w.heap.size+1) (by show w.heap.size+1≠w.heap.size;omega)).trans N1
   have M2:((wr.setCell ⟨w.heap.size,1+r,none⟩ (.int .i64 (vJoin (vAt (kJ k on r) r) (vAt on r)))).drew).heap[w.heap.size+1+1]?=_:=(Deep.blk_setCell_other wr ⟨w.heap.size,1+r,none⟩ _ (w.heap.size+1+1) (by show w.heap.size+1+1≠w.heap.size;omega)).trans N2;have b2:Below w.heap.size w ((wr.setCell ⟨w.heap.size,1+r,none⟩ (.int .i64 (vJoin (vAt (kJ k on r) r) (vAt on r)))).drew):=(b1.setCell (Nat.le_refl _) _).drew
   clear N0 N1 N2 b1 q0 q1 fz hS;generalize (wr.setCell ⟨w.heap.size,1+r,none⟩ (.int .i64 (vJoin (vAt (kJ k on r) r) (vAt on r)))).drew=wx at *;go_wp2
   go_roundg (8-(r+1))
   case measure=>go_light;omega
   case rel=>go_light;exact⟨r+1,by omega,rfl,by go_num,M0,M1,M2,b2⟩
  ·obtain rfl:r=8:=by omega
   rw[kJ_all hk ho] at N0;obtain⟨z,hz⟩:∃ z,z=List.zipWith vJoin k on:=⟨_,rfl⟩;rw[<- hz] at N0;have Z:Aside (z=List.zipWith vJoin k on):=hz;clear hz;have g0:=vCell_blk N0 0;have g1:=vCell_blk N0 1;have g2:=vCell_blk N0 2;have g3:=vCell_blk N0 3;have g4:=vCell_blk N0 4;have g5:=vCell_blk N0 5;have g6:=vCell_blk N0 6;have g7:=vCell_blk N0 7;have g8:=vCell_blk N0 8;have z0:=vCell_blk N2 0;have z1:=vCell_blk N2 1
   have z2:=vCell_blk N2 2;have z3:=vCell_blk N2 3;have z4:=vCell_blk N2 4;have z5:=vCell_blk N2 5;have z6:=vCell_blk N2 6;have z7:=vCell_blk N2 7;have z8:=vCell_blk N2 8;simp at g0 g1 g2 g3 g4 g5 g6 g7 g8 z0 z1 z2 z3 z4 z5 z6 z7 z8;have fr:∀ j,wr.frozen? ⟨w.heap.size+1+1,j,none⟩=false:=fun j=>by simp[World.frozen?,N2]
   clear N0 N1;go_wp2
   change bodyPost _ _ _ _ _ (putAt wr (w.heap.size+1+1) 0 (ptA true z).toList)
   have P:=putAt_blk (ptA true z).toList 0 N2;have bp:=putAt_below (A:=w.heap.size+1+1) (by omega) (ptA true z).toList 0 b1;clear N2 b1 g0 g1 g2 g3 g4 g5 g6 g7 g8 z0 z1 z2 z3 z4 z5 z6 z7 z8 fr;generalize putAt wr (w.heap.size+1+1) 0 (ptA true z).toList=wy at *;have y0:=vCell_blk P 0;have y1:=vCell_blk P 1;have y2:=vCell_blk P 2;have y3:=vCell_blk P 3;have y4:=vCell_blk P 4;have y5:=vCell_blk P 5;have y6:=vCell_blk P 6
   have y7:=vCell_blk P 7;have y8:=vCell_blk P 8;simp[overAt] at y0 y1 y2 y3 y4 y5 y6 y7 y8;exact bodyPost_ret (v:=ptV true z) (by simp[results,Tryz.results100,go_sem,y0,y1,y2,y3,y4,y5,y6,y7,y8]) rfl ⟨by rw[Z.out],bp⟩
def ptC (p:Pt):List Value:=match p with
 | none=>(ptA false []).toList
 | some k=>(ptA true k).toList
def ptOf (p:Pt):Value:=match p with
 | none=>ptV false []
 | some k=>ptV true k
theorem comeTo_any (p:Pt) (on:List Int) (w:World) (hp:∀ k,p=some k->k.length=8) (ho:on.length=8) :
  Calls Tryz.prog 100 #[ptOf p,regV on] w fun e w'=>e=.returned (ptOf (vCome p on))/\Below w.heap.size w w':=by
 cases p with
 | none=>exact comeTo_new [] on w
 | some k=>exact comeTo_more k on w (hp k rfl) ho
theorem ptC_len (p:Pt):(ptC p).length=9:=by cases p <;> rfl
end
section
open Go.RowKit
theorem Tryz.plainInt:Tryz.prog.plainKey 3=true:=by kernel_rfl
theorem Tryz.infoInt:∃ i,Tryz.prog.info? 3=some i:=Option.isSome_iff_exists.1 (by kernel_rfl)
theorem Tryz.cellsInt:Tryz.prog.cellsOf 3=1:=by kernel_rfl
theorem eqItem (w:World) (d i:Nat) (xs ys:Array Value) (is:List Nat) (x y:Int) (hx:xs[i]?=some (.int .i64 x)) (hy:ys[i]?=some (.int .i64 y)) :
  (Op.eqItems (d+1) 3 1 xs ys (i :: is)).run Tryz.prog w=if x=y then (Op.eqItems (d+1) 3 1 xs ys is).run Tryz.prog w else .ok false w:=by
 simp only[Op.eqItems,Sem.run_bind,Nat.mul_one,run_part_plain w Tryz.plainInt hx,run_part_plain w Tryz.plainInt hy,Result.andThen_ok,run_equalIn_int w d 3 .i64 .i64 x y Tryz.underlying3]
 by_cases h:x=y
 ·simp[h]
 ·simp[h]
def sameRegs (a b:List Int):Bool:=decide (vAt a 0=vAt b 0/\vAt a 1=vAt b 1/\vAt a 2=vAt b 2/\vAt a 3=vAt b 3/\vAt a 4=vAt b 4/\vAt a 5=vAt b 5/\vAt a 6=vAt b 6/\vAt a 7=vAt b 7)
theorem eqRegs (w:World) (d:Nat) (a b:List Int):(Op.equalIn (d+1+1) 99 (regV a) (regV b)).run Tryz.prog w=.ok (sameRegs a b) w:=by
 obtain⟨i,hi⟩:=Tryz.infoInt;rw[run_equalIn_array w (d+1) _ _ Tryz.underlying99 hi,Tryz.cellsInt];rw[show List.range 8=[0,1,2,3,4,5,6,7] from rfl];rw[eqItem w d 0 _ _ _ (vAt a 0) (vAt b 0) rfl rfl,eqItem w d 1 _ _ _ (vAt a 1) (vAt b 1) rfl rfl,eqItem w d 2 _ _ _ (vAt a 2) (vAt b 2) rfl rfl,eqItem w d 3 _ _ _ (vAt a 3) (vAt b 3) rfl rfl,eqItem w d 4 _ _ _ (vAt a 4) (vAt b 4) rfl rfl,eqItem w d 5 _ _ _ (vAt a 5) (vAt b 5) rfl rfl,eqItem w d 6 _ _ _ (vAt a 6) (vAt b 6) rfl rfl,eqItem w d 7 _ _ _ (vAt a 7) (vAt b 7) rfl rfl]
 simp only[Op.eqItems,Sem.run_pure,sameRegs]
 by_cases h0:vAt a 0=vAt b 0
 ·by_cases h1:vAt a 1=vAt b 1
  ·by_cases h2:vAt a 2=vAt b 2
   ·by_cases h3:vAt a 3=vAt b 3
    ·by_cases h4:vAt a 4=vAt b 4
     ·by_cases h5:vAt a 5=vAt b 5
      ·by_cases h6:vAt a 6=vAt b 6
       ·by_cases h7:vAt a 7=vAt b 7
        ·simp[h0,h1,h2,h3,h4,h5,h6,h7]
        ·simp[h0,h1,h2,h3,h4,h5,h6,h7]
       ·simp[h0,h1,h2,h3,h4,h5,h6]
      ·simp[h0,h1,h2,h3,h4,h5]
     ·simp[h0,h1,h2,h3,h4]
    ·simp[h0,h1,h2,h3]
   ·simp[h0,h1,h2]
  ·simp[h0,h1]
 ·simp[h0]
theorem eqRegs9 (w:World) (a b:List Int):(Op.equalIn 9999 99 (regV a) (regV b)).run Tryz.prog w=.ok (sameRegs a b) w:=eqRegs w 9997 a b
theorem sameRegs_iff {a b:List Int} (ha:a.length=8) (hb:b.length=8):sameRegs a b=true↔a=b:=by
 constructor
 ·intro h
  simp only[sameRegs,decide_eq_true_eq] at h;refine vAt_ext ha hb fun i hi=>?_
  match i,hi with
  | 0,_=>exact h.1
  | 1,_=>exact h.2.1
  | 2,_=>exact h.2.2.1
  | 3,_=>exact h.2.2.2.1
  | 4,_=>exact h.2.2.2.2.1
  | 5,_=>exact h.2.2.2.2.2.1
  | 6,_=>exact h.2.2.2.2.2.2.1
  | 7,_=>exact h.2.2.2.2.2.2.2
 ·rintro rfl
  simp[sameRegs]
theorem pt_same {p q:Pt} (hp:∀ k,p=some k->k.length=8) (hq:∀ k,q=some k->k.length=8):(decide (q.isSome=p.isSome) && sameRegs (q.getD []) (p.getD []))=decide (q=p):=by
 cases p with
 | none=>cases q with
  | none=>rfl
  | some k=>simp
 | some k=>cases q with
  | none=>simp
  | some k' =>
   have h:=sameRegs_iff (hq k' rfl) (hp k rfl)
   cases hs:sameRegs k' k with
   | true =>
    obtain rfl:=h.1 hs;simp[hs]
   | false =>
    have:¬ k'=k:=fun e=>by rw[h.2 e] at hs;cases hs
    simp[hs,this]
end
section
structure InsOk (G many place:Int) (i:Ins):Prop where
 op:0<=i.op/\i.op<=19
 a:0<=i.a/\i.a<=7
 b:0<=i.b/\i.b<=7
 n:loOf i.op<=i.n/\i.n<=hiOf i.op
 jump:i.op=5\/i.op=6->0<=place+i.n/\place+i.n<many
 spawn:i.op=17->i.n<G
 last:place=many-1->i.op=0\/i.op=19\/i.op=6
theorem insOk_of {G many place op a b n:Int} (h:insFault G many place op a b n=0):InsOk G many place ⟨op,a,b,n⟩:=by
 have hp:partsFault op a b n=0:=by
  by_cases hp:partsFault op a b n=0
  ·exact hp
  ·rw[ins_parts hp] at h;exact h
 have hb:beside op n place many=false:=by
  cases hb:beside op n place many with
  | false=>rfl
  | true=>rw[ins_beside hp hb] at h;omega
 have hs:¬ (op=17/\G<=n):=fun hs=>by rw[ins_spawn hp hs.1 hs.2] at h;omega
 rw[ins_rest hp hb hs] at h;have hl:¬ (place=many-1/\op≠0/\op≠19/\op≠6):=fun hl=>by rw[if_pos hl] at h;omega
 unfold partsFault at hp
 by_cases h1:okOp op=false
 ·rw[if_pos h1] at hp;omega
 rw[if_neg h1] at hp
 by_cases h2:okReg a=false\/okReg b=false\/n<loOf op\/hiOf op<n
 ·rw[if_pos h2] at hp;omega
 simp only[okOp,Bool.and_eq_false_iff,decide_eq_false_iff_not] at h1;simp only[okReg,Bool.and_eq_false_iff,decide_eq_false_iff_not] at h2;refine⟨by show 0<=op/\op<=19;omega,by show 0<=a/\a<=7;omega,by show 0<=b/\b<=7;omega,by show loOf op<=n/\n<=hiOf op;omega,fun hj=>?_,fun hj=>?_,fun hj=>?_⟩
 ·unfold beside at hb
  have hj':op=5\/op=6:=hj;have e:(op == 5 || op == 6)=true:=by simpa using hj'
  rw[e] at hb;simp at hb
  show 0<=place+n/\place+n<many
  omega
 ·have hj':op=17:=hj
  show n<G
  omega
 ·show op=0\/op=19\/op=6
  omega
structure Ver (G:Nat) (L:Nat->Nat) (X:Nat->Nat->Nat->Int) (S:Nat->List Pt):Prop where
 rows:∀ k,k<G->1<=L k/\L k<=60
 ins:∀ k i,k<G->i<L k->insFault G (L k) i (X k i 0) (X k i 1) (X k i 2) (X k i 3)=0
 flow:∀ k,k<G->IsFlow (X k) (L k) (S k)
 may:∀ k i kk,k<G->i<L k->vPt (S k) i=some kk->vMayDo (X k i 0) (X k i 1) (X k i 2) kk=true
def flowS (x:Nat->Nat->Int) (L:Nat):List Pt:=vIter x L (17*L+1) (vStart L)
theorem good_iterS {x:Nat->Nat->Int} {L:Nat}:∀ (n:Nat) {st:List Pt},VGood L st->VGood L (vIter x L n st)
 | 0,_,h=>h
 | n+1,_,h=>good_iterS n (VGood.turns h x L)
theorem iter_mu {x:Nat->Nat->Int} {L:Nat}:∀ (n:Nat) {st:List Pt},VGood L st->vRound x L (vIter x L n st)=vIter x L n st\/vMu (vIter x L n st)+n<=vMu st
 | 0,st,_=>Or.inr (by show vMu st+0<=vMu st;omega)
 | n+1,st,h=>by
  rw[vIter_succ];have hg:=good_iterS (x:=x) n h
  by_cases e:vRound x L (vIter x L n st)=vIter x L n st
  ·rw[e];exact Or.inl e
  ·have h1:=(vTurns_mu hg x L).2 e
   rcases iter_mu (x:=x) n h with h2 | h2
   ·exact absurd h2 e
   ·refine Or.inr ?_
    have h1':vMu (vRound x L (vIter x L n st))<vMu (vIter x L n st):=h1;omega
theorem flowS_is (x:Nat->Nat->Int) (L:Nat):IsFlow x L (flowS x L):=by
 refine⟨⟨_,rfl⟩,?_⟩
 rcases iter_mu (x:=x) (17*L+1) (vgood_start L) with h | h
 ·exact h
 ·have:=vMu_le (vgood_start L)
  omega
theorem IsFlow.eq {x:Nat->Nat->Int} {L:Nat} {st:List Pt} (h:IsFlow x L st):st=flowS x L:=h.one (flowS_is x L)
theorem flowS_good (x:Nat->Nat->Int) (L:Nat):VGood L (flowS x L):=good_iterS _ (vgood_start L)
structure RowOk (L:Nat) (x:Nat->Nat->Int):Prop where
 len:1<=L/\L<=60
 op:∀ i,i<L->0<=x i 0/\x i 0<=19
 a:∀ i,i<L->0<=x i 1/\x i 1<=7
 b:∀ i,i<L->0<=x i 2/\x i 2<=7
 n:∀ i,i<L->x i 0=5\/x i 0=6->-60<=x i 3/\x i 3<=60
 goes:∀ i,i<L->∀ j∈vGoes (x i 0) (x i 3) i,0<=j/\j<(L:Int)
theorem first_nought {f:Nat->Int}:∀ (n i:Nat),first f n i=0->∀ j,i<=j->j<i+n->f j=0
 | 0,i,_,j,h1,h2=>by omega
 | n+1,i,h,j,h1,h2=>by
  rw[first] at h
  by_cases e:f i≠0
  ·rw[if_pos e] at h;exact absurd h e
  ·rw[if_neg e] at h
   by_cases hj:j=i
   ·subst hj;exact Classical.byContradiction e
   ·exact first_nought n (i+1) h j (by omega) (by omega)
theorem progV_ok {G:Nat} {L:Nat->Nat} {X:Nat->Nat->Nat->Int} (h:progFault G L X=0):(1<=G/\G<=6)/\(∀ r,r<G->1<=L r/\L r<=60)/\∀ r i,r<G->i<L r->insFault G (L r) i (X r i 0) (X r i 1) (X r i 2) (X r i 3)=0:=by
 unfold progFault at h
 by_cases h0:G=0
 ·rw[if_pos h0] at h;omega
 rw[if_neg h0] at h
 by_cases h6:6<G
 ·rw[if_pos h6] at h;omega
 rw[if_neg h6] at h;have hr:=first_nought G 0 h;refine⟨by omega,fun r hrG=>?_,fun r i hrG hi=>?_⟩
 ·have:=hr r (by omega) (by omega)
  unfold rowFault at this
  by_cases hl:L r<1\/60<L r
  ·rw[if_pos hl] at this;omega
  ·omega
 ·have:=hr r (by omega) (by omega)
  unfold rowFault at this
  by_cases hl:L r<1\/60<L r
  ·rw[if_pos hl] at this;omega
  ·rw[if_neg hl] at this
   exact first_nought (L r) 0 this i (by omega) (by omega)
theorem rowV_ok {G:Nat} {L:Nat->Nat} {X:Nat->Nat->Nat->Int} (h:progFault G L X=0) {r:Nat} (hr:r<G):RowOk (L r) (X r):=by
 obtain⟨_,hl,hi⟩:=progV_ok h;have I:=fun i hi'=>insOk_of (hi r i hr hi')
 refine⟨hl r hr,fun i hi'=>(I i hi').op,fun i hi'=>(I i hi').a,fun i hi'=>(I i hi').b,fun i hi' ho=>?_,fun i hi' j hj=>?_⟩
 ·have:=(I i hi').n
  have ho':X r i 0=5\/X r i 0=6:=ho;simp only[loOf,hiOf] at this
  rw[if_neg (by omega),if_pos ho'] at this
  rw[if_neg (by omega),if_pos ho'] at this
  exact this
 ·unfold vGoes at hj
  by_cases h0:X r i 0=0\/X r i 0=19
  ·rw[if_pos h0] at hj;cases hj
  rw[if_neg h0] at hj
  by_cases h6:X r i 0=6
  ·rw[if_pos h6] at hj
   simp at hj;subst hj;exact(I i hi').jump (Or.inr h6)
  rw[if_neg h6] at hj;have hnl:(i:Int)≠(L r:Int)-1:=fun e=>by have:=(I i hi').last e;simp only at this;omega
  by_cases h5:X r i 0=5
  ·rw[if_pos h5] at hj
   simp at hj
   rcases hj with rfl | rfl
   ·omega
   ·exact(I i hi').jump (Or.inl h5)
  ·rw[if_neg h5] at hj
   simp at hj;subst hj;omega
def badAt (x:Nat->Nat->Int) (st:List Pt) (i:Nat):Bool:=match vPt st i with
 | none=>false
 | some k=>!vMayDo (x i 0) (x i 1) (x i 2) k
def firstBad (f:Nat->Bool):Nat->Nat->Option Nat
 | 0,_=>none
 | n+1,i=>if f i=true then some i else firstBad f n (i+1)
theorem firstBad_hit (f:Nat->Bool) (n i:Nat) (h:i<n) (hf:f i=true):firstBad f (n-i) i=some i:=by
 obtain⟨k,hk⟩:∃ k,n-i=k+1:=⟨n-i-1,by omega⟩;rw[hk,firstBad,if_pos hf]
theorem firstBad_pass (f:Nat->Bool) (n i:Nat) (h:i<n) (hf:f i=false):firstBad f (n-i) i=firstBad f (n-(i+1)) (i+1):=by
 obtain⟨k,hk⟩:∃ k,n-i=k+1:=⟨n-i-1,by omega⟩;rw[hk,firstBad,if_neg (by simp[hf]),show n-(i+1)=k by omega]
theorem firstBad_none {f:Nat->Bool}:∀ (n i:Nat),firstBad f n i=none->∀ j,i<=j->j<i+n->f j=false
 | 0,i,_,j,h1,h2=>by omega
 | n+1,i,h,j,h1,h2=>by
  rw[firstBad] at h
  by_cases e:f i=true
  ·rw[if_pos e] at h;cases h
  ·rw[if_neg e] at h
   by_cases hj:j=i
   ·subst hj;simpa using e
   ·exact firstBad_none n (i+1) h j (by omega) (by omega)
def rowBad (x:Nat->Nat->Int) (L:Nat):Option Nat:=firstBad (badAt x (flowS x L)) L 0
def verRows (L:Nat->Nat) (X:Nat->Nat->Nat->Int):Nat->Nat->Int × Int × Int
 | 0,_=>(0,0,0)
 | n+1,r=>match rowBad (X r) (L r) with
  | some i=>((r:Int),(i:Int),9)
  | none=>verRows L X n (r+1)
theorem verRows_hit {L:Nat->Nat} {X:Nat->Nat->Nat->Int} {G r i:Nat} (h:r<G) (hb:rowBad (X r) (L r)=some i):verRows L X (G-r) r=((r:Int),(i:Int),9):=by
 obtain⟨k,hk⟩:∃ k,G-r=k+1:=⟨G-r-1,by omega⟩;rw[hk,verRows,hb]
theorem verRows_pass {L:Nat->Nat} {X:Nat->Nat->Nat->Int} {G r:Nat} (h:r<G) (hb:rowBad (X r) (L r)=none):verRows L X (G-r) r=verRows L X (G-(r+1)) (r+1):=by
 obtain⟨k,hk⟩:∃ k,G-r=k+1:=⟨G-r-1,by omega⟩;rw[hk,verRows,hb,show G-(r+1)=k by omega]
theorem verRows_ok {L:Nat->Nat} {X:Nat->Nat->Nat->Int}:∀ (n r:Nat),(verRows L X n r).2.2=0->∀ k,r<=k->k<r+n->rowBad (X k) (L k)=none
 | 0,r,_,k,h1,h2=>by omega
 | n+1,r,h,k,h1,h2=>by
  rw[verRows] at h
  cases hb:rowBad (X r) (L r) with
  | some i=>rw[hb] at h;simp at h
  | none =>
   rw[hb] at h
   by_cases hk:k=r
   ·subst hk;exact hb
   ·exact verRows_ok n (r+1) h k (by omega) (by omega)
def ckS (G:Nat) (L:Nat->Nat) (X:Nat->Nat->Nat->Int):Int × Int × Int:=if progFault G L X≠0 then (0,0,progFault G L X) else verRows L X G 0
theorem ver_of {G:Nat} {L:Nat->Nat} {X:Nat->Nat->Nat->Int} (h:(ckS G L X).2.2=0):progFault G L X=0/\Ver G L X (fun r=>flowS (X r) (L r)):=by
 unfold ckS at h
 by_cases hp:progFault G L X≠0
 ·rw[if_pos hp] at h;exact absurd h hp
 rw[if_neg hp] at h;have hp0:progFault G L X=0:=Classical.byContradiction hp;obtain⟨_,hl,hi⟩:=progV_ok hp0;refine⟨hp0,hl,fun k i hk hi'=>hi k i hk hi',fun k _=>flowS_is _ _,fun k i kk hk hi' hkk=>?_⟩;have:=verRows_ok G 0 h k (by omega) (by omega);have:=firstBad_none _ _ this i (by omega) (by omega)
 unfold badAt at this
 have hkk':vPt (flowS (X k) (L k)) i=some kk:=hkk;rw[hkk'] at this
 simpa using this
end
section
open Go.RowKit
theorem vGoesOn_any (op a b n place:Int) (w:World) (hp:0<=place/\place<=1000) (hn:op=5\/op=6->-1000<=n/\n<=1000) :
  Calls Tryz.prog 99 #[insV op a b n,.int .i64 place] w fun e w'=>∃ ga gc,e=.returned (.slice ga (vGoes op n place).length gc)/\VInts w' ga (vGoes op n place)/\Below w.heap.size w w'/\(∀ b o,ga=some ⟨b,o,none⟩->w.heap.size<=b):=by
 by_cases h0:op=0
 ·subst h0
  go_enter Tryz.func99,Tryz.ntmps99
  go_wp2
  go_ret
  exact⟨none,0,rfl,fun i z hz=>by simp[vGoes] at hz,below_box _ _,fun b o h=>by cases h⟩
 ·have e0:(op == 0)=false:=by simp[h0]
  by_cases h19:op=19
  ·subst h19
   go_enter Tryz.func99,Tryz.ntmps99
   go_wp2
   go_ret
   exact⟨none,0,rfl,fun i z hz=>by simp[vGoes] at hz,below_box _ _,fun b o h=>by cases h⟩
  ·have e19:(op == 19)=false:=by simp[h19]
   by_cases h6:op=6
   ·subst h6
    replace hn:=hn (Or.inr rfl);have hw:IntKind.i64.wrap (place+n)=place+n:=IntWalk.i64_in _ (by omega)
    go_enter Tryz.func99,Tryz.ntmps99
    go_wp2
    go_ret
    exact⟨some ⟨w.heap.size+1,0,none⟩,1,rfl,vInts1 _ _ _ _ (by simp),(below_box _ _).alloc (by simp) _,fun b o h=>by simp at h;omega⟩
   ·have e6:(op == 6)=false:=by simp[h6]
    by_cases h5:op=5
    ·subst h5
     replace hn:=hn (Or.inl rfl);have hw:IntKind.i64.wrap (place+n)=place+n:=IntWalk.i64_in _ (by omega)
     go_enter Tryz.func99,Tryz.ntmps99
     go_wp2
     go_ret
     exact⟨some ⟨w.heap.size+1,0,none⟩,2,rfl,vInts2 _ _ _ _ _ (by simp),(below_box _ _).alloc (by simp) _,fun b o h=>by simp at h;omega⟩
    ·have e5:(op == 5)=false:=by simp[h5]
     have HV:Aside (vGoes op n place=[place+1]):=by show vGoes op n place=_;simp[vGoes,h0,h19,h6,h5]
     clear h0 h19 h6 h5 hn
     go_enter Tryz.func99,Tryz.ntmps99
     go_wp2
     go_ret
     rw[HV.out];exact⟨some ⟨w.heap.size+1,0,none⟩,1,rfl,vInts1 _ _ _ _ (by simp),(below_box _ _).alloc (by simp) _,fun b o h=>by simp at h;omega⟩
theorem VInts.other {w w':World} {ga:Option Addr} {l:List Int} (h:VInts w ga l) (hk:∀ b o,ga=some ⟨b,o,none⟩->b<w.heap.size->w'.heap[b]?=w.heap[b]?):VInts w' ga l:=fun i z hz=>by
 obtain⟨b,o,e,hc⟩:=h i z hz;refine⟨b,o,e,?_⟩;rw[World.cell?_of_block (hk b o e (World.block_lt_of_cell? _ _ hc))];exact hc
end
end Go.Proofs.YtepifccbbmdfcaaGreatDoor
