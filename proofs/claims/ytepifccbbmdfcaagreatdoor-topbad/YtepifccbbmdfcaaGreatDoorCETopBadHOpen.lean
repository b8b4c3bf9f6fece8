/- HOpen. -/
import Derived.Test.YtepifccbbmdfcaaGreatDoorCETopBadKWorld
namespace Go.Proofs.YtepifccbbmdfcaaGreatDoor
set_option maxRecDepth 100000
set_option maxHeartbeats 8000000
section
open Go.RowKit
theorem beh_len (l:List Rw) (most:Nat):(behS most l).length<=most+2:=by
 have:=(code_inv most l).2;simp[behS];omega
theorem bad_facts (l:List Rw) {j:Nat} (hj:j<4):ckS 3 (lenOf (programS l 10)) (xOf (programS l 10))=(0,0,0)/\progFault 3 (lenOf (programS l 10)) (xOf (programS l 10))=0/\ckS 3 (lenOf (badOf (programS l 10) j)) (xOf (badOf (programS l 10) j))=(0,0,9):=by
 have hc:ckS 3 (lenOf (programS l 10)) (xOf (programS l 10))=(0,0,0):=program_ok l 10;have hp:progFault 3 (lenOf (programS l 10)) (xOf (programS l 10))=0:=(ver_of (by rw[hc])).1;exact⟨hc,hp,bad_ck hp (by have:=beh_len (third l 0) 10;omega) hj⟩
theorem run_bad {G:Nat} {L:Nat->Nat} {X:Nat->Nat->Nat->Int} {most:Int} {l:List Ax} {e:Int} (h:wnewE G L X most=e) (he:e≠0):runWS G L X most l=(⟨[],[]⟩,e):=by
 unfold runWS
 rw[h,if_pos he]
theorem run_long {G:Nat} {L:Nat->Nat} {X:Nat->Nat->Nat->Int} {most:Int} {l:List Ax} (h:wnewE G L X most=0) (hl:3000<l.length):runWS G L X most l=(⟨[],[]⟩,1):=by
 unfold runWS
 rw[h,if_neg (by simp),if_pos hl]
theorem run_act {G:Nat} {L:Nat->Nat} {X:Nat->Nat->Nat->Int} {most:Int} {a:Ax} {e:Int} (h:wnewE G L X most=0) (ha:axFault a=e) (he:e≠0):runWS G L X most [a]=(⟨[],[]⟩,e):=by
 unfold runWS
 rw[h,if_neg (by simp),if_neg (by simp)]
 show(if axFault a≠0 then _ else _)=_
 rw[ha,if_pos he]
theorem seq_rowAt {w:World} {a:Option Addr} {rows:List (List Ins)} {r:Nat} {l:List Ins} (h:RowAt w a (lenOf rows r) (xOf rows r)) (hl:rows.getD r []=l):SeqAt fIns 4 w a l:=fun i x hx=>by
 have hi:i<lenOf rows r:=by unfold lenOf;rw[hl];exact(List.getElem?_eq_some_iff.1 hx).1
 obtain⟨b,o,e,hc⟩:=h i hi;refine⟨b,o,e,fun j u hu=>?_⟩;have hj:j<4:=(List.getElem?_eq_some_iff.1 hu).1;have hxo:xOf rows r i j=fld x j:=by
  unfold xOf
  rw[hl,List.getD_eq_getElem?_getD,hx]
  rfl
 have:=hc j hj;rw[hxo] at this
 rw[this]
 match j,hj with
 | 0,_=>simpa[fIns,fld] using hu
 | 1,_=>simpa[fIns,fld] using hu
 | 2,_=>simpa[fIns,fld] using hu
 | 3,_=>simpa[fIns,fld] using hu
theorem seqIns_off {w w':World} {a:Option Addr} {l:List Ins} {g:Nat} {va:Option Addr} {n c:Nat} (h:SeqAt fIns 4 w a l) (hg:w.cell? ⟨g,0,none⟩=some (.slice va n c)) (ho:∀ p v,p≠⟨g,0,none⟩->w.cell? p=some v->w'.cell? p=some v):SeqAt fIns 4 w' a l:=fun i x hx=>by
 obtain⟨b,o,e,hc⟩:=h i x hx;refine⟨b,o,e,fun j u hu=>ho _ _ (fun e2=>?_) (hc j u hu)⟩;have h1:=hc j u hu;rw[e2,hg] at h1;have hj:j<4:=(List.getElem?_eq_some_iff.1 hu).1
 match j,hj with
 | 0,_=>simp[fIns] at hu;rw[<- hu] at h1;simp at h1
 | 1,_=>simp[fIns] at hu;rw[<- hu] at h1;simp at h1
 | 2,_=>simp[fIns] at hu;rw[<- hu] at h1;simp at h1
 | 3,_=>simp[fIns] at hu;rw[<- hu] at h1;simp at h1
theorem kinds_bad {w w':World} {g:Nat} {A:Nat->Option Addr} {C:Nat->Nat} {r0 r1 r2:List Ins} {x:Ins} {va vb:Option Addr} {n c d:Nat} (hP:ProgAt w (some ⟨g,0,none⟩) 3 A (lenOf [r0,r1,r2]) C (xOf [r0,r1,r2])) (hg:w.cell? ⟨g,0,none⟩=some (.slice va n c))
  (ho:∀ p v,p≠⟨g,0,none⟩->w.cell? p=some v->w'.cell? p=some v) (h0:w'.cell? ⟨g,0,none⟩=some (.slice vb (r0.length+1) d)) (hs:SeqAt fIns 4 w' vb (x :: r0)):KindsAt w' (some ⟨g,0,none⟩) ((x :: r0) :: [r1,r2]):=fun r l hl=>by
 match r,hl with
 | 0,hl =>
  simp at hl;subst hl;exact⟨g,0,vb,d,rfl,by simpa using h0,hs⟩
 | 1,hl =>
  simp at hl;subst hl;obtain⟨b,o,e,hc⟩:=hP.outer 1 (by omega);simp only[Option.some.injEq,Addr.mk.injEq,and_true] at e;obtain⟨rfl,rfl⟩:=e;exact⟨_,_,_,_,rfl,ho _ _ (by simp) hc,seqIns_off (seq_rowAt (hP.rows 1 (by omega)) rfl) hg ho⟩
 | 2,hl =>
  simp at hl;subst hl;obtain⟨b,o,e,hc⟩:=hP.outer 2 (by omega);simp only[Option.some.injEq,Addr.mk.injEq,and_true] at e;obtain⟨rfl,rfl⟩:=e;exact⟨_,_,_,_,rfl,ho _ _ (by simp) hc,seqIns_off (seq_rowAt (hP.rows 2 (by omega)) rfl) hg ho⟩
theorem odd_fit:∀ j,j<4->insFit (oddR j):=fun j hj=>by
 have hj':j=0\/j=1\/j=2\/j=3:=by omega
 intro f hf;have hf':f=0\/f=1\/f=2\/f=3:=by omega
 rcases hj' with rfl | rfl | rfl | rfl <;> rcases hf' with rfl | rfl | rfl | rfl <;> decide
theorem axs_made (m:Nat) (hm:m<=100000):∃ MC,(∀ w,(Instr.makeSlice 23 (.int .i64 (m:Int)) (.int .i64 (m:Int))).run Tryz.prog w=.ok (.slice (some ⟨w.heap.size,0,none⟩) m m) (w.alloc (.cells MC 27))) /\
  ∀ w:World,AxsAt (w.alloc (.cells MC 27)) (some ⟨w.heap.size,0,none⟩) (List.replicate m ⟨0,0,0,0⟩):=by
 refine⟨_,run_make_wide (P:=Tryz.prog) 4 23 27 (.agg #[.int .i64 0,.int .i64 0,.int .i64 0,.int .i64 0]) 32 Tryz.underlying23 (by kernel_rfl) .i64 .i64 m (by omega) (by omega),fun w=>?_⟩;have h:=ownsRow_made (f:=fAx) (s:=4) (fun _=>rfl) (by omega) #[.int .i64 0,.int .i64 0,.int .i64 0,.int .i64 0] ⟨0,0,0,0⟩ rfl w w.heap.size m 27 (Nat.le_refl _) (by unfold maxLen;omega);have h2:SeqOwn fAx 4 27 (w.alloc (.cells (madeCells #[.int .i64 0,.int .i64 0,.int .i64 0,.int .i64 0] (m*4)) 27)) w.heap.size (.slice (some ⟨w.heap.size,0,none⟩) m m) (List.replicate m ⟨0,0,0,0⟩):=by
  unfold SeqOwn
  rw[List.length_replicate];exact h
 exact seqAx_to (h2.at Tryz.rowAx.len)
theorem ax_kind {a:Int} (h:a≠1/\a≠2/\a≠3):axFault ⟨a,0,0,0⟩=3:=by
 unfold axFault
 rw[if_pos h]
theorem ax_who {a:Int} (h:a<0):axFault ⟨1,a,0,0⟩=2:=by
 unfold axFault
 rw[if_neg (by simp),if_pos (Or.inl h)]
theorem topBad_any (l:List Rw) (la:Option Addr) (lc:Nat) (which n:Int) (w:World) (hT:TabAt 0 w) (h:RawsAt w la l) (hll:32*l.length<=140737488355328) (hwh:fit64 which) (hn:fit64 n) :
  Calls Tryz.prog 8 #[.slice la l.length lc,.int .i64 which,.int .i64 n] w fun e w'=>e=.returned (.bool true)/\Below w.heap.size w w':=by
 have hpk:=pick_bd (n:=n) (many:=40) (by omega);obtain⟨k0,hk0⟩:=Int.eq_ofNat_of_zero_le hpk.1;obtain⟨k,hk⟩:∃ k:Nat,k=1+k0:=⟨_,rfl⟩;have hkz:1+pick n 40=(k:Int):=by omega
 have hk1:1<=k:=by omega
 have hk2:k<=40:=by omega
 have hp4:=pick_bd (n:=which) (many:=4) (by omega);obtain⟨j,hj⟩:=Int.eq_ofNat_of_zero_le hp4.1;have hj4:j<4:=by omega
 obtain⟨hck,hpf,hbk⟩:=bad_facts l hj4;have hE10:wnewE 3 (lenOf (programS l 10)) (xOf (programS l 10)) 10=0:=by
  unfold wnewE
  rw[hck,if_neg (by simp),if_neg (by omega)]
 have hE60:wnewE 3 (lenOf (programS l 10)) (xOf (programS l 10)) (60+(k:Int))=2:=by
  unfold wnewE
  rw[hck,if_neg (by simp),if_pos (by omega)]
 have hEB:wnewE 3 (lenOf (badOf (programS l 10) j)) (xOf (badOf (programS l 10) j)) 10=9:=by
  unfold wnewE
  rw[hbk,if_pos (by simp)]
 clear hk0 hpk hk
 go_enter Tryz.func8,Tryz.ntmps8
 go_wp2_with fail
 refine(worldTells_any w hT).mono ?_;rintro e w1 ⟨rfl,hb1⟩
 go_wp2_with fail
 refine(kprogram_any l la lc 10 w1 (h.keeps (Keeps.below hb1)) hll (by omega) (hT.keeps (Keeps.below hb1))).mono ?_;rintro e w2 ⟨ao,cap,rfl,hb2,hK⟩;obtain⟨A,C,hPA,_,_⟩:=program_prog (by omega) hK;have hB2:=hb1.trans (hb2.mono hb1.size);obtain⟨NP,-,cb,-⟩:=boxes1 w2 (.cells #[.slice ao 3 cap] 38)
 go_upto_region 4 with fail
 have hB3:=hB2.trans (cb.mono hB2.size);generalize w2.alloc (.cells #[.slice ao 3 cap] 38)=w3 at *;have HV:Aside (∀ w',Keeps w2 w'->ProgAt w' ao 3 A (lenOf (programS l 10)) C (xOf (programS l 10))/\TabAt 0 w'):=fun w' q=>⟨hPA.keeps q,(hT.keeps (Keeps.below hB2)).keeps q⟩
 have p3:w3.cell? ⟨w2.heap.size,0,none⟩=some (.slice ao 3 cap):=cell_blk NP 0;have HK3:Aside (Keeps w2 w3):=Keeps.below cb;generalize w2.heap.size=P at *;have hT0:=hT;clear NP cb hb1 hb2 hK hPA hT h hB2
 go_wp2_with fail
 refine(kPicked_any n 40 w3 hn (by omega) (by omega)).mono ?_;rintro e w4 ⟨rfl,hb4⟩;have hB4:=hB3.trans (hb4.mono hB3.size);have HK4:Aside (Keeps w2 w4):=HK3.out.trans (Keeps.below hb4);replace p3:=Keeps.below hb4 _ _ p3;clear hb4 hB3 HK3;have hw1:IntKind.i64.wrap (1+pick n 40)=(k:Int):=by rw[IntKind.wrap_i64];omega
 go_upto_region 5 with fail
 clear hw1;have hw60:IntKind.i64.wrap (60+(k:Int))=60+(k:Int):=by rw[IntKind.wrap_i64];omega
 have hnew:=anewB_any ao 3 cap A (lenOf (programS l 10)) C (xOf (programS l 10)) (60+(k:Int)) w4 (HV.out _ HK4.out).2 (HV.out _ HK4.out).1;rw[hE60] at hnew
 go_wp2_with fail
 refine hnew.mono ?_;rintro e w5 ⟨aa,ca,rfl,hb5,_,_,_⟩;generalize (wnew 3 (lenOf (programS l 10)) (xOf (programS l 10)) (60+(k:Int))).acts.length=ZA;generalize (wnew 3 (lenOf (programS l 10)) (xOf (programS l 10)) (60+(k:Int))).prints.length=ZP;have hB5:=hB4.trans (hb5.mono hB4.size);have HK5:Aside (Keeps w2 w5):=HK4.out.trans (Keeps.below hb5);replace p3:=Keeps.below hb5 _ _ p3;obtain⟨-,-,c6,-⟩:=boxes1 w5 (.cells #[.slice aa ZA ca,.slice none ZP 0] 32)
 clear hnew hb5 hB4 HK4 hw60;have hw3:IntKind.i64.wrap (3+(k:Int))=3+(k:Int):=by rw[IntKind.wrap_i64];omega
 go_upto_region 6 with fail
 generalize w5.alloc (.cells #[.slice aa ZA ca,.slice none ZP 0] 32)=w6 at *;have hB6:=hB5.trans (c6.mono hB5.size);have HK6:Aside (Keeps w2 w6):=HK5.out.trans (Keeps.below c6);replace p3:=Keeps.below c6 _ _ p3;clear c6 hB5 HK5;have hax6:axFault ⟨3+(k:Int),0,0,0⟩=3:=ax_kind (by omega);have hs6:=run_act (G:=3) (L:=lenOf (programS l 10)) (X:=xOf (programS l 10)) (most:=10) hE10 hax6 (by omega);have hq6:AxsAt (w6.alloc (Obj.cells #[.int .i64 (3+(k:Int)),.int .i64 0,.int .i64 0,.int .i64 0] 27)) (some ⟨w6.heap.size,0,none⟩) [⟨3+(k:Int),0,0,0⟩]:=seqAx_to (seqAx_new w6 (⟨3+(k:Int),0,0,0⟩:Ax) 27 w6.heap.size rfl)
 have bb6:=below_box w6 (Obj.cells #[.int .i64 (3+(k:Int)),.int .i64 0,.int .i64 0,.int .i64 0] 27)
 go_wp2_with fail
 generalize w6.alloc (Obj.cells #[.int .i64 (3+(k:Int)),.int .i64 0,.int .i64 0,.int .i64 0] 27)=w7 at *;have HK7:Aside (Keeps w2 w7):=HK6.out.trans (Keeps.below bb6);have hr6:=run_any ao 3 cap A (lenOf (programS l 10)) C (xOf (programS l 10)) 10 (some ⟨w6.heap.size,0,none⟩) 1 [⟨3+(k:Int),0,0,0⟩] w7 (HV.out _ HK7.out).2 (HV.out _ HK7.out).1 hq6 (by simp);rw[hs6] at hr6;refine hr6.mono ?_;rintro e w8 ⟨a8,d8,b8,f8,rfl,hb8,_,_,_⟩
 dsimp only
 have hB8:=(hB6.trans (bb6.mono hB6.size)).trans (hb8.mono (hB6.trans (bb6.mono hB6.size)).size);have HK8:Aside (Keeps w2 w8):=HK7.out.trans (Keeps.below hb8);replace p3:=Keeps.below hb8 _ _ (Keeps.below bb6 _ _ p3);clear hs6 hq6 hr6 hb8 bb6 hB6 HK6 HK7 hw3 hax6;obtain⟨-,-,c9,-⟩:=boxes1 w8 (.cells #[.slice a8 0 d8,.slice b8 0 f8] 32);have hwn:IntKind.i64.wrap (-(k:Int))=-(k:Int):=by rw[IntKind.wrap_i64];omega
 simp only[List.length_nil]
 go_upto_region 7 with fail
 generalize w8.alloc (.cells #[.slice a8 0 d8,.slice b8 0 f8] 32)=w9 at *;have hB9:=hB8.trans (c9.mono hB8.size);have HK9:Aside (Keeps w2 w9):=HK8.out.trans (Keeps.below c9);replace p3:=Keeps.below c9 _ _ p3;clear c9 hB8 HK8;have hax9:axFault ⟨1,-(k:Int),0,0⟩=2:=ax_who (by omega);have hs9:=run_act (G:=3) (L:=lenOf (programS l 10)) (X:=xOf (programS l 10)) (most:=10) hE10 hax9 (by omega);have hq9:AxsAt (w9.alloc (Obj.cells #[.int .i64 1,.int .i64 (-(k:Int)),.int .i64 0,.int .i64 0] 27)) (some ⟨w9.heap.size,0,none⟩) [⟨1,-(k:Int),0,0⟩]:=seqAx_to (seqAx_new w9 (⟨1,-(k:Int),0,0⟩:Ax) 27 w9.heap.size rfl)
 have bb9:=below_box w9 (Obj.cells #[.int .i64 1,.int .i64 (-(k:Int)),.int .i64 0,.int .i64 0] 27)
 go_wp2_with fail
 generalize w9.alloc (Obj.cells #[.int .i64 1,.int .i64 (-(k:Int)),.int .i64 0,.int .i64 0] 27)=wa at *;have HKa:Aside (Keeps w2 wa):=HK9.out.trans (Keeps.below bb9);have hra:=run_any ao 3 cap A (lenOf (programS l 10)) C (xOf (programS l 10)) 10 (some ⟨w9.heap.size,0,none⟩) 1 [⟨1,-(k:Int),0,0⟩] wa (HV.out _ HKa.out).2 (HV.out _ HKa.out).1 hq9 (by simp);rw[hs9] at hra;refine hra.mono ?_;rintro e wb ⟨ab,db,bb,fb,rfl,hbb,_,_,_⟩
 dsimp only
 have hBb:=(hB9.trans (bb9.mono hB9.size)).trans (hbb.mono (hB9.trans (bb9.mono hB9.size)).size);have HKb:Aside (Keeps w2 wb):=HKa.out.trans (Keeps.below hbb);replace p3:=Keeps.below hbb _ _ (Keeps.below bb9 _ _ p3);clear hs9 hq9 hra hbb bb9 hB9 HK9 HKa hwn hax9;obtain⟨-,-,cc,-⟩:=boxes1 wb (.cells #[.slice ab 0 db,.slice bb 0 fb] 32);simp only[List.length_nil]
 go_upto_region 8 with fail
 generalize wb.alloc (.cells #[.slice ab 0 db,.slice bb 0 fb] 32)=wc at *;have hBc:=hBb.trans (cc.mono hBb.size);have HKc:Aside (Keeps w2 wc):=HKb.out.trans (Keeps.below cc);replace p3:=Keeps.below cc _ _ p3;clear cc hBb HKb;obtain⟨m,hm⟩:∃ m:Nat,m=3000+k:=⟨_,rfl⟩;have hw30:IntKind.i64.wrap (3000+(k:Int))=(m:Int):=by rw[IntKind.wrap_i64];omega
 have hm1:3000<m/\m<=3040:=by omega
 clear hm;obtain⟨MC,hmk,hax⟩:=axs_made m (by omega);have HRZ:Aside (∀ (wd:World) (B:Nat),Keeps w2 wd->AxsAt wd (some ⟨B,0,none⟩) (List.replicate m ⟨0,0,0,0⟩)->Calls Tryz.prog 10 #[.agg #[.slice ao 3 cap],.int .i64 10,.slice (some ⟨B,0,none⟩) m m] wd fun e w'=>∃ aa ac pa pc,e=.returned (.tuple #[.agg #[.slice aa 0 ac,.slice pa 0 pc],.int .i64 1])/\Below wd.heap.size wd w'):=fun wd B hk hx=>by
  have hr:=run_any ao 3 cap A _ C _ 10 (some ⟨B,0,none⟩) m (List.replicate m ⟨0,0,0,0⟩) wd (HV.out _ hk).2 (HV.out _ hk).1 hx (by simp;omega);rw[run_long hE10 (by simp;omega),List.length_replicate] at hr;refine hr.mono ?_;rintro e w' ⟨aa,ac,pa,pc,rfl,hb,_,_,_⟩;exact⟨aa,ac,pa,pc,rfl,hb⟩
 have hSof:∀ w',Below wc.heap.size wc w'->(w'.cell? ⟨P,0,none⟩=some (.slice ao 3 cap)):=fun w' hb'=>Keeps.below hb' _ _ p3
 go_cut [15,16] (fun s15 s16 wd=>∃ G,s15=.pointer (some ⟨G,0,none⟩)/\s16=.int .i64 1/\Below wc.heap.size wc wd)
 case first =>
  have hB:Below wc.heap.size wc wc.drew:=(Below.refl _ _).drew;refine wp_region_need (fun _=>true) (fun w'=>w'.cell? ⟨P,0,none⟩=some (.slice ao 3 cap)) (by kernel_rfl) (hSof _ hB) (fun hS=>?_);generalize wc.drew=wc0 at hS hB  ⊢;refine tkN 0 hS ?_;refine tkN 1 hS ?_;refine tkN 2 hS ?_;refine twN 3 8 (fun K hK=>?_) (fun K hK=>?_)
  ·go_simp
   have hbn:=below_box wc0 (Obj.cells MC 27);have hAX:=hax wc0;generalize wc0.alloc (Obj.cells MC 27)=wc1 at hbn hAX ⊢;obtain⟨GM,hGM⟩:∃ GM,GM=wc0.heap.size:=⟨_,rfl⟩;rw[<- hGM] at hAX ⊢;clear hGM;have hBn:Below wc.heap.size wc wc1:=hB.trans (hbn.mono hB.size);refine otN hK (hSof _ hBn) ?_;replace hS:=hSof _ hBn;clear hK;replace hB:=hBn;clear hBn hbn;refine twN 4 8 (fun K hK=>?_) (fun K hK=>?_)
   ·go_simp
    refine(HRZ.out wc1 GM (HKc.out.trans (Keeps.below hB)) hAX).mono ?_;rintro e wc2 ⟨ya,yc,yb,yd,rfl,hbn⟩;have hBn:Below wc.heap.size wc wc2:=hB.trans (hbn.mono hB.size);refine otN hK (hSof _ hBn) ?_;replace hS:=hSof _ hBn;clear hK;replace hAX:=hAX.keeps (Keeps.below hbn);replace hB:=hBn;clear hBn hbn;refine tkN 5 hS ?_;refine tkN 6 hS ?_;refine tkN 7 hS ?_;refine stN 8 (fun K hK=>?_);go_simp;have hbn:=below_box wc2 (Obj.cells #[.slice none 0 0,.slice none 0 0] 32)
    have mG:=Deep.blk_alloc_new wc2 (Obj.cells #[.slice none 0 0,.slice none 0 0] 32);have xG:wc.heap.size<=wc2.heap.size:=hB.size
    try have daG:TT<=wc2.heap.size:=sT
    generalize wc2.alloc (Obj.cells #[.slice none 0 0,.slice none 0 0] 32)=wc3 at hbn mG ⊢;obtain⟨G,hG⟩:∃ G,G=wc2.heap.size:=⟨_,rfl⟩;rw[<- hG] at mG xG ⊢
    try rw[<- hG] at daG
    clear hG;have hBn:Below wc.heap.size wc wc3:=hB.trans (hbn.mono hB.size);refine otN hK (hSof _ hBn) ?_;replace hS:=hSof _ hBn;clear hK;replace hAX:=hAX.keeps (Keeps.below hbn);replace hB:=hBn;clear hBn hbn;refine stN 9 (fun K hK=>?_);have c0:=cellBlk mG 0;have c1:=cellBlk mG 1;have cf:∀ j,wc3.frozen? ⟨G,j,none⟩=false:=fun j=>by simp[World.frozen?,mG]
    simp at c0 c1;go_simp;have hBn:=two_below hB xG 0 1 (.slice ya 0 yc) (.slice yb 0 yd);replace mG:=two_blk mG 0 1 (.slice ya 0 yc) (.slice yb 0 yd);clear c0 c1 cf;generalize (wc3.setCell ⟨G,0,none⟩ (.slice ya 0 yc)).setCell ⟨G,1,none⟩ (.slice yb 0 yd)=wc4 at *;refine otN hK (hSof _ hBn) ?_;replace hS:=hSof _ hBn;clear hK;replace hB:=hBn;clear hBn;refine tkN 10 hS ?_;refine dnN ?_
    go_wp2_with fail
    go_meet
    case rel=>exact⟨G,rfl,rfl,hB⟩
   ·go_simp
    have hbn:=below_box wc1 (Obj.cells #[.slice none 0 0,.slice none 0 0] 32);have mG:=Deep.blk_alloc_new wc1 (Obj.cells #[.slice none 0 0,.slice none 0 0] 32);have xG:wc.heap.size<=wc1.heap.size:=hB.size
    try have daG:TT<=wc1.heap.size:=sT
    generalize wc1.alloc (Obj.cells #[.slice none 0 0,.slice none 0 0] 32)=wc2 at hbn mG ⊢;obtain⟨G,hG⟩:∃ G,G=wc1.heap.size:=⟨_,rfl⟩;rw[<- hG] at mG xG ⊢
    try rw[<- hG] at daG
    clear hG;have hBn:Below wc.heap.size wc wc2:=hB.trans (hbn.mono hB.size);refine otN hK (hSof _ hBn) ?_;replace hS:=hSof _ hBn;clear hK;replace hAX:=hAX.keeps (Keeps.below hbn);replace hB:=hBn;clear hBn hbn;refine stN 4 (fun K hK=>?_);go_simp;refine(HRZ.out wc2 GM (HKc.out.trans (Keeps.below hB)) hAX).mono ?_;rintro e wc3 ⟨ya,yc,yb,yd,rfl,hbn⟩;have hBn:Below wc.heap.size wc wc3:=hB.trans (hbn.mono hB.size)
    refine otN hK (hSof _ hBn) ?_;replace hS:=hSof _ hBn;clear hK;replace hAX:=hAX.keeps (Keeps.below hbn);replace mG:=(hbn.block _ (Array.getElem?_eq_some_iff.1 mG).1).trans mG;replace hB:=hBn;clear hBn hbn;refine tkN 5 hS ?_;refine tkN 6 hS ?_;refine tkN 7 hS ?_;refine stN 9 (fun K hK=>?_);have c0:=cellBlk mG 0;have c1:=cellBlk mG 1;have cf:∀ j,wc3.frozen? ⟨G,j,none⟩=false:=fun j=>by simp[World.frozen?,mG]
    simp at c0 c1;go_simp;have hBn:=two_below hB xG 0 1 (.slice ya 0 yc) (.slice yb 0 yd);replace mG:=two_blk mG 0 1 (.slice ya 0 yc) (.slice yb 0 yd);clear c0 c1 cf;generalize (wc3.setCell ⟨G,0,none⟩ (.slice ya 0 yc)).setCell ⟨G,1,none⟩ (.slice yb 0 yd)=wc4 at *;refine otN hK (hSof _ hBn) ?_;replace hS:=hSof _ hBn;clear hK;replace hB:=hBn;clear hBn;refine tkN 10 hS ?_;refine dnN ?_
    go_wp2_with fail
    go_meet
    case rel=>exact⟨G,rfl,rfl,hB⟩
  ·go_simp
   have hbn:=below_box wc0 (Obj.cells #[.slice none 0 0,.slice none 0 0] 32);have mG:=Deep.blk_alloc_new wc0 (Obj.cells #[.slice none 0 0,.slice none 0 0] 32);have xG:wc.heap.size<=wc0.heap.size:=hB.size
   try have daG:TT<=wc0.heap.size:=sT
   generalize wc0.alloc (Obj.cells #[.slice none 0 0,.slice none 0 0] 32)=wc1 at hbn mG ⊢;obtain⟨G,hG⟩:∃ G,G=wc0.heap.size:=⟨_,rfl⟩;rw[<- hG] at mG xG ⊢
   try rw[<- hG] at daG
   clear hG;have hBn:Below wc.heap.size wc wc1:=hB.trans (hbn.mono hB.size);refine otN hK (hSof _ hBn) ?_;replace hS:=hSof _ hBn;clear hK;replace hB:=hBn;clear hBn hbn;refine stN 3 (fun K hK=>?_);go_simp;have hbn:=below_box wc1 (Obj.cells MC 27);have hAX:=hax wc1;generalize wc1.alloc (Obj.cells MC 27)=wc2 at hbn hAX ⊢;obtain⟨GM,hGM⟩:∃ GM,GM=wc1.heap.size:=⟨_,rfl⟩;rw[<- hGM] at hAX ⊢;clear hGM;have hBn:Below wc.heap.size wc wc2:=hB.trans (hbn.mono hB.size)
   refine otN hK (hSof _ hBn) ?_;replace hS:=hSof _ hBn;clear hK;replace mG:=(hbn.block _ (Array.getElem?_eq_some_iff.1 mG).1).trans mG;replace hB:=hBn;clear hBn hbn;refine stN 4 (fun K hK=>?_);go_simp;refine(HRZ.out wc2 GM (HKc.out.trans (Keeps.below hB)) hAX).mono ?_;rintro e wc3 ⟨ya,yc,yb,yd,rfl,hbn⟩;have hBn:Below wc.heap.size wc wc3:=hB.trans (hbn.mono hB.size);refine otN hK (hSof _ hBn) ?_;replace hS:=hSof _ hBn
   clear hK;replace mG:=(hbn.block _ (Array.getElem?_eq_some_iff.1 mG).1).trans mG;replace hAX:=hAX.keeps (Keeps.below hbn);replace hB:=hBn;clear hBn hbn;refine tkN 5 hS ?_;refine tkN 6 hS ?_;refine tkN 7 hS ?_;refine stN 9 (fun K hK=>?_);have c0:=cellBlk mG 0;have c1:=cellBlk mG 1;have cf:∀ j,wc3.frozen? ⟨G,j,none⟩=false:=fun j=>by simp[World.frozen?,mG]
   simp at c0 c1;go_simp;have hBn:=two_below hB xG 0 1 (.slice ya 0 yc) (.slice yb 0 yd);replace mG:=two_blk mG 0 1 (.slice ya 0 yc) (.slice yb 0 yd);clear c0 c1 cf;generalize (wc3.setCell ⟨G,0,none⟩ (.slice ya 0 yc)).setCell ⟨G,1,none⟩ (.slice yb 0 yd)=wc4 at *;refine otN hK (hSof _ hBn) ?_;replace hS:=hSof _ hBn;clear hK;replace hB:=hBn;clear hBn;refine tkN 10 hS ?_;refine dnN ?_
   go_wp2_with fail
   go_meet
   case rel=>exact⟨G,rfl,rfl,hB⟩
 case rest =>
  obtain⟨G,rfl,rfl,hBd⟩:=hcut;have hBw:=hBc.trans (hBd.mono hBc.size);have HKw:Aside (Keeps w2 wc):=HKc.out.trans (Keeps.below hBd);replace p3:=Keeps.below hBd _ _ p3;clear hBd hSof HRZ hBc HKc hmk hax hw30 hE10 hE60;have hcp:=copyP_any ao 3 cap A (lenOf (programS l 10)) C (xOf (programS l 10)) wc (HV.out _ HKw.out).1
  go_wp2_with fail
  refine hcp.mono ?_;rintro e wf ⟨A',C',rfl,hPf,hbf,hTop⟩;clear hcp;have hBf:=hBw.trans (hbf.mono hBw.size);have hTf:TabAt 0 wf:=(HV.out _ (HKw.out.trans (Keeps.below hbf))).2;have HGW:Aside (w.heap.size<=wc.heap.size+1+1):=by have:=hBw.size;show w.heap.size<=_;omega
  generalize wc.heap.size+1+1=g at *;clear hbf hBw HKw p3;obtain⟨NB,-,cg,-⟩:=boxes1 wf (.cells #[.slice (some ⟨g,0,none⟩) 3 3] 38)
  go_upto_region 10 with fail
  have hBg:=hBf.trans (cg.mono hBf.size);have hgl:g<wf.heap.size:=by
   obtain⟨c,h1,_⟩:=hTop;exact(Array.getElem?_eq_some_iff.1 h1).1
  replace hTop:=hTop.of_block (cg.block g hgl);replace hPf:=hPf.keeps (Keeps.below cg);replace hTf:=hTf.keeps (Keeps.below cg);have hBl:wf.heap.size≠g:=by omega
  generalize wf.alloc (.cells #[.slice (some ⟨g,0,none⟩) 3 3] 38)=wg at *;have b0:wg.cell? ⟨wf.heap.size,0,none⟩=some (.slice (some ⟨g,0,none⟩) 3 3):=cell_blk NB 0;have hbl2:wf.heap.size<wg.heap.size:=(Array.getElem?_eq_some_iff.1 NB).1;generalize wf.heap.size=BB at *;clear NB cg hBf hgl;have NL:=Deep.blk_alloc_new wg (.cells #[.int .i64 15,.int .i64 0,.int .i64 0,.int .i64 0,.int .i64 13,.int .i64 0,.int .i64 1,.int .i64 0,.int .i64 2,.int .i64 6,.int .i64 7,.int .i64 0,.int .i64 17,.int .i64 2,.int .i64 7,.int .i64 0] 43)
  have bl:=below_box wg (.cells #[.int .i64 15,.int .i64 0,.int .i64 0,.int .i64 0,.int .i64 13,.int .i64 0,.int .i64 1,.int .i64 0,.int .i64 2,.int .i64 6,.int .i64 7,.int .i64 0,.int .i64 17,.int .i64 2,.int .i64 7,.int .i64 0] 43)
  go_wp2_with fail
  generalize wg.alloc (.cells #[.int .i64 15,.int .i64 0,.int .i64 0,.int .i64 0,.int .i64 13,.int .i64 0,.int .i64 1,.int .i64 0,.int .i64 2,.int .i64 6,.int .i64 7,.int .i64 0,.int .i64 17,.int .i64 2,.int .i64 7,.int .i64 0] 43)=wh at *;refine(kPicked_any which 4 wh hwh (by omega) (by omega)).mono ?_;rintro e wi ⟨rfl,hbi⟩;rw[hj];have bi:=bl.trans (hbi.mono bl.size);have HO4:Aside (wi.cell? ⟨wg.heap.size,j*4,none⟩=some (.int .i64 (oddR j).op)/\wi.cell? ⟨wg.heap.size,j*4+1,none⟩=some (.int .i64 (oddR j).a)/\wi.cell? ⟨wg.heap.size,j*4+2,none⟩=some (.int .i64 (oddR j).b)/\wi.cell? ⟨wg.heap.size,j*4+3,none⟩=some (.int .i64 (oddR j).n)):=by
   have hh:=(hbi.block _ (Array.getElem?_eq_some_iff.1 NL).1).trans NL;have hj':j=0\/j=1\/j=2\/j=3:=by omega
   rcases hj' with rfl | rfl | rfl | rfl <;> exact⟨cell_blk hh _,cell_blk hh _,cell_blk hh _,cell_blk hh _⟩
  obtain⟨o0,o1,o2,o3⟩:=HO4.out;have hBi:=hBg.trans (bi.mono hBg.size);have hgg:g<wg.heap.size:=by
   obtain⟨c,h1,_⟩:=hTop;exact(Array.getElem?_eq_some_iff.1 h1).1
  replace hTop:=hTop.of_block (bi.block g hgg);replace hPf:=hPf.keeps (Keeps.below bi);replace hTf:=hTf.keeps (Keeps.below bi);replace b0:=Keeps.below bi _ _ b0;have hgi:g<wi.heap.size:=Nat.lt_of_lt_of_le hgg bi.size;have hbi2:BB<wi.heap.size:=Nat.lt_of_lt_of_le hbl2 bi.size;have hjz:(j:Int)<4:=by omega
  clear NL bl hbi bi hBg HO4 hgg hbl2;have hODD:(⟨(oddR j).op,(oddR j).a,(oddR j).b,(oddR j).n⟩:Ins)=oddR j:=rfl;generalize (oddR j).op=q0 at *;generalize (oddR j).a=q1 at *;generalize (oddR j).b=q2 at *;generalize (oddR j).n=q3 at *;have HODD:Aside ((⟨q0,q1,q2,q3⟩:Ins)=oddR j):=hODD;clear hODD;generalize wg.heap.size=LL at *;obtain⟨NO,-,co,-⟩:=boxes1 wi (.cells #[.int .i64 q0,.int .i64 q1,.int .i64 q2,.int .i64 q3] 43)
  go_upto_region 11 with fail
  have hBj:=hBi.trans (co.mono hBi.size);replace hTop:=hTop.of_block (co.block g hgi);replace hPf:=hPf.keeps (Keeps.below co);replace hTf:=hTf.keeps (Keeps.below co);replace b0:=Keeps.below co _ _ b0;generalize wi.alloc (.cells #[.int .i64 q0,.int .i64 q1,.int .i64 q2,.int .i64 q3] 43)=wj at *;have hgj:g<wj.heap.size:=Nat.lt_of_lt_of_le hgi co.size;have g0:wj.cell? ⟨g,0,none⟩=some (.slice (A' 0) (lenOf (programS l 10) 0) (C' 0)):=by
   obtain⟨b,o,e,hc⟩:=hPf.outer 0 (by omega);simp only[Option.some.injEq,Addr.mk.injEq,and_true] at e;obtain⟨rfl,rfl⟩:=e
   simpa using hc
  have hS0:SeqAt fIns 4 wj (A' 0) (behS 10 (third l 0)):=seq_rowAt (hPf.rows 0 (by omega)) rfl;have hL0:lenOf (programS l 10) 0=(behS 10 (third l 0)).length:=rfl;have hLb:(behS 10 (third l 0)).length<=12:=beh_len _ _;have hL1:1<=(behS 10 (third l 0)).length:=by simp[behS]
  rw[hL0] at g0;have d0:wj.cell? ⟨wi.heap.size,0,none⟩=some (.int .i64 q0):=cell_blk NO 0;have d1:wj.cell? ⟨wi.heap.size,1,none⟩=some (.int .i64 q1):=cell_blk NO 1;have d2:wj.cell? ⟨wi.heap.size,2,none⟩=some (.int .i64 q2):=cell_blk NO 2;have d3:wj.cell? ⟨wi.heap.size,3,none⟩=some (.int .i64 q3):=cell_blk NO 3;clear NO co hBi hgi o0 o1 o2 o3 hL0;generalize hR0:behS 10 (third l 0)=R0 at *;generalize hLZ:R0.length=LZ at *
  have HLZ:Aside (R0.length=LZ):=hLZ;have HR0:Aside (behS 10 (third l 0)=R0):=hR0;clear hLZ hR0;have hmx:maxLen=9223372036854775807:=rfl;have hSof:∀ w',Below wj.heap.size wj w'->(w'.cell? ⟨BB,0,none⟩=some (.slice (some ⟨g,0,none⟩) 3 3)/\w'.cell? ⟨g,0,none⟩=some (.slice (A' 0) LZ (C' 0))/\w'.cell? ⟨wi.heap.size,0,none⟩=some (.int .i64 q0)/\w'.cell? ⟨wi.heap.size,1,none⟩=some (.int .i64 q1)/\w'.cell? ⟨wi.heap.size,2,none⟩=some (.int .i64 q2)/\w'.cell? ⟨wi.heap.size,3,none⟩=some (.int .i64 q3)):=fun w' hb=>have k:=Keeps.below hb;⟨k _ _ b0,k _ _ g0,k _ _ d0,k _ _ d1,k _ _ d2,k _ _ d3⟩
  have hB:Below wj.heap.size wj wj.drew:=(Below.refl _ _).drew;refine wp_region_need (fun i=>i != 10) (fun w'=>w'.cell? ⟨BB,0,none⟩=some (.slice (some ⟨g,0,none⟩) 3 3)/\w'.cell? ⟨g,0,none⟩=some (.slice (A' 0) LZ (C' 0))/\w'.cell? ⟨wi.heap.size,0,none⟩=some (.int .i64 q0)/\w'.cell? ⟨wi.heap.size,1,none⟩=some (.int .i64 q1)/\w'.cell? ⟨wi.heap.size,2,none⟩=some (.int .i64 q2)/\w'.cell? ⟨wi.heap.size,3,none⟩=some (.int .i64 q3)) (by kernel_rfl) (hSof _ hB) (fun hS=>?_)
  generalize wj.drew=wc0 at hS hB ⊢;refine tkN 0 hS ?_;refine tkN 1 hS ?_;refine tkN 2 hS ?_;refine tkN 4 hS ?_;refine tkN 5 hS ?_;refine tkN 6 hS ?_;refine tkN 7 hS ?_;refine stN 3 (fun K hK=>?_);go_simp;have hbn:=below_box wc0 (Obj.cells #[.int .i64 q0,.int .i64 q1,.int .i64 q2,.int .i64 q3] 43);have hO:SeqOwn fIns 4 43 (wc0.alloc (Obj.cells #[.int .i64 q0,.int .i64 q1,.int .i64 q2,.int .i64 q3] 43)) wc0.heap.size (.slice (some ⟨wc0.heap.size,0,none⟩) 1 1) [⟨q0,q1,q2,q3⟩]:=ownsRow_lit (n:=1) (Deep.blk_alloc_new _ _) (Nat.le_refl _) rfl (by omega)
  generalize wc0.alloc (Obj.cells #[.int .i64 q0,.int .i64 q1,.int .i64 q2,.int .i64 q3] 43)=wc1 at hbn hO ⊢;have hB1:Below wj.heap.size wj wc1:=hB.trans (hbn.mono hB.size);refine otN hK (hSof _ hB1) ?_;clear hK;replace hS:=hSof _ hB1;refine stN 8 (fun K hK=>?_);refine step_seq Tryz.rowIns rfl _ _ (by rfl) (v:=.slice (some ⟨wc0.heap.size,0,none⟩) 1 1) (by simp[Act.eval]) hO hbn.size R0 (A' 0) (C' 0) (by simp[Act.eval,HLZ.out]) (hS0.keeps (Keeps.below hB1)) (by rw[HLZ.out];omega) (by simp[HLZ.out];omega) (by simp[HLZ.out];omega) ?_
  intro g8 c8 w8 hO8 _ hb8 _;have hB8:Below wj.heap.size wj w8:=hB1.trans (hb8.mono hB.size);have hA8:=hO8.at Tryz.rowIns.len;simp only[List.length_cons,List.length_nil,HLZ.out] at hA8 ⊢;refine otN hK (hSof _ hB8) ?_;clear hK;replace hS:=hSof _ hB8;refine tkN 9 hS ?_;have k8:=Keeps.below hB8;have g8':=k8 _ _ g0;have f8:w8.frozen? ⟨g,0,none⟩=false:=(hTop.of_block (hB8.block g hgj)).frozen 0;refine stN 10 (fun K hK=>?_)
  go_simp;refine laN hK ?_;clear hK;have hko:∀ p v,p≠⟨g,0,none⟩->w8.cell? p=some v->(w8.setCell ⟨g,0,none⟩ (.slice (some ⟨g8,0,none⟩) (1+LZ) c8)).cell? p=some v:=fun p v hp hv=>(World.cell?_setCell_other _ _ _ _ (fun e=>hp e.symm)).trans hv
  have h0:(w8.setCell ⟨g,0,none⟩ (.slice (some ⟨g8,0,none⟩) (1+LZ) c8)).cell? ⟨g,0,none⟩=some (.slice (some ⟨g8,0,none⟩) (1+LZ) c8):=World.cell?_setCell_same _ _ _ g8';have hKz:Aside (KindsAt (w8.setCell ⟨g,0,none⟩ (.slice (some ⟨g8,0,none⟩) (1+LZ) c8)) (some ⟨g,0,none⟩) (badOf (programS l 10) j)):=by
   have hq:(⟨q0,q1,q2,q3⟩:Ins)=oddR j:=HODD.out;have:=kinds_bad (x:=oddR j) (hPf.keeps k8) g8' hko (by rw[HR0.out,HLZ.out,Nat.add_comm LZ 1];exact h0) (seqIns_off (g:=g) (by rw[<- hq,HR0.out];exact hA8) g8' hko);exact this
  have hBz:Below w.heap.size w (w8.setCell ⟨g,0,none⟩ (.slice (some ⟨g8,0,none⟩) (1+LZ) c8)):=(hBj.trans (hB8.mono hBj.size)).setCell HGW.out _;have bz:=hko _ _ (fun e=>hBl (congrArg Addr.block e)) (k8 _ _ b0);have hTz:TabAt 0 (w8.setCell ⟨g,0,none⟩ (.slice (some ⟨g8,0,none⟩) (1+LZ) c8)):=hT0.keeps (Keeps.below hBz);clear hko hA8 hO8 hb8 hB8 k8 g8' f8 hS hSof hB hB1 hO hbn d0 d1 d2 d3 g0 hS0 hTop hPf hTf b0 hBj HV
  generalize w8.setCell ⟨g,0,none⟩ (.slice (some ⟨g8,0,none⟩) (1+LZ) c8)=wz at *;have hfit:∀ x∈badOf (programS l 10) j,x.length<=1000000/\∀ y∈x,insFit y:=fun x hx=>by
   have hf:=programS_fits l 10 (by omega);have hx':x=oddR j :: behS 10 (third l 0)\/x∈programS l 10:=by
    simp only[badOf,programS,List.mem_cons,List.not_mem_nil,or_false] at hx ⊢
    rcases hx with h | h | h
    ·exact Or.inl h
    ·exact Or.inr (Or.inr (Or.inl h))
    ·exact Or.inr (Or.inr (Or.inr h))
   rcases hx' with rfl | h
   ·have h2:=hf (behS 10 (third l 0)) (by simp[programS])
    have h3:=beh_len (third l 0) 10;refine⟨by rw[List.length_cons];omega,fun y hy=>?_⟩
    rcases List.mem_cons.1 hy with rfl | hy
    ·exact odd_fit j hj4
    ·exact h2.2 y hy
   ·exact hf x h
  obtain⟨A2,C2,hP2⟩:=prog_of hKz.out (by show 3<=1000000;omega) hfit;have hP3:ProgAt wz (some ⟨g,0,none⟩) 3 A2 (lenOf (badOf (programS l 10) j)) C2 (xOf (badOf (programS l 10) j)):=hP2;have hr12:=run_any (some ⟨g,0,none⟩) 3 3 A2 _ C2 _ 10 none 0 [] wz hTz hP3 (fun i a hi=>by simp at hi) (by simp);rw[run_bad hEB (by omega)] at hr12;have hvc:=fun w' (hb:Below wz.heap.size wz w')=>vcheck_any (some ⟨g,0,none⟩) 3 3 A2 (lenOf (badOf (programS l 10) j)) C2 (xOf (badOf (programS l 10) j)) w' (hTz.keeps (Keeps.below hb)) (hP3.keeps (Keeps.below hb))
  rw[hbk] at hvc;clear hKz hfit hP2 hP3 hbk hck hpf hEB hTz
  go_wp2_with fail
  refine hr12.mono ?_;rintro e wA ⟨a8,d8,b8,f8,rfl,hbA,_,_,_⟩
  dsimp only
  simp only[List.length_nil];have hBA:=hBz.trans (hbA.mono hBz.size);obtain⟨-,-,cA,-⟩:=boxes1 wA (.cells #[.slice a8 0 d8,.slice b8 0 f8] 32)
  go_upto_region 13 with fail
  generalize wA.alloc (.cells #[.slice a8 0 d8,.slice b8 0 f8] 32)=wB at *;have bAB:=hbA.trans (cA.mono hbA.size);have hBB:=hBz.trans (bAB.mono hBz.size);replace bz:=Keeps.below bAB _ _ bz;replace h0:=Keeps.below bAB _ _ h0;have hlz:¬ (60:Int)<((1+LZ:Nat):Int):=by omega
  have hvB:=hvc wB bAB;clear hr12 hbA cA hBA hvc bAB
  go_wp2_with fail
  refine hvB.mono ?_;rintro e wC ⟨rfl,hbC⟩;have hBC:=hBB.trans (hbC.mono hBB.size)
  dsimp only
  clear hvB hbC hBB bz h0;go_wp2
  go_ret
  exact⟨rfl,hBC⟩
theorem topBad_walk (a0:Option Addr) (c0:Nat) (l0:List Rw) (n1 n2:Int) (w:World) (hT:TabAt 0 w) (h0:RawsAt w a0 l0) (hb0:32*l0.length<=140737488351232) (h1:-9223372036854775808<=n1/\n1<=9223372036854775807) (h2:-9223372036854775808<=n2/\n2<=9223372036854775807) :
  Calls Tryz.prog 8 #[.slice a0 l0.length c0,.int .i64 n1,.int .i64 n2] w fun e w'=>e=.returned (.bool true)/\Below w.heap.size w w' :=
 topBad_any l0 a0 c0 n1 n2 w hT h0 (by omega) h1 h2
end
section
open Go.ChangeShapes Go.WideShapes Go.ChangeAt Go.RowKit Go.Deep
theorem reach_eq:reachBytes=140737488351232:=rfl
theorem getElem?_ofRange {α:Type} {f:Nat->α} {n i:Nat} {v:α} (h:((List.range n).map f)[i]?=some v):i<n/\f i=v:=by
 rw[List.getElem?_map] at h;obtain⟨j,hj,rfl⟩:=Option.map_eq_some_iff.1 h;obtain⟨hi,rfl⟩:=List.getElem?_eq_some_iff.1 hj;rw[List.length_range] at hi;exact⟨hi,by simp⟩
section
variable {H:Type} {enc:TypeId × Value->H} {P:Program} {w:World} {base:Nat} {spare:Nat->Bool} {held:Bool}
variable {tH tOO tO tVV tV tN tB:TypeId} {h0 h1 o0 o1 v0 v1:Field}
end
end
end Go.Proofs.YtepifccbbmdfcaaGreatDoor
