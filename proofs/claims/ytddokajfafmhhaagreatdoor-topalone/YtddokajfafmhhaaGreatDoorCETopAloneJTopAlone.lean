/- JTopAlone. -/
import Derived.Test.YtddokajfafmhhaaGreatDoorCETopAloneTForm
namespace Go.Proofs.YtddokajfafmhhaaGreatDoor
set_option maxRecDepth 100000
set_option maxHeartbeats 8000000
section
open Go.RowKit
theorem ax_step {n:Nat} (h:n<8):axFault ⟨1,n,0,0⟩=0:=by
 unfold axFault
 simp only;have w2:isW 0=true:=isW_iff.2 (by omega);rw[if_neg (by omega),w2,if_neg (by simp;omega)]
theorem alone_step {l:List Rw} {V:Wd} (h:WOk 3 (pL l) (pF l) V) {n:Nat} (ha:aloneB (pX l) V n=true) :
  (V.acts.length<=n->actS (pX l) V ⟨1,n,0,0⟩=V)/\(n<V.acts.length->soloOk (pX l) n (V.at n)/\actS (pX l) V ⟨1,n,0,0⟩=V.put n (soloS (pX l) n (V.at n)).1):=by
 refine⟨fun hl=>by unfold actS;rw[if_pos (by simp;omega)],fun hl=>?_⟩;have e:actS (pX l) V ⟨1,n,0,0⟩=stepS (pX l) V n:=by
  unfold actS
  rw[if_neg (by simp;omega),if_pos rfl]
  rfl
 have hk:=(h.at (n:=n) ⟨by omega,by omega⟩).2;have hs:soloOk (pX l) n (V.at n):=by
  unfold aloneB at ha
  by_cases hf:(V.at n).fin=0
  ·rw[if_neg (by rintro(c | c);omega;exact c hf)] at ha
   by_cases hc:0<=(V.at n).pc/\(insAt (pX l) (V.at n).kind (V.at n).pc).op∈[(13:Int),14,15,17,19]
   ·rw[if_pos hc] at ha;cases ha
   ·rw[if_neg hc,e] at ha
    refine solo_of hl (fun hp=>?_) hk.pc.1 (by simpa using ha);have hn:(insAt (pX l) (V.at n).kind (V.at n).pc).op∉[(13:Int),14,15,17,19]:=fun hm=>hc ⟨hp,hm⟩
    simp only[List.mem_cons,List.not_mem_nil,or_false,not_or] at hn;exact⟨hn.1,hn.2.1,hn.2.2.1,hn.2.2.2.1⟩
  ·exact .inl hf
 exact⟨hs,e.trans (step_solo hl hs)⟩
theorem alone_rest {l:List Rw} {V:Wd} (h:WOk 3 (pL l) (pF l) V) {n:Nat} (ha:aloneB (pX l) V n=true) :
  (actS (pX l) V ⟨1,n,0,0⟩).acts.length=V.acts.length/\(actS (pX l) V ⟨1,n,0,0⟩).prints.length=V.prints.length/\∀ (i:Nat) x,V.acts[i]?=some x->i≠n->(actS (pX l) V ⟨1,n,0,0⟩).acts[i]?=some x:=by
 obtain⟨h1,h2⟩:=alone_step h ha
 by_cases hl:n<V.acts.length
 ·rw[(h2 hl).2]
  exact⟨put_len _ _ _,rfl,fun i x hx hi=>by rw[put_get hl,if_neg hi];exact hx⟩
 ·rw[h1 (by omega)]
  exact⟨rfl,rfl,fun i x hx _=>hx⟩
theorem topAlone_any (l m:List Rw) (la ma:Option Addr) (lc mc:Nat) (most an:Int) (w:World) (hT:TabAt 0 w) (h:RawsAt w la l) (hm:RawsAt w ma m) (hll:32*l.length<=140737488355328) (hmo:fit64 most) (han:fit64 an) :
  Calls Tryz.prog 5 #[.slice la l.length lc,.slice ma m.length mc,.int .i64 most,.int .i64 an] w fun e w'=>e=.returned (.bool true)/\Below w.heap.size w w':=by
 have hpl:=fun w' (hb:Below w.heap.size w w')=>played_any l m la ma lc mc most w' (hT.keeps (Keeps.below hb)) (h.keeps (Keeps.below hb)) (hm.keeps (Keeps.below hb)) hll hmo
 have hOK:=(play_ok l m most).1;have hp4:=pick_bd (n:=an) (many:=4) (by omega);obtain⟨n,hn⟩:=Int.eq_ofNat_of_zero_le hp4.1;have hn4:n<4:=by omega
 have HRS:Aside (aloneB (pX l) (playS l m most) n=true->_):=fun ha=>alone_rest (l:=l) hOK ha
 have HST:Aside (∀ (i:Nat) x,(playS l m most).acts[i]?=some x->x.regs.length=8/\x.box.length<=6/\hMay x.M x.obs (x.regs++x.box)=true):=fun i x hx=>⟨(hOK.acts i x hx).str.regs,(hOK.acts i x hx).str.box,(hOK.acts i x hx).str.may⟩
 have HKP:Aside (n<(playS l m most).acts.length->(0<=((playS l m most).at n).kind/\((playS l m most).at n).kind<((3:Nat):Int))/\-1<=((playS l m most).at n).pc/\((playS l m most).at n).pc<(pL l ((playS l m most).at n).kind.toNat:Int)):=fun hl=>by
  have:=(hOK.at (n:=n) ⟨by omega,by omega⟩).2;exact⟨this.kind,this.pc⟩
 have HD:Aside (doWS 3 (pL l) (pX l) (playS l m most) ⟨1,n,0,0⟩=(actS (pX l) (playS l m most) ⟨1,n,0,0⟩,0)):=ok_do (l:=l) hOK (ax_step (by omega));have HLB:Aside (∀ k,k<3->pL l k<=1000000):=fun k hk=>by
  obtain⟨hpf,_⟩:=ver_of (G:=3) (L:=pL l) (X:=pX l) (congrArg (fun q=>q.2.2) (program_ok l 14));have:=((progV_ok hpf).2.1 k hk).2;omega
 have hl8:(playS l m most).acts.length<=8:=hOK.len.2;clear hOK
 go_enter Tryz.func5,Tryz.ntmps5
 go_wp2_with fail
 refine(worldTells_any w hT).mono ?_;rintro e w1 ⟨rfl,hb1⟩
 go_wp2_with fail
 refine(hpl w1 hb1).mono ?_;rintro e w2 ⟨ao,cap,xa,xc,aa,ac,pa,pc,rfl,hb2,hK,_,hVA,hVP⟩;clear hpl;obtain⟨A,C,hPA,_,_⟩:=program_prog (by omega) hK;have hB2:=hb1.trans (hb2.mono hb1.size);have HV:Aside (∀ w',Keeps w2 w'->(ProgAt w' ao 3 A (pL l) C (pX l)/\TabAt 0 w')/\ActsAt w' aa (playS l m most).acts/\ToldAt w' pa (playS l m most).prints):=fun w' q=>⟨⟨hPA.keeps q,(hT.keeps (Keeps.below hB2)).keeps q⟩,hVA.keeps q,hVP.keeps q⟩
 generalize playS l m most=V at *;generalize pX l=PX at *;generalize pL l=PL at *;have hal:=fun w' (hk:Keeps w2 w')=>alone_any ao 3 cap A PL C PX aa pa ac pc V n w' (HV.out w' hk).1.2 (HV.out w' hk).1.1 (HV.out w' hk).2.1 (HV.out w' hk).2.2 HLB.out HKP.out HD.out
 have hdo:=fun w' (hk:Keeps w2 w')=>do_any ao 3 cap A PL C PX aa pa ac pc V 1 n 0 0 w' (HV.out w' hk).1.2 (HV.out w' hk).1.1 (HV.out w' hk).2.1 (HV.out w' hk).2.2
 simp only[HD.out] at hdo;generalize actS PX V ⟨1,n,0,0⟩=V2 at *;generalize aloneB PX V n=AB at *;obtain⟨LA,hLA⟩:∃ LA,LA=V.acts.length:=⟨_,rfl⟩;have HLA:Aside (LA=V.acts.length):=hLA;obtain⟨LP,hLP⟩:∃ LP,LP=V.prints.length:=⟨_,rfl⟩;have HLP:Aside (LP=V.prints.length):=hLP;rw[<- hLA,<- hLP] at hal hdo ⊢;rw[<- hLA] at hl8;clear hLA hLP hK hPA hVA hVP hT h hm;obtain⟨NP,NW,_,cb,cs⟩:=boxes2 w2 (.cells #[.slice ao 3 cap] 25) (.cells #[.slice aa LA ac,.slice pa LP pc] 29)
 have hK3:=Keeps.below cb;have hB3:=hB2.trans (cb.mono hB2.size)
 go_upto_region 4 with fail
 generalize (w2.alloc (.cells #[.slice ao 3 cap] 25)).alloc (.cells #[.slice aa LA ac,.slice pa LP pc] 29)=w3 at *;have p0:w3.cell? ⟨w2.heap.size,0,none⟩=some (.slice ao 3 cap):=cell_blk NP 0;have q0:w3.cell? ⟨w2.heap.size+1,0,none⟩=some (.slice aa LA ac):=cell_blk NW 0;have q1:w3.cell? ⟨w2.heap.size+1,1,none⟩=some (.slice pa LP pc):=cell_blk NW 1;have hPQ:w2.heap.size+1<w3.heap.size:=by omega
 clear cs NP NW cb hb1 hb2;generalize w2.heap.size=P at *
 go_wp2_with fail
 refine(kPicked_any an 4 w3 han (by omega) (by omega)).mono ?_;rintro e w4 ⟨rfl,hb4⟩;rw[hn];have hK4:=hK3.trans (Keeps.below hb4);have hB4:=hB3.trans (hb4.mono hB3.size);replace p0:=Keeps.below hb4 _ _ p0;replace q0:=Keeps.below hb4 _ _ q0;replace q1:=Keeps.below hb4 _ _ q1;have hs4:=hb4.size;clear hb4 hK3 hB3
 go_wp2_with fail
 refine(hal w4 hK4).mono ?_;rintro e w5 ⟨rfl,hb5⟩;have hK5:=hK4.trans (Keeps.below hb5);have hB5:=hB4.trans (hb5.mono hB4.size);have hs5:=hb5.size;replace p0:=Keeps.below hb5 _ _ p0;replace q0:=Keeps.below hb5 _ _ q0;replace q1:=Keeps.below hb5 _ _ q1;clear hal hb5 hK4 hB4
 cases AB with
 | false =>
  go_wp2
  go_ret
  exact⟨rfl,hB5⟩
 | true =>
  obtain⟨e1,e2,e3⟩:=HRS.out rfl;rw[<- HLA.out] at e1;rw[<- HLP.out] at e2;have HE3:Aside (∀ (i:Nat) x,V.acts[i]?=some x->i≠n->V2.acts[i]?=some x):=e3;have hd:=hdo w5 hK5;clear hdo HRS e3 HD
  go_wp2_with fail
  refine hd.mono ?_;rintro e w6 ⟨ya,yc,yb,yd,rfl,hb6,hYA,hYP,_⟩;simp only at hYA hYP ⊢;rw[e1,e2];have hK6:=hK5.trans (Keeps.below hb6);have hB6:=hB5.trans (hb6.mono hB5.size);have hs6:=hb6.size;replace q0:=Keeps.below hb6 _ _ q0;replace q1:=Keeps.below hb6 _ _ q1;obtain⟨N7,k7,c7,s7⟩:=boxes1 w6 (.cells #[.slice ya LA yc,.slice yb LP yd] 29);have hK7:=hK6.trans k7;have hB7:=hB6.trans (c7.mono hB6.size)
  replace q0:=k7 _ _ q0;replace q1:=k7 _ _ q1;have HYA:Aside (ActsAt (w6.alloc (.cells #[.slice ya LA yc,.slice yb LP yd] 29)) ya V2.acts):=hYA.keeps k7;clear hYA hYP hd hb6 hK5 hB5 p0 hK6 hB6
  go_upto_region 8 with fail
  generalize w6.alloc (.cells #[.slice ya LA yc,.slice yb LP yd] 29)=w7 at *;have g0:w7.cell? ⟨w6.heap.size,0,none⟩=some (.slice ya LA yc):=cell_blk N7 0;have g1:w7.cell? ⟨w6.heap.size,1,none⟩=some (.slice yb LP yd):=cell_blk N7 1;generalize w6.heap.size=Q at *;have HC:Aside (w7.cell? ⟨P+1,0,none⟩=some (.slice aa LA ac)/\w7.cell? ⟨Q,0,none⟩=some (.slice ya LA yc)):=⟨q0,g0⟩;have HK7:Aside (Keeps w2 w7/\Below w.heap.size w w7):=⟨hK7,hB7⟩
  clear hK7 hB7;go_wp2
  go_loopg [71,16] LA (fun g s71 s16 wr=>∃ i:Nat,i<=LA/\g=LA-i/\s71=.int .i64 i/\Below w7.heap.size w7 wr)
  case atStart=>exact⟨0,Nat.zero_le _,rfl,rfl,Below.refl _ _⟩
  case round =>
   obtain⟨i,hi,rfl,rfl,hbr⟩:=hrel
   by_cases hiL:i<LA
   ·have hiz:(i:Int)<(LA:Int):=by omega
    have hBr:Below wr.heap.size wr wr.drew:=(Below.refl _ _).drew;have hbr2:Below w7.heap.size w7 wr.drew:=hbr.trans (hBr.mono hbr.size);clear q0 q1 g0 g1
    by_cases hin:i=n
    ·subst hin
     go_upto_region 13 with fail
     refine wp_region_need (fun _=>true) (fun _=>True) (by kernel_rfl) trivial (fun hS=>?_);generalize wr.drew=wc0 at *;refine tkN 0 hS ?_;refine tkN 1 hS ?_;refine tkN 2 hS ?_;refine tkN 3 hS ?_;refine skN 4 hS ?_;refine skN 5 hS ?_;refine skN 6 hS ?_;refine skN 7 hS ?_;refine skN 8 hS ?_;refine skN 9 hS ?_;refine skN 10 hS ?_;refine skN 11 hS ?_;refine skN 12 hS ?_;refine skN 13 hS ?_;refine skN 14 hS ?_
     refine skN 15 hS ?_;refine skN 16 hS ?_;refine skN 17 hS ?_;refine tkN 18 hS ?_;refine dnN ?_;go_wp2
     go_roundg (LA-(i+1))
     case measure=>go_light;omega
     case rel=>go_light;exact⟨i+1,by omega,rfl,by go_num,hbr2⟩
    ·have hne:((i:Int) != (n:Int))=true:=by simp;omega
     obtain⟨x,hx⟩:=at_some (l:=V.acts) (i:=i) (by rw[<- HLA.out];exact hiL);have hx2:=HE3.out i x hx hin;obtain⟨h8,h6,hmay⟩:=HST.out i x hx;obtain⟨b1,o1,oa,oc,ra,rc,ba,bc,rfl,A1⟩:=(HV.out wr (HK7.out.1.trans (Keeps.below hbr))).2.1.cell i x hx;obtain⟨b2,o2,yoa,yoc,yra,yrc,yba,ybc,rfl,A2⟩:=(HYA.out.keeps (Keeps.below hbr)).cell i x hx2;have hSof:∀ w',Below wr.heap.size wr w'->(w'.cell? ⟨P+1,0,none⟩=some (.slice (some ⟨b1,o1,none⟩) LA ac)/\w'.cell? ⟨Q,0,none⟩=some (.slice (some ⟨b2,o2,none⟩) LA yc)/\w'.cell? ⟨b1,o1+i*8,none⟩=some (.int .i64 x.kind)/\w'.cell? ⟨b1,o1+i*8+1,none⟩=some (.int .i64 x.par)/\w'.cell? ⟨b1,o1+i*8+2,none⟩=some (.int .i64 x.M)/\w'.cell? ⟨b1,o1+i*8+3,none⟩=some (.slice oa x.obs.length oc)/\w'.cell? ⟨b1,o1+i*8+4,none⟩=some (.slice ra x.regs.length rc)/\w'.cell? ⟨b1,o1+i*8+5,none⟩=some (.int .i64 x.pc)/\w'.cell? ⟨b1,o1+i*8+6,none⟩=some (.slice ba x.box.length bc)/\w'.cell? ⟨b1,o1+i*8+7,none⟩=some (.int .i64 x.fin)/\w'.cell? ⟨b2,o2+i*8,none⟩=some (.int .i64 x.kind)/\w'.cell? ⟨b2,o2+i*8+1,none⟩=some (.int .i64 x.par)/\w'.cell? ⟨b2,o2+i*8+2,none⟩=some (.int .i64 x.M)/\w'.cell? ⟨b2,o2+i*8+3,none⟩=some (.slice yoa x.obs.length yoc)/\w'.cell? ⟨b2,o2+i*8+4,none⟩=some (.slice yra x.regs.length yrc)/\w'.cell? ⟨b2,o2+i*8+5,none⟩=some (.int .i64 x.pc)/\w'.cell? ⟨b2,o2+i*8+6,none⟩=some (.slice yba x.box.length ybc)/\w'.cell? ⟨b2,o2+i*8+7,none⟩=some (.int .i64 x.fin)):=fun w' hb =>
      have k:=Keeps.below hb;have k0:=(Keeps.below hbr).trans k
      ⟨k0 _ _ HC.out.1,k0 _ _ HC.out.2,k _ _ A1.c0,k _ _ A1.c1,k _ _ A1.c2,k _ _ A1.c3,k _ _ A1.c4,k _ _ A1.c5,k _ _ A1.c6,k _ _ A1.c7,k _ _ A2.c0,k _ _ A2.c1,k _ _ A2.c2,k _ _ A2.c3,k _ _ A2.c4,k _ _ A2.c5,k _ _ A2.c6,k _ _ A2.c7⟩
     have hf1:=fun w' (hb:Below wr.heap.size wr w')=>tform_any x oa ra ba oc rc bc w' (A1.obs.keeps (Keeps.below hb)) (A1.regs.keeps (Keeps.below hb)) (A1.box.keeps (Keeps.below hb)) h8 h6 hmay
     have hf2:=fun w' (hb:Below wr.heap.size wr w')=>tform_any x yoa yra yba yoc yrc ybc w' (A2.obs.keeps (Keeps.below hb)) (A2.regs.keeps (Keeps.below hb)) (A2.box.keeps (Keeps.below hb)) h8 h6 hmay
     have hfl:=formL_len hmay h8 h6;obtain⟨xk,xp,xM,xo,xr,xpc,xb,xf⟩:=x;simp only at hSof hf1 hf2;generalize formL ⟨xk,xp,xM,xo,xr,xpc,xb,xf⟩=FL at *;clear A1 A2 hx hx2 h8 h6 hmay;generalize xo.length=OL at *;generalize xr.length=RL at *;generalize xb.length=XL at *
     go_upto_region 13 with fail
     refine wp_region_need (fun _=>true) (fun w'=>w'.cell? ⟨P+1,0,none⟩=some (.slice (some ⟨b1,o1,none⟩) LA ac)/\w'.cell? ⟨Q,0,none⟩=some (.slice (some ⟨b2,o2,none⟩) LA yc)/\w'.cell? ⟨b1,o1+i*8,none⟩=some (.int .i64 xk)/\w'.cell? ⟨b1,o1+i*8+1,none⟩=some (.int .i64 xp)/\w'.cell? ⟨b1,o1+i*8+2,none⟩=some (.int .i64 xM)/\w'.cell? ⟨b1,o1+i*8+3,none⟩=some (.slice oa OL oc)/\w'.cell? ⟨b1,o1+i*8+4,none⟩=some (.slice ra RL rc)/\w'.cell? ⟨b1,o1+i*8+5,none⟩=some (.int .i64 xpc)/\w'.cell? ⟨b1,o1+i*8+6,none⟩=some (.slice ba XL bc)/\w'.cell? ⟨b1,o1+i*8+7,none⟩=some (.int .i64 xf)/\w'.cell? ⟨b2,o2+i*8,none⟩=some (.int .i64 xk)/\w'.cell? ⟨b2,o2+i*8+1,none⟩=some (.int .i64 xp)/\w'.cell? ⟨b2,o2+i*8+2,none⟩=some (.int .i64 xM)/\w'.cell? ⟨b2,o2+i*8+3,none⟩=some (.slice yoa OL yoc)/\w'.cell? ⟨b2,o2+i*8+4,none⟩=some (.slice yra RL yrc)/\w'.cell? ⟨b2,o2+i*8+5,none⟩=some (.int .i64 xpc)/\w'.cell? ⟨b2,o2+i*8+6,none⟩=some (.slice yba XL ybc)/\w'.cell? ⟨b2,o2+i*8+7,none⟩=some (.int .i64 xf)) (by kernel_rfl) (hSof _ hBr) (fun hS=>?_)
     generalize wr.drew=wc0 at *;refine tkN 0 hS ?_;refine tkN 1 hS ?_;refine tkN 2 hS ?_;refine tkN 3 hS ?_;refine tkN 4 hS ?_;refine tkN 5 hS ?_;refine tkN 6 hS ?_;refine tkN 7 hS ?_;refine tkN 8 hS ?_;refine tkN 10 hS ?_;refine tkN 11 hS ?_;refine tkN 12 hS ?_;refine tkN 13 hS ?_;refine tkN 14 hS ?_;refine stN 9 (fun K hK=>?_);go_simp;refine(hf1 wc0 hBr).mono ?_;rintro e wa ⟨u1,v1,rfl,hba,hI1⟩;have hBa:=hBr.trans (hba.mono hBr.size)
     refine otN hK (hSof _ hBa) ?_;clear hK;replace hS:=hSof _ hBa;refine stN 15 (fun K hK=>?_);go_simp;refine(hf2 wa hBa).mono ?_;rintro e wb ⟨u2,v2,rfl,hbb,hI2⟩;have hBb:=hBa.trans (hbb.mono hBa.size);refine otN hK (hSof _ hBb) ?_;clear hK;replace hS:=hSof _ hBb;refine stN 16 (fun K hK=>?_);go_simp;refine(equalInts_any u1 u2 v1 v2 FL wb (hI1.keeps (Keeps.below hbb)) hI2 (by omega)).mono ?_;rintro e wd ⟨rfl,nd,rfl⟩
     have hBd:=below_drewN hBb nd;refine otN hK (hSof _ hBd) ?_;clear hK;replace hS:=hSof _ hBd;refine tkN 17 hS ?_;refine tkN 18 hS ?_;refine dnN ?_;have hbr3:=hbr.trans (hBd.mono hbr.size);go_wp2
     go_roundg (LA-(i+1))
     case measure=>go_light;omega
     case rel=>go_light;exact⟨i+1,by omega,rfl,by go_num,hbr3⟩
   ·have hiz:¬ (i:Int)<(LA:Int):=by omega
    have hBz:=HK7.out.2.trans (hbr.mono HK7.out.2.size);go_wp2
    go_ret
    exact⟨rfl,hBz⟩
theorem topAlone_walk (a0:Option Addr) (c0:Nat) (l0:List Rw) (a1:Option Addr) (c1:Nat) (l1:List Rw) (n2 n3:Int) (w:World) (hT:TabAt 0 w) (h0:RawsAt w a0 l0) (hb0:32*l0.length<=140737488351232) (h1:RawsAt w a1 l1) (_:32*l1.length<=140737488351232) (h2:-9223372036854775808<=n2/\n2<=9223372036854775807) (h3:-9223372036854775808<=n3/\n3<=9223372036854775807) :
  Calls Tryz.prog 5 #[.slice a0 l0.length c0,.slice a1 l1.length c1,.int .i64 n2,.int .i64 n3] w fun e w'=>e=.returned (.bool true)/\Below w.heap.size w w' :=
 topAlone_any l0 l1 a0 a1 c0 c1 n2 n3 w hT h0 h1 (by omega) h2 h3
end
section
open Go.ChangeShapes Go.WideShapes Go.ChangeAt Go.RowKit
theorem and_up {a b:Bool} (ha:a=true) (hb:b=true):(a && b)=true:=by rw[ha,hb];rfl
theorem topAlone_facts:joinedFacts Tryz.prog 5 Tryz.f5 Rows.topAloneSpec Rows.topAloneRow=true:=by
 unfold joinedFacts
 refine and_up ?_ (by as_aux_lemma=>kernel_rfl);refine and_up ?_ (by as_aux_lemma=>kernel_rfl);refine and_up ?_ (by as_aux_lemma=>kernel_rfl);refine and_up ?_ (by as_aux_lemma=>kernel_rfl);refine and_up ?_ (by as_aux_lemma=>kernel_rfl);refine and_up ?_ (by as_aux_lemma=>kernel_rfl);refine and_up ?_ (by as_aux_lemma=>kernel_rfl);refine and_up ?_ (by as_aux_lemma=>kernel_rfl);refine and_up ?_ (by as_aux_lemma=>kernel_rfl)
 refine and_up ?_ (by as_aux_lemma=>kernel_rfl);refine and_up ?_ (by as_aux_lemma=>kernel_rfl);refine and_up ?_ (by as_aux_lemma=>kernel_rfl);refine and_up ?_ (by as_aux_lemma=>kernel_rfl);refine and_up ?_ (by as_aux_lemma=>kernel_rfl);refine and_up ?_ (by as_aux_lemma=>kernel_rfl);refine and_up ?_ (by as_aux_lemma=>kernel_rfl);refine and_up ?_ (by as_aux_lemma=>kernel_rfl);refine and_up ?_ (by as_aux_lemma=>kernel_rfl)
 refine and_up ?_ (by as_aux_lemma=>kernel_rfl);refine and_up ?_ (by as_aux_lemma=>kernel_rfl);refine and_up ?_ (by as_aux_lemma=>kernel_rfl);refine and_up ?_ (by as_aux_lemma=>kernel_rfl);refine and_up ?_ (by as_aux_lemma=>kernel_rfl);refine and_up ?_ (by as_aux_lemma=>kernel_rfl);refine and_up ?_ (by as_aux_lemma=>kernel_rfl);refine and_up ?_ (by as_aux_lemma=>kernel_rfl);refine and_up ?_ (by as_aux_lemma=>kernel_rfl)
 refine and_up ?_ (by as_aux_lemma=>kernel_rfl);refine and_up ?_ (by as_aux_lemma=>kernel_rfl);refine and_up ?_ (by as_aux_lemma=>kernel_rfl);refine and_up ?_ (by as_aux_lemma=>kernel_rfl)
 as_aux_lemma=>kernel_rfl
end
end Go.Proofs.YtddokajfafmhhaaGreatDoor
