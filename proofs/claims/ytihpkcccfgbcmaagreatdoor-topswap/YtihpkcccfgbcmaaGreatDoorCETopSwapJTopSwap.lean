/- JTopSwap. -/
import Derived.Deep.Modes
import Derived.Test.YtihpkcccfgbcmaaGreatDoorCETopSwapHEq
namespace Go.Proofs.YtihpkcccfgbcmaaGreatDoor
set_option maxRecDepth 100000
set_option maxHeartbeats 8000000
section
open Go.RowKit
theorem equalTold_any (aa ab:Option Addr) (ca cb:Nat) (l:List (Int × Int)) (w:World) (ha:ToldAt w aa l) (hb:ToldAt w ab l) :
  Calls Tryz.prog 19 #[.slice aa l.length ca,.slice ab l.length cb] w fun e w'=>e=.returned (.bool true)/\∃ n,w'=w.drewN n:=by
 have hl:=ha.many;obtain⟨L,hL⟩:∃ L,L=l.length:=⟨_,rfl⟩;have HL:Aside (L=l.length):=hL;rw[<- hL] at hl ⊢;clear hL
 go_enter Tryz.func19,Tryz.ntmps19
 go_wp2
 go_loopg [13,5] L (fun g s13 s5 wr=>∃ i n:Nat,i<=L/\g=L-i/\s13=.int .i64 i/\wr=w.drewN n)
 case atStart=>exact⟨0,0,Nat.zero_le _,rfl,rfl,rfl⟩
 case round =>
  obtain⟨i,n,hi,rfl,rfl,rfl⟩:=hrel
  by_cases hiL:i<L
  ·have hiz:(i:Int)<(L:Int):=by omega
   obtain⟨⟨vk,vn⟩,hv⟩:=at_some (l:=l) (i:=i) (by rw[<- HL.out];exact hiL);obtain⟨ba,oa,rfl,a1,a2⟩:=ha.cell i _ hv;obtain⟨bb,ob,rfl,b1,b2⟩:=hb.cell i _ hv;simp only at a1 a2 b1 b2;clear hv;go_wp2
   go_quiet (fail)
   go_wp2
   go_roundg (L-(i+1))
   case measure=>go_light;omega
   case rel=>go_light;exact⟨i+1,_,by omega,rfl,by go_num,rfl⟩
  ·go_wp2
   go_ret
   exact⟨rfl,_,rfl⟩
theorem sameOb_any (oa ob:Option Addr) (ca cb:Nat) (o:Ob) (w:World) (ha:ValsAt w oa o.fs) (hb:ValsAt w ob o.fs) (hl:16*o.fs.length<=140737488351232) :
  Calls Tryz.prog 55 #[.agg #[.slice oa o.fs.length ca,.bool o.dead],.agg #[.slice ob o.fs.length cb,.bool o.dead]] w fun e w'=>e=.returned (.bool true)/\Below w.heap.size w w':=by
 obtain⟨fs,dead⟩:=o;simp only at ha hb hl ⊢;obtain⟨N0,N1,k1,b1,s1⟩:=boxes2 w (.cells #[.slice oa fs.length ca,.bool dead] 91) (.cells #[.slice ob fs.length cb,.bool dead] 91);have heq:=fun(w:World) (ha:ValsAt w oa fs) (hb:ValsAt w ob fs)=>equalVals_any oa ob ca cb fs w ha hb (by omega)
 generalize fs.length=L at *
 go_enter Tryz.func55,Tryz.ntmps55
 go_upto_region 1 with fail
 generalize (w.alloc (.cells #[.slice oa L ca,.bool dead] 91)).alloc (.cells #[.slice ob L cb,.bool dead] 91)=W at *;have c0:=cell_blk N0 0;have c1:=cell_blk N0 1;have d0:=cell_blk N1 0;have d1:=cell_blk N1 1;simp at c0 c1 d0 d1;have hd:(dead == dead)=true:=by simp
 go_wp2_with fail
 refine(heq W (ha.keeps k1) (hb.keeps k1)).mono ?_;rintro e w' ⟨rfl,n,rfl⟩;go_wp2
 go_ret
 exact⟨ret_bool (by simp),below_drewN b1 n⟩
theorem equalObs_any (aa ab:Option Addr) (ca cb:Nat) (l:List Ob) (w:World) (ha:ObsAt w aa l) (hb:ObsAt w ab l) :
  Calls Tryz.prog 54 #[.slice aa l.length ca,.slice ab l.length cb,.func (.func 55) #[] #[]] w fun e w'=>e=.returned (.bool true)/\Below w.heap.size w w':=by
 have hl:=ha.many;obtain⟨L,hL⟩:∃ L,L=l.length:=⟨_,rfl⟩;have HL:Aside (L=l.length):=hL;rw[<- hL] at hl ⊢;clear hL
 go_enter Tryz.func54,Tryz.ntmps54
 go_wp2
 go_loopg [17,7,8,9] L (fun g s17 s7 s8 s9 wr=>∃ i:Nat,i<=L/\g=L-i/\s17=.int .i64 i/\Below w.heap.size w wr)
 case atStart=>exact⟨0,Nat.zero_le _,rfl,rfl,Below.refl _ _⟩
 case round =>
  obtain⟨i,hi,rfl,rfl,hbr⟩:=hrel
  by_cases hiL:i<L
  ·have hiz:(i:Int)<(L:Int):=by omega
   obtain⟨x,hx⟩:=at_some (l:=l) (i:=i) (by rw[<- HL.out];exact hiL);obtain⟨b1,o1,fa,fc,rfl,p0,p1,pv,pl⟩:=(ha.keeps (Keeps.below hbr)).cell i x hx;obtain⟨b2,o2,ga,gc,rfl,q0,q1,qv,_⟩:=(hb.keeps (Keeps.below hbr)).cell i x hx;clear hx;obtain⟨N0,N1,k1,bb,s1⟩:=boxes2 wr (.cells #[.slice fa x.fs.length fc,.bool x.dead] 91) (.cells #[.slice ga x.fs.length gc,.bool x.dead] 91);have ka:=Keeps.alloc wr (.cells #[.slice fa x.fs.length fc,.bool x.dead] 91)
   replace q0:=ka _ _ q0;replace q1:=ka _ _ q1;have hc:=fun(w:World) (ha:ValsAt w fa x.fs) (hb:ValsAt w ga x.fs)=>sameOb_any fa ga fc gc x w ha hb pl
   go_upto_region 7 with fail
   have hcW:=hc _ (pv.keeps k1) (qv.keeps k1);have hB2:=hbr.trans (bb.mono hbr.size);clear hc ka q0 q1 p0 p1 pv qv pl;generalize (wr.alloc (.cells #[.slice fa x.fs.length fc,.bool x.dead] 91)).alloc (.cells #[.slice ga x.fs.length gc,.bool x.dead] 91)=W at *;have c0:=cell_blk N0 0;have c1:=cell_blk N0 1;have d0:=cell_blk N1 0;have d1:=cell_blk N1 1;simp at c0 c1 d0 d1
   go_wp2_with fail
   refine hcW.mono ?_;rintro e w' ⟨rfl,hb'⟩;have hB3:=hB2.trans (hb'.mono hB2.size);go_wp2
   go_roundg (L-(i+1))
   case measure=>go_light;omega
   case rel=>go_light;exact⟨i+1,by omega,rfl,by go_num,hB3⟩
  ·have hiz:¬ (i:Int)<(L:Int):=by omega
   go_wp2
   go_ret
   exact⟨rfl,hbr⟩
theorem sameAc_any (kind par M M' pc fin:Int) (obs:List Ob) (regs box:List Vl) (oa ra ba ob rb bb:Option Addr) (oc rc bc od rd bd:Nat) (w:World) (h1:ObsAt w oa obs) (h2:ValsAt w ra regs) (h3:ValsAt w ba box) (k1:ObsAt w ob obs) (k2:ValsAt w rb regs) (k3:ValsAt w bb box) (hr:16*regs.length<=140737488351232) (hb:16*box.length<=140737488351232) :
  Calls Tryz.prog 52 #[.agg #[.int .i64 kind,.int .i64 par,.int .i64 M,.slice oa obs.length oc,.slice ra regs.length rc,.int .i64 pc,.slice ba box.length bc,.int .i64 fin],.agg #[.int .i64 kind,.int .i64 par,.int .i64 M',.slice ob obs.length od,.slice rb regs.length rd,.int .i64 pc,.slice bb box.length bd,.int .i64 fin]] w fun e w'=>e=.returned (.bool true)/\Below w.heap.size w w':=by
 obtain⟨N0,N1,kk,b1,s1⟩:=boxes2 w (.cells #[.int .i64 kind,.int .i64 par,.int .i64 M,.slice oa obs.length oc,.slice ra regs.length rc,.int .i64 pc,.slice ba box.length bc,.int .i64 fin] 56) (.cells #[.int .i64 kind,.int .i64 par,.int .i64 M',.slice ob obs.length od,.slice rb regs.length rd,.int .i64 pc,.slice bb box.length bd,.int .i64 fin] 56);have ho:=fun(w:World) (ha:ObsAt w oa obs) (hb:ObsAt w ob obs)=>equalObs_any oa ob oc od obs w ha hb
 have hre:=fun(w:World) (ha:ValsAt w ra regs) (hb:ValsAt w rb regs)=>equalVals_any ra rb rc rd regs w ha hb (by omega)
 have hbe:=fun(w:World) (ha:ValsAt w ba box) (hb:ValsAt w bb box)=>equalVals_any ba bb bc bd box w ha hb (by omega)
 have HV:Aside (∀ w',Keeps w w'->(ObsAt w' oa obs/\ObsAt w' ob obs)/\(ValsAt w' ra regs/\ValsAt w' rb regs)/\(ValsAt w' ba box/\ValsAt w' bb box)):=fun w' q=>⟨⟨h1.keeps q,k1.keeps q⟩,⟨h2.keeps q,k2.keeps q⟩,⟨h3.keeps q,k3.keeps q⟩⟩
 clear h1 h2 h3 k1 k2 k3;generalize obs.length=L at *;generalize regs.length=R at *;generalize box.length=B at *
 go_enter Tryz.func52,Tryz.ntmps52
 go_upto_region 1 with fail
 generalize (w.alloc (.cells #[.int .i64 kind,.int .i64 par,.int .i64 M,.slice oa L oc,.slice ra R rc,.int .i64 pc,.slice ba B bc,.int .i64 fin] 56)).alloc (.cells #[.int .i64 kind,.int .i64 par,.int .i64 M',.slice ob L od,.slice rb R rd,.int .i64 pc,.slice bb B bd,.int .i64 fin] 56)=W at *;have c0:=cell_blk N0 0;have c1:=cell_blk N0 1;have c3:=cell_blk N0 3;have c4:=cell_blk N0 4;have c5:=cell_blk N0 5
 have c6:=cell_blk N0 6;have c7:=cell_blk N0 7;have d0:=cell_blk N1 0;have d1:=cell_blk N1 1;have d3:=cell_blk N1 3;have d4:=cell_blk N1 4;have d5:=cell_blk N1 5;have d6:=cell_blk N1 6;have d7:=cell_blk N1 7;simp at c0 c1 c3 c4 c5 c6 c7 d0 d1 d3 d4 d5 d6 d7;have e0:(kind == kind)=true:=by simp
 have e1:(par == par)=true:=by simp
 have e2:(pc == pc)=true:=by simp
 have e3:(fin == fin)=true:=by simp
 have hV:=HV.out W kk;clear HV
 go_wp2_with fail
 refine(hre W hV.2.1.1 hV.2.1.2).mono ?_;rintro e w' ⟨rfl,n1,rfl⟩;have hb1:=below_drewN b1 n1;have kn1:=Keeps.drewN W n1;replace c3:=kn1 _ _ c3;replace c6:=kn1 _ _ c6;replace d3:=kn1 _ _ d3;replace d6:=kn1 _ _ d6;have hB:=hbe (W.drewN n1) (hV.2.2.1.keeps kn1) (hV.2.2.2.keeps kn1);have hO:=fun n=>ho ((W.drewN n1).drewN n) ((hV.1.1.keeps kn1).keeps (Keeps.drewN _ n)) ((hV.1.2.keeps kn1).keeps (Keeps.drewN _ n))
 clear c0 c1 c4 c5 c7 d0 d1 d4 d5 d7 hV kn1 hre hbe ho;generalize W.drewN n1=W1 at *
 go_wp2_with fail
 refine hB.mono ?_;rintro e w' ⟨rfl,n2,rfl⟩;have hO2:=hO n2;have hb2:=below_drewN hb1 n2;have kn2:=Keeps.drewN W1 n2;replace c3:=kn2 _ _ c3;replace d3:=kn2 _ _ d3;clear hO hB c6 d6 kn2 hb1;generalize W1.drewN n2=W2 at *
 go_wp2_with fail
 refine hO2.mono ?_;rintro e w' ⟨rfl,hb'⟩;have hB3:=hb2.trans (hb'.mono hb2.size);go_wp2
 go_ret
 exact⟨rfl,hB3⟩
theorem equalActs_any (aa ab:Option Addr) (ca cb:Nat) (l:List Ac) (w:World) (ha:ActsAt w aa l) (hb:ActsAt w ab l) :
  Calls Tryz.prog 47 #[.slice aa l.length ca,.slice ab l.length cb,.func (.func 52) #[] #[]] w fun e w'=>e=.returned (.bool true)/\Below w.heap.size w w':=by
 have hl:=ha.many;obtain⟨L,hL⟩:∃ L,L=l.length:=⟨_,rfl⟩;have HL:Aside (L=l.length):=hL;rw[<- hL] at hl ⊢;clear hL
 go_enter Tryz.func47,Tryz.ntmps47
 go_wp2
 go_loopg [17,7,8,9] L (fun g s17 s7 s8 s9 wr=>∃ i:Nat,i<=L/\g=L-i/\s17=.int .i64 i/\Below w.heap.size w wr)
 case atStart=>exact⟨0,Nat.zero_le _,rfl,rfl,Below.refl _ _⟩
 case round =>
  obtain⟨i,hi,rfl,rfl,hbr⟩:=hrel
  by_cases hiL:i<L
  ·have hiz:(i:Int)<(L:Int):=by omega
   obtain⟨⟨kind,par,M,obs,regs,pc,box,fin⟩,hx⟩:=at_some (l:=l) (i:=i) (by rw[<- HL.out];exact hiL);obtain⟨b1,o1,oa,oc,ra,rc,ba,bc,rfl,A1⟩:=(ha.keeps (Keeps.below hbr)).cell i _ hx;obtain⟨b2,o2,ob,od,rb,rd,bb,bd,rfl,A2⟩:=(hb.keeps (Keeps.below hbr)).cell i _ hx;clear hx;obtain⟨x0,x1,x2,x3,x4,x5,x6,x7,xo,xr,xb,rl,bl⟩:=A1;obtain⟨y0,y1,y2,y3,y4,y5,y6,y7,yo,yr,yb,_,_⟩:=A2;simp only at x0 x1 x2 x3 x4 x5 x6 x7 xo xr xb rl bl y0 y1 y2 y3 y4 y5 y6 y7 yo yr yb
   obtain⟨N0,N1,k1,bW,s1⟩:=boxes2 wr (.cells #[.int .i64 kind,.int .i64 par,.int .i64 M,.slice oa obs.length oc,.slice ra regs.length rc,.int .i64 pc,.slice ba box.length bc,.int .i64 fin] 56) (.cells #[.int .i64 kind,.int .i64 par,.int .i64 M,.slice ob obs.length od,.slice rb regs.length rd,.int .i64 pc,.slice bb box.length bd,.int .i64 fin] 56);have ka:=Keeps.alloc wr (.cells #[.int .i64 kind,.int .i64 par,.int .i64 M,.slice oa obs.length oc,.slice ra regs.length rc,.int .i64 pc,.slice ba box.length bc,.int .i64 fin] 56)
   replace y0:=ka _ _ y0;replace y1:=ka _ _ y1;replace y2:=ka _ _ y2;replace y3:=ka _ _ y3;replace y4:=ka _ _ y4;replace y5:=ka _ _ y5;replace y6:=ka _ _ y6;replace y7:=ka _ _ y7;have hc:=sameAc_any kind par M M pc fin obs regs box oa ra ba ob rb bb oc rc bc od rd bd _ (xo.keeps k1) (xr.keeps k1) (xb.keeps k1) (yo.keeps k1) (yr.keeps k1) (yb.keeps k1) rl bl;have hB2:=hbr.trans (bW.mono hbr.size);clear xo xr xb yo yr yb rl bl ka
   generalize obs.length=O at *;generalize regs.length=R at *;generalize box.length=B at *
   go_upto_region 7 with fail
   clear x0 x1 x2 x3 x4 x5 x6 x7 y0 y1 y2 y3 y4 y5 y6 y7;generalize (wr.alloc (.cells #[.int .i64 kind,.int .i64 par,.int .i64 M,.slice oa O oc,.slice ra R rc,.int .i64 pc,.slice ba B bc,.int .i64 fin] 56)).alloc (.cells #[.int .i64 kind,.int .i64 par,.int .i64 M,.slice ob O od,.slice rb R rd,.int .i64 pc,.slice bb B bd,.int .i64 fin] 56)=W at *;have c0:=cell_blk N0 0;have c1:=cell_blk N0 1;have c2:=cell_blk N0 2
   have c3:=cell_blk N0 3;have c4:=cell_blk N0 4;have c5:=cell_blk N0 5;have c6:=cell_blk N0 6;have c7:=cell_blk N0 7;have d0:=cell_blk N1 0;have d1:=cell_blk N1 1;have d2:=cell_blk N1 2;have d3:=cell_blk N1 3;have d4:=cell_blk N1 4;have d5:=cell_blk N1 5;have d6:=cell_blk N1 6;have d7:=cell_blk N1 7;simp at c0 c1 c2 c3 c4 c5 c6 c7 d0 d1 d2 d3 d4 d5 d6 d7
   go_wp2_with fail
   refine hc.mono ?_;rintro e w' ⟨rfl,hb'⟩;have hB3:=hB2.trans (hb'.mono hB2.size);go_wp2
   go_roundg (L-(i+1))
   case measure=>go_light;omega
   case rel=>go_light;exact⟨i+1,by omega,rfl,by go_num,hB3⟩
  ·have hiz:¬ (i:Int)<(L:Int):=by omega
   go_wp2
   go_ret
   exact⟨rfl,hbr⟩
theorem same_any (aa ab pa pb:Option Addr) (ca cb da db:Nat) (V:Wd) (w:World) (ha:ActsAt w aa V.acts) (hb:ActsAt w ab V.acts) (hp:ToldAt w pa V.prints) (hq:ToldAt w pb V.prints) :
  Calls Tryz.prog 27 #[.agg #[.slice aa V.acts.length ca,.slice pa V.prints.length da],.agg #[.slice ab V.acts.length cb,.slice pb V.prints.length db]] w fun e w'=>e=.returned (.bool true)/\Below w.heap.size w w':=by
 obtain⟨N0,N1,kk,b1,s1⟩:=boxes2 w (.cells #[.slice aa V.acts.length ca,.slice pa V.prints.length da] 28) (.cells #[.slice ab V.acts.length cb,.slice pb V.prints.length db] 28);have hT:=equalTold_any pa pb da db V.prints _ (hp.keeps kk) (hq.keeps kk);have hA:=fun(w:World) (ha:ActsAt w aa V.acts) (hb:ActsAt w ab V.acts)=>equalActs_any aa ab ca cb V.acts w ha hb
 have HV:Aside (∀ w',Keeps w w'->ActsAt w' aa V.acts/\ActsAt w' ab V.acts):=fun w' q=>⟨ha.keeps q,hb.keeps q⟩
 clear ha hb hp hq;generalize V.acts.length=L at *;generalize V.prints.length=K at *
 go_enter Tryz.func27,Tryz.ntmps27
 go_upto_region 1 with fail
 generalize (w.alloc (.cells #[.slice aa L ca,.slice pa K da] 28)).alloc (.cells #[.slice ab L cb,.slice pb K db] 28)=W at *;have c0:=cell_blk N0 0;have c1:=cell_blk N0 1;have d0:=cell_blk N1 0;have d1:=cell_blk N1 1;simp at c0 c1 d0 d1
 go_wp2_with fail
 refine hT.mono ?_;rintro e w' ⟨rfl,n,rfl⟩;have kn:=Keeps.drewN W n;have hbn:=below_drewN b1 n;replace c0:=kn _ _ c0;replace d0:=kn _ _ d0;have hV:=HV.out _ (kk.trans kn);generalize W.drewN n=W1 at *
 go_wp2_with fail
 refine(hA W1 hV.1 hV.2).mono ?_;rintro e w' ⟨rfl,hb'⟩;have hB3:=hbn.trans (hb'.mono hbn.size);go_wp2
 go_ret
 exact⟨rfl,hB3⟩
end
section
open Go.RowKit
theorem ax_step {n:Nat} (h:n<8):axFault ⟨1,n,0,0⟩=0:=by
 unfold axFault
 simp only;have w2:isW 0=true:=isW_iff.2 (by omega);rw[if_neg (by omega),w2,if_neg (by simp;omega)]
theorem alone_step {l:List Rw} {V:Wd} (h:WOk 3 (pL l) (pF l) V) {n:Nat} (ha:aloneB (pX l) V n=true) :
  (V.acts.length<=n->actS (pX l) V ⟨1,n,0,0⟩=V)/\(n<V.acts.length->soloOk (pX l) n (V.at n)/\actS (pX l) V ⟨1,n,0,0⟩=V.put n (soloS (pX l) n (V.at n)).1):=by
 refine⟨fun hl=>by unfold actS;rw[if_pos (by simp;omega)],fun hl=>?_⟩;have e:actS (pX l) V ⟨1,n,0,0⟩=stepS (pX l) V n:=by
  unfold actS
  rw[if_neg (by simp;omega),if_pos rfl]
  rfl
 have hk:=(h.at (n:=n) ⟨by omega,by omega⟩).2;have hs:soloOk (pX l) n (V.at n):=by
  unfold aloneB at ha
  by_cases hf:(V.at n).fin=0
  ·rw[if_neg (by rintro(c | c);omega;exact c hf)] at ha
   by_cases hc:0<=(V.at n).pc/\(insAt (pX l) (V.at n).kind (V.at n).pc).op∈[(13:Int),14,15,17,19]
   ·rw[if_pos hc] at ha;cases ha
   ·rw[if_neg hc,e] at ha
    refine solo_of hl (fun hp=>?_) hk.pc.1 (by simpa using ha);have hn:(insAt (pX l) (V.at n).kind (V.at n).pc).op∉[(13:Int),14,15,17,19]:=fun hm=>hc ⟨hp,hm⟩
    simp only[List.mem_cons,List.not_mem_nil,or_false,not_or] at hn;exact⟨hn.1,hn.2.1,hn.2.2.1,hn.2.2.2.1⟩
  ·exact .inl hf
 exact⟨hs,e.trans (step_solo hl hs)⟩
theorem alone_rest {l:List Rw} {V:Wd} (h:WOk 3 (pL l) (pF l) V) {n:Nat} (ha:aloneB (pX l) V n=true) :
  (actS (pX l) V ⟨1,n,0,0⟩).acts.length=V.acts.length/\(actS (pX l) V ⟨1,n,0,0⟩).prints.length=V.prints.length/\∀ (i:Nat) x,V.acts[i]?=some x->i≠n->(actS (pX l) V ⟨1,n,0,0⟩).acts[i]?=some x:=by
 obtain⟨h1,h2⟩:=alone_step h ha
 by_cases hl:n<V.acts.length
 ·rw[(h2 hl).2]
  exact⟨put_len _ _ _,rfl,fun i x hx hi=>by rw[put_get hl,if_neg hi];exact hx⟩
 ·rw[h1 (by omega)]
  exact⟨rfl,rfl,fun i x hx _=>hx⟩
end
section
open Go.RowKit
theorem act_len_le {X:Nat->Nat->Nat->Int} {V:Wd} {n:Nat} (h:V.acts.length<=n):actS X V ⟨1,n,0,0⟩=V:=by
 unfold actS
 rw[if_pos (by simp;omega)]
theorem act_is_step {X:Nat->Nat->Nat->Int} {V:Wd} {n:Nat} (h:n<V.acts.length):actS X V ⟨1,n,0,0⟩=stepS X V n:=by
 unfold actS
 rw[if_neg (by simp;omega),if_pos rfl]
 rfl
theorem swap_eq {l:List Rw} {V:Wd} (h:WOk 3 (pL l) (pF l) V) {a b:Nat} (hab:a≠b) (ha:aloneB (pX l) V a=true) (hb:aloneB (pX l) V b=true) :
  actS (pX l) (actS (pX l) V ⟨1,a,0,0⟩) ⟨1,b,0,0⟩=actS (pX l) (actS (pX l) V ⟨1,b,0,0⟩) ⟨1,a,0,0⟩:=by
 have la:=(alone_rest h ha).1;have lb:=(alone_rest h hb).1
 by_cases hla:a<V.acts.length
 ·by_cases hlb:b<V.acts.length
  ·rw[act_is_step (V:=actS (pX l) V ⟨1,a,0,0⟩) (by rw[la];exact hlb),act_is_step (V:=actS (pX l) V ⟨1,b,0,0⟩) (by rw[lb];exact hla),act_is_step hla,act_is_step hlb]
   exact solo_swap hla hlb hab ((alone_step h ha).2 hla).1 ((alone_step h hb).2 hlb).1
  ·rw[act_len_le (V:=actS (pX l) V ⟨1,a,0,0⟩) (by rw[la];omega),act_len_le (V:=V) (n:=b) (by omega)]
 ·rw[act_len_le (V:=V) (n:=a) (by omega),act_len_le (V:=actS (pX l) V ⟨1,b,0,0⟩) (by rw[lb];omega)]
theorem topSwap_any (l m:List Rw) (la ma:Option Addr) (lc mc:Nat) (most an bn:Int) (w:World) (hT:TabAt 0 w) (h:RawsAt w la l) (hm:RawsAt w ma m) (hll:32*l.length<=140737488355328) (hmo:fit64 most) (han:fit64 an) (hbn:fit64 bn) :
  Calls Tryz.prog 10 #[.slice la l.length lc,.slice ma m.length mc,.int .i64 most,.int .i64 an,.int .i64 bn] w fun e w'=>e=.returned (.bool true)/\Below w.heap.size w w':=by
 have hpl:=fun w' (hb:Below w.heap.size w w')=>played_any l m la ma lc mc most w' (hT.keeps (Keeps.below hb)) (h.keeps (Keeps.below hb)) (hm.keeps (Keeps.below hb)) hll hmo
 have hOK:=(play_ok l m most).1;have hp4:=pick_bd (n:=an) (many:=4) (by omega);obtain⟨a,ha⟩:=Int.eq_ofNat_of_zero_le hp4.1;have ha4:a<4:=by omega
 have hp5:=pick_bd (n:=bn) (many:=4) (by omega);obtain⟨b,hb⟩:=Int.eq_ofNat_of_zero_le hp5.1;have hb4:b<4:=by omega
 have HSW:Aside (a≠b->aloneB (pX l) (playS l m most) a=true->aloneB (pX l) (playS l m most) b=true->_):=fun hab h1 h2=>swap_eq (l:=l) hOK hab h1 h2
 have HKP:Aside (∀ n:Nat,n<(playS l m most).acts.length->(0<=((playS l m most).at n).kind/\((playS l m most).at n).kind<((3:Nat):Int))/\-1<=((playS l m most).at n).pc/\((playS l m most).at n).pc<(pL l ((playS l m most).at n).kind.toNat:Int)):=fun n hl=>by
  have:=(hOK.at (n:=n) ⟨by omega,by omega⟩).2;exact⟨this.kind,this.pc⟩
 have fA:=ax_step (n:=a) (by omega);have fB:=ax_step (n:=b) (by omega);have HDa:Aside (doWS 3 (pL l) (pX l) (playS l m most) ⟨1,a,0,0⟩=(actS (pX l) (playS l m most) ⟨1,a,0,0⟩,0)):=ok_do (l:=l) hOK fA;have HDb:Aside (doWS 3 (pL l) (pX l) (playS l m most) ⟨1,b,0,0⟩=(actS (pX l) (playS l m most) ⟨1,b,0,0⟩,0)):=ok_do (l:=l) hOK fB;have HDab:Aside (doWS 3 (pL l) (pX l) (actS (pX l) (playS l m most) ⟨1,a,0,0⟩) ⟨1,b,0,0⟩=(actS (pX l) (actS (pX l) (playS l m most) ⟨1,a,0,0⟩) ⟨1,b,0,0⟩,0)):=ok_do (l:=l) (hOK.act (play_ver l) fA) fB
 have HDba:Aside (doWS 3 (pL l) (pX l) (actS (pX l) (playS l m most) ⟨1,b,0,0⟩) ⟨1,a,0,0⟩=(actS (pX l) (actS (pX l) (playS l m most) ⟨1,b,0,0⟩) ⟨1,a,0,0⟩,0)):=ok_do (l:=l) (hOK.act (play_ver l) fB) fA;have HLB:Aside (∀ k,k<3->pL l k<=1000000):=fun k hk=>by
  obtain⟨hpf,_⟩:=ver_of (G:=3) (L:=pL l) (X:=pX l) (congrArg (fun q=>q.2.2) (program_ok l 14));have:=((progV_ok hpf).2.1 k hk).2;omega
 clear hOK fA fB
 go_enter Tryz.func10,Tryz.ntmps10
 go_wp2_with fail
 refine(worldTells_any w hT).mono ?_;rintro e w1 ⟨rfl,hb1⟩
 go_wp2_with fail
 refine(hpl w1 hb1).mono ?_;rintro e w2 ⟨ao,cap,xa,xc,aa,ac,pa,pc,rfl,hb2,hK,_,hVA,hVP⟩;clear hpl;obtain⟨A,C,hPA,_,_⟩:=program_prog (by omega) hK;have hB2:=hb1.trans (hb2.mono hb1.size);have HV:Aside (∀ w',Keeps w2 w'->(ProgAt w' ao 3 A (pL l) C (pX l)/\TabAt 0 w')/\ActsAt w' aa (playS l m most).acts/\ToldAt w' pa (playS l m most).prints):=fun w' q=>⟨⟨hPA.keeps q,(hT.keeps (Keeps.below hB2)).keeps q⟩,hVA.keeps q,hVP.keeps q⟩
 generalize playS l m most=V at *;generalize pX l=PX at *;generalize pL l=PL at *;have hala:=fun w' (hk:Keeps w2 w')=>alone_any ao 3 cap A PL C PX aa pa ac pc V a w' (HV.out w' hk).1.2 (HV.out w' hk).1.1 (HV.out w' hk).2.1 (HV.out w' hk).2.2 HLB.out (HKP.out a) HDa.out
 have halb:=fun w' (hk:Keeps w2 w')=>alone_any ao 3 cap A PL C PX aa pa ac pc V b w' (HV.out w' hk).1.2 (HV.out w' hk).1.1 (HV.out w' hk).2.1 (HV.out w' hk).2.2 HLB.out (HKP.out b) HDb.out
 have hdoa:=fun w' (hk:Keeps w2 w')=>do_any ao 3 cap A PL C PX aa pa ac pc V 1 a 0 0 w' (HV.out w' hk).1.2 (HV.out w' hk).1.1 (HV.out w' hk).2.1 (HV.out w' hk).2.2
 have hdob:=fun w' (hk:Keeps w2 w')=>do_any ao 3 cap A PL C PX aa pa ac pc V 1 b 0 0 w' (HV.out w' hk).1.2 (HV.out w' hk).1.1 (HV.out w' hk).2.1 (HV.out w' hk).2.2
 simp only[HDa.out] at hdoa;simp only[HDb.out] at hdob;generalize actS PX V ⟨1,a,0,0⟩=Va at *;generalize actS PX V ⟨1,b,0,0⟩=Vb at *;have hdoab:=fun w' (hk:Keeps w2 w') xa xp xc yc (h1:ActsAt w' xa Va.acts) (h2:ToldAt w' xp Va.prints)=>do_any ao 3 cap A PL C PX xa xp xc yc Va 1 b 0 0 w' (HV.out w' hk).1.2 (HV.out w' hk).1.1 h1 h2
 have hdoba:=fun w' (hk:Keeps w2 w') xa xp xc yc (h1:ActsAt w' xa Vb.acts) (h2:ToldAt w' xp Vb.prints)=>do_any ao 3 cap A PL C PX xa xp xc yc Vb 1 a 0 0 w' (HV.out w' hk).1.2 (HV.out w' hk).1.1 h1 h2
 simp only[HDab.out] at hdoab;simp only[HDba.out] at hdoba;generalize actS PX Va ⟨1,b,0,0⟩=Vab at *;generalize actS PX Vb ⟨1,a,0,0⟩=Vba at *;generalize aloneB PX V a=Aa at *;generalize aloneB PX V b=Ab at *;generalize V.acts.length=LA at *;generalize V.prints.length=LP at *;clear hK hPA hVA hVP hT h hm HDa HDb HDab HDba HLB HKP;obtain⟨NP,NW,_,cb,cs⟩:=boxes2 w2 (.cells #[.slice ao 3 cap] 24) (.cells #[.slice aa LA ac,.slice pa LP pc] 28)
 have hK3:=Keeps.below cb;have hB3:=hB2.trans (cb.mono hB2.size)
 go_upto_region 4 with fail
 generalize (w2.alloc (.cells #[.slice ao 3 cap] 24)).alloc (.cells #[.slice aa LA ac,.slice pa LP pc] 28)=w3 at *;have p0:w3.cell? ⟨w2.heap.size,0,none⟩=some (.slice ao 3 cap):=cell_blk NP 0;have q0:w3.cell? ⟨w2.heap.size+1,0,none⟩=some (.slice aa LA ac):=cell_blk NW 0;have q1:w3.cell? ⟨w2.heap.size+1,1,none⟩=some (.slice pa LP pc):=cell_blk NW 1;clear cs NP NW cb hb1 hb2;generalize w2.heap.size=P at *
 go_wp2_with fail
 refine(kPicked_any an 4 w3 han (by omega) (by omega)).mono ?_;rintro e w4 ⟨rfl,hc4⟩;rw[ha];obtain⟨NX,_,cx,sx⟩:=boxes1 w4 (.cells #[.int .i64 1,.int .i64 a,.int .i64 0,.int .i64 0] 30);have hc4x:Below w3.heap.size w3 (w4.alloc (.cells #[.int .i64 1,.int .i64 a,.int .i64 0,.int .i64 0] 30)):=hc4.trans (cx.mono hc4.size);have hK4:=hK3.trans (Keeps.below hc4x);have hB4:=hB3.trans (hc4x.mono hB3.size)
 replace p0:=Keeps.below hc4x _ _ p0;replace q0:=Keeps.below hc4x _ _ q0;replace q1:=Keeps.below hc4x _ _ q1;clear hK3 hB3
 go_upto_region 5 with fail
 generalize w4.alloc (.cells #[.int .i64 1,.int .i64 a,.int .i64 0,.int .i64 0] 30)=w5 at *;have x0:w5.cell? ⟨w4.heap.size,0,none⟩=some (.int .i64 1):=cell_blk NX 0;have x1:w5.cell? ⟨w4.heap.size,1,none⟩=some (.int .i64 a):=cell_blk NX 1;have x2:w5.cell? ⟨w4.heap.size,2,none⟩=some (.int .i64 0):=cell_blk NX 2;have x3:w5.cell? ⟨w4.heap.size,3,none⟩=some (.int .i64 0):=cell_blk NX 3;clear NX hc4x cx hc4 sx
 generalize w4.heap.size=QX at *
 go_wp2_with fail
 refine(kPicked_any bn 4 w5 hbn (by omega) (by omega)).mono ?_;rintro e w6 ⟨rfl,hc6⟩;rw[hb];obtain⟨NY,_,cy,sy⟩:=boxes1 w6 (.cells #[.int .i64 1,.int .i64 b,.int .i64 0,.int .i64 0] 30);have hc6x:Below w5.heap.size w5 (w6.alloc (.cells #[.int .i64 1,.int .i64 b,.int .i64 0,.int .i64 0] 30)):=hc6.trans (cy.mono hc6.size);have hK6:=hK4.trans (Keeps.below hc6x);have hB6:=hB4.trans (hc6x.mono hB4.size)
 replace p0:=Keeps.below hc6x _ _ p0;replace q0:=Keeps.below hc6x _ _ q0;replace q1:=Keeps.below hc6x _ _ q1;replace x0:=Keeps.below hc6x _ _ x0;replace x1:=Keeps.below hc6x _ _ x1;replace x2:=Keeps.below hc6x _ _ x2;replace x3:=Keeps.below hc6x _ _ x3;clear hK4 hB4
 go_upto_region 6 with fail
 generalize w6.alloc (.cells #[.int .i64 1,.int .i64 b,.int .i64 0,.int .i64 0] 30)=w7 at *;have y0:w7.cell? ⟨w6.heap.size,0,none⟩=some (.int .i64 1):=cell_blk NY 0;have y1:w7.cell? ⟨w6.heap.size,1,none⟩=some (.int .i64 b):=cell_blk NY 1;have y2:w7.cell? ⟨w6.heap.size,2,none⟩=some (.int .i64 0):=cell_blk NY 2;have y3:w7.cell? ⟨w6.heap.size,3,none⟩=some (.int .i64 0):=cell_blk NY 3;clear NY hc6x cy hc6 sy
 generalize w6.heap.size=QY at *
 by_cases hab:a=b
 ·have hz:((a:Int) == (b:Int))=true:=by simp[hab]
  clear hala halb hdoa hdob hdoab hdoba;go_wp2
  go_ret
  exact⟨rfl,hB6⟩
 have hz:((a:Int) == (b:Int))=false:=by simp;omega
 go_wp2_with fail
 refine(hala w7 hK6).mono ?_;rintro e w8 ⟨rfl,hc8⟩;have hK8:=hK6.trans (Keeps.below hc8);have hB8:=hB6.trans (hc8.mono hB6.size);replace p0:=Keeps.below hc8 _ _ p0;replace q0:=Keeps.below hc8 _ _ q0;replace q1:=Keeps.below hc8 _ _ q1;replace x0:=Keeps.below hc8 _ _ x0;replace x1:=Keeps.below hc8 _ _ x1;replace x2:=Keeps.below hc8 _ _ x2;replace x3:=Keeps.below hc8 _ _ x3;replace y0:=Keeps.below hc8 _ _ y0
 replace y1:=Keeps.below hc8 _ _ y1;replace y2:=Keeps.below hc8 _ _ y2;replace y3:=Keeps.below hc8 _ _ y3;clear hala hK6 hB6 hc8
 cases Aa with
 | false =>
  clear halb hdoa hdob hdoab hdoba;go_wp2
  go_ret
  exact⟨rfl,hB8⟩
 | true =>
  go_wp2_with fail
  refine(halb w8 hK8).mono ?_;rintro e w9 ⟨rfl,hc9⟩;have hK9:=hK8.trans (Keeps.below hc9);have hB9:=hB8.trans (hc9.mono hB8.size);replace p0:=Keeps.below hc9 _ _ p0;replace q0:=Keeps.below hc9 _ _ q0;replace q1:=Keeps.below hc9 _ _ q1;replace x0:=Keeps.below hc9 _ _ x0;replace x1:=Keeps.below hc9 _ _ x1;replace x2:=Keeps.below hc9 _ _ x2;replace x3:=Keeps.below hc9 _ _ x3;replace y0:=Keeps.below hc9 _ _ y0
  replace y1:=Keeps.below hc9 _ _ y1;replace y2:=Keeps.below hc9 _ _ y2;replace y3:=Keeps.below hc9 _ _ y3;clear halb hK8 hB8 hc9
  cases Ab with
  | false =>
   clear hdoa hdob hdoab hdoba;go_wp2
   go_ret
   exact⟨rfl,hB9⟩
  | true =>
   have HEQ:Aside (Vab=Vba):=HSW.out hab (by trivial) (by trivial);clear HSW
   go_wp2_with fail
   refine(hdoa w9 hK9).mono ?_;rintro e w10 ⟨ca,cc,cb,cd,rfl,hn0,cA,cP,_⟩;simp only at cA cP ⊢;obtain⟨N0,_,cn0,sn0⟩:=boxes1 w10 (.cells #[.slice ca Va.acts.length cc,.slice cb Va.prints.length cd] 28);have hm0:Below w9.heap.size w9 (w10.alloc (.cells #[.slice ca Va.acts.length cc,.slice cb Va.prints.length cd] 28)):=hn0.trans (cn0.mono hn0.size);have hKn0:=hK9.trans (Keeps.below hm0);have hBn0:=hB9.trans (hm0.mono hB9.size)
   replace p0:=Keeps.below hm0 _ _ p0;replace q0:=Keeps.below hm0 _ _ q0;replace q1:=Keeps.below hm0 _ _ q1;replace x0:=Keeps.below hm0 _ _ x0;replace x1:=Keeps.below hm0 _ _ x1;replace x2:=Keeps.below hm0 _ _ x2;replace x3:=Keeps.below hm0 _ _ x3;replace y0:=Keeps.below hm0 _ _ y0;replace y1:=Keeps.below hm0 _ _ y1;replace y2:=Keeps.below hm0 _ _ y2;replace y3:=Keeps.below hm0 _ _ y3;replace cA:=cA.keeps (Keeps.below cn0)
   replace cP:=cP.keeps (Keeps.below cn0);clear hK9 hB9
   go_upto_region 9 with fail
   generalize w10.alloc (.cells #[.slice ca Va.acts.length cc,.slice cb Va.prints.length cd] 28)=w20 at *;have c0:w20.cell? ⟨w10.heap.size,0,none⟩=some (.slice ca Va.acts.length cc):=cell_blk N0 0;have c1:w20.cell? ⟨w10.heap.size,1,none⟩=some (.slice cb Va.prints.length cd):=cell_blk N0 1;clear N0 hm0 cn0 hn0 sn0;generalize w10.heap.size=Q0 at *
   go_wp2_with fail
   refine(hdoab w20 hKn0 ca cb cc cd cA cP).mono ?_;rintro e w11 ⟨da,dc,db,dd,rfl,hn1,dA,dP,_⟩;simp only at dA dP ⊢;obtain⟨N1,_,cn1,sn1⟩:=boxes1 w11 (.cells #[.slice da Vab.acts.length dc,.slice db Vab.prints.length dd] 28);have hm1:Below w20.heap.size w20 (w11.alloc (.cells #[.slice da Vab.acts.length dc,.slice db Vab.prints.length dd] 28)):=hn1.trans (cn1.mono hn1.size);have hKn1:=hKn0.trans (Keeps.below hm1)
   have hBn1:=hBn0.trans (hm1.mono hBn0.size);replace p0:=Keeps.below hm1 _ _ p0;replace q0:=Keeps.below hm1 _ _ q0;replace q1:=Keeps.below hm1 _ _ q1;replace x0:=Keeps.below hm1 _ _ x0;replace x1:=Keeps.below hm1 _ _ x1;replace x2:=Keeps.below hm1 _ _ x2;replace x3:=Keeps.below hm1 _ _ x3;replace y0:=Keeps.below hm1 _ _ y0;replace y1:=Keeps.below hm1 _ _ y1;replace y2:=Keeps.below hm1 _ _ y2;replace y3:=Keeps.below hm1 _ _ y3
   replace c0:=Keeps.below hm1 _ _ c0;replace c1:=Keeps.below hm1 _ _ c1;replace cA:=cA.keeps (Keeps.below hm1);replace cP:=cP.keeps (Keeps.below hm1);replace dA:=dA.keeps (Keeps.below cn1);replace dP:=dP.keeps (Keeps.below cn1);clear hKn0 hBn0
   go_upto_region 10 with fail
   generalize w11.alloc (.cells #[.slice da Vab.acts.length dc,.slice db Vab.prints.length dd] 28)=w21 at *;have d0:w21.cell? ⟨w11.heap.size,0,none⟩=some (.slice da Vab.acts.length dc):=cell_blk N1 0;have d1:w21.cell? ⟨w11.heap.size,1,none⟩=some (.slice db Vab.prints.length dd):=cell_blk N1 1;clear N1 hm1 cn1 hn1 sn1;generalize w11.heap.size=Q1 at *
   go_wp2_with fail
   refine(hdob w21 hKn1).mono ?_;rintro e w12 ⟨ga,gc,gb,gd,rfl,hn2,gA,gP,_⟩;simp only at gA gP ⊢;obtain⟨N2,_,cn2,sn2⟩:=boxes1 w12 (.cells #[.slice ga Vb.acts.length gc,.slice gb Vb.prints.length gd] 28);have hm2:Below w21.heap.size w21 (w12.alloc (.cells #[.slice ga Vb.acts.length gc,.slice gb Vb.prints.length gd] 28)):=hn2.trans (cn2.mono hn2.size);have hKn2:=hKn1.trans (Keeps.below hm2);have hBn2:=hBn1.trans (hm2.mono hBn1.size)
   replace p0:=Keeps.below hm2 _ _ p0;replace q0:=Keeps.below hm2 _ _ q0;replace q1:=Keeps.below hm2 _ _ q1;replace x0:=Keeps.below hm2 _ _ x0;replace x1:=Keeps.below hm2 _ _ x1;replace x2:=Keeps.below hm2 _ _ x2;replace x3:=Keeps.below hm2 _ _ x3;replace y0:=Keeps.below hm2 _ _ y0;replace y1:=Keeps.below hm2 _ _ y1;replace y2:=Keeps.below hm2 _ _ y2;replace y3:=Keeps.below hm2 _ _ y3;replace d0:=Keeps.below hm2 _ _ d0
   replace d1:=Keeps.below hm2 _ _ d1;replace dA:=dA.keeps (Keeps.below hm2);replace dP:=dP.keeps (Keeps.below hm2);replace gA:=gA.keeps (Keeps.below cn2);replace gP:=gP.keeps (Keeps.below cn2);clear hKn1 hBn1
   go_upto_region 11 with fail
   generalize w12.alloc (.cells #[.slice ga Vb.acts.length gc,.slice gb Vb.prints.length gd] 28)=w22 at *;have g0:w22.cell? ⟨w12.heap.size,0,none⟩=some (.slice ga Vb.acts.length gc):=cell_blk N2 0;have g1:w22.cell? ⟨w12.heap.size,1,none⟩=some (.slice gb Vb.prints.length gd):=cell_blk N2 1;clear N2 hm2 cn2 hn2 sn2;generalize w12.heap.size=Q2 at *
   go_wp2_with fail
   refine(hdoba w22 hKn2 ga gb gc gd gA gP).mono ?_;rintro e w13 ⟨ia,ic,ib,id_,rfl,hn3,iA,iP,_⟩;simp only at iA iP ⊢;obtain⟨N3,_,cn3,sn3⟩:=boxes1 w13 (.cells #[.slice ia Vba.acts.length ic,.slice ib Vba.prints.length id_] 28);have hm3:Below w22.heap.size w22 (w13.alloc (.cells #[.slice ia Vba.acts.length ic,.slice ib Vba.prints.length id_] 28)):=hn3.trans (cn3.mono hn3.size);have hKn3:=hKn2.trans (Keeps.below hm3)
   have hBn3:=hBn2.trans (hm3.mono hBn2.size);replace p0:=Keeps.below hm3 _ _ p0;replace q0:=Keeps.below hm3 _ _ q0;replace q1:=Keeps.below hm3 _ _ q1;replace x0:=Keeps.below hm3 _ _ x0;replace x1:=Keeps.below hm3 _ _ x1;replace x2:=Keeps.below hm3 _ _ x2;replace x3:=Keeps.below hm3 _ _ x3;replace y0:=Keeps.below hm3 _ _ y0;replace y1:=Keeps.below hm3 _ _ y1;replace y2:=Keeps.below hm3 _ _ y2;replace y3:=Keeps.below hm3 _ _ y3
   replace d0:=Keeps.below hm3 _ _ d0;replace d1:=Keeps.below hm3 _ _ d1;replace g0:=Keeps.below hm3 _ _ g0;replace g1:=Keeps.below hm3 _ _ g1;replace dA:=dA.keeps (Keeps.below hm3);replace dP:=dP.keeps (Keeps.below hm3);replace gA:=gA.keeps (Keeps.below hm3);replace gP:=gP.keeps (Keeps.below hm3);replace iA:=iA.keeps (Keeps.below cn3);replace iP:=iP.keeps (Keeps.below cn3);clear hKn2 hBn2
   go_upto_region 12 with fail
   generalize w13.alloc (.cells #[.slice ia Vba.acts.length ic,.slice ib Vba.prints.length id_] 28)=w23 at *;have i0:w23.cell? ⟨w13.heap.size,0,none⟩=some (.slice ia Vba.acts.length ic):=cell_blk N3 0;have i1:w23.cell? ⟨w13.heap.size,1,none⟩=some (.slice ib Vba.prints.length id_):=cell_blk N3 1;clear N3 hm3 cn3 hn3 sn3;generalize w13.heap.size=Q3 at *;have hE:=HEQ.out;subst hE;have hs:=same_any da ia db ib dc ic dd id_ Vab w23 dA iA dP iP
   go_wp2_with fail
   refine hs.mono ?_;rintro e w30 ⟨rfl,hc30⟩;have hBz:=hBn3.trans (hc30.mono hBn3.size);go_wp2
   go_ret
   exact⟨rfl,hBz⟩
theorem topSwap_walk (a0:Option Addr) (c0:Nat) (l0:List Rw) (a1:Option Addr) (c1:Nat) (l1:List Rw) (n2 n3 n4:Int) (w:World) (hT:TabAt 0 w) (h0:RawsAt w a0 l0) (hb0:32*l0.length<=140737488351232) (h1:RawsAt w a1 l1) (_:32*l1.length<=140737488351232) (h2:-9223372036854775808<=n2/\n2<=9223372036854775807) (h3:-9223372036854775808<=n3/\n3<=9223372036854775807) (h4:-9223372036854775808<=n4/\n4<=9223372036854775807) :
  Calls Tryz.prog 10 #[.slice a0 l0.length c0,.slice a1 l1.length c1,.int .i64 n2,.int .i64 n3,.int .i64 n4] w fun e w'=>e=.returned (.bool true)/\Below w.heap.size w w' :=
 topSwap_any l0 l1 a0 a1 c0 c1 n2 n3 n4 w hT h0 h1 (by omega) h2 h3 h4
end
section
open Go.ChangeShapes Go.WideShapes Go.ChangeAt Go.RowKit
theorem and_up {a b:Bool} (ha:a=true) (hb:b=true):(a && b)=true:=by rw[ha,hb];rfl
theorem topSwap_facts:joinedFacts Tryz.prog 10 Tryz.f10 Rows.topSwapSpec Rows.topSwapRow=true:=by
 unfold joinedFacts
 refine and_up ?_ (by as_aux_lemma=>kernel_rfl);refine and_up ?_ (by as_aux_lemma=>kernel_rfl);refine and_up ?_ (by as_aux_lemma=>kernel_rfl);refine and_up ?_ (by as_aux_lemma=>kernel_rfl);refine and_up ?_ (by as_aux_lemma=>kernel_rfl);refine and_up ?_ (by as_aux_lemma=>kernel_rfl);refine and_up ?_ (by as_aux_lemma=>kernel_rfl);refine and_up ?_ (by as_aux_lemma=>kernel_rfl);refine and_up ?_ (by as_aux_lemma=>kernel_rfl)
 refine and_up ?_ (by as_aux_lemma=>kernel_rfl);refine and_up ?_ (by as_aux_lemma=>kernel_rfl);refine and_up ?_ (by as_aux_lemma=>kernel_rfl);refine and_up ?_ (by as_aux_lemma=>kernel_rfl);refine and_up ?_ (by as_aux_lemma=>kernel_rfl);refine and_up ?_ (by as_aux_lemma=>kernel_rfl);refine and_up ?_ (by as_aux_lemma=>kernel_rfl);refine and_up ?_ (by as_aux_lemma=>kernel_rfl);refine and_up ?_ (by as_aux_lemma=>kernel_rfl)
 refine and_up ?_ (by as_aux_lemma=>kernel_rfl);refine and_up ?_ (by as_aux_lemma=>kernel_rfl);refine and_up ?_ (by as_aux_lemma=>kernel_rfl);refine and_up ?_ (by as_aux_lemma=>kernel_rfl);refine and_up ?_ (by as_aux_lemma=>kernel_rfl);refine and_up ?_ (by as_aux_lemma=>kernel_rfl);refine and_up ?_ (by as_aux_lemma=>kernel_rfl);refine and_up ?_ (by as_aux_lemma=>kernel_rfl);refine and_up ?_ (by as_aux_lemma=>kernel_rfl)
 refine and_up ?_ (by as_aux_lemma=>kernel_rfl);refine and_up ?_ (by as_aux_lemma=>kernel_rfl);refine and_up ?_ (by as_aux_lemma=>kernel_rfl);refine and_up ?_ (by as_aux_lemma=>kernel_rfl)
 as_aux_lemma=>kernel_rfl
end
end Go.Proofs.YtihpkcccfgbcmaaGreatDoor
