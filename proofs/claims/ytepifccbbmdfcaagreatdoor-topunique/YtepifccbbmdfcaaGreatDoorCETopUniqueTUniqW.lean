/- TUniqW. -/
import Derived.Test.YtepifccbbmdfcaaGreatDoorCETopUniqueTOwn
import Derived.Test.YtepifccbbmdfcaaGreatDoorCETopUniqueKWorld
namespace Go.Proofs.YtepifccbbmdfcaaGreatDoor
set_option maxRecDepth 100000
set_option maxHeartbeats 8000000
open Go.RowKit Go.Maps
structure LiveOk (l:List Rw) (x:Ac) (k:List Int):Prop where
 may:hMay x.M x.obs (x.regs++x.box)=true
 regs:x.regs.length=8
 box:x.box.length<=6
 pc:-1<=x.pc/\x.pc<(pL l x.kind.toNat:Int)
 kind:0<=x.kind/\x.kind<3
 len:k.length=8
 typ:Typ x.obs x.regs x.box k
 wait:x.pc=-1->k=kWait
 here:0<=x.pc->vPt (flowS (pX l x.kind.toNat) (pL l x.kind.toNat)) x.pc.toNat=some k
theorem live_ok {l:List Rw} {V:Wd} (h:WOk 3 (pL l) (pF l) V) {i:Nat} {x:Ac} (hx:V.acts[i]?=some x) (hf:x.fin=0):∃ k,LiveOk l x k:=by
 have ha:=h.acts i x hx;obtain⟨k,h1,h2,h3,h4⟩:=ha.typ hf;exact⟨k,ha.str.may,ha.str.regs,ha.str.box,ha.pc,ha.kind,h1,h2,h3,h4⟩
structure AcBox (w:World) (X:Nat) (x:Ac) (oa:Option Addr) (oc:Nat) (ra:Option Addr) (rc:Nat) (ba:Option Addr) (bc:Nat):Prop where
 c0:w.cell? ⟨X,0,none⟩=some (.int .i64 x.kind)
 c1:w.cell? ⟨X,1,none⟩=some (.int .i64 x.par)
 c2:w.cell? ⟨X,2,none⟩=some (.int .i64 x.M)
 c3:w.cell? ⟨X,3,none⟩=some (.slice oa x.obs.length oc)
 c4:w.cell? ⟨X,4,none⟩=some (.slice ra x.regs.length rc)
 c5:w.cell? ⟨X,5,none⟩=some (.int .i64 x.pc)
 c6:w.cell? ⟨X,6,none⟩=some (.slice ba x.box.length bc)
 c7:w.cell? ⟨X,7,none⟩=some (.int .i64 x.fin)
theorem topUnique_any (l m:List Rw) (la ma:Option Addr) (lc mc:Nat) (most:Int) (w:World) (hT:TabAt 0 w) (h:RawsAt w la l) (hm:RawsAt w ma m) (hll:32*l.length<=140737488355328) (hmo:fit64 most) :
  Calls Tryz.prog 7 #[.slice la l.length lc,.slice ma m.length mc,.int .i64 most] w fun e w'=>e=.returned (.bool true)/\Below w.heap.size w w':=by
 have hpl:=fun w' (hb:Below w.heap.size w w')=>played_any l m la ma lc mc most w' (hT.keeps (Keeps.below hb)) (h.keeps (Keeps.below hb)) (hm.keeps (Keeps.below hb)) hll hmo
 have HE:Aside (∀ (i:Nat) x,(playS l m most).acts[i]?=some x->x.fin=0->∃ k,LiveOk l x k):=fun i x hx hf=>live_ok (play_ok l m most).1 hx hf
 have hV8:=(play_ok l m most).1.len;have HPF:Aside (progFault 3 (pL l) (pX l)=0):=(ver_of (by show(ckS 3 (lenOf (programS l 14)) (xOf (programS l 14))).2.2=0;exact congrArg (fun q=>q.2.2) (program_ok l 14))).1
 go_enter Tryz.func7,Tryz.ntmps7
 go_wp2_with fail
 refine(worldTells_any w hT).mono ?_;rintro e w1 ⟨rfl,hb1⟩
 go_wp2_with fail
 refine(hpl w1 hb1).mono ?_;rintro e w2 ⟨ao,cap,xa,xc,aa,ac,pa,pc,rfl,hb2,hK,_,hVA,hVP⟩;clear hpl;obtain⟨A,C,hPA,_,_⟩:=program_prog (by omega) hK;have hB2:=hb1.trans (hb2.mono hb1.size);have HV:Aside (∀ w',Keeps w2 w'->(ProgAt w' ao 3 A (pL l) C (pX l)/\TabAt 0 w')/\ActsAt w' aa (playS l m most).acts):=fun w' q=>⟨⟨hPA.keeps q,(hT.keeps (Keeps.below hB2)).keeps q⟩,hVA.keeps q⟩
 generalize playS l m most=V at *;obtain⟨KN,hKN⟩:∃ KN,KN=V.acts.length:=⟨_,rfl⟩;have HKN:Aside (KN=V.acts.length):=hKN;rw[<- hKN] at hV8 ⊢;clear hKN hK hPA hVA hVP hT h hm;obtain⟨NP,NW,_,cb,cs⟩:=boxes2 w2 (.cells #[.slice ao 3 cap] 38) (.cells #[.slice aa KN ac,.slice pa V.prints.length pc] 32)
 go_upto_region 4 with fail
 generalize (w2.alloc (.cells #[.slice ao 3 cap] 38)).alloc (.cells #[.slice aa KN ac,.slice pa V.prints.length pc] 32)=w3 at *;have p3:w3.cell? ⟨w2.heap.size,0,none⟩=some (.slice ao 3 cap):=cell_blk NP 0;have q3:w3.cell? ⟨w2.heap.size+1,0,none⟩=some (.slice aa KN ac):=cell_blk NW 0;have HK3:Aside (Keeps w2 w3/\Below w.heap.size w w3):=⟨Keeps.below cb,hB2.trans (cb.mono hB2.size)⟩;generalize w2.heap.size=P at *
 have HC3:Aside (w3.cell? ⟨P,0,none⟩=some (.slice ao 3 cap)):=p3;clear p3 NP NW cb hb1 hb2;go_wp2
 go_loopg [37,12,13,14,15,16,17,18,19,20] KN (fun g s37 s12 s13 s14 s15 s16 s17 s18 s19 s20 wr=>∃ i:Nat,i<=KN/\g=KN-i/\s37=.int .i64 i/\Aside (Below w3.heap.size w3 wr/\Keeps w3 wr))
 case atStart=>exact⟨0,Nat.zero_le _,rfl,rfl,Below.refl _ _,Keeps.refl _⟩
 case round =>
  obtain⟨i,hi,rfl,rfl,HBR⟩:=hrel;have hbr:=HBR.out.1;have hkr:=HBR.out.2;clear q3
  by_cases hiL:i<KN
  ·have hiz:(i:Int)<(KN:Int):=by omega
   obtain⟨x,hx⟩:=at_some (l:=V.acts) (i:=i) (by rw[<- HKN.out];exact hiL);obtain⟨b,o,oa,oc,ra,rc,ba,bc,rfl,A1⟩:=(HV.out wr (HK3.out.1.trans hkr)).2.cell i x hx;have HX:=HE.out i x hx;clear hx;obtain⟨xk,xp,xM,xo,xr,xpc,xb,xf⟩:=x;obtain⟨x0,x1,x2,x3,x4,x5,x6,x7,hob,hrg,hbx,_,_⟩:=A1;simp only at x0 x1 x2 x3 x4 x5 x6 x7 hob hrg hbx;obtain⟨N0,_,bX,sX⟩:=boxes1 wr (.cells #[.int .i64 xk,.int .i64 xp,.int .i64 xM,.slice oa xo.length oc,.slice ra xr.length rc,.int .i64 xpc,.slice ba xb.length bc,.int .i64 xf] 50)
   have hBx:=hbr.trans (bX.mono hbr.size);have hkx:=hkr.trans (Keeps.below bX);have hwx:w3.heap.size<=wr.heap.size:=hbr.size;replace hob:=hob.keeps (Keeps.below bX);replace hrg:=hrg.keeps (Keeps.below bX);replace hbx:=hbx.keeps (Keeps.below bX)
   go_upto_region 9 with fail
   clear x0 x1 x2 x3 x4 x5 x6 x7;generalize wr.alloc (.cells #[.int .i64 xk,.int .i64 xp,.int .i64 xM,.slice oa xo.length oc,.slice ra xr.length rc,.int .i64 xpc,.slice ba xb.length bc,.int .i64 xf] 50)=wx at *;have c7:wx.cell? ⟨wr.heap.size,7,none⟩=some (.int .i64 xf):=cell_blk N0 7
   by_cases hf:xf=0
   rotate_left
   ·have f0:(xf != 0)=true:=by simp[hf]
    have HBX:Aside (Below w3.heap.size w3 wx/\Keeps w3 wx):=⟨hBx,hkx⟩;clear hob hrg hbx HX;go_wp2
    go_roundg (KN-(i+1))
    case measure=>go_light;omega
    case rel=>go_light;exact⟨i+1,by omega,rfl,by go_num,HBX⟩
   ·obtain⟨k,hL⟩:=HX hf
    subst hf;have f0:((0:Int) != 0)=false:=rfl;clear HX;have HL:Aside (LiveOk l ⟨xk,xp,xM,xo,xr,xpc,xb,0⟩ k):=hL;have hr8:xr.length=8:=hL.regs;have hb6:xb.length<=6:=hL.box;have hpc:=hL.pc;have hkd:=hL.kind;have hk8:k.length=8:=hL.len;simp only at hpc hkd;clear hL;obtain⟨kd,rfl⟩:=Int.eq_ofNat_of_zero_le hkd.1;rw[Int.toNat_natCast] at hpc;rw[hr8] at N0;obtain⟨NA,_,bA,sA⟩:=boxes1 wx (.cells #[.int .i64 3,.int .i64 0,.int .i64 0,.int .i64 0,.int .i64 0,.int .i64 0,.int .i64 0,.int .i64 0] 3)
    have N1:=(bA.block _ (Array.getElem?_eq_some_iff.1 N0).1).trans N0;rw[hr8]
    go_upto_region 11 with fail
    generalize wx.alloc (.cells #[.int .i64 3,.int .i64 0,.int .i64 0,.int .i64 0,.int .i64 0,.int .i64 0,.int .i64 0,.int .i64 0] 3)=wy at *;have hkA:=Keeps.below bA;have hBy:=hBx.trans (bA.mono hBx.size);have hIA:IntsAt wy (some ⟨wx.heap.size,0,none⟩) kWait:=fun j z hj=>by
     refine⟨_,_,rfl,?_⟩;rw[cellBlk NA,Nat.zero_add];have:(#[.int .i64 3,.int .i64 0,.int .i64 0,.int .i64 0,.int .i64 0,.int .i64 0,.int .i64 0,.int .i64 0]:Array Value).toList=kWait.map (Value.int .i64):=rfl;rw[<- Array.getElem?_toList,this,List.getElem?_map,hj]
     rfl
    have c0:wy.cell? ⟨wr.heap.size,0,none⟩=some (.int .i64 kd):=cell_blk N1 0;have c5:wy.cell? ⟨wr.heap.size,5,none⟩=some (.int .i64 xpc):=cell_blk N1 5;have p5:wy.cell? ⟨P,0,none⟩=some (.slice ao 3 cap):=hkA _ _ (hkx _ _ HC3.out);have HX8:Aside (∀ w',Keeps wy w'->AcBox w' wr.heap.size ⟨kd,xp,xM,xo,xr,xpc,xb,0⟩ oa oc ra rc ba bc):=fun w' q=>⟨q _ _ c0,q _ _ (cell_blk N1 1),q _ _ (cell_blk N1 2),q _ _ (cell_blk N1 3),q _ _ ((cell_blk N1 4).trans (by rw[hr8];rfl)),q _ _ c5,q _ _ (cell_blk N1 6),q _ _ (cell_blk N1 7)⟩
    have HRB:Aside (ObsAt wy oa xo/\ValsAt wy ra xr/\ValsAt wy ba xb):=⟨hob.keeps hkA,hrg.keeps hkA,hbx.keeps hkA⟩;have HKY:Aside (Keeps w3 wy):=hkx.trans hkA;clear NA bA c7 N0
    go_upto_if 47 with fail
    go_cut [13,14,15] (fun s13 s14 s15 wc=>∃ a2 c2,s13=.slice a2 8 c2/\Below w3.heap.size w3 wc/\Keeps wy wc/\IntsAt wc a2 k)
    case first =>
     by_cases hp:0<=xpc
     ·obtain⟨j,rfl⟩:=Int.eq_ofNat_of_zero_le hp
      have hv:=HV.out wy (HK3.out.1.trans (hkx.trans hkA));have hkd3:kd<3:=by omega
      have hty:=types_ok ao 3 cap A (pL l) C (pX l) kd wy hv.1.2 hv.1.1 HPF.out hkd3;have hvk:vPt (flowS (pX l kd) (pL l kd)) j=some k:=by have:=HL.out.here (Int.natCast_nonneg j);simpa using this
      have hst:(flowS (pX l kd) (pL l kd))[j]?=some (some k):=by
       unfold vPt at hvk
       cases hq:(flowS (pX l kd) (pL l kd))[j]? with
       | none=>rw[hq] at hvk;simp at hvk
       | some q=>rw[hq] at hvk;simp at hvk;rw[hvk]
      have hjL:(j:Int)<(pL l kd:Int):=hpc.2;clear hvk hv hIA;generalize flowS (pX l kd) (pL l kd)=ST at *;generalize pL l kd=LK at *
      go_wp2_with fail
      refine hty.mono ?_;rintro e w4 ⟨g,vc,rfl,hb4,rows,hRf⟩;obtain⟨rai,rci,hci,hvi⟩:=hRf.cell hst;simp only[Option.getD_some,hk8] at hci hvi;replace c5:=Keeps.below hb4 _ _ c5;have hB4:=hBy.trans (hb4.mono hBy.size);have hk4:=Keeps.below hb4;clear hRf hst hty hb4
      go_wp2_with fail
      go_meet
      case rel=>exact⟨_,_,rfl,hB4,hk4,hvi⟩
     ·have hpm:xpc=-1:=by omega
      have hkw:=HL.out.wait hpm;rw[sX] at hIA;have HIA:Aside (IntsAt wy (some ⟨wr.heap.size+1,0,none⟩) k):=by rw[hkw];exact hIA
      clear hIA hkw
      go_wp2_with fail
      go_meet
      case rel=>exact⟨_,_,rfl,hBy,Keeps.refl _,HIA.out⟩
    case rest =>
     obtain⟨a2,c2,rfl,hBc,hkc,hI2⟩:=hcut;clear hIA;clear c0 c5 p5 N1;have hX8:=HX8.out wc hkc;have hmm:=@run_makeMap Tryz.prog
     go_upto_region 17 with fail
     clear hmm;have HM0:=MapF.none wc;have bM:=below_box wc (Obj.map #[] 0);have hMw:w3.heap.size<=wc.heap.size:=hBc.size;have hBm:=hBc.trans (bM.mono hBc.size);have hkm:=hkc.trans (Keeps.below bM);replace hI2:=hI2.keeps (Keeps.below bM);replace hX8:=HX8.out _ hkm;generalize wc.alloc (Obj.map #[] 0)=wm at *;generalize wc.heap.size=mp at *;clear bM hBc hkc;have HML:Aside (∀ (r:Nat),r<8->∃ kr v,k[r]?=some kr/\vAt k r=kr/\xr[r]?=some v):=fun r hr=>by
      obtain⟨kr,hkr⟩:=at_some (l:=k) (i:=r) (by omega);obtain⟨v,hv⟩:=at_some (l:=xr) (i:=r) (by omega);exact⟨kr,v,hkr,by unfold vAt;rw[Int.toNat_natCast,hkr];rfl,hv⟩
     have HMW:Aside (Below w3.heap.size w3 wm/\Keeps wy wm):=⟨hBm,hkm⟩;have HM1:Aside (∃ f,MapF wm mp (60*0) f/\Told0 xo (tagsOf k xr xb) f):=⟨_,HM0,told_none _ _⟩;have HI2:Aside (IntsAt wm a2 k):=hI2;have hmpm:=HM0.lt;have hMwm:w3.heap.size<=wm.heap.size:=hBm.size;generalize wr.heap.size=XB at *;clear HM0 hBm hI2
     go_wp2_with fail
     go_loopg [74,17,18] 8 (fun g s74 s17 s18 wr=>∃ r:Nat,r<=8/\g=8-r/\s74=.int .i64 r/\Aside (Below w3.heap.size wm wr/\Keeps wm wr)/\Aside (∃ f,MapF wr mp (60*r) f/\Told0 xo (tagsOf k xr xb) f))
     case atStart=>exact⟨0,Nat.zero_le _,rfl,rfl,⟨Below.refl _ _,Keeps.refl _⟩,HM1.out⟩
     case round =>
      obtain⟨r,hr,rfl,rfl,HBQ,HMQ⟩:=hrel;clear HM1;obtain⟨wq,hwq⟩:∃ wq,wq=wr:=⟨_,rfl⟩;subst hwq
      by_cases hrL:r<8
      ·have hrz:(r:Int)<8:=by omega
       obtain⟨kr,v,hkr,hvr,hv⟩:=HML.out r hrL;obtain⟨ib,io,rfl,ci⟩:=HI2.out.keeps HBQ.out.2 r kr hkr;have hkq:=HMW.out.2.trans HBQ.out.2;have hXq:=HX8.out wq hkq;obtain⟨rb,ro,rfl,cv0,cv1⟩:=HRB.out.2.1.keeps hkq r v hv;have c4:=hXq.c4;simp only[hr8] at c4;obtain⟨vk,vn⟩:=v;simp only at cv0 cv1;have HKQ:Aside (Keeps wy wq):=hkq;have hXC:=hXq;have HGO:Aside (Below w3.heap.size wm wq/\Keeps wm wq):=HBQ.out
       by_cases h1:kr=1
       ·subst h1
        have hvk:vk=1:=HL.out.typ.num r _ hrL hv hvr;subst hvk;have HM2:Aside (∃ f,MapF wq mp (60*(r+1)) f/\Told0 xo (tagsOf k xr xb) f):=by obtain⟨f,h1,h2⟩:=HMQ.out;exact⟨f,h1.le (by omega),h2⟩
        clear hkr hvr hv
        go_wp2_with fail
        go_roundg (8-(r+1))
        case measure=>go_light;omega
        case rel=>go_light;exact⟨r+1,by omega,rfl,by go_num,HGO,HM2⟩
       by_cases h23:kr=2\/kr=3
       rotate_left
       ·have b1:(kr == 1)=false:=by simp[h1]
        have b2:(kr == 2)=false:=by simp;omega
        have b3:(kr == 3)=false:=by simp;omega
        have d2:(kr != 2)=true:=by simp;omega
        have d3:(kr != 3)=true:=by simp;omega
        have HM2:Aside (∃ f,MapF wq mp (60*(r+1)) f/\Told0 xo (tagsOf k xr xb) f):=by obtain⟨f,h1,h2⟩:=HMQ.out;exact⟨f,h1.le (by omega),h2⟩
        clear hkr hvr hv h1 h23
        go_wp2_with fail
        go_roundg (8-(r+1))
        case measure=>go_light;omega
        case rel=>go_light;exact⟨r+1,by omega,rfl,by go_num,HGO,HM2⟩
       ·have hvo:=HL.out.typ.obj hrL hv (by rw[hvr];exact h23)
        have hvk:vk=2:=hvo.1;subst hvk;obtain⟨f,hMF,hTF⟩:=HMQ.out;have htag:=tagsOf_reg (box:=xb) hrL hv (by rw[hvr];exact h23);rw[hvr] at htag;have htb:tagOf kr r<9:=by unfold tagOf;split <;> omega
        have hTM:Told0 xo (tagsOf k xr xb) (tellF f (reach xo [⟨2,vn⟩]) (whoOf (tagOf kr r))):=told_more hTF htag (Or.inl htb);have hfr:=told_free HL.out.typ.held hTF htag (Or.inl htb);have hMay:hMay xM xo [⟨2,vn⟩]=true:=by
         have:=hMay_parts.1 HL.out.may;exact hMay_parts.2 ⟨this.1,this.2.1,fun u hu=>by simp at hu;subst hu;exact this.2.2 _ (List.mem_append_left _ (List.mem_of_getElem? hv))⟩
        have hwb:=whoOf_pos (a:=tagOf kr r) (Or.inl htb);obtain⟨cw,hcw⟩:∃ cw,cw=whoOf (tagOf kr r):=⟨_,rfl⟩;rw[<- hcw] at hTM hfr hwb;have hown:∀ (w':World) (B6:Nat),Below wq.heap.size wq w'->ValsAt w' (some ⟨B6,0,none⟩) [⟨2,vn⟩]->Calls Tryz.prog 21 #[.agg #[.int .i64 kd,.int .i64 xp,.int .i64 xM,.slice oa xo.length oc,.slice (some ⟨rb,ro,none⟩) 8 rc,.int .i64 xpc,.slice ba xb.length bc,.int .i64 0],.slice (some ⟨B6,0,none⟩) 1 1,.map (some mp),.int .i64 cw] w' fun e w''=>e=.returned (.bool true)/\Keeps w' w''/\Below w3.heap.size w' w''/\MapF w'' mp (60*r+60) (tellF f (reach xo [⟨2,vn⟩]) cw):=fun w' B6 hb hv6=>by
         have:=own_any ⟨kd,xp,xM,xo,xr,xpc,xb,0⟩ oa (some ⟨rb,ro,none⟩) ba oc rc bc (some ⟨B6,0,none⟩) 1 ⟨2,vn⟩ mp (60*r) w3.heap.size f cw w' (HRB.out.1.keeps (HKQ.out.trans (Keeps.below hb))) hv6 (hMF.below hb) (by omega) hMay hfr (by omega) hMw (Nat.le_trans (Nat.le_trans hMwm HGO.out.1.size) hb.size);simp only[hr8] at this
         exact this
        have hSk:∀ w',Keeps wq w'->(w'.cell? ⟨XB,0,none⟩=some (.int .i64 kd)/\w'.cell? ⟨XB,1,none⟩=some (.int .i64 xp)/\w'.cell? ⟨XB,2,none⟩=some (.int .i64 xM)/\w'.cell? ⟨XB,3,none⟩=some (.slice oa xo.length oc)/\w'.cell? ⟨XB,4,none⟩=some (.slice (some ⟨rb,ro,none⟩) 8 rc)/\w'.cell? ⟨XB,5,none⟩=some (.int .i64 xpc)/\w'.cell? ⟨XB,6,none⟩=some (.slice ba xb.length bc)/\w'.cell? ⟨XB,7,none⟩=some (.int .i64 0)/\w'.cell? ⟨rb,ro+r*2,none⟩=some (.int .i64 2)/\w'.cell? ⟨rb,ro+r*2+1,none⟩=some (.int .i64 vn)):=fun w' q=>⟨q _ _ hXC.c0,q _ _ hXC.c1,q _ _ hXC.c2,q _ _ hXC.c3,q _ _ (hXC.c4.trans (by simp[hr8])),q _ _ hXC.c5,q _ _ hXC.c6,q _ _ hXC.c7,q _ _ cv0,q _ _ cv1⟩
        have hSof:∀ w',Below wq.heap.size wq w'->(w'.cell? ⟨XB,0,none⟩=some (.int .i64 kd)/\w'.cell? ⟨XB,1,none⟩=some (.int .i64 xp)/\w'.cell? ⟨XB,2,none⟩=some (.int .i64 xM)/\w'.cell? ⟨XB,3,none⟩=some (.slice oa xo.length oc)/\w'.cell? ⟨XB,4,none⟩=some (.slice (some ⟨rb,ro,none⟩) 8 rc)/\w'.cell? ⟨XB,5,none⟩=some (.int .i64 xpc)/\w'.cell? ⟨XB,6,none⟩=some (.slice ba xb.length bc)/\w'.cell? ⟨XB,7,none⟩=some (.int .i64 0)/\w'.cell? ⟨rb,ro+r*2,none⟩=some (.int .i64 2)/\w'.cell? ⟨rb,ro+r*2+1,none⟩=some (.int .i64 vn)):=fun w' q=>hSk w' (Keeps.below q)
        have HGN:∀ wd wz,Below wq.heap.size wq wd->Keeps wd wz->Below w3.heap.size wd wz->MapF wz mp (60*r+60) (tellF f (reach xo [⟨2,vn⟩]) cw)->(wz.cell? ⟨XB,0,none⟩=some (.int .i64 kd)/\wz.cell? ⟨XB,1,none⟩=some (.int .i64 xp)/\wz.cell? ⟨XB,2,none⟩=some (.int .i64 xM)/\wz.cell? ⟨XB,3,none⟩=some (.slice oa xo.length oc)/\wz.cell? ⟨XB,4,none⟩=some (.slice (some ⟨rb,ro,none⟩) 8 rc)/\wz.cell? ⟨XB,5,none⟩=some (.int .i64 xpc)/\wz.cell? ⟨XB,6,none⟩=some (.slice ba xb.length bc)/\wz.cell? ⟨XB,7,none⟩=some (.int .i64 0)/\wz.cell? ⟨rb,ro+r*2,none⟩=some (.int .i64 2)/\wz.cell? ⟨rb,ro+r*2+1,none⟩=some (.int .i64 vn))/\Aside (Below w3.heap.size wm wz/\Keeps wm wz)/\Aside (∃ f,MapF wz mp (60*(r+1)) f/\Told0 xo (tagsOf k xr xb) f):=fun wd wz bd kz bz mz=>⟨hSk _ ((Keeps.below bd).trans kz),⟨HGO.out.1.trans ((bd.mono (Nat.le_trans hMwm HGO.out.1.size)).trans bz),HGO.out.2.trans ((Keeps.below bd).trans kz)⟩,_,mz.le (by omega),hTM⟩
        have hwr:IntKind.i64.wrap (2+(r:Int))=2+(r:Int):=by rw[IntKind.wrap_i64];omega
        have hr2:0<=2+(r:Int)/\2+(r:Int)<=1000:=by omega
        clear hkr hvr hv hvo htag hTF hMay hfr hTM hMF
        rcases h23 with h2 | h3
        ·subst h2
         have hcw1:cw=1:=by rw[hcw];rfl
         subst hcw1;clear hcw
         go_upto_region 23 with fail
         have hB:Below wq.heap.size wq wq.drew:=(Below.refl _ _).drew;refine wp_region_need (fun _=>true) (fun w'=>w'.cell? ⟨XB,0,none⟩=some (.int .i64 kd)/\w'.cell? ⟨XB,1,none⟩=some (.int .i64 xp)/\w'.cell? ⟨XB,2,none⟩=some (.int .i64 xM)/\w'.cell? ⟨XB,3,none⟩=some (.slice oa xo.length oc)/\w'.cell? ⟨XB,4,none⟩=some (.slice (some ⟨rb,ro,none⟩) 8 rc)/\w'.cell? ⟨XB,5,none⟩=some (.int .i64 xpc)/\w'.cell? ⟨XB,6,none⟩=some (.slice ba xb.length bc)/\w'.cell? ⟨XB,7,none⟩=some (.int .i64 0)/\w'.cell? ⟨rb,ro+r*2,none⟩=some (.int .i64 2)/\w'.cell? ⟨rb,ro+r*2+1,none⟩=some (.int .i64 vn)) (by kernel_rfl) (hSof _ hB) (fun hS=>?_)
         have hmm:=@run_makeMap Tryz.prog;generalize wq.drew=wc0 at hS hB ⊢;refine tkN 0 hS ?_;refine tkN 1 hS ?_;refine tkN 2 hS ?_;refine tkN 3 hS ?_;refine tkN 4 hS ?_;refine tkN 5 hS ?_;refine tkN 7 hS ?_;refine tkN 10 hS ?_;refine tkN 11 hS ?_;refine tkN 14 hS ?_;refine twN 6 8 (fun K hK=>?_) (fun K hK=>?_)
         ·go_simp
          have hbn:=below_box wc0 (Obj.cells #[.int .i64 2,.int .i64 vn] 66);have hVs:=vals_one wc0 2 vn 66;generalize wc0.alloc (Obj.cells #[.int .i64 2,.int .i64 vn] 66)=wc1 at hbn hVs ⊢;obtain⟨G,hG⟩:∃ G,G=wc0.heap.size:=⟨_,rfl⟩;rw[<- hG] at hVs ⊢;clear hG;have hBn:Below wq.heap.size wq wc1:=hB.trans (hbn.mono hB.size);refine otN hK (hSof _ hBn) ?_;replace hS:=hSof _ hBn;clear hK;replace hB:=hBn
          clear hBn hbn;refine stN 8 (fun K hK=>?_);go_simp;have hbn:=below_box wc1 (Obj.map #[] 0);have hMs:=Two.made wc1 (2+(r:Int));have xM:=hB.size;generalize wc1.alloc (Obj.map #[] 0)=wc2 at hbn hMs ⊢;obtain⟨Gm,hG⟩:∃ Gm,Gm=wc1.heap.size:=⟨_,rfl⟩;rw[<- hG] at hMs xM ⊢;clear hG;have hBn:Below wq.heap.size wq wc2:=hB.trans (hbn.mono hB.size);refine otN hK (hSof _ hBn) ?_;replace hS:=hSof _ hBn;clear hK
          replace hVs:=hVs.keeps (Keeps.below hbn);replace hB:=hBn;clear hBn hbn;refine twN 9 12 (fun K hK=>?_) (fun K hK=>?_)
          ·obtain⟨wc3,hrun,⟨hg,hkp⟩,hM2⟩:=hMs.ins1
           go_simp;have hBn:Below wq.heap.size wq wc3:=grown_some hB hg hB.size xM;replace hVs:=hVs.keeps hkp;replace hMs:=hM2;clear hrun hg hM2 hkp;refine otN hK (hSof _ hBn) ?_;replace hS:=hSof _ hBn;clear hK;replace hB:=hBn;clear hBn;refine stN 12 (fun K hK=>?_);obtain⟨wc4,hrun,⟨hg,hkp⟩,hM2⟩:=hMs.ins2 hr2;go_simp;have hBn:Below wq.heap.size wq wc4:=grown_some hB hg hB.size xM;replace hVs:=hVs.keeps hkp
           replace hMs:=hM2;clear hrun hg hM2 hkp;refine otN hK (hSof _ hBn) ?_;replace hS:=hSof _ hBn;clear hK;replace hB:=hBn;clear hBn;refine tkN 13 hS ?_;refine stN 15 (fun K hK=>?_);have hrun:=hMs.look (k:=2) (c:=1) (by simp);go_simp;clear hrun;refine otN hK hS ?_;clear hK;refine stN 16 (fun K hK=>?_);go_simp;refine(hown wc4 _ hB hVs).mono ?_;rintro e wz ⟨rfl,kz,bz,mz⟩;have HGZ:=HGN wc4 wz hB kz bz mz
           refine otN hK (HGZ.1) ?_;clear hK;replace hS:=HGZ.1;refine tkN 17 hS ?_;refine dnN ?_;clear hS kz bz mz hVs hMs hB;go_wp2
           go_roundg (8-(r+1))
           case measure=>go_light;omega
           case rel=>go_light;exact⟨r+1,by omega,rfl,by go_num,HGZ.2.1,HGZ.2.2⟩
          ·obtain⟨wc3,hrun,⟨hg,hkp⟩,hM2⟩:=hMs.ins2 hr2
           go_simp;have hBn:Below wq.heap.size wq wc3:=grown_some hB hg hB.size xM;replace hVs:=hVs.keeps hkp;replace hMs:=hM2;clear hrun hg hM2 hkp;refine otN hK (hSof _ hBn) ?_;replace hS:=hSof _ hBn;clear hK;replace hB:=hBn;clear hBn;refine stN 9 (fun K hK=>?_);obtain⟨wc4,hrun,⟨hg,hkp⟩,hM2⟩:=hMs.ins1;go_simp;have hBn:Below wq.heap.size wq wc4:=grown_some hB hg hB.size xM;replace hVs:=hVs.keeps hkp
           replace hMs:=hM2;clear hrun hg hM2 hkp;refine otN hK (hSof _ hBn) ?_;replace hS:=hSof _ hBn;clear hK;replace hB:=hBn;clear hBn;refine tkN 13 hS ?_;refine stN 15 (fun K hK=>?_);have hrun:=hMs.look (k:=2) (c:=1) (by simp);go_simp;clear hrun;refine otN hK hS ?_;clear hK;refine stN 16 (fun K hK=>?_);go_simp;refine(hown wc4 _ hB hVs).mono ?_;rintro e wz ⟨rfl,kz,bz,mz⟩;have HGZ:=HGN wc4 wz hB kz bz mz
           refine otN hK (HGZ.1) ?_;clear hK;replace hS:=HGZ.1;refine tkN 17 hS ?_;refine dnN ?_;clear hS kz bz mz hVs hMs hB;go_wp2
           go_roundg (8-(r+1))
           case measure=>go_light;omega
           case rel=>go_light;exact⟨r+1,by omega,rfl,by go_num,HGZ.2.1,HGZ.2.2⟩
         ·go_simp
          have hbn:=below_box wc0 (Obj.map #[] 0);have hMs:=Two.made wc0 (2+(r:Int));have xM:=hB.size;generalize wc0.alloc (Obj.map #[] 0)=wc1 at hbn hMs ⊢;obtain⟨Gm,hG⟩:∃ Gm,Gm=wc0.heap.size:=⟨_,rfl⟩;rw[<- hG] at hMs xM ⊢;clear hG;have hBn:Below wq.heap.size wq wc1:=hB.trans (hbn.mono hB.size);refine otN hK (hSof _ hBn) ?_;replace hS:=hSof _ hBn;clear hK;replace hB:=hBn;clear hBn hbn;refine thN 6 9 12 (fun K hK=>?_) (fun K hK=>?_) (fun K hK=>?_)
          ·go_simp
           have hbn:=below_box wc1 (Obj.cells #[.int .i64 2,.int .i64 vn] 66);have hVs:=vals_one wc1 2 vn 66;generalize wc1.alloc (Obj.cells #[.int .i64 2,.int .i64 vn] 66)=wc2 at hbn hVs ⊢;obtain⟨G,hG⟩:∃ G,G=wc1.heap.size:=⟨_,rfl⟩;rw[<- hG] at hVs ⊢;clear hG;have hBn:Below wq.heap.size wq wc2:=hB.trans (hbn.mono hB.size);refine otN hK (hSof _ hBn) ?_;replace hS:=hSof _ hBn;clear hK;replace hMs:=hMs.below hbn
           replace hB:=hBn;clear hBn hbn;refine twN 9 12 (fun K hK=>?_) (fun K hK=>?_)
           ·obtain⟨wc3,hrun,⟨hg,hkp⟩,hM2⟩:=hMs.ins1
            go_simp;have hBn:Below wq.heap.size wq wc3:=grown_some hB hg hB.size xM;replace hVs:=hVs.keeps hkp;replace hMs:=hM2;clear hrun hg hM2 hkp;refine otN hK (hSof _ hBn) ?_;replace hS:=hSof _ hBn;clear hK;replace hB:=hBn;clear hBn;refine stN 12 (fun K hK=>?_);obtain⟨wc4,hrun,⟨hg,hkp⟩,hM2⟩:=hMs.ins2 hr2;go_simp;have hBn:Below wq.heap.size wq wc4:=grown_some hB hg hB.size xM;replace hVs:=hVs.keeps hkp
            replace hMs:=hM2;clear hrun hg hM2 hkp;refine otN hK (hSof _ hBn) ?_;replace hS:=hSof _ hBn;clear hK;replace hB:=hBn;clear hBn;refine tkN 13 hS ?_;refine stN 15 (fun K hK=>?_);have hrun:=hMs.look (k:=2) (c:=1) (by simp);go_simp;clear hrun;refine otN hK hS ?_;clear hK;refine stN 16 (fun K hK=>?_);go_simp;refine(hown wc4 _ hB hVs).mono ?_;rintro e wz ⟨rfl,kz,bz,mz⟩;have HGZ:=HGN wc4 wz hB kz bz mz
            refine otN hK (HGZ.1) ?_;clear hK;replace hS:=HGZ.1;refine tkN 17 hS ?_;refine dnN ?_;clear hS kz bz mz hVs hMs hB;go_wp2
            go_roundg (8-(r+1))
            case measure=>go_light;omega
            case rel=>go_light;exact⟨r+1,by omega,rfl,by go_num,HGZ.2.1,HGZ.2.2⟩
           ·obtain⟨wc3,hrun,⟨hg,hkp⟩,hM2⟩:=hMs.ins2 hr2
            go_simp;have hBn:Below wq.heap.size wq wc3:=grown_some hB hg hB.size xM;replace hVs:=hVs.keeps hkp;replace hMs:=hM2;clear hrun hg hM2 hkp;refine otN hK (hSof _ hBn) ?_;replace hS:=hSof _ hBn;clear hK;replace hB:=hBn;clear hBn;refine stN 9 (fun K hK=>?_);obtain⟨wc4,hrun,⟨hg,hkp⟩,hM2⟩:=hMs.ins1;go_simp;have hBn:Below wq.heap.size wq wc4:=grown_some hB hg hB.size xM;replace hVs:=hVs.keeps hkp
            replace hMs:=hM2;clear hrun hg hM2 hkp;refine otN hK (hSof _ hBn) ?_;replace hS:=hSof _ hBn;clear hK;replace hB:=hBn;clear hBn;refine tkN 13 hS ?_;refine stN 15 (fun K hK=>?_);have hrun:=hMs.look (k:=2) (c:=1) (by simp);go_simp;clear hrun;refine otN hK hS ?_;clear hK;refine stN 16 (fun K hK=>?_);go_simp;refine(hown wc4 _ hB hVs).mono ?_;rintro e wz ⟨rfl,kz,bz,mz⟩;have HGZ:=HGN wc4 wz hB kz bz mz
            refine otN hK (HGZ.1) ?_;clear hK;replace hS:=HGZ.1;refine tkN 17 hS ?_;refine dnN ?_;clear hS kz bz mz hVs hMs hB;go_wp2
            go_roundg (8-(r+1))
            case measure=>go_light;omega
            case rel=>go_light;exact⟨r+1,by omega,rfl,by go_num,HGZ.2.1,HGZ.2.2⟩
          ·obtain⟨wc2,hrun,⟨hg,hkp⟩,hM2⟩:=hMs.ins1
           go_simp;have hBn:Below wq.heap.size wq wc2:=grown_some hB hg hB.size xM;replace hMs:=hM2;clear hrun hg hM2 hkp;refine otN hK (hSof _ hBn) ?_;replace hS:=hSof _ hBn;clear hK;replace hB:=hBn;clear hBn;refine twN 6 12 (fun K hK=>?_) (fun K hK=>?_)
           ·go_simp
            have hbn:=below_box wc2 (Obj.cells #[.int .i64 2,.int .i64 vn] 66);have hVs:=vals_one wc2 2 vn 66;generalize wc2.alloc (Obj.cells #[.int .i64 2,.int .i64 vn] 66)=wc3 at hbn hVs ⊢;obtain⟨G,hG⟩:∃ G,G=wc2.heap.size:=⟨_,rfl⟩;rw[<- hG] at hVs ⊢;clear hG;have hBn:Below wq.heap.size wq wc3:=hB.trans (hbn.mono hB.size);refine otN hK (hSof _ hBn) ?_;replace hS:=hSof _ hBn;clear hK;replace hMs:=hMs.below hbn
            replace hB:=hBn;clear hBn hbn;refine stN 12 (fun K hK=>?_);obtain⟨wc4,hrun,⟨hg,hkp⟩,hM2⟩:=hMs.ins2 hr2;go_simp;have hBn:Below wq.heap.size wq wc4:=grown_some hB hg hB.size xM;replace hVs:=hVs.keeps hkp;replace hMs:=hM2;clear hrun hg hM2 hkp;refine otN hK (hSof _ hBn) ?_;replace hS:=hSof _ hBn;clear hK;replace hB:=hBn;clear hBn;refine tkN 13 hS ?_;refine stN 15 (fun K hK=>?_);have hrun:=hMs.look (k:=2) (c:=1) (by simp)
            go_simp;clear hrun;refine otN hK hS ?_;clear hK;refine stN 16 (fun K hK=>?_);go_simp;refine(hown wc4 _ hB hVs).mono ?_;rintro e wz ⟨rfl,kz,bz,mz⟩;have HGZ:=HGN wc4 wz hB kz bz mz;refine otN hK (HGZ.1) ?_;clear hK;replace hS:=HGZ.1;refine tkN 17 hS ?_;refine dnN ?_;clear hS kz bz mz hVs hMs hB;go_wp2
            go_roundg (8-(r+1))
            case measure=>go_light;omega
            case rel=>go_light;exact⟨r+1,by omega,rfl,by go_num,HGZ.2.1,HGZ.2.2⟩
           ·obtain⟨wc3,hrun,⟨hg,hkp⟩,hM2⟩:=hMs.ins2 hr2
            go_simp;have hBn:Below wq.heap.size wq wc3:=grown_some hB hg hB.size xM;replace hMs:=hM2;clear hrun hg hM2 hkp;refine otN hK (hSof _ hBn) ?_;replace hS:=hSof _ hBn;clear hK;replace hB:=hBn;clear hBn;refine tkN 13 hS ?_;refine twN 6 15 (fun K hK=>?_) (fun K hK=>?_)
            ·go_simp
             have hbn:=below_box wc3 (Obj.cells #[.int .i64 2,.int .i64 vn] 66);have hVs:=vals_one wc3 2 vn 66;generalize wc3.alloc (Obj.cells #[.int .i64 2,.int .i64 vn] 66)=wc4 at hbn hVs ⊢;obtain⟨G,hG⟩:∃ G,G=wc3.heap.size:=⟨_,rfl⟩;rw[<- hG] at hVs ⊢;clear hG;have hBn:Below wq.heap.size wq wc4:=hB.trans (hbn.mono hB.size);refine otN hK (hSof _ hBn) ?_;replace hS:=hSof _ hBn;clear hK;replace hMs:=hMs.below hbn
             replace hB:=hBn;clear hBn hbn;refine stN 15 (fun K hK=>?_);have hrun:=hMs.look (k:=2) (c:=1) (by simp);go_simp;clear hrun;refine otN hK hS ?_;clear hK;refine stN 16 (fun K hK=>?_);go_simp;refine(hown wc4 _ hB hVs).mono ?_;rintro e wz ⟨rfl,kz,bz,mz⟩;have HGZ:=HGN wc4 wz hB kz bz mz;refine otN hK (HGZ.1) ?_;clear hK;replace hS:=HGZ.1;refine tkN 17 hS ?_;refine dnN ?_;clear hS kz bz mz hVs hMs hB
             go_wp2
             go_roundg (8-(r+1))
             case measure=>go_light;omega
             case rel=>go_light;exact⟨r+1,by omega,rfl,by go_num,HGZ.2.1,HGZ.2.2⟩
            ·have hrun:=hMs.look (k:=2) (c:=1) (by simp)
             go_simp;clear hrun;refine otN hK hS ?_;clear hK;refine stN 6 (fun K hK=>?_);go_simp;have hbn:=below_box wc3 (Obj.cells #[.int .i64 2,.int .i64 vn] 66);have hVs:=vals_one wc3 2 vn 66;generalize wc3.alloc (Obj.cells #[.int .i64 2,.int .i64 vn] 66)=wc4 at hbn hVs ⊢;obtain⟨G,hG⟩:∃ G,G=wc3.heap.size:=⟨_,rfl⟩;rw[<- hG] at hVs ⊢;clear hG;have hBn:Below wq.heap.size wq wc4:=hB.trans (hbn.mono hB.size)
             refine otN hK (hSof _ hBn) ?_;replace hS:=hSof _ hBn;clear hK;replace hMs:=hMs.below hbn;replace hB:=hBn;clear hBn hbn;refine stN 16 (fun K hK=>?_);go_simp;refine(hown wc4 _ hB hVs).mono ?_;rintro e wz ⟨rfl,kz,bz,mz⟩;have HGZ:=HGN wc4 wz hB kz bz mz;refine otN hK (HGZ.1) ?_;clear hK;replace hS:=HGZ.1;refine tkN 17 hS ?_;refine dnN ?_;clear hS kz bz mz hVs hMs hB;go_wp2
             go_roundg (8-(r+1))
             case measure=>go_light;omega
             case rel=>go_light;exact⟨r+1,by omega,rfl,by go_num,HGZ.2.1,HGZ.2.2⟩
          ·obtain⟨wc2,hrun,⟨hg,hkp⟩,hM2⟩:=hMs.ins2 hr2
           go_simp;have hBn:Below wq.heap.size wq wc2:=grown_some hB hg hB.size xM;replace hMs:=hM2;clear hrun hg hM2 hkp;refine otN hK (hSof _ hBn) ?_;replace hS:=hSof _ hBn;clear hK;replace hB:=hBn;clear hBn;refine twN 6 9 (fun K hK=>?_) (fun K hK=>?_)
           ·go_simp
            have hbn:=below_box wc2 (Obj.cells #[.int .i64 2,.int .i64 vn] 66);have hVs:=vals_one wc2 2 vn 66;generalize wc2.alloc (Obj.cells #[.int .i64 2,.int .i64 vn] 66)=wc3 at hbn hVs ⊢;obtain⟨G,hG⟩:∃ G,G=wc2.heap.size:=⟨_,rfl⟩;rw[<- hG] at hVs ⊢;clear hG;have hBn:Below wq.heap.size wq wc3:=hB.trans (hbn.mono hB.size);refine otN hK (hSof _ hBn) ?_;replace hS:=hSof _ hBn;clear hK;replace hMs:=hMs.below hbn
            replace hB:=hBn;clear hBn hbn;refine stN 9 (fun K hK=>?_);obtain⟨wc4,hrun,⟨hg,hkp⟩,hM2⟩:=hMs.ins1;go_simp;have hBn:Below wq.heap.size wq wc4:=grown_some hB hg hB.size xM;replace hVs:=hVs.keeps hkp;replace hMs:=hM2;clear hrun hg hM2 hkp;refine otN hK (hSof _ hBn) ?_;replace hS:=hSof _ hBn;clear hK;replace hB:=hBn;clear hBn;refine tkN 13 hS ?_;refine stN 15 (fun K hK=>?_);have hrun:=hMs.look (k:=2) (c:=1) (by simp)
            go_simp;clear hrun;refine otN hK hS ?_;clear hK;refine stN 16 (fun K hK=>?_);go_simp;refine(hown wc4 _ hB hVs).mono ?_;rintro e wz ⟨rfl,kz,bz,mz⟩;have HGZ:=HGN wc4 wz hB kz bz mz;refine otN hK (HGZ.1) ?_;clear hK;replace hS:=HGZ.1;refine tkN 17 hS ?_;refine dnN ?_;clear hS kz bz mz hVs hMs hB;go_wp2
            go_roundg (8-(r+1))
            case measure=>go_light;omega
            case rel=>go_light;exact⟨r+1,by omega,rfl,by go_num,HGZ.2.1,HGZ.2.2⟩
           ·obtain⟨wc3,hrun,⟨hg,hkp⟩,hM2⟩:=hMs.ins1
            go_simp;have hBn:Below wq.heap.size wq wc3:=grown_some hB hg hB.size xM;replace hMs:=hM2;clear hrun hg hM2 hkp;refine otN hK (hSof _ hBn) ?_;replace hS:=hSof _ hBn;clear hK;replace hB:=hBn;clear hBn;refine tkN 13 hS ?_;refine twN 6 15 (fun K hK=>?_) (fun K hK=>?_)
            ·go_simp
             have hbn:=below_box wc3 (Obj.cells #[.int .i64 2,.int .i64 vn] 66);have hVs:=vals_one wc3 2 vn 66;generalize wc3.alloc (Obj.cells #[.int .i64 2,.int .i64 vn] 66)=wc4 at hbn hVs ⊢;obtain⟨G,hG⟩:∃ G,G=wc3.heap.size:=⟨_,rfl⟩;rw[<- hG] at hVs ⊢;clear hG;have hBn:Below wq.heap.size wq wc4:=hB.trans (hbn.mono hB.size);refine otN hK (hSof _ hBn) ?_;replace hS:=hSof _ hBn;clear hK;replace hMs:=hMs.below hbn
             replace hB:=hBn;clear hBn hbn;refine stN 15 (fun K hK=>?_);have hrun:=hMs.look (k:=2) (c:=1) (by simp);go_simp;clear hrun;refine otN hK hS ?_;clear hK;refine stN 16 (fun K hK=>?_);go_simp;refine(hown wc4 _ hB hVs).mono ?_;rintro e wz ⟨rfl,kz,bz,mz⟩;have HGZ:=HGN wc4 wz hB kz bz mz;refine otN hK (HGZ.1) ?_;clear hK;replace hS:=HGZ.1;refine tkN 17 hS ?_;refine dnN ?_;clear hS kz bz mz hVs hMs hB
             go_wp2
             go_roundg (8-(r+1))
             case measure=>go_light;omega
             case rel=>go_light;exact⟨r+1,by omega,rfl,by go_num,HGZ.2.1,HGZ.2.2⟩
            ·have hrun:=hMs.look (k:=2) (c:=1) (by simp)
             go_simp;clear hrun;refine otN hK hS ?_;clear hK;refine stN 6 (fun K hK=>?_);go_simp;have hbn:=below_box wc3 (Obj.cells #[.int .i64 2,.int .i64 vn] 66);have hVs:=vals_one wc3 2 vn 66;generalize wc3.alloc (Obj.cells #[.int .i64 2,.int .i64 vn] 66)=wc4 at hbn hVs ⊢;obtain⟨G,hG⟩:∃ G,G=wc3.heap.size:=⟨_,rfl⟩;rw[<- hG] at hVs ⊢;clear hG;have hBn:Below wq.heap.size wq wc4:=hB.trans (hbn.mono hB.size)
             refine otN hK (hSof _ hBn) ?_;replace hS:=hSof _ hBn;clear hK;replace hMs:=hMs.below hbn;replace hB:=hBn;clear hBn hbn;refine stN 16 (fun K hK=>?_);go_simp;refine(hown wc4 _ hB hVs).mono ?_;rintro e wz ⟨rfl,kz,bz,mz⟩;have HGZ:=HGN wc4 wz hB kz bz mz;refine otN hK (HGZ.1) ?_;clear hK;replace hS:=HGZ.1;refine tkN 17 hS ?_;refine dnN ?_;clear hS kz bz mz hVs hMs hB;go_wp2
             go_roundg (8-(r+1))
             case measure=>go_light;omega
             case rel=>go_light;exact⟨r+1,by omega,rfl,by go_num,HGZ.2.1,HGZ.2.2⟩
        ·subst h3
         have hcw1:cw=2+(r:Int):=by rw[hcw];simp[whoOf,tagOf];omega
         subst hcw1;clear hcw
         go_upto_region 23 with fail
         have hB:Below wq.heap.size wq wq.drew:=(Below.refl _ _).drew;refine wp_region_need (fun _=>true) (fun w'=>w'.cell? ⟨XB,0,none⟩=some (.int .i64 kd)/\w'.cell? ⟨XB,1,none⟩=some (.int .i64 xp)/\w'.cell? ⟨XB,2,none⟩=some (.int .i64 xM)/\w'.cell? ⟨XB,3,none⟩=some (.slice oa xo.length oc)/\w'.cell? ⟨XB,4,none⟩=some (.slice (some ⟨rb,ro,none⟩) 8 rc)/\w'.cell? ⟨XB,5,none⟩=some (.int .i64 xpc)/\w'.cell? ⟨XB,6,none⟩=some (.slice ba xb.length bc)/\w'.cell? ⟨XB,7,none⟩=some (.int .i64 0)/\w'.cell? ⟨rb,ro+r*2,none⟩=some (.int .i64 2)/\w'.cell? ⟨rb,ro+r*2+1,none⟩=some (.int .i64 vn)) (by kernel_rfl) (hSof _ hB) (fun hS=>?_)
         have hmm:=@run_makeMap Tryz.prog;generalize wq.drew=wc0 at hS hB ⊢;refine tkN 0 hS ?_;refine tkN 1 hS ?_;refine tkN 2 hS ?_;refine tkN 3 hS ?_;refine tkN 4 hS ?_;refine tkN 5 hS ?_;refine tkN 7 hS ?_;refine tkN 10 hS ?_;refine tkN 11 hS ?_;refine tkN 14 hS ?_;refine twN 6 8 (fun K hK=>?_) (fun K hK=>?_)
         ·go_simp
          have hbn:=below_box wc0 (Obj.cells #[.int .i64 2,.int .i64 vn] 66);have hVs:=vals_one wc0 2 vn 66;generalize wc0.alloc (Obj.cells #[.int .i64 2,.int .i64 vn] 66)=wc1 at hbn hVs ⊢;obtain⟨G,hG⟩:∃ G,G=wc0.heap.size:=⟨_,rfl⟩;rw[<- hG] at hVs ⊢;clear hG;have hBn:Below wq.heap.size wq wc1:=hB.trans (hbn.mono hB.size);refine otN hK (hSof _ hBn) ?_;replace hS:=hSof _ hBn;clear hK;replace hB:=hBn
          clear hBn hbn;refine stN 8 (fun K hK=>?_);go_simp;have hbn:=below_box wc1 (Obj.map #[] 0);have hMs:=Two.made wc1 (2+(r:Int));have xM:=hB.size;generalize wc1.alloc (Obj.map #[] 0)=wc2 at hbn hMs ⊢;obtain⟨Gm,hG⟩:∃ Gm,Gm=wc1.heap.size:=⟨_,rfl⟩;rw[<- hG] at hMs xM ⊢;clear hG;have hBn:Below wq.heap.size wq wc2:=hB.trans (hbn.mono hB.size);refine otN hK (hSof _ hBn) ?_;replace hS:=hSof _ hBn;clear hK
          replace hVs:=hVs.keeps (Keeps.below hbn);replace hB:=hBn;clear hBn hbn;refine twN 9 12 (fun K hK=>?_) (fun K hK=>?_)
          ·obtain⟨wc3,hrun,⟨hg,hkp⟩,hM2⟩:=hMs.ins1
           go_simp;have hBn:Below wq.heap.size wq wc3:=grown_some hB hg hB.size xM;replace hVs:=hVs.keeps hkp;replace hMs:=hM2;clear hrun hg hM2 hkp;refine otN hK (hSof _ hBn) ?_;replace hS:=hSof _ hBn;clear hK;replace hB:=hBn;clear hBn;refine stN 12 (fun K hK=>?_);obtain⟨wc4,hrun,⟨hg,hkp⟩,hM2⟩:=hMs.ins2 hr2;go_simp;have hBn:Below wq.heap.size wq wc4:=grown_some hB hg hB.size xM;replace hVs:=hVs.keeps hkp
           replace hMs:=hM2;clear hrun hg hM2 hkp;refine otN hK (hSof _ hBn) ?_;replace hS:=hSof _ hBn;clear hK;replace hB:=hBn;clear hBn;refine tkN 13 hS ?_;refine stN 15 (fun K hK=>?_);have hrun:=hMs.look (k:=3) (c:=2+(r:Int)) (by simp);go_simp;clear hrun;refine otN hK hS ?_;clear hK;refine stN 16 (fun K hK=>?_);go_simp;refine(hown wc4 _ hB hVs).mono ?_;rintro e wz ⟨rfl,kz,bz,mz⟩;have HGZ:=HGN wc4 wz hB kz bz mz
           refine otN hK (HGZ.1) ?_;clear hK;replace hS:=HGZ.1;refine tkN 17 hS ?_;refine dnN ?_;clear hS kz bz mz hVs hMs hB;go_wp2
           go_roundg (8-(r+1))
           case measure=>go_light;omega
           case rel=>go_light;exact⟨r+1,by omega,rfl,by go_num,HGZ.2.1,HGZ.2.2⟩
          ·obtain⟨wc3,hrun,⟨hg,hkp⟩,hM2⟩:=hMs.ins2 hr2
           go_simp;have hBn:Below wq.heap.size wq wc3:=grown_some hB hg hB.size xM;replace hVs:=hVs.keeps hkp;replace hMs:=hM2;clear hrun hg hM2 hkp;refine otN hK (hSof _ hBn) ?_;replace hS:=hSof _ hBn;clear hK;replace hB:=hBn;clear hBn;refine stN 9 (fun K hK=>?_);obtain⟨wc4,hrun,⟨hg,hkp⟩,hM2⟩:=hMs.ins1;go_simp;have hBn:Below wq.heap.size wq wc4:=grown_some hB hg hB.size xM;replace hVs:=hVs.keeps hkp
           replace hMs:=hM2;clear hrun hg hM2 hkp;refine otN hK (hSof _ hBn) ?_;replace hS:=hSof _ hBn;clear hK;replace hB:=hBn;clear hBn;refine tkN 13 hS ?_;refine stN 15 (fun K hK=>?_);have hrun:=hMs.look (k:=3) (c:=2+(r:Int)) (by simp);go_simp;clear hrun;refine otN hK hS ?_;clear hK;refine stN 16 (fun K hK=>?_);go_simp;refine(hown wc4 _ hB hVs).mono ?_;rintro e wz ⟨rfl,kz,bz,mz⟩;have HGZ:=HGN wc4 wz hB kz bz mz
           refine otN hK (HGZ.1) ?_;clear hK;replace hS:=HGZ.1;refine tkN 17 hS ?_;refine dnN ?_;clear hS kz bz mz hVs hMs hB;go_wp2
           go_roundg (8-(r+1))
           case measure=>go_light;omega
           case rel=>go_light;exact⟨r+1,by omega,rfl,by go_num,HGZ.2.1,HGZ.2.2⟩
         ·go_simp
          have hbn:=below_box wc0 (Obj.map #[] 0);have hMs:=Two.made wc0 (2+(r:Int));have xM:=hB.size;generalize wc0.alloc (Obj.map #[] 0)=wc1 at hbn hMs ⊢;obtain⟨Gm,hG⟩:∃ Gm,Gm=wc0.heap.size:=⟨_,rfl⟩;rw[<- hG] at hMs xM ⊢;clear hG;have hBn:Below wq.heap.size wq wc1:=hB.trans (hbn.mono hB.size);refine otN hK (hSof _ hBn) ?_;replace hS:=hSof _ hBn;clear hK;replace hB:=hBn;clear hBn hbn;refine thN 6 9 12 (fun K hK=>?_) (fun K hK=>?_) (fun K hK=>?_)
          ·go_simp
           have hbn:=below_box wc1 (Obj.cells #[.int .i64 2,.int .i64 vn] 66);have hVs:=vals_one wc1 2 vn 66;generalize wc1.alloc (Obj.cells #[.int .i64 2,.int .i64 vn] 66)=wc2 at hbn hVs ⊢;obtain⟨G,hG⟩:∃ G,G=wc1.heap.size:=⟨_,rfl⟩;rw[<- hG] at hVs ⊢;clear hG;have hBn:Below wq.heap.size wq wc2:=hB.trans (hbn.mono hB.size);refine otN hK (hSof _ hBn) ?_;replace hS:=hSof _ hBn;clear hK;replace hMs:=hMs.below hbn
           replace hB:=hBn;clear hBn hbn;refine twN 9 12 (fun K hK=>?_) (fun K hK=>?_)
           ·obtain⟨wc3,hrun,⟨hg,hkp⟩,hM2⟩:=hMs.ins1
            go_simp;have hBn:Below wq.heap.size wq wc3:=grown_some hB hg hB.size xM;replace hVs:=hVs.keeps hkp;replace hMs:=hM2;clear hrun hg hM2 hkp;refine otN hK (hSof _ hBn) ?_;replace hS:=hSof _ hBn;clear hK;replace hB:=hBn;clear hBn;refine stN 12 (fun K hK=>?_);obtain⟨wc4,hrun,⟨hg,hkp⟩,hM2⟩:=hMs.ins2 hr2;go_simp;have hBn:Below wq.heap.size wq wc4:=grown_some hB hg hB.size xM;replace hVs:=hVs.keeps hkp
            replace hMs:=hM2;clear hrun hg hM2 hkp;refine otN hK (hSof _ hBn) ?_;replace hS:=hSof _ hBn;clear hK;replace hB:=hBn;clear hBn;refine tkN 13 hS ?_;refine stN 15 (fun K hK=>?_);have hrun:=hMs.look (k:=3) (c:=2+(r:Int)) (by simp);go_simp;clear hrun;refine otN hK hS ?_;clear hK;refine stN 16 (fun K hK=>?_);go_simp;refine(hown wc4 _ hB hVs).mono ?_;rintro e wz ⟨rfl,kz,bz,mz⟩;have HGZ:=HGN wc4 wz hB kz bz mz
            refine otN hK (HGZ.1) ?_;clear hK;replace hS:=HGZ.1;refine tkN 17 hS ?_;refine dnN ?_;clear hS kz bz mz hVs hMs hB;go_wp2
            go_roundg (8-(r+1))
            case measure=>go_light;omega
            case rel=>go_light;exact⟨r+1,by omega,rfl,by go_num,HGZ.2.1,HGZ.2.2⟩
           ·obtain⟨wc3,hrun,⟨hg,hkp⟩,hM2⟩:=hMs.ins2 hr2
            go_simp;have hBn:Below wq.heap.size wq wc3:=grown_some hB hg hB.size xM;replace hVs:=hVs.keeps hkp;replace hMs:=hM2;clear hrun hg hM2 hkp;refine otN hK (hSof _ hBn) ?_;replace hS:=hSof _ hBn;clear hK;replace hB:=hBn;clear hBn;refine stN 9 (fun K hK=>?_);obtain⟨wc4,hrun,⟨hg,hkp⟩,hM2⟩:=hMs.ins1;go_simp;have hBn:Below wq.heap.size wq wc4:=grown_some hB hg hB.size xM;replace hVs:=hVs.keeps hkp
            replace hMs:=hM2;clear hrun hg hM2 hkp;refine otN hK (hSof _ hBn) ?_;replace hS:=hSof _ hBn;clear hK;replace hB:=hBn;clear hBn;refine tkN 13 hS ?_;refine stN 15 (fun K hK=>?_);have hrun:=hMs.look (k:=3) (c:=2+(r:Int)) (by simp);go_simp;clear hrun;refine otN hK hS ?_;clear hK;refine stN 16 (fun K hK=>?_);go_simp;refine(hown wc4 _ hB hVs).mono ?_;rintro e wz ⟨rfl,kz,bz,mz⟩;have HGZ:=HGN wc4 wz hB kz bz mz
            refine otN hK (HGZ.1) ?_;clear hK;replace hS:=HGZ.1;refine tkN 17 hS ?_;refine dnN ?_;clear hS kz bz mz hVs hMs hB;go_wp2
            go_roundg (8-(r+1))
            case measure=>go_light;omega
            case rel=>go_light;exact⟨r+1,by omega,rfl,by go_num,HGZ.2.1,HGZ.2.2⟩
          ·obtain⟨wc2,hrun,⟨hg,hkp⟩,hM2⟩:=hMs.ins1
           go_simp;have hBn:Below wq.heap.size wq wc2:=grown_some hB hg hB.size xM;replace hMs:=hM2;clear hrun hg hM2 hkp;refine otN hK (hSof _ hBn) ?_;replace hS:=hSof _ hBn;clear hK;replace hB:=hBn;clear hBn;refine twN 6 12 (fun K hK=>?_) (fun K hK=>?_)
           ·go_simp
            have hbn:=below_box wc2 (Obj.cells #[.int .i64 2,.int .i64 vn] 66);have hVs:=vals_one wc2 2 vn 66;generalize wc2.alloc (Obj.cells #[.int .i64 2,.int .i64 vn] 66)=wc3 at hbn hVs ⊢;obtain⟨G,hG⟩:∃ G,G=wc2.heap.size:=⟨_,rfl⟩;rw[<- hG] at hVs ⊢;clear hG;have hBn:Below wq.heap.size wq wc3:=hB.trans (hbn.mono hB.size);refine otN hK (hSof _ hBn) ?_;replace hS:=hSof _ hBn;clear hK;replace hMs:=hMs.below hbn
            replace hB:=hBn;clear hBn hbn;refine stN 12 (fun K hK=>?_);obtain⟨wc4,hrun,⟨hg,hkp⟩,hM2⟩:=hMs.ins2 hr2;go_simp;have hBn:Below wq.heap.size wq wc4:=grown_some hB hg hB.size xM;replace hVs:=hVs.keeps hkp;replace hMs:=hM2;clear hrun hg hM2 hkp;refine otN hK (hSof _ hBn) ?_;replace hS:=hSof _ hBn;clear hK;replace hB:=hBn;clear hBn;refine tkN 13 hS ?_;refine stN 15 (fun K hK=>?_);have hrun:=hMs.look (k:=3) (c:=2+(r:Int)) (by simp)
            go_simp;clear hrun;refine otN hK hS ?_;clear hK;refine stN 16 (fun K hK=>?_);go_simp;refine(hown wc4 _ hB hVs).mono ?_;rintro e wz ⟨rfl,kz,bz,mz⟩;have HGZ:=HGN wc4 wz hB kz bz mz;refine otN hK (HGZ.1) ?_;clear hK;replace hS:=HGZ.1;refine tkN 17 hS ?_;refine dnN ?_;clear hS kz bz mz hVs hMs hB;go_wp2
            go_roundg (8-(r+1))
            case measure=>go_light;omega
            case rel=>go_light;exact⟨r+1,by omega,rfl,by go_num,HGZ.2.1,HGZ.2.2⟩
           ·obtain⟨wc3,hrun,⟨hg,hkp⟩,hM2⟩:=hMs.ins2 hr2
            go_simp;have hBn:Below wq.heap.size wq wc3:=grown_some hB hg hB.size xM;replace hMs:=hM2;clear hrun hg hM2 hkp;refine otN hK (hSof _ hBn) ?_;replace hS:=hSof _ hBn;clear hK;replace hB:=hBn;clear hBn;refine tkN 13 hS ?_;refine twN 6 15 (fun K hK=>?_) (fun K hK=>?_)
            ·go_simp
             have hbn:=below_box wc3 (Obj.cells #[.int .i64 2,.int .i64 vn] 66);have hVs:=vals_one wc3 2 vn 66;generalize wc3.alloc (Obj.cells #[.int .i64 2,.int .i64 vn] 66)=wc4 at hbn hVs ⊢;obtain⟨G,hG⟩:∃ G,G=wc3.heap.size:=⟨_,rfl⟩;rw[<- hG] at hVs ⊢;clear hG;have hBn:Below wq.heap.size wq wc4:=hB.trans (hbn.mono hB.size);refine otN hK (hSof _ hBn) ?_;replace hS:=hSof _ hBn;clear hK;replace hMs:=hMs.below hbn
             replace hB:=hBn;clear hBn hbn;refine stN 15 (fun K hK=>?_);have hrun:=hMs.look (k:=3) (c:=2+(r:Int)) (by simp);go_simp;clear hrun;refine otN hK hS ?_;clear hK;refine stN 16 (fun K hK=>?_);go_simp;refine(hown wc4 _ hB hVs).mono ?_;rintro e wz ⟨rfl,kz,bz,mz⟩;have HGZ:=HGN wc4 wz hB kz bz mz;refine otN hK (HGZ.1) ?_;clear hK;replace hS:=HGZ.1;refine tkN 17 hS ?_;refine dnN ?_;clear hS kz bz mz hVs hMs hB
             go_wp2
             go_roundg (8-(r+1))
             case measure=>go_light;omega
             case rel=>go_light;exact⟨r+1,by omega,rfl,by go_num,HGZ.2.1,HGZ.2.2⟩
            ·have hrun:=hMs.look (k:=3) (c:=2+(r:Int)) (by simp)
             go_simp;clear hrun;refine otN hK hS ?_;clear hK;refine stN 6 (fun K hK=>?_);go_simp;have hbn:=below_box wc3 (Obj.cells #[.int .i64 2,.int .i64 vn] 66);have hVs:=vals_one wc3 2 vn 66;generalize wc3.alloc (Obj.cells #[.int .i64 2,.int .i64 vn] 66)=wc4 at hbn hVs ⊢;obtain⟨G,hG⟩:∃ G,G=wc3.heap.size:=⟨_,rfl⟩;rw[<- hG] at hVs ⊢;clear hG;have hBn:Below wq.heap.size wq wc4:=hB.trans (hbn.mono hB.size)
             refine otN hK (hSof _ hBn) ?_;replace hS:=hSof _ hBn;clear hK;replace hMs:=hMs.below hbn;replace hB:=hBn;clear hBn hbn;refine stN 16 (fun K hK=>?_);go_simp;refine(hown wc4 _ hB hVs).mono ?_;rintro e wz ⟨rfl,kz,bz,mz⟩;have HGZ:=HGN wc4 wz hB kz bz mz;refine otN hK (HGZ.1) ?_;clear hK;replace hS:=HGZ.1;refine tkN 17 hS ?_;refine dnN ?_;clear hS kz bz mz hVs hMs hB;go_wp2
             go_roundg (8-(r+1))
             case measure=>go_light;omega
             case rel=>go_light;exact⟨r+1,by omega,rfl,by go_num,HGZ.2.1,HGZ.2.2⟩
          ·obtain⟨wc2,hrun,⟨hg,hkp⟩,hM2⟩:=hMs.ins2 hr2
           go_simp;have hBn:Below wq.heap.size wq wc2:=grown_some hB hg hB.size xM;replace hMs:=hM2;clear hrun hg hM2 hkp;refine otN hK (hSof _ hBn) ?_;replace hS:=hSof _ hBn;clear hK;replace hB:=hBn;clear hBn;refine twN 6 9 (fun K hK=>?_) (fun K hK=>?_)
           ·go_simp
            have hbn:=below_box wc2 (Obj.cells #[.int .i64 2,.int .i64 vn] 66);have hVs:=vals_one wc2 2 vn 66;generalize wc2.alloc (Obj.cells #[.int .i64 2,.int .i64 vn] 66)=wc3 at hbn hVs ⊢;obtain⟨G,hG⟩:∃ G,G=wc2.heap.size:=⟨_,rfl⟩;rw[<- hG] at hVs ⊢;clear hG;have hBn:Below wq.heap.size wq wc3:=hB.trans (hbn.mono hB.size);refine otN hK (hSof _ hBn) ?_;replace hS:=hSof _ hBn;clear hK;replace hMs:=hMs.below hbn
            replace hB:=hBn;clear hBn hbn;refine stN 9 (fun K hK=>?_);obtain⟨wc4,hrun,⟨hg,hkp⟩,hM2⟩:=hMs.ins1;go_simp;have hBn:Below wq.heap.size wq wc4:=grown_some hB hg hB.size xM;replace hVs:=hVs.keeps hkp;replace hMs:=hM2;clear hrun hg hM2 hkp;refine otN hK (hSof _ hBn) ?_;replace hS:=hSof _ hBn;clear hK;replace hB:=hBn;clear hBn;refine tkN 13 hS ?_;refine stN 15 (fun K hK=>?_);have hrun:=hMs.look (k:=3) (c:=2+(r:Int)) (by simp)
            go_simp;clear hrun;refine otN hK hS ?_;clear hK;refine stN 16 (fun K hK=>?_);go_simp;refine(hown wc4 _ hB hVs).mono ?_;rintro e wz ⟨rfl,kz,bz,mz⟩;have HGZ:=HGN wc4 wz hB kz bz mz;refine otN hK (HGZ.1) ?_;clear hK;replace hS:=HGZ.1;refine tkN 17 hS ?_;refine dnN ?_;clear hS kz bz mz hVs hMs hB;go_wp2
            go_roundg (8-(r+1))
            case measure=>go_light;omega
            case rel=>go_light;exact⟨r+1,by omega,rfl,by go_num,HGZ.2.1,HGZ.2.2⟩
           ·obtain⟨wc3,hrun,⟨hg,hkp⟩,hM2⟩:=hMs.ins1
            go_simp;have hBn:Below wq.heap.size wq wc3:=grown_some hB hg hB.size xM;replace hMs:=hM2;clear hrun hg hM2 hkp;refine otN hK (hSof _ hBn) ?_;replace hS:=hSof _ hBn;clear hK;replace hB:=hBn;clear hBn;refine tkN 13 hS ?_;refine twN 6 15 (fun K hK=>?_) (fun K hK=>?_)
            ·go_simp
             have hbn:=below_box wc3 (Obj.cells #[.int .i64 2,.int .i64 vn] 66);have hVs:=vals_one wc3 2 vn 66;generalize wc3.alloc (Obj.cells #[.int .i64 2,.int .i64 vn] 66)=wc4 at hbn hVs ⊢;obtain⟨G,hG⟩:∃ G,G=wc3.heap.size:=⟨_,rfl⟩;rw[<- hG] at hVs ⊢;clear hG;have hBn:Below wq.heap.size wq wc4:=hB.trans (hbn.mono hB.size);refine otN hK (hSof _ hBn) ?_;replace hS:=hSof _ hBn;clear hK;replace hMs:=hMs.below hbn
             replace hB:=hBn;clear hBn hbn;refine stN 15 (fun K hK=>?_);have hrun:=hMs.look (k:=3) (c:=2+(r:Int)) (by simp);go_simp;clear hrun;refine otN hK hS ?_;clear hK;refine stN 16 (fun K hK=>?_);go_simp;refine(hown wc4 _ hB hVs).mono ?_;rintro e wz ⟨rfl,kz,bz,mz⟩;have HGZ:=HGN wc4 wz hB kz bz mz;refine otN hK (HGZ.1) ?_;clear hK;replace hS:=HGZ.1;refine tkN 17 hS ?_;refine dnN ?_;clear hS kz bz mz hVs hMs hB
             go_wp2
             go_roundg (8-(r+1))
             case measure=>go_light;omega
             case rel=>go_light;exact⟨r+1,by omega,rfl,by go_num,HGZ.2.1,HGZ.2.2⟩
            ·have hrun:=hMs.look (k:=3) (c:=2+(r:Int)) (by simp)
             go_simp;clear hrun;refine otN hK hS ?_;clear hK;refine stN 6 (fun K hK=>?_);go_simp;have hbn:=below_box wc3 (Obj.cells #[.int .i64 2,.int .i64 vn] 66);have hVs:=vals_one wc3 2 vn 66;generalize wc3.alloc (Obj.cells #[.int .i64 2,.int .i64 vn] 66)=wc4 at hbn hVs ⊢;obtain⟨G,hG⟩:∃ G,G=wc3.heap.size:=⟨_,rfl⟩;rw[<- hG] at hVs ⊢;clear hG;have hBn:Below wq.heap.size wq wc4:=hB.trans (hbn.mono hB.size)
             refine otN hK (hSof _ hBn) ?_;replace hS:=hSof _ hBn;clear hK;replace hMs:=hMs.below hbn;replace hB:=hBn;clear hBn hbn;refine stN 16 (fun K hK=>?_);go_simp;refine(hown wc4 _ hB hVs).mono ?_;rintro e wz ⟨rfl,kz,bz,mz⟩;have HGZ:=HGN wc4 wz hB kz bz mz;refine otN hK (HGZ.1) ?_;clear hK;replace hS:=HGZ.1;refine tkN 17 hS ?_;refine dnN ?_;clear hS kz bz mz hVs hMs hB;go_wp2
             go_roundg (8-(r+1))
             case measure=>go_light;omega
             case rel=>go_light;exact⟨r+1,by omega,rfl,by go_num,HGZ.2.1,HGZ.2.2⟩
      ·have hre:r=8:=by omega
       subst hre;have HMZ:Aside (∃ f,MapF wq mp (60*8+60*0) f/\Told0 xo (tagsOf k xr xb) f):=HMQ.out;have hkq:=HMW.out.2.trans HBQ.out.2;have HKQ:Aside (Keeps wy wq):=hkq;have hXq:=HX8.out wq hkq;have c6:=hXq.c6;simp only at c6;have HGO:Aside (Below w3.heap.size wm wq/\Keeps wm wq):=HBQ.out;clear HBQ HMQ hXq
       go_wp2_with fail
       go_loopg [133,19,20] xb.length (fun g s133 s19 s20 wr=>∃ j:Nat,j<=xb.length/\g=xb.length-j/\s133=.int .i64 j/\Aside (Below w3.heap.size wm wr/\Keeps wm wr)/\Aside (∃ f,MapF wr mp (60*8+60*j) f/\Told0 xo (tagsOf k xr xb) f))
       case atStart=>exact⟨0,Nat.zero_le _,rfl,rfl,HGO,HMZ⟩
       case round =>
        obtain⟨j,hj,rfl,rfl,HBJ,HMJ⟩:=hrel;clear HMZ HGO HKQ c6;obtain⟨wj,hwj⟩:∃ wj,wj=wr:=⟨_,rfl⟩;subst hwj
        by_cases hjL:j<xb.length
        ·have hjz:(j:Int)<(xb.length:Int):=by omega
         obtain⟨v,hv⟩:=at_some (l:=xb) (i:=j) hjL;have hkj:=HMW.out.2.trans HBJ.out.2;have hXC:=HX8.out wj hkj;obtain⟨bb,bo,rfl,cv0,cv1⟩:=HRB.out.2.2.keeps hkj j v hv;obtain⟨f,hMF,hTF⟩:=HMJ.out;have htag:tagsOf k xr xb (100+j) v:=Or.inr ⟨j,hv,rfl⟩;have htb:100+j<9\/(100<=100+j/\100+j<106):=by omega
         have hTM:Told0 xo (tagsOf k xr xb) (tellF f (reach xo [v]) (whoOf (100+j))):=told_more hTF htag htb;have hfr:=told_free HL.out.typ.held hTF htag htb;have hMay:hMay xM xo [v]=true:=by
          have:=hMay_parts.1 HL.out.may;exact hMay_parts.2 ⟨this.1,this.2.1,fun u hu=>by simp at hu;subst hu;exact this.2.2 _ (List.mem_append_right _ (List.mem_of_getElem? hv))⟩
         have hcw:whoOf (100+j)=20+(j:Int):=by unfold whoOf;rw[if_neg (by omega),if_neg (by omega)];omega
         rw[hcw] at hTM hfr;obtain⟨vk,vn⟩:=v;simp only at cv0 cv1;have hown:∀ (w':World) (B6:Nat),Below wj.heap.size wj w'->ValsAt w' (some ⟨B6,0,none⟩) [⟨vk,vn⟩]->Calls Tryz.prog 21 #[.agg #[.int .i64 kd,.int .i64 xp,.int .i64 xM,.slice oa xo.length oc,.slice ra 8 rc,.int .i64 xpc,.slice (some ⟨bb,bo,none⟩) xb.length bc,.int .i64 0],.slice (some ⟨B6,0,none⟩) 1 1,.map (some mp),.int .i64 (20+(j:Int))] w' fun e w''=>e=.returned (.bool true)/\Keeps w' w''/\Below w3.heap.size w' w''/\MapF w'' mp (60*8+60*j+60) (tellF f (reach xo [⟨vk,vn⟩]) (20+(j:Int))):=fun w' B6 hb hv6=>by
          have:=own_any ⟨kd,xp,xM,xo,xr,xpc,xb,0⟩ oa ra (some ⟨bb,bo,none⟩) oc rc bc (some ⟨B6,0,none⟩) 1 ⟨vk,vn⟩ mp (60*8+60*j) w3.heap.size f (20+(j:Int)) w' (HRB.out.1.keeps (hkj.trans (Keeps.below hb))) hv6 (hMF.below hb) (by omega) hMay hfr (by omega) hMw (Nat.le_trans (Nat.le_trans hMwm HBJ.out.1.size) hb.size);simp only[hr8] at this
          exact this
         have HGN:∀ wd wz,Below wj.heap.size wj wd->Keeps wd wz->Below w3.heap.size wd wz->MapF wz mp (60*8+60*j+60) (tellF f (reach xo [⟨vk,vn⟩]) (20+(j:Int)))->Aside (Below w3.heap.size wm wz/\Keeps wm wz)/\Aside (∃ f,MapF wz mp (60*8+60*(j+1)) f/\Told0 xo (tagsOf k xr xb) f):=fun wd wz bd kz bz mz=>⟨⟨HBJ.out.1.trans ((bd.mono (Nat.le_trans hMwm HBJ.out.1.size)).trans bz),HBJ.out.2.trans ((Keeps.below bd).trans kz)⟩,_,mz.le (by omega),hTM⟩
         have hwr:IntKind.i64.wrap (20+(j:Int))=20+(j:Int):=by rw[IntKind.wrap_i64];omega
         obtain⟨d0,d1,d2,d3,d4,d5,d6,d7⟩:=hXC;simp only[hr8] at d0 d1 d2 d3 d4 d5 d6 d7;clear hv htag hTF hMay hfr hTM hMF hcw htb;obtain⟨NV,_,bV,sV⟩:=boxes1 wj (.cells #[.int .i64 vk,.int .i64 vn] 66)
         go_upto_region 29 with fail
         have kV:=Keeps.below bV;replace d0:=kV _ _ d0;replace d1:=kV _ _ d1;replace d2:=kV _ _ d2;replace d3:=kV _ _ d3;replace d4:=kV _ _ d4;replace d5:=kV _ _ d5;replace d6:=kV _ _ d6;replace d7:=kV _ _ d7;generalize wj.alloc (.cells #[.int .i64 vk,.int .i64 vn] 66)=wv at *;have e0:wv.cell? ⟨wj.heap.size,0,none⟩=some (.int .i64 vk):=cell_blk NV 0;have e1:wv.cell? ⟨wj.heap.size,1,none⟩=some (.int .i64 vn):=cell_blk NV 1
         have bU:=below_box wv (.cells #[.int .i64 vk,.int .i64 vn] 66);have hVs:=vals_one wv vk vn 66;have bVU:=bV.trans (bU.mono bV.size);clear NV sV cv0 cv1
         go_wp2_with fail
         refine(hown _ _ bVU hVs).mono ?_;rintro e wz ⟨rfl,kz,bz,mz⟩;have HGZ:=HGN _ wz bVU kz bz mz;clear hown HGN kz bz mz hVs bVU bU bV kV d0 d1 d2 d3 d4 d5 d6 d7 e0 e1;go_wp2
         go_roundg (xb.length-(j+1))
         case measure=>go_light;omega
         case rel=>go_light;exact⟨j+1,by omega,rfl,by go_num,HGZ.1,HGZ.2⟩
        ·have HBX:Aside (Below w3.heap.size w3 wj/\Keeps w3 wj):=⟨HMW.out.1.trans HBJ.out.1,HKY.out.trans (HMW.out.2.trans HBJ.out.2)⟩
         clear HBJ HMJ;go_wp2
         go_roundg (KN-(i+1))
         case measure=>go_light;omega
         case rel=>go_light;exact⟨i+1,by omega,rfl,by go_num,HBX⟩
  ·have hiz:¬ (i:Int)<(KN:Int):=by omega
   have hBz:=HK3.out.2.trans (hbr.mono HK3.out.2.size);clear HBR hkr;go_wp2
   go_ret
   exact⟨rfl,hBz⟩
theorem topUnique_walk (a0:Option Addr) (c0:Nat) (l0:List Rw) (a1:Option Addr) (c1:Nat) (l1:List Rw) (n2:Int) (w:World) (hT:TabAt 0 w) (h0:RawsAt w a0 l0) (hb0:32*l0.length<=140737488351232) (h1:RawsAt w a1 l1) (_:32*l1.length<=140737488351232) (h2:-9223372036854775808<=n2/\n2<=9223372036854775807) :
  Calls Tryz.prog 7 #[.slice a0 l0.length c0,.slice a1 l1.length c1,.int .i64 n2] w fun e w'=>e=.returned (.bool true)/\Below w.heap.size w w' :=
 topUnique_any l0 l1 a0 a1 c0 c1 n2 w hT h0 h1 (by omega) h2
end Go.Proofs.YtepifccbbmdfcaaGreatDoor
