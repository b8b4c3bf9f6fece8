/- WIsWorld. -/
import Derived.Test.YtihpkcccfgbcmaaGreatDoorCBVCheck
namespace Go.Proofs.YtihpkcccfgbcmaaGreatDoor
set_option maxRecDepth 100000
set_option maxHeartbeats 8000000
open Go.RowKit
theorem acsMay_from {G:Nat} {L:Nat->Nat} {l:List Ac} {i:Nat} {x:Ac} (hx:l[i]?=some x):acsMay G L (l.drop i) i=(acMay G L x i && acsMay G L (l.drop (i+1)) (i+1)):=by
 obtain⟨hlt,e⟩:=List.getElem?_eq_some_iff.1 hx;rw[List.drop_eq_getElem_cons hlt,e]
 rfl
theorem isWorld_any (ao:Option Addr) (G cap:Nat) (A:Nat->Option Addr) (L C:Nat->Nat) (X:Nat->Nat->Nat->Int) (aa pa:Option Addr) (ac pc:Nat) (V:Wd) (w:World)
  (hP:ProgAt w ao G A L C X) (ha:ActsAt w aa V.acts) (hp:ToldAt w pa V.prints) :
  Calls Tryz.prog 57 #[.agg #[.slice ao G cap],.agg #[.slice aa V.acts.length ac,.slice pa V.prints.length pc]] w fun e w'=>e=.returned (.bool (wdMay G L V))/\Below w.heap.size w w':=by
 obtain⟨N0,N1,k1,b1,s1⟩:=boxes2 w (.cells #[.slice ao G cap] 24) (.cells #[.slice aa V.acts.length ac,.slice pa V.prints.length pc] 28);replace hP:=hP.keeps k1;replace ha:=ha.keeps k1;replace hp:=hp.keeps k1;have hm:=ha.many;have hm2:=hp.many;obtain⟨RES,hRES⟩:∃ RES,RES=wdMay G L V:=⟨_,rfl⟩;have HR:Aside (RES=wdMay G L V):=hRES;rw[<- hRES];clear hRES;obtain⟨n,hn⟩:∃ n,n=V.acts.length:=⟨_,rfl⟩;obtain⟨K,hK⟩:∃ K,K=V.prints.length:=⟨_,rfl⟩
 have HL:Aside (n=V.acts.length/\K=V.prints.length):=⟨hn,hK⟩;rw[<- hn,<- hK] at N0 N1 k1 b1 s1 hP ha hp ⊢;rw[<- hn] at hm;rw[<- hK] at hm2;clear hn hK k1
 go_enter Tryz.func57,Tryz.ntmps57
 by_cases h1:n<1
 ·have HF:Aside (RES=false):=by
   show RES=false
   rw[HR.out];have:=HL.out;simp[wdMay];intro h;omega
  have h1b:(n:Int)<1:=by omega
  go_wp2
  go_ret
  exact⟨ret_bool HF.out.symm,b1⟩
 by_cases h2:8<n
 ·have HF:Aside (RES=false):=by
   show RES=false
   rw[HR.out];have:=HL.out;simp[wdMay];intro h h';omega
  have h1b:¬ (n:Int)<1:=by omega
  have h2b:(8:Int)<(n:Int):=by omega
  go_wp2
  go_ret
  exact⟨ret_bool HF.out.symm,b1⟩
 by_cases h3:500<K
 ·have HF:Aside (RES=false):=by
   show RES=false
   rw[HR.out];have:=HL.out;simp[wdMay];intro h h' h'';omega
  have h1b:¬ (n:Int)<1:=by omega
  have h2b:¬ (8:Int)<(n:Int):=by omega
  have h3b:(500:Int)<(K:Int):=by omega
  go_wp2
  go_ret
  exact⟨ret_bool HF.out.symm,b1⟩
 have HRR:Aside (RES=(V.prints.all (prMay n) && acsMay G L V.acts 0)):=by
  show RES=_
  have:=HL.out;rw[HR.out,wdMay,<- this.1,<- this.2,decide_eq_true (show 1<=n by omega),decide_eq_true (show n<=8 by omega),decide_eq_true (show K<=500 by omega)]
  rfl
 have h1b:¬ (n:Int)<1:=by omega
 have h2b:¬ (8:Int)<(n:Int):=by omega
 have h3b:¬ (500:Int)<(K:Int):=by omega
 clear HR
 go_wp2_with fail
 generalize (w.alloc (.cells #[.slice ao G cap] 24)).alloc (.cells #[.slice aa n ac,.slice pa K pc] 28)=W at *;have p0:W.cell? ⟨w.heap.size,0,none⟩=some (.slice ao G cap):=cell_blk N0 0;have w0:W.cell? ⟨w.heap.size+1,0,none⟩=some (.slice aa n ac):=cell_blk N1 0;have w1:W.cell? ⟨w.heap.size+1,1,none⟩=some (.slice pa K pc):=cell_blk N1 1;clear N0 N1
 go_loopg [28] K (fun g s28 wr=>∃ i:Nat,i<=K/\g=K-i/\s28=.int .i64 i/\Below W.heap.size W wr/\V.prints.all (prMay n)=(V.prints.drop i).all (prMay n))
 case atStart=>exact⟨0,Nat.zero_le _,rfl,rfl,Below.refl _ _,by simp⟩
 case round =>
  obtain⟨i,hi,rfl,rfl,hbr,hall⟩:=hrel;have HALL:Aside (V.prints.all (prMay n)=(V.prints.drop i).all (prMay n)):=hall;clear hall;have hbw:=b1.trans (hbr.mono b1.size)
  by_cases hiK:i<K
  ·have hiz:(i:Int)<(K:Int):=by omega
   obtain⟨⟨ta,tn⟩,hv⟩:=at_some (l:=V.prints) (i:=i) (by rw[<- HL.out.2];exact hiK);have HD:Aside ((V.prints.drop i).all (prMay n)=(prMay n (ta,tn) && (V.prints.drop (i+1)).all (prMay n))):=all_from _ _ hv;obtain⟨tb,tf,rfl,t1,t2⟩:=hp.cell i _ hv;replace t1:=Keeps.below hbr _ _ t1;replace t2:=Keeps.below hbr _ _ t2;simp only at t1 t2;clear hv;have wr0:=Keeps.alloc wr (.cells #[.int .i64 ta,.int .i64 tn] 43) _ _ (Keeps.below hbr _ _ w0)
   have bx:=hbr.alloc hbr.size (.cells #[.int .i64 ta,.int .i64 tn] 43);have HF:Aside (prMay n (ta,tn)=false->RES=false):=fun h=>by rw[HRR.out,HALL.out,HD.out,h];rfl
   by_cases g1:ta<0
   ·have HF2:Aside (RES=false):=HF.out (by simp[prMay];intro h;omega)
    go_wp2
    go_ret
    exact⟨ret_bool HF2.out.symm,b1.trans (bx.mono b1.size)⟩
   by_cases g2:(n:Int)<=ta
   ·have HF2:Aside (RES=false):=HF.out (by simp[prMay];intro h h';omega)
    go_wp2
    go_ret
    exact⟨ret_bool HF2.out.symm,b1.trans (bx.mono b1.size)⟩
   go_wp2_with fail
   refine(isWord_any tn _).mono ?_;rintro e w' ⟨rfl,hw'⟩;replace hw':=hw'.symm;subst hw'
   by_cases g3:isW tn=true
   ·rw[g3]
    have HT:Aside (prMay n (ta,tn)=true):=by
     show prMay n (ta,tn)=true
     simp only[prMay,g3,Bool.and_true,Bool.and_eq_true,decide_eq_true_eq];omega
    go_wp2_with fail
    go_roundg (K-(i+1))
    case measure=>go_light;omega
    case rel=>go_light;exact⟨i+1,by omega,rfl,by go_num,bx,by rw[HALL.out,HD.out,HT.out];rfl⟩
   ·have g3f:isW tn=false:=by simpa using g3
    have HF2:Aside (RES=false):=HF.out (by simp[prMay,g3f]);rw[g3f];go_wp2
    go_ret
    exact⟨ret_bool HF2.out.symm,b1.trans (bx.mono b1.size)⟩
  ·have HR2:Aside (RES=acsMay G L V.acts 0):=by
    show RES=_
    rw[HRR.out,HALL.out,List.drop_eq_nil_of_le (by rw[<- HL.out.2];omega)]
    rfl
   have kr:=Keeps.below hbr;replace p0:=kr _ _ p0;replace w0:=kr _ _ w0;replace hP:=hP.keeps kr;replace ha:=ha.keeps kr;clear kr hbr w1 hp HRR HALL b1 s1
   go_wp2_with fail
   generalize hWr:wr=W1 at *;clear hWr
   go_loopg [53] n (fun g s53 wr=>∃ j:Nat,j<=n/\g=n-j/\s53=.int .i64 j/\Below W1.heap.size W1 wr/\acsMay G L V.acts 0=acsMay G L (V.acts.drop j) j)
   case atStart=>exact⟨0,Nat.zero_le _,rfl,rfl,Below.refl _ _,by simp⟩
   case round =>
    obtain⟨j,hj,rfl,rfl,hbj,hall⟩:=hrel;have HALL:Aside (acsMay G L V.acts 0=acsMay G L (V.acts.drop j) j):=hall;clear hall;have kj:=Keeps.below hbj
    by_cases hjn:j<n
    ·have hjz:(j:Int)<(n:Int):=by omega
     obtain⟨⟨kind,par,M,obs,regs,pcc,box,fin⟩,hv⟩:=at_some (l:=V.acts) (i:=j) (by rw[<- HL.out.1];exact hjn);have HD:Aside (acsMay G L (V.acts.drop j) j=(acMay G L ⟨kind,par,M,obs,regs,pcc,box,fin⟩ j && acsMay G L (V.acts.drop (j+1)) (j+1))):=acsMay_from hv;obtain⟨b',o',oa,oc,ra,rc,ba,bc,rfl,AA⟩:=ha.cell j _ hv;clear hv;obtain⟨c0,c1,c2,c3,c4,c5,c6,c7,xo,xr,xb,rl,bl⟩:=AA.keeps kj;simp only at c0 c1 c2 c3 c4 c5 c6 c7 xo xr xb rl bl
     have hPj:=hP.keeps kj;replace p0:=kj _ _ p0;obtain⟨E0,kx,bx,sx⟩:=boxes1 wr (.cells #[.int .i64 kind,.int .i64 par,.int .i64 M,.slice oa obs.length oc,.slice ra regs.length rc,.int .i64 pcc,.slice ba box.length bc,.int .i64 fin] 56);have hIA:=isActor_any ao G cap A L C X kind par M pcc fin oa ra ba oc rc bc obs regs box j _ (hPj.keeps kx) (xo.keeps kx) (xr.keeps kx) (xb.keeps kx) rl bl;have HIA:Aside (Calls Tryz.prog 86 #[.agg #[.slice ao G cap],.agg #[.int .i64 kind,.int .i64 par,.int .i64 M,.slice oa obs.length oc,.slice ra regs.length rc,.int .i64 pcc,.slice ba box.length bc,.int .i64 fin],.int .i64 j] (wr.alloc (.cells #[.int .i64 kind,.int .i64 par,.int .i64 M,.slice oa obs.length oc,.slice ra regs.length rc,.int .i64 pcc,.slice ba box.length bc,.int .i64 fin] 56)) _):=hIA
     have px:=kx _ _ p0;have bj:=hbj.trans (bx.mono hbj.size);generalize hAC:acMay G L ⟨kind,par,M,obs,regs,pcc,box,fin⟩ j=AC at *;clear hIA hPj kx bx xo xr xb E0 sx hAC
     go_wp2_with fail
     refine Calls.mono HIA.out ?_;rintro e w5 ⟨rfl,hb5⟩;have b5:=bj.trans (hb5.mono bj.size);clear HIA hb5 bj
     cases AC with
     | true =>
      go_wp2_with fail
      go_roundg (n-(j+1))
      case measure=>go_light;omega
      case rel=>go_light;exact⟨j+1,by omega,rfl,by go_num,b5,by rw[HALL.out,HD.out];rfl⟩
     | false =>
      have HF:Aside (RES=false):=by show RES=false;rw[HR2.out,HALL.out,HD.out];rfl
      go_wp2
      go_ret
      exact⟨ret_bool HF.out.symm,hbw.trans (b5.mono hbw.size)⟩
    ·have HT:Aside (RES=true):=by
      show RES=true
      rw[HR2.out,HALL.out,List.drop_eq_nil_of_le (by rw[<- HL.out.1];omega)]
      rfl
     go_wp2_with fail
     go_ret
     exact⟨ret_bool HT.out.symm,hbw.trans (hbj.mono hbw.size)⟩
def wckS (G:Nat) (L:Nat->Nat) (X:Nat->Nat->Nat->Int) (V:Wd):Int:=if (ckS G L X).2.2≠0 then (ckS G L X).2.2 else if wdMay G L V then 0 else 8
theorem acheck_any (ao:Option Addr) (G cap:Nat) (A:Nat->Option Addr) (L C:Nat->Nat) (X:Nat->Nat->Nat->Int) (aa pa:Option Addr) (ac pc:Nat) (V:Wd) (w:World) (hT:TabAt 0 w)
  (hP:ProgAt w ao G A L C X) (ha:ActsAt w aa V.acts) (hp:ToldAt w pa V.prints) :
  Calls Tryz.prog 30 #[.agg #[.slice ao G cap],.agg #[.slice aa V.acts.length ac,.slice pa V.prints.length pc]] w fun e w'=>e=.returned (.int .i64 (wckS G L X V))/\Below w.heap.size w w':=by
 obtain⟨N0,N1,k1,b1,s1⟩:=boxes2 w (.cells #[.slice ao G cap] 24) (.cells #[.slice aa V.acts.length ac,.slice pa V.prints.length pc] 28);have hI:=fun(w:World) (hP:ProgAt w ao G A L C X) (ha:ActsAt w aa V.acts) (hp:ToldAt w pa V.prints)=>isWorld_any ao G cap A L C X aa pa ac pc V w hP ha hp
 have HI:Aside (∀ (w:World) (hP:ProgAt w ao G A L C X) (ha:ActsAt w aa V.acts) (hp:ToldAt w pa V.prints),Calls Tryz.prog 57 #[.agg #[.slice ao G cap],.agg #[.slice aa V.acts.length ac,.slice pa V.prints.length pc]] w _):=hI;clear hI;have HR:Aside (wckS G L X V=if (ckS G L X).2.2≠0 then (ckS G L X).2.2 else if wdMay G L V then 0 else 8):=rfl;generalize wckS G L X V=RES at *;generalize V.acts.length=n at *
 generalize V.prints.length=K at *;generalize wdMay G L V=WM at *
 go_enter Tryz.func30,Tryz.ntmps30
 go_wp2_with fail
 generalize (w.alloc (.cells #[.slice ao G cap] 24)).alloc (.cells #[.slice aa n ac,.slice pa K pc] 28)=W at *;refine(vcheck_any ao G cap A L C X _ (hT.keeps k1) (hP.keeps k1)).mono ?_;rintro e w1 ⟨rfl,hb1⟩;have k2:=Keeps.below hb1;have b2:=b1.trans (hb1.mono b1.size);have p0:=k2 _ (.slice ao G cap) (cell_blk N0 0);have q0:=k2 _ (.slice aa n ac) (cell_blk N1 0);have q1:=k2 _ (.slice pa K pc) (cell_blk N1 1)
 replace hP:=hP.keeps (k1.trans k2);replace ha:=ha.keeps (k1.trans k2);replace hp:=hp.keeps (k1.trans k2);clear hT k1 k2 b1 hb1 N0 N1 s1;obtain⟨c,hc⟩:∃ c,c=ckS G L X:=⟨_,rfl⟩;rw[<- hc] at HR ⊢;clear hc;obtain⟨p1,p2,p3⟩:=c;simp only at HR ⊢
 by_cases h3:p3=0
 ·subst h3
  have HR2:Aside (RES=if WM then 0 else 8):=by show RES=_;rw[HR.out];simp
  clear HR
  go_wp2_with fail
  refine Calls.mono (HI.out _ hP ha hp) ?_;rintro e w2 ⟨rfl,hb2⟩;have b3:=b2.trans (hb2.mono b2.size)
  cases WM with
  | true =>
   go_wp2
   go_ret
   exact⟨ret_num HR2.out.symm,b3⟩
  | false =>
   go_wp2
   go_ret
   exact⟨ret_num HR2.out.symm,b3⟩
 ·have h3b:(p3 != 0)=true:=by simp[h3]
  have HR2:Aside (RES=p3):=by show RES=_;rw[HR.out];simp[h3]
  clear HR;go_wp2
  go_ret
  exact⟨ret_num HR2.out.symm,b2⟩
end Go.Proofs.YtihpkcccfgbcmaaGreatDoor
