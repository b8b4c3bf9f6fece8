/- WIsWorld TSoundW HOpen HRawOpen. -/
import Derived.Deep.Slices
import Derived.Lib.SmallJoins
import Derived.OpenShut
import Derived.ProofKit
import Derived.SizedLaws
import Derived.Test.YtddokajfafmhhaaGreatDoorChecked
import Derived.Test.YtddokajfafmhhaaGreatDoorCHPureM
import Derived.Test.YtddokajfafmhhaaGreatDoorCHVisit
import Derived.Test.YtddokajfafmhhaaGreatDoorCVCheck
import Derived.Test.YtddokajfafmhhaaGreatDoorCKProg
import Derived.Test.YtddokajfafmhhaaGreatDoorCKWorld
namespace Go.Proofs.YtddokajfafmhhaaGreatDoor
section
open Go.RowKit
theorem acsMay_from {G:Nat} {L:Nat → Nat} {l:List Ac} {i:Nat} {x:Ac} (hx:l[i]? = some x):acsMay G L (l.drop i) i = (acMay G L x i && acsMay G L (l.drop (i + 1)) (i + 1)):=by
 obtain ⟨hlt,e⟩:=List.getElem?_eq_some_iff.1 hx
 rw [List.drop_eq_getElem_cons hlt,e]
 rfl
set_option maxRecDepth 100000 in
set_option maxHeartbeats 2000000 in
theorem isWorld_any (ao:Option Addr) (G cap:Nat) (A:Nat → Option Addr) (L C:Nat → Nat) (X:Nat → Nat → Nat → Int) (aa pa:Option Addr) (ac pc:Nat) (V:Wd) (w:World)
  (hP:ProgAt w ao G A L C X) (ha:ActsAt w aa V.acts) (hp:ToldAt w pa V.prints) :
  Calls Tryz.prog 36 #[.agg #[.slice ao G cap],.agg #[.slice aa V.acts.length ac,.slice pa V.prints.length pc]] w fun e w' => e = .returned (.bool (wdMay G L V)) ∧ Below w.heap.size w w':=by
 obtain ⟨N0,N1,k1,b1,s1⟩:=boxes2 w (.cells #[.slice ao G cap] 25) (.cells #[.slice aa V.acts.length ac,.slice pa V.prints.length pc] 29)
 replace hP:=hP.keeps k1
 replace ha:=ha.keeps k1
 replace hp:=hp.keeps k1
 have hm:=ha.many
 have hm2:=hp.many
 obtain ⟨RES,hRES⟩:∃ RES,RES = wdMay G L V:=⟨_,rfl⟩
 have HR:Aside (RES = wdMay G L V):=hRES
 rw [← hRES]
 clear hRES
 obtain ⟨n,hn⟩:∃ n,n = V.acts.length:=⟨_,rfl⟩
 obtain ⟨K,hK⟩:∃ K,K = V.prints.length:=⟨_,rfl⟩
 have HL:Aside (n = V.acts.length ∧ K = V.prints.length):=⟨hn,hK⟩
 rw [← hn,← hK] at N0 N1 k1 b1 s1 hP ha hp ⊢
 rw [← hn] at hm
 rw [← hK] at hm2
 clear hn hK k1
 go_enter Tryz.func36,Tryz.ntmps36
 by_cases h1:n < 1
 ·have HF:Aside (RES = false):=by
   show RES = false
   rw [HR.out]
   have:=HL.out
   simp [wdMay]
   intro h
   omega
  have h1b:(n:Int) < 1:=by omega
  go_wp2
  go_ret
  exact ⟨ret_bool HF.out.symm,b1⟩
 by_cases h2:8 < n
 ·have HF:Aside (RES = false):=by
   show RES = false
   rw [HR.out]
   have:=HL.out
   simp [wdMay]
   intro h h'
   omega
  have h1b:¬ (n:Int) < 1:=by omega
  have h2b:(8:Int) < (n:Int):=by omega
  go_wp2
  go_ret
  exact ⟨ret_bool HF.out.symm,b1⟩
 by_cases h3:500 < K
 ·have HF:Aside (RES = false):=by
   show RES = false
   rw [HR.out]
   have:=HL.out
   simp [wdMay]
   intro h h' h''
   omega
  have h1b:¬ (n:Int) < 1:=by omega
  have h2b:¬ (8:Int) < (n:Int):=by omega
  have h3b:(500:Int) < (K:Int):=by omega
  go_wp2
  go_ret
  exact ⟨ret_bool HF.out.symm,b1⟩
 have HRR:Aside (RES = (V.prints.all (prMay n) && acsMay G L V.acts 0)):=by
  show RES = _
  have:=HL.out
  rw [HR.out,wdMay,← this.1,← this.2,decide_eq_true (show 1 ≤ n by omega),decide_eq_true (show n ≤ 8 by omega),decide_eq_true (show K ≤ 500 by omega)]
  rfl
 have h1b:¬ (n:Int) < 1:=by omega
 have h2b:¬ (8:Int) < (n:Int):=by omega
 have h3b:¬ (500:Int) < (K:Int):=by omega
 clear HR
 go_wp2_with fail
 generalize (w.alloc (.cells #[.slice ao G cap] 25)).alloc (.cells #[.slice aa n ac,.slice pa K pc] 29) = W at *
 have p0:W.cell? ⟨w.heap.size,0,none⟩ = some (.slice ao G cap):=cell_blk N0 0
 have w0:W.cell? ⟨w.heap.size + 1,0,none⟩ = some (.slice aa n ac):=cell_blk N1 0
 have w1:W.cell? ⟨w.heap.size + 1,1,none⟩ = some (.slice pa K pc):=cell_blk N1 1
 clear N0 N1
 go_loopg [28] K (fun g s28 wr => ∃ i:Nat,i ≤ K ∧ g = K - i ∧ s28 = .int .i64 i ∧ Below W.heap.size W wr ∧ V.prints.all (prMay n) = (V.prints.drop i).all (prMay n))
 case atStart => exact ⟨0,Nat.zero_le _,rfl,rfl,Below.refl _ _,by simp⟩
 case round =>
  obtain ⟨i,hi,rfl,rfl,hbr,hall⟩:=hrel
  have HALL:Aside (V.prints.all (prMay n) = (V.prints.drop i).all (prMay n)):=hall
  clear hall
  have hbw:=b1.trans (hbr.mono b1.size)
  by_cases hiK:i < K
  ·have hiz:(i:Int) < (K:Int):=by omega
   obtain ⟨⟨ta,tn⟩,hv⟩:=at_some (l:=V.prints) (i:=i) (by rw [← HL.out.2]; exact hiK)
   have HD:Aside ((V.prints.drop i).all (prMay n) = (prMay n (ta,tn) && (V.prints.drop (i + 1)).all (prMay n))):=all_from _ _ hv
   obtain ⟨tb,tf,rfl,t1,t2⟩:=hp.cell i _ hv
   replace t1:=Keeps.below hbr _ _ t1
   replace t2:=Keeps.below hbr _ _ t2
   simp only at t1 t2
   clear hv
   have wr0:=Keeps.alloc wr (.cells #[.int .i64 ta,.int .i64 tn] 71) _ _ (Keeps.below hbr _ _ w0)
   have bx:=hbr.alloc hbr.size (.cells #[.int .i64 ta,.int .i64 tn] 71)
   have HF:Aside (prMay n (ta,tn) = false → RES = false):=fun h => by rw [HRR.out,HALL.out,HD.out,h]; rfl
   by_cases g1:ta < 0
   ·have HF2:Aside (RES = false):=HF.out (by simp [prMay]; intro h; omega)
    go_wp2
    go_ret
    exact ⟨ret_bool HF2.out.symm,b1.trans (bx.mono b1.size)⟩
   by_cases g2:(n:Int) ≤ ta
   ·have HF2:Aside (RES = false):=HF.out (by simp [prMay]; intro h h'; omega)
    go_wp2
    go_ret
    exact ⟨ret_bool HF2.out.symm,b1.trans (bx.mono b1.size)⟩
   go_wp2_with fail
   refine (isWord_any tn _).mono ?_
   rintro e w' ⟨rfl,hw'⟩
   replace hw':=hw'.symm
   subst hw'
   by_cases g3:isW tn = true
   ·rw [g3]
    have HT:Aside (prMay n (ta,tn) = true):=by
     show prMay n (ta,tn) = true
     simp only [prMay,g3,Bool.and_true,Bool.and_eq_true,decide_eq_true_eq]
     omega
    go_wp2_with fail
    go_roundg (K - (i + 1))
    case measure => go_light; omega
    case rel => go_light; exact ⟨i + 1,by omega,rfl,by go_num,bx,by rw [HALL.out,HD.out,HT.out]; rfl⟩
   ·have g3f:isW tn = false:=by simpa using g3
    have HF2:Aside (RES = false):=HF.out (by simp [prMay,g3f])
    rw [g3f]
    go_wp2
    go_ret
    exact ⟨ret_bool HF2.out.symm,b1.trans (bx.mono b1.size)⟩
  ·have HR2:Aside (RES = acsMay G L V.acts 0):=by
    show RES = _
    rw [HRR.out,HALL.out,List.drop_eq_nil_of_le (by rw [← HL.out.2]; omega)]
    rfl
   have kr:=Keeps.below hbr
   replace p0:=kr _ _ p0
   replace w0:=kr _ _ w0
   replace hP:=hP.keeps kr
   replace ha:=ha.keeps kr
   clear kr hbr w1 hp HRR HALL b1 s1
   go_wp2_with fail
   generalize hWr:wr = W1 at *
   clear hWr
   go_loopg [53] n (fun g s53 wr => ∃ j:Nat,j ≤ n ∧ g = n - j ∧ s53 = .int .i64 j ∧ Below W1.heap.size W1 wr ∧ acsMay G L V.acts 0 = acsMay G L (V.acts.drop j) j)
   case atStart => exact ⟨0,Nat.zero_le _,rfl,rfl,Below.refl _ _,by simp⟩
   case round =>
    obtain ⟨j,hj,rfl,rfl,hbj,hall⟩:=hrel
    have HALL:Aside (acsMay G L V.acts 0 = acsMay G L (V.acts.drop j) j):=hall
    clear hall
    have kj:=Keeps.below hbj
    by_cases hjn:j < n
    ·have hjz:(j:Int) < (n:Int):=by omega
     obtain ⟨⟨kind,par,M,obs,regs,pcc,box,fin⟩,hv⟩:=at_some (l:=V.acts) (i:=j) (by rw [← HL.out.1]; exact hjn)
     have HD:Aside (acsMay G L (V.acts.drop j) j = (acMay G L ⟨kind,par,M,obs,regs,pcc,box,fin⟩ j && acsMay G L (V.acts.drop (j + 1)) (j + 1))):=acsMay_from hv
     obtain ⟨b',o',oa,oc,ra,rc,ba,bc,rfl,AA⟩:=ha.cell j _ hv
     clear hv
     obtain ⟨c0,c1,c2,c3,c4,c5,c6,c7,xo,xr,xb,rl,bl⟩:=AA.keeps kj
     simp only at c0 c1 c2 c3 c4 c5 c6 c7 xo xr xb rl bl
     have hPj:=hP.keeps kj
     replace p0:=kj _ _ p0
     obtain ⟨E0,kx,bx,sx⟩:=boxes1 wr (.cells #[.int .i64 kind,.int .i64 par,.int .i64 M,.slice oa obs.length oc,.slice ra regs.length rc,.int .i64 pcc,.slice ba box.length bc,.int .i64 fin] 42)
     have hIA:=isActor_any ao G cap A L C X kind par M pcc fin oa ra ba oc rc bc obs regs box j _ (hPj.keeps kx) (xo.keeps kx) (xr.keeps kx) (xb.keeps kx) rl bl
     have HIA:Aside (Calls Tryz.prog 61 #[.agg #[.slice ao G cap],.agg #[.int .i64 kind,.int .i64 par,.int .i64 M,.slice oa obs.length oc,.slice ra regs.length rc,.int .i64 pcc,.slice ba box.length bc,.int .i64 fin],.int .i64 j] (wr.alloc (.cells #[.int .i64 kind,.int .i64 par,.int .i64 M,.slice oa obs.length oc,.slice ra regs.length rc,.int .i64 pcc,.slice ba box.length bc,.int .i64 fin] 42)) _):=hIA
     have px:=kx _ _ p0
     have bj:=hbj.trans (bx.mono hbj.size)
     generalize hAC:acMay G L ⟨kind,par,M,obs,regs,pcc,box,fin⟩ j = AC at *
     clear hIA hPj kx bx xo xr xb E0 sx hAC
     go_wp2_with fail
     refine Calls.mono HIA.out ?_
     rintro e w5 ⟨rfl,hb5⟩
     have b5:=bj.trans (hb5.mono bj.size)
     clear HIA hb5 bj
     cases AC with
     | true =>
      go_wp2_with fail
      go_roundg (n - (j + 1))
      case measure => go_light; omega
      case rel => go_light; exact ⟨j + 1,by omega,rfl,by go_num,b5,by rw [HALL.out,HD.out]; rfl⟩
     | false =>
      have HF:Aside (RES = false):=by show RES = false; rw [HR2.out,HALL.out,HD.out]; rfl
      go_wp2
      go_ret
      exact ⟨ret_bool HF.out.symm,hbw.trans (b5.mono hbw.size)⟩
    ·have HT:Aside (RES = true):=by
      show RES = true
      rw [HR2.out,HALL.out,List.drop_eq_nil_of_le (by rw [← HL.out.1]; omega)]
      rfl
     go_wp2_with fail
     go_ret
     exact ⟨ret_bool HT.out.symm,hbw.trans (hbj.mono hbw.size)⟩
def wckS (G:Nat) (L:Nat → Nat) (X:Nat → Nat → Nat → Int) (V:Wd):Int:=if (ckS G L X).2.2 ≠ 0 then (ckS G L X).2.2 else if wdMay G L V then 0 else 8
set_option maxRecDepth 100000 in
set_option maxHeartbeats 800000 in
theorem acheck_any (ao:Option Addr) (G cap:Nat) (A:Nat → Option Addr) (L C:Nat → Nat) (X:Nat → Nat → Nat → Int) (aa pa:Option Addr) (ac pc:Nat) (V:Wd) (w:World) (hT:TabAt 0 w)
  (hP:ProgAt w ao G A L C X) (ha:ActsAt w aa V.acts) (hp:ToldAt w pa V.prints) :
  Calls Tryz.prog 13 #[.agg #[.slice ao G cap],.agg #[.slice aa V.acts.length ac,.slice pa V.prints.length pc]] w fun e w' => e = .returned (.int .i64 (wckS G L X V)) ∧ Below w.heap.size w w':=by
 obtain ⟨N0,N1,k1,b1,s1⟩:=boxes2 w (.cells #[.slice ao G cap] 25) (.cells #[.slice aa V.acts.length ac,.slice pa V.prints.length pc] 29)
 have hI:=fun (w:World) (hP:ProgAt w ao G A L C X) (ha:ActsAt w aa V.acts) (hp:ToldAt w pa V.prints) => isWorld_any ao G cap A L C X aa pa ac pc V w hP ha hp
 have HI:Aside (∀ (w:World) (hP:ProgAt w ao G A L C X) (ha:ActsAt w aa V.acts) (hp:ToldAt w pa V.prints),Calls Tryz.prog 36 #[.agg #[.slice ao G cap],.agg #[.slice aa V.acts.length ac,.slice pa V.prints.length pc]] w _):=hI
 clear hI
 have HR:Aside (wckS G L X V = if (ckS G L X).2.2 ≠ 0 then (ckS G L X).2.2 else if wdMay G L V then 0 else 8):=rfl
 generalize wckS G L X V = RES at *
 generalize V.acts.length = n at *
 generalize V.prints.length = K at *
 generalize wdMay G L V = WM at *
 go_enter Tryz.func13,Tryz.ntmps13
 go_wp2_with fail
 generalize (w.alloc (.cells #[.slice ao G cap] 25)).alloc (.cells #[.slice aa n ac,.slice pa K pc] 29) = W at *
 refine (vcheck_any ao G cap A L C X _ (hT.keeps k1) (hP.keeps k1)).mono ?_
 rintro e w1 ⟨rfl,hb1⟩
 have k2:=Keeps.below hb1
 have b2:=b1.trans (hb1.mono b1.size)
 have p0:=k2 _ (.slice ao G cap) (cell_blk N0 0)
 have q0:=k2 _ (.slice aa n ac) (cell_blk N1 0)
 have q1:=k2 _ (.slice pa K pc) (cell_blk N1 1)
 replace hP:=hP.keeps (k1.trans k2)
 replace ha:=ha.keeps (k1.trans k2)
 replace hp:=hp.keeps (k1.trans k2)
 clear hT k1 k2 b1 hb1 N0 N1 s1
 obtain ⟨c,hc⟩:∃ c,c = ckS G L X:=⟨_,rfl⟩
 rw [← hc] at HR ⊢
 clear hc
 obtain ⟨p1,p2,p3⟩:=c
 simp only at HR ⊢
 by_cases h3:p3 = 0
 ·subst h3
  have HR2:Aside (RES = if WM then 0 else 8):=by show RES = _; rw [HR.out]; simp
  clear HR
  go_wp2_with fail
  refine Calls.mono (HI.out _ hP ha hp) ?_
  rintro e w2 ⟨rfl,hb2⟩
  have b3:=b2.trans (hb2.mono b2.size)
  cases WM with
  | true =>
   go_wp2
   go_ret
   exact ⟨ret_num HR2.out.symm,b3⟩
  | false =>
   go_wp2
   go_ret
   exact ⟨ret_num HR2.out.symm,b3⟩
 ·have h3b:(p3 != 0) = true:=by simp [h3]
  have HR2:Aside (RES = p3):=by show RES = _; rw [HR.out]; simp [h3]
  clear HR
  go_wp2
  go_ret
  exact ⟨ret_num HR2.out.symm,b2⟩
end
section
open Go.RowKit
set_option maxRecDepth 100000 in
set_option maxHeartbeats 400000 in
theorem broken_any (kind par M pc fin:Int) (oa ra ba:Option Addr) (O oc R rc B bc:Nat) (w:World) (hf:fin ≠ 8):Calls Tryz.prog 19 #[.agg #[.int .i64 kind,.int .i64 par,.int .i64 M,.slice oa O oc,.slice ra R rc,.int .i64 pc,.slice ba B bc,.int .i64 fin]] w fun e w' => e = .returned (.bool false) ∧ Below w.heap.size w w':=by
 have hfb:(fin == 8) = false:=by simp [hf]
 go_enter Tryz.func19,Tryz.ntmps19
 go_wp2
 go_ret
 exact ⟨ret_bool (by simp),below_box _ _⟩
set_option maxRecDepth 100000 in
set_option maxHeartbeats 800000 in
theorem indexBroken_any (ao:Option Addr) (cap:Nat) (l:List Ac) (w:World) (h:ActsAt w ao l) (hf:∀ x ∈ l,x.fin ≠ 8) :
  Calls Tryz.prog 41 #[.slice ao l.length cap,.func (.func 19) #[] #[]] w fun e w' => e = .returned (.int .i64 (-1)) ∧ Below w.heap.size w w':=by
 obtain ⟨L,hL⟩:∃ L,L = l.length:=⟨_,rfl⟩
 have HL:Aside (L = l.length):=hL
 have hm:=h.many
 rw [← hL] at hm ⊢
 clear hL
 go_enter Tryz.func41,Tryz.ntmps41
 go_wp2
 go_loopg [8] L (fun g s8 wr => ∃ i:Nat,i ≤ L ∧ g = L - i ∧ s8 = .int .i64 i ∧ Below w.heap.size w wr)
 case atStart => exact ⟨0,Nat.zero_le _,rfl,rfl,Below.refl _ _⟩
 case round =>
  obtain ⟨i,hi,rfl,rfl,hbr⟩:=hrel
  by_cases hiL:i < L
  ·have hiz:(i:Int) < (L:Int):=by omega
   obtain ⟨x,hx⟩:=at_some (l:=l) (i:=i) (by rw [← HL.out]; exact hiL)
   have hfx:=hf x (List.mem_of_getElem? hx)
   obtain ⟨b,o,oa,oc,ra,rc,ba,bc,rfl,h1⟩:=(h.keeps (Keeps.below hbr)).cell i x hx
   obtain ⟨c0,c1,c2,c3,c4,c5,c6,c7,_,_,_,_,_⟩:=h1
   go_wp2_with fail
   refine (broken_any _ _ _ _ _ _ _ _ _ _ _ _ _ _ _ hfx).mono ?_
   rintro e w' ⟨rfl,hb'⟩
   have hb2:=hbr.trans (hb'.mono hbr.size)
   go_wp2_with fail
   go_roundg (L - (i + 1))
   case measure => go_light; omega
   case rel => go_light; exact ⟨i + 1,by omega,rfl,by go_num,hb2⟩
  ·have hiz:¬ (i:Int) < (L:Int):=by omega
   go_wp2
   go_ret
   exact ⟨rfl,hbr⟩
set_option maxHeartbeats 400000 in
theorem containsBroken_any (ao:Option Addr) (cap:Nat) (l:List Ac) (w:World) (h:ActsAt w ao l) (hf:∀ x ∈ l,x.fin ≠ 8) :
  Calls Tryz.prog 15 #[.slice ao l.length cap,.func (.func 19) #[] #[]] w fun e w' => e = .returned (.bool false) ∧ Below w.heap.size w w':=by
 have hI:=indexBroken_any ao cap l w h hf
 generalize l.length = L at *
 have HI:Aside (Calls Tryz.prog 41 #[.slice ao L cap,.func (.func 19) #[] #[]] w _):=hI
 clear hI
 go_enter Tryz.func15,Tryz.ntmps15
 go_wp2_with fail
 refine Calls.mono HI.out ?_
 rintro e w' ⟨rfl,hb⟩
 go_wp2
 go_ret
 exact ⟨rfl,hb⟩
set_option maxRecDepth 100000 in
set_option maxHeartbeats 2000000 in
theorem topSound_any (l m:List Rw) (la ma:Option Addr) (lc mc:Nat) (most:Int) (w:World) (hT:TabAt 0 w) (h:RawsAt w la l) (hm:RawsAt w ma m) (hll:32 * l.length ≤ 140737488355328) (hmo:fit64 most) :
  Calls Tryz.prog 4 #[.slice la l.length lc,.slice ma m.length mc,.int .i64 most] w fun e w' => e = .returned (.bool true) ∧ Below w.heap.size w w':=by
 have hpl:=fun w' (hb:Below w.heap.size w w') => played_any l m la ma lc mc most w' (hT.keeps (Keeps.below hb)) (h.keeps (Keeps.below hb)) (hm.keeps (Keeps.below hb)) hll hmo
 obtain ⟨hOK,_⟩:=play_ok l m most
 have hfin:∀ x ∈ (playS l m most).acts,x.fin ≠ 8:=fun x hx => by
  obtain ⟨i,hi⟩:=List.mem_iff_getElem?.1 hx
  have:=(hOK.acts i x hi).fin
  omega
 have hck:ckS 3 (lenOf (programS l 14)) (xOf (programS l 14)) = (0,0,0):=program_ok l 14
 have hw:wckS 3 (lenOf (programS l 14)) (xOf (programS l 14)) (playS l m most) = 0:=by
  unfold wckS
  rw [hck,if_neg (by simp),hOK.may]
  rfl
 clear hOK hck
 go_enter Tryz.func4,Tryz.ntmps4
 go_wp2_with fail
 refine (worldTells_any w hT).mono ?_
 rintro e w1 ⟨rfl,hb1⟩
 go_wp2_with fail
 refine (hpl w1 hb1).mono ?_
 rintro e w2 ⟨ao,cap,xa,xc,aa,ac,pa,pc,rfl,hb2,hK,_,hVA,hVP⟩
 clear hpl
 obtain ⟨A,C,hPA,_,_⟩:=program_prog (by omega) hK
 have hB2:=hb1.trans (hb2.mono hb1.size)
 have hT2:=hT.keeps (Keeps.below hB2)
 have hchk:=fun w' (hb:Below w2.heap.size w2 w') => acheck_any ao 3 cap A _ C _ aa pa ac pc (playS l m most) w' (hT2.keeps (Keeps.below hb)) (hPA.keeps (Keeps.below hb)) (hVA.keeps (Keeps.below hb)) (hVP.keeps (Keeps.below hb))
 rw [hw] at hchk
 have hcon:=fun w' (hb:Below w2.heap.size w2 w') => containsBroken_any aa ac (playS l m most).acts w' (hVA.keeps (Keeps.below hb)) hfin
 generalize playS l m most = V at *
 obtain ⟨NP,NW,_,cb,_⟩:=boxes2 w2 (.cells #[.slice ao 3 cap] 25) (.cells #[.slice aa V.acts.length ac,.slice pa V.prints.length pc] 29)
 clear hK hPA hVA hVP hT h hm hT2
 go_upto_region 4 with fail
 generalize (w2.alloc (.cells #[.slice ao 3 cap] 25)).alloc (.cells #[.slice aa V.acts.length ac,.slice pa V.prints.length pc] 29) = w3 at *
 have p0:w3.cell? ⟨w2.heap.size,0,none⟩ = some (.slice ao 3 cap):=cell_blk NP 0
 have q0:w3.cell? ⟨w2.heap.size + 1,0,none⟩ = some (.slice aa V.acts.length ac):=cell_blk NW 0
 have q1:w3.cell? ⟨w2.heap.size + 1,1,none⟩ = some (.slice pa V.prints.length pc):=cell_blk NW 1
 go_wp2_with fail
 refine (hchk w3 cb).mono ?_
 rintro e w4 ⟨rfl,hb4⟩
 replace q0:=Keeps.below hb4 _ _ q0
 go_wp2_with fail
 refine (hcon w4 (cb.trans (hb4.mono cb.size))).mono ?_
 rintro e w5 ⟨rfl,hb5⟩
 have hB5:=((hB2.trans (cb.mono hB2.size)).trans (hb4.mono (Nat.le_trans hB2.size cb.size))).trans (hb5.mono (Nat.le_trans (Nat.le_trans hB2.size cb.size) hb4.size))
 go_wp2
 go_ret
 exact ⟨rfl,hB5⟩
theorem topSound_walk (a0:Option Addr) (c0:Nat) (l0:List Rw) (a1:Option Addr) (c1:Nat) (l1:List Rw) (n2:Int) (w:World) (hT:TabAt 0 w) (h0:RawsAt w a0 l0) (hb0:32 * l0.length ≤ 140737488351232) (h1:RawsAt w a1 l1) (_:32 * l1.length ≤ 140737488351232) (hi:-9223372036854775808 ≤ n2 ∧ n2 ≤ 9223372036854775807) :
  Calls Tryz.prog 4 #[.slice a0 l0.length c0,.slice a1 l1.length c1,.int .i64 n2] w fun e w' => e = .returned (.bool true) ∧ Below w.heap.size w w' :=
 topSound_any l0 l1 a0 a1 c0 c1 n2 w hT h0 h1 (by omega) hi
end
section
open Go.ChangeShapes Go.WideShapes Go.ChangeAt Go.RowKit Go.Deep
theorem reach_eq:reachBytes = 140737488351232:=rfl
structure HeapTypes (P:Program) (tH tOO tO tVV tV tN tB:TypeId) (h0 h1 o0 o1 v0 v1:Field):Prop where
 hH:P.underlying tH = some (.struct #[h0,h1])
 hh0:h0.type = tN ∧ h0.offset = 0
 hh1:h1.type = tOO ∧ h1.offset = 1
 cH:P.cellsOf tH = 2
 cOO:P.cellsOf tOO = 1
 hOO:P.underlying tOO = some (.slice tO)
 cO:P.cellsOf tO = 2
 hO:P.underlying tO = some (.struct #[o0,o1])
 ho0:o0.type = tVV ∧ o0.offset = 0
 ho1:o1.type = tB ∧ o1.offset = 1
 cVV:P.cellsOf tVV = 1
 hVV:P.underlying tVV = some (.slice tV)
 cV:P.cellsOf tV = 2
 hV:P.underlying tV = some (.struct #[v0,v1])
 hv0:v0.type = tN ∧ v0.offset = 0
 hv1:v1.type = tN ∧ v1.offset = 1
 hN:P.underlying tN = some (.int .i64)
 cN:P.cellsOf tN = 1
 hB:P.underlying tB = some .bool
 cB:P.cellsOf tB = 1
 bO:P.bytesOf tO = 32
 bV:P.bytesOf tV = 16
theorem getElem?_ofRange {α:Type} {f:Nat → α} {n i:Nat} {v:α} (h:((List.range n).map f)[i]? = some v):i < n ∧ f i = v:=by
 rw [List.getElem?_map] at h
 obtain ⟨j,hj,rfl⟩:=Option.map_eq_some_iff.1 h
 obtain ⟨hi,rfl⟩:=List.getElem?_eq_some_iff.1 hj
 rw [List.length_range] at hi
 exact ⟨hi,by simp⟩
section
variable {H:Type} {enc:TypeId × Value → H} {P:Program} {w:World} {base:Nat} {spare:Nat → Bool} {held:Bool}
variable {tH tOO tO tVV tV tN tB:TypeId} {h0 h1 o0 o1 v0 v1:Field}
end
theorem Tryz.cellsH:Tryz.prog.cellsOf 39 = 2:=by kernel_rfl
theorem Tryz.cellsOO:Tryz.prog.cellsOf 37 = 1:=by kernel_rfl
theorem Tryz.cellsO:Tryz.prog.cellsOf 97 = 2:=by kernel_rfl
theorem Tryz.cellsVV:Tryz.prog.cellsOf 40 = 1:=by kernel_rfl
theorem Tryz.cellsV:Tryz.prog.cellsOf 86 = 2:=by kernel_rfl
theorem Tryz.cellsN:Tryz.prog.cellsOf 3 = 1:=by kernel_rfl
theorem Tryz.cellsB:Tryz.prog.cellsOf 4 = 1:=by kernel_rfl
theorem Tryz.bytesO:Tryz.prog.bytesOf 97 = 32:=by kernel_rfl
theorem Tryz.bytesV:Tryz.prog.bytesOf 86 = 16:=by kernel_rfl
theorem types:∃ h0 h1 o0 o1 v0 v1,HeapTypes Tryz.prog 39 37 97 40 86 3 4 h0 h1 o0 o1 v0 v1 :=
 ⟨_,_,_,_,_,_,Tryz.underlying39,⟨rfl,rfl⟩,⟨rfl,rfl⟩,Tryz.cellsH,Tryz.cellsOO,Tryz.underlying37,Tryz.cellsO,Tryz.underlying97,⟨rfl,rfl⟩,⟨rfl,rfl⟩,Tryz.cellsVV,Tryz.underlying40,Tryz.cellsV,Tryz.underlying86,
  ⟨rfl,rfl⟩,⟨rfl,rfl⟩,Tryz.underlying3,Tryz.cellsN,Tryz.underlying4,Tryz.cellsB,Tryz.bytesO,Tryz.bytesV⟩
end
section
open Go.ChangeShapes Go.WideShapes Go.ChangeAt Go.RowKit Go.Deep
structure RawTypes (P:Program) (tRR tR tN:TypeId) (r0 r1 r2 r3:Field):Prop where
 hRR:P.underlying tRR = some (.slice tR)
 cR:P.cellsOf tR = 4
 hR:P.underlying tR = some (.struct #[r0,r1,r2,r3])
 hr0:r0.type = tN ∧ r0.offset = 0
 hr1:r1.type = tN ∧ r1.offset = 1
 hr2:r2.type = tN ∧ r2.offset = 2
 hr3:r3.type = tN ∧ r3.offset = 3
 hN:P.underlying tN = some (.int .i64)
 cN:P.cellsOf tN = 1
 bR:P.bytesOf tR = 32
section
variable {H:Type} {enc:TypeId × Value → H} {P:Program} {w:World} {base:Nat} {spare:Nat → Bool} {held:Bool}
variable {tRR tR tN:TypeId} {r0 r1 r2 r3:Field}
theorem open_rawc (T:RawTypes P tRR tR tN r0 r1 r2 r3) {fuel:Nat} {cs:List Value} {x:DataW H × List MemPlace} (h:DataW.trod enc P w base spare held fuel tR cs = some x) :
  ∃ a b c d:Int,cs = [.int .i64 a,.int .i64 b,.int .i64 c,.int .i64 d] ∧ fit64 a ∧ fit64 b ∧ fit64 c ∧ fit64 d:=by
 obtain ⟨y0,y1,y2,y3,n,_,hl,g0,g1,g2,g3⟩:=Joins.trod_struct4 T.hR h
 rw [T.cR] at hl
 match cs,hl with
 | [c0,c1,c2,c3],_ =>
  rw [T.hr0.1,T.hr0.2,T.cN] at g0
  rw [T.hr1.1,T.hr1.2,T.cN] at g1
  rw [T.hr2.1,T.hr2.2,T.cN] at g2
  rw [T.hr3.1,T.hr3.2,T.cN] at g3
  obtain ⟨a0,e0,_,w0⟩:=DataW.trod_int T.hN g0
  obtain ⟨a1,e1,_,w1⟩:=DataW.trod_int T.hN g1
  obtain ⟨a2,e2,_,w2⟩:=DataW.trod_int T.hN g2
  obtain ⟨a3,e3,_,w3⟩:=DataW.trod_int T.hN g3
  simp at e0 e1 e2 e3
  subst e0 e1 e2 e3
  exact ⟨a0,a1,a2,a3,rfl,bounds_i64 w0,bounds_i64 w1,bounds_i64 w2,bounds_i64 w3⟩
theorem open_raws (T:RawTypes P tRR tR tN r0 r1 r2 r3) {v:Value} {d:DataW H} {p:List MemPlace} {r:Reach} {b0:Nat} (hv:Value.okWide P w r b0 tRR v) (h:DataW.Trod enc P w base (fun _ => true) held tRR v d p)
  (hsz:∀ n ∈ d.weights P tRR,n ≤ reachBytes) :
  ∃ (ao:Option Addr) (l:List Rw) (cap:Nat),v = .slice ao l.length cap ∧ RawsAt w ao l ∧ 32 * l.length ≤ 140737488351232:=by
 obtain ⟨a0,n0,c0,rfl⟩:=okWide_slice T.hRR hv
 obtain ⟨fuel,hf⟩:=h
 rcases open_slice T.hRR hf with ⟨hcs,hx⟩ | ⟨a,len,cap,m,n,D,Pl,hcs,_,hl,hm,hmm,hx,hel⟩
 ·simp only [Value.cells,List.cons.injEq,and_true,Value.slice.injEq] at hcs
  obtain ⟨rfl,rfl,rfl⟩:=hcs
  exact ⟨none,[],0,rfl,fun i v hi => by simp at hi,by show 32 * 0 ≤ 140737488351232; omega⟩
 ·simp only [Value.cells,List.cons.injEq,and_true,Value.slice.injEq] at hcs
  obtain ⟨rfl,rfl,rfl⟩:=hcs
  try simp only [if_true] at hmm
  rw [T.cR] at hel
  obtain ⟨z,hz⟩:=choose_lt (α:=Int × Int × Int × Int) (n:=m) (p:=fun i z => w.cells? base (a.add (i * 4)) 4 = some [.int .i64 z.1,.int .i64 z.2.1,.int .i64 z.2.2.1,.int .i64 z.2.2.2] ∧ fit64 z.1 ∧ fit64 z.2.1 ∧ fit64 z.2.2.1 ∧ fit64 z.2.2.2) (fun i hi => by
   obtain ⟨cs',hc,ht⟩:=hel i hi
   obtain ⟨a,b,c,d,rfl,hq⟩:=open_rawc T ht
   exact ⟨(a,b,c,d),hc,hq⟩)
  refine ⟨some a,(List.range n0).map (fun i => ⟨(z i).1,(z i).2.1,(z i).2.2.1,(z i).2.2.2⟩),c0,by simp,fun i v hi => ?_,?_⟩
  ·obtain ⟨hi',rfl⟩:=getElem?_ofRange hi
   obtain ⟨_,_,hc0⟩:=World.cells?_some (hz 0 (by omega)).1
   obtain ⟨_,_,hc⟩:=World.cells?_some (hz i (by omega)).1
   obtain ⟨b,o,sp⟩:=a
   have hsp:sp = none:=by
    have:=World.cell?_spot ((hc0 0 (by omega)).trans rfl)
    simpa [Addr.add] using this
   subst hsp
   have d0:=hc 0 (by omega)
   have d1:=hc 1 (by omega)
   have d2:=hc 2 (by omega)
   have d3:=hc 3 (by omega)
   rw [add_plain,add_plain] at d0 d1 d2 d3
   have e0:w.cell? ⟨b,o + i * 4,none⟩ = some (.int .i64 (z i).1):=by simpa using d0
   exact ⟨b,o,rfl,World.block_lt_of_cell? _ _ e0,e0,by simpa using d1,by simpa using d2,by simpa using d3,(hz i (by omega)).2⟩
  ·have hx':d = (d,p).1:=rfl
   rw [hx',hx] at hsz
   have:=hsz ((((List.range n0).map D).length + ((List.range (m - n0)).map fun j => D (n0 + j)).length) * P.bytesOf tR) (by simp [DataW.weights,T.hRR])
   simp only [List.length_map,List.length_range,T.bR,reach_eq] at this ⊢
   omega
end
theorem Tryz.cellsR:Tryz.prog.cellsOf 107 = 4:=by kernel_rfl
theorem Tryz.bytesR:Tryz.prog.bytesOf 107 = 32:=by kernel_rfl
theorem rawTypes:∃ r0 r1 r2 r3,RawTypes Tryz.prog 22 107 3 r0 r1 r2 r3 :=
 ⟨_,_,_,_,Tryz.underlying22,Tryz.cellsR,Tryz.underlying107,⟨rfl,rfl⟩,⟨rfl,rfl⟩,⟨rfl,rfl⟩,⟨rfl,rfl⟩,Tryz.underlying3,Tryz.cellsN,Tryz.bytesR⟩
end
end Go.Proofs.YtddokajfafmhhaaGreatDoor
