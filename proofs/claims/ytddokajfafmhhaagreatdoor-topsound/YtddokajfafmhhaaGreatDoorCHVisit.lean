/- WIsActor HVisit. -/
import Derived.BigQuiet
import Derived.Deep.QuietTactic
import Derived.BigRegion
import Derived.Deep.Light
import Derived.Deep.LoopGhost
import Derived.Maps.Own
import Derived.Maps.OwnOps
import Derived.Maps.OwnSet
import Derived.WalkKit
import Derived.WalkLawsBesides
import Derived.WalkSpells
import Derived.Test.YtddokajfafmhhaaGreatDoorCHPureM
import Derived.Test.YtddokajfafmhhaaGreatDoorCHHeld
import Derived.Test.YtddokajfafmhhaaGreatDoorCHGet
import Derived.Test.YtddokajfafmhhaaGreatDoorCAGet
namespace Go.Proofs.YtddokajfafmhhaaGreatDoor
section
open Go.RowKit
set_option maxRecDepth 100000 in
set_option maxHeartbeats 800000 in
theorem roots_any (kind par M pc fin:Int) (oa ra ba:Option Addr) (O oc rc bc:Nat) (regs box:List Vl) (w:World) (hr:ValsAt w ra regs) (hb:ValsAt w ba box) (hrl:16 * regs.length ≤ 140737488351232) (hbl:box.length ≤ 6) :
  Calls Tryz.prog 79 #[.agg #[.int .i64 kind,.int .i64 par,.int .i64 M,.slice oa O oc,.slice ra regs.length rc,.int .i64 pc,.slice ba box.length bc,.int .i64 fin]] w fun e w' => ∃ va vc,e = .returned (.slice va (regs.length + box.length) vc) ∧ ValsAt w' va (regs ++ box) ∧ Below w.heap.size w w':=by
 obtain ⟨N0,N1,k1,b1,s1⟩:=boxes2 w (.cells #[.int .i64 kind,.int .i64 par,.int .i64 M,.slice oa O oc,.slice ra regs.length rc,.int .i64 pc,.slice ba box.length bc,.int .i64 fin] 42) (.cells #[.slice ra regs.length rc,.slice ba box.length bc] 40)
 have c0:=cell_blk N1 0
 have c1:=cell_blk N1 1
 have hC:=concat_any (w.heap.size + 1) ra ba rc bc regs box _ c0 c1 (hr.keeps k1) (hb.keeps k1) hrl hbl
 have HC:Aside (Calls Tryz.prog 46 #[.slice (some ⟨w.heap.size + 1,0,none⟩) 2 2] _ _):=hC
 clear hC c0 c1 N0 N1 k1 hr hb
 generalize regs.length = R at *
 generalize box.length = X at *
 go_enter Tryz.func79,Tryz.ntmps79
 go_wp2_with fail
 refine Calls.mono HC.out ?_
 rintro e w' ⟨va,vc,rfl,hv,hb'⟩
 go_wp2
 go_ret
 exact ⟨va,vc,rfl,hv,b1.trans (hb'.mono b1.size)⟩
set_option maxHeartbeats 400000 in
theorem isEmptied_any (kind par M pc fin:Int) (oa ra ba:Option Addr) (O R X oc rc bc:Nat) (w:World) :
  Calls Tryz.prog 80 #[.agg #[.int .i64 kind,.int .i64 par,.int .i64 M,.slice oa O oc,.slice ra R rc,.int .i64 pc,.slice ba X bc,.int .i64 fin]] w fun e w' => e = .returned (.bool (decide (X = 0) && (decide (O = 0) && decide (pc = -1)))) ∧ Below w.heap.size w w':=by
 by_cases hX:X = 0
 ·by_cases hO:O = 0
  ·by_cases hp:pc = -1
   ·subst hX hO hp
    go_enter Tryz.func80,Tryz.ntmps80
    go_wp2
    go_ret
    exact ⟨ret_bool (by simp),below_box _ _⟩
   ·subst hX hO
    have hpb:(pc == -1) = false:=by simp [hp]
    go_enter Tryz.func80,Tryz.ntmps80
    go_wp2
    go_ret
    exact ⟨ret_bool (by simp [hp]),below_box _ _⟩
  ·subst hX
   have hob:((O:Int) == 0) = false:=by simp [hO]
   go_enter Tryz.func80,Tryz.ntmps80
   go_wp2
   go_ret
   exact ⟨ret_bool (by simp [hO]),below_box _ _⟩
 ·have hxb:((X:Int) == 0) = false:=by simp [hX]
  go_enter Tryz.func80,Tryz.ntmps80
  go_wp2
  go_ret
  exact ⟨ret_bool (by simp [hX]),below_box _ _⟩
theorem noObj_false {l:List Vl}:noObj l = false ↔ l.all (fun v => decide (v.k = 2)) = true:=by
 induction l with
 | nil => simp [noObj]
 | cons a l ih =>
  have e1:noObj (a :: l) = ((a.k != 2) || noObj l):=rfl
  rw [e1,List.all_cons,Bool.or_eq_false_iff,ih,Bool.and_eq_true]
  simp
theorem acMay_true {G:Nat} {L:Nat → Nat} {a:Ac} {num:Nat}:acMay G L a num = true ↔ (0 ≤ a.kind ∧ a.kind < G) ∧ (-1 ≤ a.par ∧ a.par < num) ∧ (-1 ≤ a.pc ∧ a.pc < L a.kind.toNat) ∧ (0 ≤ a.fin ∧ a.fin ≤ 8) ∧ (a.regs.length = 8 ∧ a.box.length ≤ 6) ∧ noObj a.box = false ∧ hMay a.M a.obs a.roots = true ∧
  (a.fin = 0 ∨ (a.box.length = 0 ∧ a.obs.length = 0 ∧ a.pc = -1)):=by
 rw [noObj_false]
 unfold acMay
 simp only [Bool.and_eq_true,Bool.or_eq_true,decide_eq_true_eq]
 constructor
 ·rintro ⟨⟨⟨⟨⟨⟨h1,h2⟩,h3⟩,h4⟩,h5⟩,h6⟩,h7,h8⟩
  exact ⟨h1,h2,h3,h4,h5,h6,h7,h8⟩
 ·rintro ⟨h1,h2,h3,h4,h5,h6,h7,h8⟩
  exact ⟨⟨⟨⟨⟨⟨h1,h2⟩,h3⟩,h4⟩,h5⟩,h6⟩,h7,h8⟩
set_option maxRecDepth 100000 in
set_option maxHeartbeats 2000000 in
theorem isActor_any (ao:Option Addr) (G cap:Nat) (A:Nat → Option Addr) (L C:Nat → Nat) (X:Nat → Nat → Nat → Int) (kind par M pc fin:Int) (oa ra ba:Option Addr) (oc rc bc:Nat) (obs:List Ob) (regs box:List Vl) (num:Nat) (w:World)
  (hP:ProgAt w ao G A L C X) (ho:ObsAt w oa obs) (hr:ValsAt w ra regs) (hb:ValsAt w ba box) (hrl:16 * regs.length ≤ 140737488351232) (hbl:16 * box.length ≤ 140737488351232) :
  Calls Tryz.prog 61 #[.agg #[.slice ao G cap],.agg #[.int .i64 kind,.int .i64 par,.int .i64 M,.slice oa obs.length oc,.slice ra regs.length rc,.int .i64 pc,.slice ba box.length bc,.int .i64 fin],.int .i64 num] w fun e w' => e = .returned (.bool (acMay G L ⟨kind,par,M,obs,regs,pc,box,fin⟩ num)) ∧ Below w.heap.size w w':=by
 obtain ⟨N0,N1,k1,b1,s1⟩:=boxes2 w (.cells #[.slice ao G cap] 25) (.cells #[.int .i64 kind,.int .i64 par,.int .i64 M,.slice oa obs.length oc,.slice ra regs.length rc,.int .i64 pc,.slice ba box.length bc,.int .i64 fin] 42)
 replace hP:=hP.keeps k1
 replace ho:=ho.keeps k1
 replace hr:=hr.keeps k1
 replace hb:=hb.keeps k1
 have hG:=hP.many
 have HV:Aside (∀ b,b = acMay G L ⟨kind,par,M,obs,regs,pc,box,fin⟩ num → b = acMay G L ⟨kind,par,M,obs,regs,pc,box,fin⟩ num):=fun b h => h
 obtain ⟨RES,hRES⟩:∃ RES,RES = acMay G L ⟨kind,par,M,obs,regs,pc,box,fin⟩ num:=⟨_,rfl⟩
 have HR:Aside (RES = acMay G L ⟨kind,par,M,obs,regs,pc,box,fin⟩ num):=hRES
 rw [← hRES]
 clear hRES HV
 obtain ⟨OL,hOL⟩:∃ n,n = obs.length:=⟨_,rfl⟩
 obtain ⟨RL,hRL⟩:∃ n,n = regs.length:=⟨_,rfl⟩
 obtain ⟨XL,hXL⟩:∃ n,n = box.length:=⟨_,rfl⟩
 have HL:Aside (OL = obs.length ∧ RL = regs.length ∧ XL = box.length):=⟨hOL,hRL,hXL⟩
 rw [← hOL,← hRL,← hXL] at N0 N1 k1 b1 s1 hP ho hr hb
 rw [← hRL] at hrl
 rw [← hXL] at hbl
 rw [← hOL,← hRL,← hXL]
 clear hOL hRL hXL
 go_enter Tryz.func61,Tryz.ntmps61
 by_cases h1:kind < 0
 ·have HF:Aside (RES = false):=by
   show RES = false
   rw [HR.out]
   refine Bool.eq_false_iff.2 (fun h => ?_)
   obtain ⟨q1,q2,q3,q4,q5,q6,q7,q8⟩:=acMay_true.1 h
   simp only at q1 q2 q3 q4 q5 q6 q7 q8
   omega
  go_wp2
  go_ret
  exact ⟨ret_bool HF.out.symm,b1⟩
 by_cases h2:(G:Int) ≤ kind
 ·have HF:Aside (RES = false):=by
   show RES = false
   rw [HR.out]
   refine Bool.eq_false_iff.2 (fun h => ?_)
   obtain ⟨q1,q2,q3,q4,q5,q6,q7,q8⟩:=acMay_true.1 h
   simp only at q1 q2 q3 q4 q5 q6 q7 q8
   omega
  go_wp2
  go_ret
  exact ⟨ret_bool HF.out.symm,b1⟩
 by_cases h3:par < -1
 ·have HF:Aside (RES = false):=by
   show RES = false
   rw [HR.out]
   refine Bool.eq_false_iff.2 (fun h => ?_)
   obtain ⟨q1,q2,q3,q4,q5,q6,q7,q8⟩:=acMay_true.1 h
   simp only at q1 q2 q3 q4 q5 q6 q7 q8
   omega
  go_wp2
  go_ret
  exact ⟨ret_bool HF.out.symm,b1⟩
 by_cases h4:(num:Int) ≤ par
 ·have HF:Aside (RES = false):=by
   show RES = false
   rw [HR.out]
   refine Bool.eq_false_iff.2 (fun h => ?_)
   obtain ⟨q1,q2,q3,q4,q5,q6,q7,q8⟩:=acMay_true.1 h
   simp only at q1 q2 q3 q4 q5 q6 q7 q8
   omega
  go_wp2
  go_ret
  exact ⟨ret_bool HF.out.symm,b1⟩
 obtain ⟨kn,rfl⟩:=Int.eq_ofNat_of_zero_le (Int.not_lt.1 h1)
 have hkG:kn < G:=by omega
 obtain ⟨bo,oo,hao,hca⟩:=hP.outer kn hkG
 subst hao
 have hkz:(kn:Int) < (G:Int):=by omega
 have hLk:=hP.long kn hkG
 have HQ:Aside (par < (num:Int) ∧ -1 ≤ par):=by constructor <;> omega
 go_upto_region 3 with fail
 clear h1 h2 h3 h4
 generalize (w.alloc (.cells #[.slice (some ⟨bo,oo,none⟩) G cap] 25)).alloc (.cells #[.int .i64 kn,.int .i64 par,.int .i64 M,.slice oa OL oc,.slice ra RL rc,.int .i64 pc,.slice ba XL bc,.int .i64 fin] 42) = W at *
 have p0:W.cell? ⟨w.heap.size,0,none⟩ = some (.slice (some ⟨bo,oo,none⟩) G cap):=cell_blk N0 0
 have a0:W.cell? ⟨w.heap.size + 1,0,none⟩ = some (.int .i64 kn):=cell_blk N1 0
 have a1:W.cell? ⟨w.heap.size + 1,1,none⟩ = some (.int .i64 par):=cell_blk N1 1
 have a2:W.cell? ⟨w.heap.size + 1,2,none⟩ = some (.int .i64 M):=cell_blk N1 2
 have a3:W.cell? ⟨w.heap.size + 1,3,none⟩ = some (.slice oa OL oc):=cell_blk N1 3
 have a4:W.cell? ⟨w.heap.size + 1,4,none⟩ = some (.slice ra RL rc):=cell_blk N1 4
 have a5:W.cell? ⟨w.heap.size + 1,5,none⟩ = some (.int .i64 pc):=cell_blk N1 5
 have a6:W.cell? ⟨w.heap.size + 1,6,none⟩ = some (.slice ba XL bc):=cell_blk N1 6
 have a7:W.cell? ⟨w.heap.size + 1,7,none⟩ = some (.int .i64 fin):=cell_blk N1 7
 obtain ⟨LK,hLK⟩:∃ LK,LK = L kn:=⟨_,rfl⟩
 have HLK:Aside (LK = L kn):=hLK
 rw [← hLK] at hca hLk
 clear hLK
 by_cases h5:pc < -1
 ·have HF:Aside (RES = false):=by
   show RES = false
   rw [HR.out]
   refine Bool.eq_false_iff.2 (fun h => ?_)
   obtain ⟨q1,q2,q3,q4,q5,q6,q7,q8⟩:=acMay_true.1 h
   simp only at q1 q2 q3 q4 q5 q6 q7 q8
   omega
  go_quiet (fail)
  go_wp2
  go_ret
  exact ⟨ret_bool HF.out.symm,below_drewN b1 _⟩
 by_cases h6:(LK:Int) ≤ pc
 ·have HF:Aside (RES = false):=by
   show RES = false
   rw [HR.out]
   refine Bool.eq_false_iff.2 (fun h => ?_)
   obtain ⟨q1,q2,q3,q4,q5,q6,q7,q8⟩:=acMay_true.1 h
   simp only at q1 q2 q3 q4 q5 q6 q7 q8
   have:=HLK.out; simp only [Int.toNat_natCast] at q3; omega
  go_quiet (fail)
  go_wp2
  go_ret
  exact ⟨ret_bool HF.out.symm,below_drewN b1 _⟩
 by_cases h7:fin < 0
 ·have HF:Aside (RES = false):=by
   show RES = false
   rw [HR.out]
   refine Bool.eq_false_iff.2 (fun h => ?_)
   obtain ⟨q1,q2,q3,q4,q5,q6,q7,q8⟩:=acMay_true.1 h
   simp only at q1 q2 q3 q4 q5 q6 q7 q8
   omega
  go_quiet (fail)
  go_wp2
  go_ret
  exact ⟨ret_bool HF.out.symm,below_drewN b1 _⟩
 by_cases h8:8 < fin
 ·have HF:Aside (RES = false):=by
   show RES = false
   rw [HR.out]
   refine Bool.eq_false_iff.2 (fun h => ?_)
   obtain ⟨q1,q2,q3,q4,q5,q6,q7,q8⟩:=acMay_true.1 h
   simp only at q1 q2 q3 q4 q5 q6 q7 q8
   omega
  go_quiet (fail)
  go_wp2
  go_ret
  exact ⟨ret_bool HF.out.symm,below_drewN b1 _⟩
 go_quiet (fail)
 have kq:=Keeps.drewN W nq
 have bq:=below_drewN b1 nq
 replace a0:=kq _ _ a0
 replace a1:=kq _ _ a1
 replace a2:=kq _ _ a2
 replace a3:=kq _ _ a3
 replace a4:=kq _ _ a4
 replace a5:=kq _ _ a5
 replace a6:=kq _ _ a6
 replace a7:=kq _ _ a7
 replace ho:=ho.keeps kq
 replace hr:=hr.keeps kq
 replace hb:=hb.keeps kq
 clear kq b1 k1 N0 N1 s1 p0 hca hP
 generalize W.drewN nq = Wq at *
 have HQ2:Aside (-1 ≤ pc ∧ pc < (LK:Int) ∧ 0 ≤ fin ∧ fin ≤ 8):=by refine ⟨?_,?_,?_,?_⟩ <;> omega
 clear h5 h6 h7 h8
 have hsq:=bq.size
 by_cases h9:RL = 8
 rotate_left
 ·have HF:Aside (RES = false):=by
   show RES = false
   rw [HR.out]
   refine Bool.eq_false_iff.2 (fun h => ?_)
   obtain ⟨q1,q2,q3,q4,q5,q6,q7,q8⟩:=acMay_true.1 h
   simp only at q1 q2 q3 q4 q5 q6 q7 q8
   have:=HL.out; omega
  have h9b:((RL:Int) != 8) = true:=by simp; omega
  go_wp2
  go_ret
  exact ⟨ret_bool HF.out.symm,bq⟩
 subst h9
 by_cases h10:6 < XL
 ·have HF:Aside (RES = false):=by
   show RES = false
   rw [HR.out]
   refine Bool.eq_false_iff.2 (fun h => ?_)
   obtain ⟨q1,q2,q3,q4,q5,q6,q7,q8⟩:=acMay_true.1 h
   simp only at q1 q2 q3 q4 q5 q6 q7 q8
   have:=HL.out; omega
  have h10b:(6:Int) < (XL:Int):=by omega
  go_wp2
  go_ret
  exact ⟨ret_bool HF.out.symm,bq⟩
 have h10b:¬ (6:Int) < (XL:Int):=by omega
 have hCF:=containsFunc_any ba bc box Wq hb (by rw [← HL.out.2.2]; exact hbl)
 rw [← HL.out.2.2] at hCF
 have HCF:Aside (Calls Tryz.prog 76 #[.slice ba XL bc,.func (.func 77) #[] #[]] Wq _):=hCF
 clear hCF
 go_upto_region 5 with fail
 go_wp2_with fail
 refine Calls.mono HCF.out ?_
 rintro e w2 ⟨rfl,hb2⟩
 have k2:=Keeps.below hb2
 have b2:=bq.trans (hb2.mono hsq)
 replace a0:=k2 _ _ a0
 replace a1:=k2 _ _ a1
 replace a2:=k2 _ _ a2
 replace a3:=k2 _ _ a3
 replace a4:=k2 _ _ a4
 replace a5:=k2 _ _ a5
 replace a6:=k2 _ _ a6
 replace a7:=k2 _ _ a7
 replace ho:=ho.keeps k2
 replace hr:=hr.keeps k2
 replace hb:=hb.keeps k2
 clear k2 hb2 bq hsq HCF
 by_cases h11:noObj box = true
 ·have HF:Aside (RES = false):=by
   show RES = false
   rw [HR.out]
   refine Bool.eq_false_iff.2 (fun h => ?_)
   obtain ⟨q1,q2,q3,q4,q5,q6,q7,q8⟩:=acMay_true.1 h
   simp only at q1 q2 q3 q4 q5 q6 q7 q8
   rw [h11] at q6; cases q6
  rw [h11]
  go_wp2
  go_ret
  exact ⟨ret_bool HF.out.symm,b2⟩
 have h11f:noObj box = false:=by simpa using h11
 have HNO:Aside (noObj box = false):=h11f
 rw [h11f]
 clear h11 h11f
 have hSof:∀ w',Below w2.heap.size w2 w' → (w'.cell? ⟨w.heap.size + 1,0,none⟩ = some (.int .i64 kn) ∧ w'.cell? ⟨w.heap.size + 1,1,none⟩ = some (.int .i64 par) ∧ w'.cell? ⟨w.heap.size + 1,2,none⟩ = some (.int .i64 M) ∧ w'.cell? ⟨w.heap.size + 1,3,none⟩ = some (.slice oa OL oc) ∧ w'.cell? ⟨w.heap.size + 1,4,none⟩ = some (.slice ra 8 rc) ∧ w'.cell? ⟨w.heap.size + 1,5,none⟩ = some (.int .i64 pc) ∧ w'.cell? ⟨w.heap.size + 1,6,none⟩ = some (.slice ba XL bc) ∧ w'.cell? ⟨w.heap.size + 1,7,none⟩ = some (.int .i64 fin)):=fun w' hb' => ⟨Keeps.below hb' _ _ a0,Keeps.below hb' _ _ a1,Keeps.below hb' _ _ a2,Keeps.below hb' _ _ a3,Keeps.below hb' _ _ a4,Keeps.below hb' _ _ a5,Keeps.below hb' _ _ a6,Keeps.below hb' _ _ a7⟩
 go_upto_region 7 with fail
 have hBd:Below w2.heap.size w2 w2.drew:=(Below.refl _ _).drew
 refine wp_region_need (fun j => j != 5) (fun w' => w'.cell? ⟨w.heap.size + 1,0,none⟩ = some (.int .i64 kn) ∧ w'.cell? ⟨w.heap.size + 1,1,none⟩ = some (.int .i64 par) ∧ w'.cell? ⟨w.heap.size + 1,2,none⟩ = some (.int .i64 M) ∧ w'.cell? ⟨w.heap.size + 1,3,none⟩ = some (.slice oa OL oc) ∧ w'.cell? ⟨w.heap.size + 1,4,none⟩ = some (.slice ra 8 rc) ∧ w'.cell? ⟨w.heap.size + 1,5,none⟩ = some (.int .i64 pc) ∧ w'.cell? ⟨w.heap.size + 1,6,none⟩ = some (.slice ba XL bc) ∧ w'.cell? ⟨w.heap.size + 1,7,none⟩ = some (.int .i64 fin)) (by kernel_rfl) (hSof _ hBd) (fun hS => ?_)
 generalize w2.drew = wc0 at hS hBd ⊢
 refine tkN 0 hS ?_
 refine tkN 1 hS ?_
 refine tkN 2 hS ?_
 refine stN 3 (fun K hK => ?_)
 go_simp
 have hRo:=roots_any kn par M pc fin oa ra ba OL oc rc bc regs box wc0 (hr.keeps (Keeps.below hBd)) (hb.keeps (Keeps.below hBd)) (by rw [← HL.out.2.1]; omega) (by rw [← HL.out.2.2]; omega)
 rw [← HL.out.2.1,← HL.out.2.2] at hRo
 refine hRo.mono ?_
 clear hRo
 rintro e wc1 ⟨va,vc,rfl,hVa,hbn⟩
 have hB1:=hBd.trans (hbn.mono hBd.size)
 clear hbn hBd
 refine otN hK (hSof _ hB1) ?_
 clear hK
 replace hS:=hSof _ hB1
 refine stN 4 (fun K hK => ?_)
 go_simp
 have hrl2:(regs ++ box).length = 8 + XL:=by rw [List.length_append,← HL.out.2.1,← HL.out.2.2]
 have hCk:=check_any M oa oc obs va vc (regs ++ box) wc1 (ho.keeps (Keeps.below hB1)) hVa (by rw [hrl2]; omega)
 rw [hrl2,← HL.out.1] at hCk
 refine hCk.mono ?_
 clear hCk hVa
 rintro e wc2 ⟨rfl,hbn⟩
 have hB2:=hB1.trans (hbn.mono hB1.size)
 clear hbn hB1
 refine otN hK (hSof _ hB2) ?_
 clear hK
 replace hS:=hSof _ hB2
 have k3:=Keeps.below hB2
 have b3:=b2.trans (hB2.mono b2.size)
 replace a0:=k3 _ _ a0
 replace a1:=k3 _ _ a1
 replace a2:=k3 _ _ a2
 replace a3:=k3 _ _ a3
 replace a4:=k3 _ _ a4
 replace a5:=k3 _ _ a5
 replace a6:=k3 _ _ a6
 replace a7:=k3 _ _ a7
 by_cases h12:hMay M obs (regs ++ box) = true
 rotate_left
 ·have HF:Aside (RES = false):=by
   show RES = false
   rw [HR.out]
   refine Bool.eq_false_iff.2 (fun h => ?_)
   obtain ⟨q1,q2,q3,q4,q5,q6,q7,q8⟩:=acMay_true.1 h
   simp only at q1 q2 q3 q4 q5 q6 q7 q8
   exact h12 q7
  have h12f:hMay M obs (regs ++ box) = false:=by simpa using h12
  rw [h12f,erS_false]
  refine stN 5 (fun K hK => ?_)
  go_simp
  refine laN hK ?_
  clear hK
  go_wp2
  go_ret
  exact ⟨ret_bool HF.out.symm,b3⟩
 have HM:Aside (hMay M obs (regs ++ box) = true):=h12
 rw [h12,erS_true]
 refine stN 5 (fun K hK => ?_)
 go_simp
 refine laN hK ?_
 clear hK
 clear h12 hrl2 hSof hS k3 hB2
 have HA:Aside ((fin = 0 ∨ (XL = 0 ∧ OL = 0 ∧ pc = -1)) → RES = true):=fun h => by
  rw [HR.out]
  refine acMay_true.2 ⟨⟨by simp,by simpa using hkG⟩,⟨HQ.out.2,HQ.out.1⟩,⟨HQ2.out.1,by simp only [Int.toNat_natCast]; rw [← HLK.out]; exact HQ2.out.2.1⟩,HQ2.out.2.2,⟨HL.out.2.1.symm,by simp only; rw [← HL.out.2.2]; omega⟩,HNO.out,HM.out,?_⟩
  simp only
  rw [← HL.out.2.2,← HL.out.1]
  exact h
 have HB:Aside (¬ (fin = 0 ∨ (XL = 0 ∧ OL = 0 ∧ pc = -1)) → RES = false):=fun h => by
  rw [HR.out]
  refine Bool.eq_false_iff.2 (fun h' => h ?_)
  have:=(acMay_true.1 h').2.2.2.2.2.2.2
  simp only at this
  rw [← HL.out.2.2,← HL.out.1] at this
  exact this
 by_cases h13:fin = 0
 ·have HT:Aside (RES = true):=HA.out (Or.inl h13)
  subst h13
  go_wp2
  go_ret
  exact ⟨ret_bool HT.out.symm,b3⟩
 ·have h13b:(fin == 0) = false:=by simp [h13]
  have HT:Aside (RES = (decide (XL = 0) && (decide (OL = 0) && decide (pc = -1)))):=by
   show RES = _
   by_cases hh:XL = 0 ∧ OL = 0 ∧ pc = -1
   ·rw [HA.out (Or.inr hh)]; simp [hh.1,hh.2.1,hh.2.2]
   ·rw [HB.out (fun h => h.elim h13 hh)]
    symm
    rw [Bool.eq_false_iff]
    intro hc
    simp only [Bool.and_eq_true,decide_eq_true_eq] at hc
    exact hh hc
  go_wp2_with fail
  refine (isEmptied_any kn par M pc fin oa ra ba OL 8 XL oc rc bc _).mono ?_
  rintro e w9 ⟨rfl,hb9⟩
  have b9:=b3.trans (hb9.mono b3.size)
  rw [← HT.out]
  go_wp2
  go_ret
  exact ⟨rfl,b9⟩
end
section
open Go.RowKit Go.Maps
theorem Tryz.infoN:(Tryz.prog.info? 3).map (fun i => (i.zero,i.size,i.bytes)) = some (some (.int .i64 0),1,8):=by kernel_rfl
theorem Tryz.zeroN (w:World):(zeroValue 3).run Tryz.prog w = .ok (.int .i64 0) w:=by kernel_rfl
theorem keysN:Keyed Tryz.prog 3:=int_keyed Tryz.underlying3
def IntsOwn (w:World) (base:Nat) (v:Value) (l:List Int):Prop:=w.ownsRow base 3 1 v l.length (l.map (Value.int .i64))
structure RState (w:World) (R O m B:Nat) (order:List Int):Prop where
 rbox:w.heap[R]? = some (.cells #[.map (some m)] 123 (0,0))
 own:∃ ov oc,w.heap[O]? = some (.cells #[.slice ov order.length oc] 55 (0,0)) ∧ IntsOwn w B (.slice ov order.length oc) order
 map:∃ D:DataW Unit,w.ownsMap Tryz.prog 3 (plainElem Tryz.prog 3) m order.length D ∧ ∀ z,Maps.has D (.int .i64 z) = decide (z ∈ order)
 low:B ≤ R ∧ B ≤ O ∧ B ≤ m ∧ B ≤ w.heap.size
theorem map_not_cells {w:World} {m n:Nat} {D:DataW Unit} {P:Program} {k:TypeId} {Rr:Value → Option (DataW Unit × List MemPlace)} (h:w.ownsMap P k Rr m n D) {g:Nat} {c:Array Value} {t:TypeId} {fr:Nat × Nat} (hg:w.heap[g]? = some (.cells c t fr)):g ≠ m:=by
 obtain ⟨es,clock,hb,_⟩:=h
 intro e
 subst e
 rw [hg] at hb
 simp at hb
theorem map_ne_row {w:World} {m n:Nat} {D:DataW Unit} {P:Program} {k:TypeId} {Rr:Value → Option (DataW Unit × List MemPlace)} (h:w.ownsMap P k Rr m n D) {base:Nat} {e:TypeId} {size n':Nat} {v:Value} {xs:List Value} (hv:w.ownsRow base e size v n' xs):v.ownBlock = none ∨ v.ownBlock ≠ some m:=by
 rcases hv.2 with ⟨rfl,_⟩ | ⟨g,cap,cur,rfl,_,hg,_⟩
 ·exact Or.inl rfl
 ·refine Or.inr (fun e => ?_)
  simp only [Value.ownBlock,Option.some.injEq] at e
  exact map_not_cells h hg e
theorem RState.below {w w':World} {R O m B:Nat} {order:List Int} (h:RState w R O m B order) (hb:Below w.heap.size w w'):RState w' R O m B order:=by
 obtain ⟨ov,oc,ho,hi⟩:=h.own
 obtain ⟨D,hD,hh⟩:=h.map
 exact ⟨(hb.block _ (Array.getElem?_eq_some_iff.1 h.rbox).1).trans h.rbox,⟨ov,oc,(hb.block _ (Array.getElem?_eq_some_iff.1 ho).1).trans ho,ownsRow_below hi hb⟩,
  ⟨D,hD.kept (row:=none) ⟨hb.os,hb.tape,hb.output,hb.size,fun k hk _ => hb.block k hk⟩ (by simp),hh⟩,h.low.1,h.low.2.1,h.low.2.2.1,Nat.le_trans h.low.2.2.2 hb.size⟩
theorem wpList_pushInt {w:World} {base:Nat} {v:Value} {l:List Int} {ops:Array Oper} {rest:List Oper} {o:Oper} {a:Act} {Q:Exit → Act → World → Prop} (hgd:o.guard = none) (s x:Operand)
  (ho:o.op = .call { callee:=.builtin .append,args:=#[s,x],argTypes:=#[55,55] }) (hs:a.eval s = v) (hO:IntsOwn w base v l) (hb:base ≤ w.heap.size)
  (n:Int) (hx:a.eval x = .slice (some ⟨w.heap.size,0,none⟩) 1 1) (hl:8 * l.length + 8 ≤ 140737488355328)
  (h:∀ g cap w',IntsOwn w' base (.slice (some ⟨g,0,none⟩) (l.length + 1) cap) (l ++ [n]) → (w.alloc (.cells #[.int .i64 n] 3)).grownBy w' v.ownBlock → Below base w w' → wpList Tryz.prog ops Q rest (a.put o.dst (.slice (some ⟨g,0,none⟩) (l.length + 1) cap)) w') :
  wpList Tryz.prog ops Q (o :: rest) a (w.alloc (.cells #[.int .i64 n] 3)):=by
 obtain ⟨i0,hi0,hzz⟩:=Option.map_eq_some_iff.1 Tryz.infoN
 simp only [Prod.mk.injEq] at hzz
 obtain ⟨hz0,hz1,hz2⟩:=hzz
 refine wpList_append_lies _ hgd s x 55 ho base 3 i0 (.int .i64 0) 1 8 Tryz.underlying55 hi0 hz0 hz1 hz2 rfl (by decide) v l.length (l.map (Value.int .i64)) hs (World.ownsRow.alloc hO _) ⟨w.heap.size,0,none⟩ 1 1 [.int .i64 n] hx rfl (cell_one_new _ _ _) ?_ (by decide) (by unfold maxLen; omega) (by omega) (by simp; omega) (w.heap.size + 1) (by simp) ?_
 ·intro u hu
  simp at hu
  subst hu
  rfl
 ·intro g cap w' h1 h2 _ _
  refine h g cap w' ?_ h2 ((below_box_base hb _).trans ((Below.refl _ _).grown h2 (by simp; omega) (fun j hj => (World.ownsRow.lt hO j hj).1)))
  unfold IntsOwn
  simpa using h1
theorem RState.push {w w1 w2:World} {R O m B:Nat} {order:List Int} {ov:Option Addr} {oc g gc:Nat} {D:DataW Unit} {n:Int} {d:DataW Unit} (h:RState w R O m B order)
  (ho:w.heap[O]? = some (.cells #[.slice ov order.length oc] 55 (0,0))) (hi:IntsOwn w B (.slice ov order.length oc) order)
  (hD:w.ownsMap Tryz.prog 3 (plainElem Tryz.prog 3) m order.length D) (hh:∀ z,Maps.has D (.int .i64 z) = decide (z ∈ order))
  (hD1:w1.ownsMap Tryz.prog 3 (plainElem Tryz.prog 3) m (order.length + 1) (D.put (.int .i64 n) d)) (hg1:w.grownBy w1 (some m))
  (hi2:IntsOwn w2 B (.slice (some ⟨g,0,none⟩) (order.length + 1) gc) (order ++ [n])) (hg2:(w1.alloc (.cells #[.int .i64 n] 3)).grownBy w2 (Value.slice ov order.length oc).ownBlock) :
  RState (w2.setCell ⟨O,0,none⟩ (.slice (some ⟨g,0,none⟩) (order.length + 1) gc)) R O m B (order ++ [n]) ∧ Below B w (w2.setCell ⟨O,0,none⟩ (.slice (some ⟨g,0,none⟩) (order.length + 1) gc)):=by
 have hlow:=h.low
 have hOlt:=(Array.getElem?_eq_some_iff.1 ho).1
 have hRlt:=(Array.getElem?_eq_some_iff.1 h.rbox).1
 have hRm:=map_not_cells hD h.rbox
 have hOm:=map_not_cells hD ho
 have R1:w1.heap[R]? = _:=(hg1.block R hRlt (by simp [hRm])).trans h.rbox
 have O1:w1.heap[O]? = _:=(hg1.block O hOlt (by simp [hOm])).trans ho
 have hi1:IntsOwn w1 B (.slice ov order.length oc) order:=hi.kept hg1 (map_ne_row hD hi)
 have hs1:=hg1.size
 have hia:=World.ownsRow.alloc hi1 (.cells #[.int .i64 n] 3)
 have R2:w2.heap[R]? = some (.cells #[.map (some m)] 123 (0,0)):=owns_blk hia hg2 ((Deep.blk_alloc_lt _ _ _ (by omega)).trans R1) (by decide)
 have O2:w2.heap[O]? = some (.cells #[.slice ov order.length oc] 55 (0,0)):=owns_blk hia hg2 ((Deep.blk_alloc_lt _ _ _ (by omega)).trans O1) (by decide)
 have hD2:=(hD1.alloc (.cells #[.int .i64 n] 3)).kept hg2 (by
  rcases map_ne_row hD1 hi1 with hn | hn
  ·rw [hn]; simp
  ·exact Ne.symm hn)
 have hRO:R ≠ O:=fun e => by
  have:=h.rbox
  rw [e,ho] at this
  simp at this
 have hB1:Below B w w1:=(Below.refl _ _).grown hg1 hlow.2.2.2 (fun k hk => by cases hk; exact hlow.2.2.1)
 have hB2:Below B w w2:=(hB1.alloc (by omega) _).grown hg2 (by simp; omega) (fun k hk => (World.ownsRow.lt hi k hk).1)
 refine ⟨⟨?_,⟨some ⟨g,0,none⟩,gc,?_,?_⟩,⟨D.put (.int .i64 n) d,?_,fun z => ?_⟩,hlow.1,hlow.2.1,hlow.2.2.1,?_⟩,hB2.setCell hlow.2.1 _⟩
 ·rw [Deep.blk_setCell_other _ _ _ _ hRO]
  exact R2
 ·rw [setCell_blk O2 0 _]
  simp
 ·have e:(order ++ [n]).length = order.length + 1:=by simp
  rw [e]
  refine ownsRow_set_other hi2 ?_ _ _
  refine Or.inr (fun e1 => ?_)
  simp only [Value.ownBlock,Option.some.injEq] at e1
  subst e1
  obtain ⟨g',cap',cur,e2,_,hgg,_⟩:=(hi2.2).resolve_left (fun x => by simp at x)
  simp only [Value.slice.injEq,Option.some.injEq,Addr.mk.injEq,and_true] at e2
  obtain ⟨rfl,_,_⟩:=e2
  rw [O2] at hgg
  simp only [Option.some.injEq,Obj.cells.injEq] at hgg
  exact absurd hgg.2.1 (by decide)
 ·rw [show (order ++ [n]).length = order.length + 1 by simp]
  exact hD2.setCell (Ne.symm (map_not_cells hD2 O2)) _
 ·by_cases hz:z = n
  ·subst hz
   rw [has_put_same hD.isMap (by simp [WideAt.IsKeyLit])]
   simp
  ·rw [has_put_other (by simp [hz]),hh z]
   simp [hz]
 ·simp only [World.setCell,Array.size_modify]
  exact Nat.le_trans hlow.2.2.2 hB2.size
theorem wf64 {n:Int} (h1:-9223372036854775808 ≤ n) (h2:n ≤ 9223372036854775807):(Lit.int .i64 n).wf = true:=WalkArith.wf_i64 ⟨h1,h2⟩
set_option maxHeartbeats 1000000 in
theorem visit_any (k n:Int) (L:Int) (R O m B:Nat) (order:List Int) (w:World) (hst:RState w R O m B order) (hv:vMay L ⟨k,n⟩ = true) (hL:L ≤ 60) (hol:order.length ≤ 60) :
  Calls Tryz.prog 136 #[.agg #[.int .i64 k,.int .i64 n],.pointer (some ⟨R,0,none⟩),.pointer (some ⟨O,0,none⟩)] w fun e w' => e = .returned (.tuple #[]) ∧ RState w' R O m B (visit order ⟨k,n⟩) ∧ Below B w w':=by
 by_cases hk:k = 2
 ·subst hk
  have hn0:0 ≤ n:=by simp [vMay] at hv; omega
  have hn1:n < 60:=by simp [vMay] at hv; omega
  clear hv
  have hV:Aside (visit order ⟨2,n⟩ = if n ∈ order then order else order ++ [n]):=rfl
  have ha:=hst.below (below_box w (Obj.cells #[.int .i64 2,.int .i64 n] 86))
  have hlow:=hst.low
  obtain ⟨ov,oc,ho,hi⟩:=ha.own
  obtain ⟨D,hD,hh⟩:=ha.map
  have c0:=cell_blk ha.rbox 0
  have c1:=cell_blk ho 0
  simp at c0 c1
  have hO0:=fz_blk ho 0
  have hkey:=keyOf_int_mk (P:=Tryz.prog) (k:=3) (q:=.i64) (a:=n) Tryz.underlying3 (wf64 (by omega) (by omega))
  by_cases hin:n ∈ order
  ·have hhas:Maps.has D (.int .i64 n) = true:=by rw [hh]; simp [hin]
   go_enter Tryz.func136,Tryz.ntmps136
   go_wp2_with (at_lookup; refine wpList_lookup_own_ok_int _ rfl _ _ 123 rfl 3 3 .i64 keysN Tryz.underlying123 Tryz.underlying3 (Tryz.zeroN _) m order.length D rfl hD _ _ rfl hkey ?_; intro c hat hwc; rw [hhas])
   first
    | go_end0
    | (refine bodyPost_ret (v:=.tuple #[]) (by simp [results,Tryz.results136]) rfl ?_)
   refine ⟨rfl,?_,below_box_base hlow.2.2.2 _⟩
   rw [hV.out,if_pos hin]
   exact ha
  ·have hhas:Maps.has D (.int .i64 n) = false:=by rw [hh]; simp [hin]
   go_enter Tryz.func136,Tryz.ntmps136
   have hs0:B ≤ (w.alloc (Obj.cells #[.int .i64 2,.int .i64 n] 86)).heap.size:=by simp; omega
   go_wp2_with (first
    | (at_lookup; refine wpList_lookup_own_ok_int _ rfl _ _ 123 rfl 3 3 .i64 keysN Tryz.underlying123 Tryz.underlying3 (Tryz.zeroN _) m order.length D rfl hD _ _ rfl hkey ?_; intro c hat hwc; rw [hhas])
    | (at_mapUpdate; refine wpList_mapUpdate_own _ rfl _ _ _ 123 rfl 3 3 keysN Tryz.underlying123 _ m order.length D rfl hD ?m1 _ _ _ rfl rfl hkey _ [] (plainElem_int Tryz.underlying3 (wf64 ?m2 ?m3)) ?_; (case m1 => unfold maxLen; omega); (case m2 => omega); (case m3 => omega); intro w1 hD1 hg1; have O1:=(hg1.block O (Array.getElem?_eq_some_iff.1 ho).1 (by simp [map_not_cells hD ho])).trans ho; have hi1:=hi.kept hg1 (map_ne_row hD hi); have c1':=cell_blk O1 0; simp at c1'; have V1:=(hg1.block w.heap.size (by simp) (by simp [map_not_cells hD (Deep.blk_alloc_new w _)])).trans (Deep.blk_alloc_new w _); have v1':=cell_blk V1 1; simp at v1'; have hs1:B ≤ w1.heap.size:=Nat.le_trans hs0 hg1.size)
    | (at_builtin; refine wpList_pushInt rfl _ _ (by rfl) (v:=.slice ov order.length oc) (by rfl) hi1 hs1 n (by rfl) ?b1 ?_; (case b1 => omega); intro g gc w2 hi2 hg2 hb2; have O2:=owns_blk (World.ownsRow.alloc hi1 (.cells #[.int .i64 n] 3)) hg2 ((Deep.blk_alloc_lt _ _ _ (Array.getElem?_eq_some_iff.1 O1).1).trans O1) (by decide); have c2:=cell_blk O2 0; have f2:=fz_blk O2 0; simp at c2)
    | fail)
   first
    | go_end0
    | (refine bodyPost_ret (v:=.tuple #[]) (by simp [results,Tryz.results136]) rfl ?_)
   obtain ⟨h1,h2⟩:=ha.push ho hi hD hh hD1 hg1 hi2 hg2
   refine ⟨rfl,?_,(below_box_base hlow.2.2.2 _).trans h2⟩
   rw [hV.out,if_neg hin]
   exact h1
 ·have hV:visit order ⟨k,n⟩ = order:=by simp [visit,hk]
  have hkb:(k != 2) = true:=by simp [hk]
  rw [hV]
  have hlow:=hst.low
  go_enter Tryz.func136,Tryz.ntmps136
  go_wp2
  first
   | go_end0
   | (refine bodyPost_ret (v:=.tuple #[]) (by simp [results,Tryz.results136]) rfl ?_)
  exact ⟨rfl,hst.below (below_box _ _),(below_box_base hlow.2.2.2 _)⟩
end
end Go.Proofs.YtddokajfafmhhaaGreatDoor
