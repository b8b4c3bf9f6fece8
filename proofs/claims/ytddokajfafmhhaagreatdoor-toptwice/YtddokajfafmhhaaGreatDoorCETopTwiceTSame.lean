/- TSolo TKeep HEq TSame. -/
import Derived.Deep.Modes
import Derived.Test.YtddokajfafmhhaaGreatDoorCBFacts
import Derived.Test.YtddokajfafmhhaaGreatDoorCBWIsWorld
namespace Go.Proofs.YtddokajfafmhhaaGreatDoor
set_option maxRecDepth 100000
set_option maxHeartbeats 8000000
section
theorem tell_prints (w:Wd) (tq n m:Int):(tellS w tq n m).prints=w.prints:=by
 unfold tellS
 split <;> rfl
theorem tell_acts (w:Wd) (tq n m:Int):(tellS w tq n m).acts.length=w.acts.length:=by
 unfold tellS
 split
 ·exact put_len _ _ _
 ·rfl
theorem end_prints (w:Wd) (who:Nat) (way:Int):(endS w who way).prints=w.prints:=(tell_prints _ _ _ _).trans rfl
theorem end_acts (w:Wd) (who:Nat) (way:Int):(endS w who way).acts.length=w.acts.length:=(tell_acts _ _ _ _).trans (put_len _ _ _)
theorem arrive_rest (w:Wd) (who:Nat) (tq:Int) (t:TrR):(arriveS w who tq t).prints=w.prints∧(arriveS w who tq t).acts.length=w.acts.length:=by
 unfold arriveS
 split
 ·exact ⟨rfl,rfl⟩
 ·exact ⟨rfl,by rw [put_len,put_len]⟩
theorem gone_rest (w:Wd) (who:Nat) (i:Ins):(goneS w who i).prints=w.prints∧(goneS w who i).acts.length=w.acts.length:=by
 unfold goneS
 split
 ·exact ⟨rfl,rfl⟩
 split
 ·exact ⟨rfl,put_len _ _ _⟩
 ·unfold deliverS
  split
  ·have:=arrive_rest (w.put ((w.at who).reg i.b).n (clearS (w.at ((w.at who).reg i.b).n))) who ((w.at who).reg i.b).n (trW (w.put ((w.at who).reg i.b).n (clearS (w.at ((w.at who).reg i.b).n))) who i.a ((w.at who).reg i.b).n (decide (i.op=13)))
   exact ⟨this.1,this.2.trans (put_len _ _ _)⟩
  ·exact arrive_rest _ _ _ _
theorem perform_rest (w:Wd) (who:Nat) (i:Ins):(w.prints <+: (performS w who i).1.prints∧(performS w who i).1.prints.length≤w.prints.length+1)∧w.acts.length≤(performS w who i).1.acts.length∧(performS w who i).1.acts.length≤w.acts.length+1:=by
 unfold performS
 split
 ·unfold sendS
  split
  ·exact ⟨⟨List.prefix_refl _,Nat.le_succ _⟩,Nat.le_refl _,Nat.le_succ _⟩
  have hg:=gone_rest w who i
  split
  ·refine ⟨by show w.prints <+: (goneS w who i).prints∧(goneS w who i).prints.length≤_;rw [hg.1];exact ⟨List.prefix_refl _,Nat.le_succ _⟩,?_,?_⟩ <;> (show _≤_;rw [put_len,hg.2];omega)
  ·exact ⟨by rw [hg.1];exact ⟨List.prefix_refl _,Nat.le_succ _⟩,by rw [hg.2];exact Nat.le_refl _,by rw [hg.2];omega⟩
 split
 ·unfold reportS
  split
  ·exact ⟨⟨List.prefix_refl _,Nat.le_succ _⟩,Nat.le_refl _,Nat.le_succ _⟩
  split
  ·exact ⟨⟨List.prefix_append _ _,by simp⟩,Nat.le_refl _,Nat.le_succ _⟩
  ·exact ⟨⟨List.prefix_refl _,Nat.le_succ _⟩,Nat.le_refl _,Nat.le_succ _⟩
 split
 ·unfold spawnS
  split
  ·exact ⟨⟨List.prefix_refl _,Nat.le_succ _⟩,Nat.le_refl _,Nat.le_succ _⟩
  split
  ·exact ⟨⟨List.prefix_refl _,Nat.le_succ _⟩,Nat.le_refl _,Nat.le_succ _⟩
  split
  ·exact ⟨⟨List.prefix_refl _,Nat.le_succ _⟩,Nat.le_refl _,Nat.le_succ _⟩
  ·refine ⟨⟨List.prefix_refl _,Nat.le_succ _⟩,?_,?_⟩ <;> (show _≤_;rw [List.length_append,put_len];simp)
 ·exact ⟨⟨List.prefix_refl _,Nat.le_succ _⟩,by rw [put_len];exact Nat.le_refl _,by rw [put_len];omega⟩
theorem act_rest (X:Nat→Nat→Nat→Int) (w:Wd) (a:Ax):(w.prints <+: (actS X w a).prints∧(actS X w a).prints.length≤w.prints.length+1)∧w.acts.length≤(actS X w a).acts.length∧(actS X w a).acts.length≤w.acts.length+1:=by
 unfold actS
 split
 ·exact ⟨⟨List.prefix_refl _,Nat.le_succ _⟩,Nat.le_refl _,Nat.le_succ _⟩
 split
 ·unfold stepS
  split
  ·exact ⟨⟨List.prefix_refl _,Nat.le_succ _⟩,Nat.le_refl _,Nat.le_succ _⟩
  split
  ·exact ⟨⟨List.prefix_refl _,Nat.le_succ _⟩,by rw [put_len];exact Nat.le_refl _,by rw [put_len];omega⟩
  ·have hp:=perform_rest (w.put a.who.toNat { (w.at a.who.toNat) with pc:=nextS (w.at a.who.toNat) (insAt X (w.at a.who.toNat).kind (w.at a.who.toNat).pc) }) a.who.toNat (insAt X (w.at a.who.toNat).kind (w.at a.who.toNat).pc)
   rw [put_len] at hp
   unfold doneS
   split
   ·rw [end_prints,end_acts];exact hp
   ·exact hp
 split
 ·exact ⟨⟨List.prefix_refl _,Nat.le_succ _⟩,by rw [put_len];exact Nat.le_refl _,by rw [put_len];omega⟩
 ·rw [tell_prints,tell_acts];exact ⟨⟨List.prefix_refl _,Nat.le_succ _⟩,Nat.le_refl _,Nat.le_succ _⟩
theorem run_rest (X:Nat→Nat→Nat→Int):∀ (l:List Ax) (w:Wd),(∀ a∈l,axFault a=0)→w.prints <+: (runS X w l).1.prints
 | [],w,_=>List.prefix_refl _
 | a :: r,w,h=>by
  rw [runS,if_neg (by simp [h a (by simp)])]
  exact (act_rest X w a).1.1.trans (run_rest X r _ (fun b hb=>h b (by simp [hb])))
theorem run_app (X:Nat→Nat→Nat→Int):∀ (l m:List Ax) (w:Wd),(∀ a∈l,axFault a=0)→runS X w (l++m)=runS X (runS X w l).1 m
 | [],m,w,_=>rfl
 | a :: r,m,w,h=>by
  rw [List.cons_append,runS,if_neg (by simp [h a (by simp)]),runS,if_neg (by simp [h a (by simp)])]
  exact run_app X r m _ (fun b hb=>h b (by simp [hb]))
end
section
open Go.RowKit
section
variable {w w':World} {R:Nat}
end
def pX (l:List Rw):Nat→Nat→Nat→Int:=xOf (programS l 14)
def pL (l:List Rw):Nat→Nat:=lenOf (programS l 14)
def pF (l:List Rw) (r:Nat):List Pt:=flowS (xOf (programS l 14) r) (lenOf (programS l 14) r)
theorem play_ver (l:List Rw):Ver 3 (pL l) (pX l) (pF l):=(ver_of (by show (ckS 3 (lenOf (programS l 14)) (xOf (programS l 14))).2.2=0;exact congrArg (fun q=>q.2.2) (program_ok l 14))).2
end
section
open Go.RowKit
theorem equalInts_any (aa ab:Option Addr) (ca cb:Nat) (l:List Int) (w:World) (ha:IntsAt w aa l) (hb:IntsAt w ab l) (hl:l.length≤8796093022208) :
  Calls Tryz.prog 23 #[.slice aa l.length ca,.slice ab l.length cb] w fun e w'=>e=.returned (.bool true)∧∃ n,w'=w.drewN n:=by
 obtain ⟨L,hL⟩:∃ L,L=l.length:=⟨_,rfl⟩
 have HL:Aside (L=l.length):=hL
 rw [← hL] at hl ⊢
 clear hL
 go_enter Tryz.func23,Tryz.ntmps23
 go_wp2
 go_loopg [13,5] L (fun g s13 s5 wr=>∃ i n:Nat,i≤L∧g=L - i∧s13=.int .i64 i∧wr=w.drewN n)
 case atStart=>exact ⟨0,0,Nat.zero_le _,rfl,rfl,rfl⟩
 case round =>
  obtain ⟨i,n,hi,rfl,rfl,rfl⟩:=hrel
  by_cases hiL:i < L
  ·have hiz:(i:Int) < (L:Int):=by omega
   obtain ⟨z,hv⟩:=at_some (l:=l) (i:=i) (by rw [← HL.out];exact hiL)
   obtain ⟨ba,oa,rfl,a1⟩:=ha i _ hv
   obtain ⟨bb,ob,rfl,b1⟩:=hb i _ hv
   clear hv
   go_wp2
   go_quiet (fail)
   go_wp2
   go_roundg (L - (i+1))
   case measure=>go_light;omega
   case rel=>go_light;exact ⟨i+1,_,by omega,rfl,by go_num,rfl⟩
  ·go_wp2
   go_ret
   exact ⟨rfl,_,rfl⟩
theorem equalVals_any (aa ab:Option Addr) (ca cb:Nat) (l:List Vl) (w:World) (ha:ValsAt w aa l) (hb:ValsAt w ab l) (hl:l.length≤8796093022208) :
  Calls Tryz.prog 51 #[.slice aa l.length ca,.slice ab l.length cb] w fun e w'=>e=.returned (.bool true)∧∃ n,w'=w.drewN n:=by
 obtain ⟨L,hL⟩:∃ L,L=l.length:=⟨_,rfl⟩
 have HL:Aside (L=l.length):=hL
 rw [← hL] at hl ⊢
 clear hL
 go_enter Tryz.func51,Tryz.ntmps51
 go_wp2
 go_loopg [13,5] L (fun g s13 s5 wr=>∃ i n:Nat,i≤L∧g=L - i∧s13=.int .i64 i∧wr=w.drewN n)
 case atStart=>exact ⟨0,0,Nat.zero_le _,rfl,rfl,rfl⟩
 case round =>
  obtain ⟨i,n,hi,rfl,rfl,rfl⟩:=hrel
  by_cases hiL:i < L
  ·have hiz:(i:Int) < (L:Int):=by omega
   obtain ⟨⟨vk,vn⟩,hv⟩:=at_some (l:=l) (i:=i) (by rw [← HL.out];exact hiL)
   obtain ⟨ba,oa,rfl,a1,a2⟩:=ha i _ hv
   obtain ⟨bb,ob,rfl,b1,b2⟩:=hb i _ hv
   simp only at a1 a2 b1 b2
   clear hv
   go_wp2
   go_quiet (fail)
   go_wp2
   go_roundg (L - (i+1))
   case measure=>go_light;omega
   case rel=>go_light;exact ⟨i+1,_,by omega,rfl,by go_num,rfl⟩
  ·go_wp2
   go_ret
   exact ⟨rfl,_,rfl⟩
end
section
open Go.RowKit
theorem equalTold_any (aa ab:Option Addr) (ca cb:Nat) (l:List (Int × Int)) (w:World) (ha:ToldAt w aa l) (hb:ToldAt w ab l) :
  Calls Tryz.prog 32 #[.slice aa l.length ca,.slice ab l.length cb] w fun e w'=>e=.returned (.bool true)∧∃ n,w'=w.drewN n:=by
 have hl:=ha.many
 obtain ⟨L,hL⟩:∃ L,L=l.length:=⟨_,rfl⟩
 have HL:Aside (L=l.length):=hL
 rw [← hL] at hl ⊢
 clear hL
 go_enter Tryz.func32,Tryz.ntmps32
 go_wp2
 go_loopg [13,5] L (fun g s13 s5 wr=>∃ i n:Nat,i≤L∧g=L - i∧s13=.int .i64 i∧wr=w.drewN n)
 case atStart=>exact ⟨0,0,Nat.zero_le _,rfl,rfl,rfl⟩
 case round =>
  obtain ⟨i,n,hi,rfl,rfl,rfl⟩:=hrel
  by_cases hiL:i < L
  ·have hiz:(i:Int) < (L:Int):=by omega
   obtain ⟨⟨vk,vn⟩,hv⟩:=at_some (l:=l) (i:=i) (by rw [← HL.out];exact hiL)
   obtain ⟨ba,oa,rfl,a1,a2⟩:=ha.cell i _ hv
   obtain ⟨bb,ob,rfl,b1,b2⟩:=hb.cell i _ hv
   simp only at a1 a2 b1 b2
   clear hv
   go_wp2
   go_quiet (fail)
   go_wp2
   go_roundg (L - (i+1))
   case measure=>go_light;omega
   case rel=>go_light;exact ⟨i+1,_,by omega,rfl,by go_num,rfl⟩
  ·go_wp2
   go_ret
   exact ⟨rfl,_,rfl⟩
theorem sameOb_any (oa ob:Option Addr) (ca cb:Nat) (o:Ob) (w:World) (ha:ValsAt w oa o.fs) (hb:ValsAt w ob o.fs) (hl:16*o.fs.length≤140737488351232) :
  Calls Tryz.prog 53 #[.agg #[.slice oa o.fs.length ca,.bool o.dead],.agg #[.slice ob o.fs.length cb,.bool o.dead]] w fun e w'=>e=.returned (.bool true)∧Below w.heap.size w w':=by
 obtain ⟨fs,dead⟩:=o
 simp only at ha hb hl ⊢
 obtain ⟨N0,N1,k1,b1,s1⟩:=boxes2 w (.cells #[.slice oa fs.length ca,.bool dead] 97) (.cells #[.slice ob fs.length cb,.bool dead] 97)
 have heq:=fun (w:World) (ha:ValsAt w oa fs) (hb:ValsAt w ob fs)=>equalVals_any oa ob ca cb fs w ha hb (by omega)
 generalize fs.length=L at *
 go_enter Tryz.func53,Tryz.ntmps53
 go_upto_region 1 with fail
 generalize (w.alloc (.cells #[.slice oa L ca,.bool dead] 97)).alloc (.cells #[.slice ob L cb,.bool dead] 97)=W at *
 have c0:=cell_blk N0 0
 have c1:=cell_blk N0 1
 have d0:=cell_blk N1 0
 have d1:=cell_blk N1 1
 simp at c0 c1 d0 d1
 have hd:(dead == dead)=true:=by simp
 go_wp2_with fail
 refine (heq W (ha.keeps k1) (hb.keeps k1)).mono ?_
 rintro e w' ⟨rfl,n,rfl⟩
 go_wp2
 go_ret
 exact ⟨ret_bool (by simp),below_drewN b1 n⟩
theorem equalObs_any (aa ab:Option Addr) (ca cb:Nat) (l:List Ob) (w:World) (ha:ObsAt w aa l) (hb:ObsAt w ab l) :
  Calls Tryz.prog 52 #[.slice aa l.length ca,.slice ab l.length cb,.func (.func 53) #[] #[]] w fun e w'=>e=.returned (.bool true)∧Below w.heap.size w w':=by
 have hl:=ha.many
 obtain ⟨L,hL⟩:∃ L,L=l.length:=⟨_,rfl⟩
 have HL:Aside (L=l.length):=hL
 rw [← hL] at hl ⊢
 clear hL
 go_enter Tryz.func52,Tryz.ntmps52
 go_wp2
 go_loopg [17,7,8,9] L (fun g s17 s7 s8 s9 wr=>∃ i:Nat,i≤L∧g=L - i∧s17=.int .i64 i∧Below w.heap.size w wr)
 case atStart=>exact ⟨0,Nat.zero_le _,rfl,rfl,Below.refl _ _⟩
 case round =>
  obtain ⟨i,hi,rfl,rfl,hbr⟩:=hrel
  by_cases hiL:i < L
  ·have hiz:(i:Int) < (L:Int):=by omega
   obtain ⟨x,hx⟩:=at_some (l:=l) (i:=i) (by rw [← HL.out];exact hiL)
   obtain ⟨b1,o1,fa,fc,rfl,p0,p1,pv,pl⟩:=(ha.keeps (Keeps.below hbr)).cell i x hx
   obtain ⟨b2,o2,ga,gc,rfl,q0,q1,qv,_⟩:=(hb.keeps (Keeps.below hbr)).cell i x hx
   clear hx
   obtain ⟨N0,N1,k1,bb,s1⟩:=boxes2 wr (.cells #[.slice fa x.fs.length fc,.bool x.dead] 97) (.cells #[.slice ga x.fs.length gc,.bool x.dead] 97)
   have ka:=Keeps.alloc wr (.cells #[.slice fa x.fs.length fc,.bool x.dead] 97)
   replace q0:=ka _ _ q0
   replace q1:=ka _ _ q1
   have hc:=fun (w:World) (ha:ValsAt w fa x.fs) (hb:ValsAt w ga x.fs)=>sameOb_any fa ga fc gc x w ha hb pl
   go_upto_region 7 with fail
   have hcW:=hc _ (pv.keeps k1) (qv.keeps k1)
   have hB2:=hbr.trans (bb.mono hbr.size)
   clear hc ka q0 q1 p0 p1 pv qv pl
   generalize (wr.alloc (.cells #[.slice fa x.fs.length fc,.bool x.dead] 97)).alloc (.cells #[.slice ga x.fs.length gc,.bool x.dead] 97)=W at *
   have c0:=cell_blk N0 0
   have c1:=cell_blk N0 1
   have d0:=cell_blk N1 0
   have d1:=cell_blk N1 1
   simp at c0 c1 d0 d1
   go_wp2_with fail
   refine hcW.mono ?_
   rintro e w' ⟨rfl,hb'⟩
   have hB3:=hB2.trans (hb'.mono hB2.size)
   go_wp2
   go_roundg (L - (i+1))
   case measure=>go_light;omega
   case rel=>go_light;exact ⟨i+1,by omega,rfl,by go_num,hB3⟩
  ·have hiz:¬ (i:Int) < (L:Int):=by omega
   go_wp2
   go_ret
   exact ⟨rfl,hbr⟩
theorem sameAc_any (kind par M M' pc fin:Int) (obs:List Ob) (regs box:List Vl) (oa ra ba ob rb bb:Option Addr) (oc rc bc od rd bd:Nat) (w:World) (h1:ObsAt w oa obs) (h2:ValsAt w ra regs) (h3:ValsAt w ba box) (k1:ObsAt w ob obs) (k2:ValsAt w rb regs) (k3:ValsAt w bb box) (hr:16*regs.length≤140737488351232) (hb:16*box.length≤140737488351232) :
  Calls Tryz.prog 50 #[.agg #[.int .i64 kind,.int .i64 par,.int .i64 M,.slice oa obs.length oc,.slice ra regs.length rc,.int .i64 pc,.slice ba box.length bc,.int .i64 fin],.agg #[.int .i64 kind,.int .i64 par,.int .i64 M',.slice ob obs.length od,.slice rb regs.length rd,.int .i64 pc,.slice bb box.length bd,.int .i64 fin]] w fun e w'=>e=.returned (.bool true)∧Below w.heap.size w w':=by
 obtain ⟨N0,N1,kk,b1,s1⟩:=boxes2 w (.cells #[.int .i64 kind,.int .i64 par,.int .i64 M,.slice oa obs.length oc,.slice ra regs.length rc,.int .i64 pc,.slice ba box.length bc,.int .i64 fin] 42) (.cells #[.int .i64 kind,.int .i64 par,.int .i64 M',.slice ob obs.length od,.slice rb regs.length rd,.int .i64 pc,.slice bb box.length bd,.int .i64 fin] 42)
 have ho:=fun (w:World) (ha:ObsAt w oa obs) (hb:ObsAt w ob obs)=>equalObs_any oa ob oc od obs w ha hb
 have hre:=fun (w:World) (ha:ValsAt w ra regs) (hb:ValsAt w rb regs)=>equalVals_any ra rb rc rd regs w ha hb (by omega)
 have hbe:=fun (w:World) (ha:ValsAt w ba box) (hb:ValsAt w bb box)=>equalVals_any ba bb bc bd box w ha hb (by omega)
 have HV:Aside (∀ w',Keeps w w'→(ObsAt w' oa obs∧ObsAt w' ob obs)∧(ValsAt w' ra regs∧ValsAt w' rb regs)∧(ValsAt w' ba box∧ValsAt w' bb box)):=fun w' q=>⟨⟨h1.keeps q,k1.keeps q⟩,⟨h2.keeps q,k2.keeps q⟩,⟨h3.keeps q,k3.keeps q⟩⟩
 clear h1 h2 h3 k1 k2 k3
 generalize obs.length=L at *
 generalize regs.length=R at *
 generalize box.length=B at *
 go_enter Tryz.func50,Tryz.ntmps50
 go_upto_region 1 with fail
 generalize (w.alloc (.cells #[.int .i64 kind,.int .i64 par,.int .i64 M,.slice oa L oc,.slice ra R rc,.int .i64 pc,.slice ba B bc,.int .i64 fin] 42)).alloc (.cells #[.int .i64 kind,.int .i64 par,.int .i64 M',.slice ob L od,.slice rb R rd,.int .i64 pc,.slice bb B bd,.int .i64 fin] 42)=W at *
 have c0:=cell_blk N0 0
 have c1:=cell_blk N0 1
 have c3:=cell_blk N0 3
 have c4:=cell_blk N0 4
 have c5:=cell_blk N0 5
 have c6:=cell_blk N0 6
 have c7:=cell_blk N0 7
 have d0:=cell_blk N1 0
 have d1:=cell_blk N1 1
 have d3:=cell_blk N1 3
 have d4:=cell_blk N1 4
 have d5:=cell_blk N1 5
 have d6:=cell_blk N1 6
 have d7:=cell_blk N1 7
 simp at c0 c1 c3 c4 c5 c6 c7 d0 d1 d3 d4 d5 d6 d7
 have e0:(kind == kind)=true:=by simp
 have e1:(par == par)=true:=by simp
 have e2:(pc == pc)=true:=by simp
 have e3:(fin == fin)=true:=by simp
 have hV:=HV.out W kk
 clear HV
 go_wp2_with fail
 refine (hre W hV.2.1.1 hV.2.1.2).mono ?_
 rintro e w' ⟨rfl,n1,rfl⟩
 have hb1:=below_drewN b1 n1
 have kn1:=Keeps.drewN W n1
 replace c3:=kn1 _ _ c3
 replace c6:=kn1 _ _ c6
 replace d3:=kn1 _ _ d3
 replace d6:=kn1 _ _ d6
 have hB:=hbe (W.drewN n1) (hV.2.2.1.keeps kn1) (hV.2.2.2.keeps kn1)
 have hO:=fun n=>ho ((W.drewN n1).drewN n) ((hV.1.1.keeps kn1).keeps (Keeps.drewN _ n)) ((hV.1.2.keeps kn1).keeps (Keeps.drewN _ n))
 clear c0 c1 c4 c5 c7 d0 d1 d4 d5 d7 hV kn1 hre hbe ho
 generalize W.drewN n1=W1 at *
 go_wp2_with fail
 refine hB.mono ?_
 rintro e w' ⟨rfl,n2,rfl⟩
 have hO2:=hO n2
 have hb2:=below_drewN hb1 n2
 have kn2:=Keeps.drewN W1 n2
 replace c3:=kn2 _ _ c3
 replace d3:=kn2 _ _ d3
 clear hO hB c6 d6 kn2 hb1
 generalize W1.drewN n2=W2 at *
 go_wp2_with fail
 refine hO2.mono ?_
 rintro e w' ⟨rfl,hb'⟩
 have hB3:=hb2.trans (hb'.mono hb2.size)
 go_wp2
 go_ret
 exact ⟨rfl,hB3⟩
theorem equalActs_any (aa ab:Option Addr) (ca cb:Nat) (l:List Ac) (w:World) (ha:ActsAt w aa l) (hb:ActsAt w ab l) :
  Calls Tryz.prog 49 #[.slice aa l.length ca,.slice ab l.length cb,.func (.func 50) #[] #[]] w fun e w'=>e=.returned (.bool true)∧Below w.heap.size w w':=by
 have hl:=ha.many
 obtain ⟨L,hL⟩:∃ L,L=l.length:=⟨_,rfl⟩
 have HL:Aside (L=l.length):=hL
 rw [← hL] at hl ⊢
 clear hL
 go_enter Tryz.func49,Tryz.ntmps49
 go_wp2
 go_loopg [17,7,8,9] L (fun g s17 s7 s8 s9 wr=>∃ i:Nat,i≤L∧g=L - i∧s17=.int .i64 i∧Below w.heap.size w wr)
 case atStart=>exact ⟨0,Nat.zero_le _,rfl,rfl,Below.refl _ _⟩
 case round =>
  obtain ⟨i,hi,rfl,rfl,hbr⟩:=hrel
  by_cases hiL:i < L
  ·have hiz:(i:Int) < (L:Int):=by omega
   obtain ⟨⟨kind,par,M,obs,regs,pc,box,fin⟩,hx⟩:=at_some (l:=l) (i:=i) (by rw [← HL.out];exact hiL)
   obtain ⟨b1,o1,oa,oc,ra,rc,ba,bc,rfl,A1⟩:=(ha.keeps (Keeps.below hbr)).cell i _ hx
   obtain ⟨b2,o2,ob,od,rb,rd,bb,bd,rfl,A2⟩:=(hb.keeps (Keeps.below hbr)).cell i _ hx
   clear hx
   obtain ⟨x0,x1,x2,x3,x4,x5,x6,x7,xo,xr,xb,rl,bl⟩:=A1
   obtain ⟨y0,y1,y2,y3,y4,y5,y6,y7,yo,yr,yb,_,_⟩:=A2
   simp only at x0 x1 x2 x3 x4 x5 x6 x7 xo xr xb rl bl y0 y1 y2 y3 y4 y5 y6 y7 yo yr yb
   obtain ⟨N0,N1,k1,bW,s1⟩:=boxes2 wr (.cells #[.int .i64 kind,.int .i64 par,.int .i64 M,.slice oa obs.length oc,.slice ra regs.length rc,.int .i64 pc,.slice ba box.length bc,.int .i64 fin] 42) (.cells #[.int .i64 kind,.int .i64 par,.int .i64 M,.slice ob obs.length od,.slice rb regs.length rd,.int .i64 pc,.slice bb box.length bd,.int .i64 fin] 42)
   have ka:=Keeps.alloc wr (.cells #[.int .i64 kind,.int .i64 par,.int .i64 M,.slice oa obs.length oc,.slice ra regs.length rc,.int .i64 pc,.slice ba box.length bc,.int .i64 fin] 42)
   replace y0:=ka _ _ y0
   replace y1:=ka _ _ y1
   replace y2:=ka _ _ y2
   replace y3:=ka _ _ y3
   replace y4:=ka _ _ y4
   replace y5:=ka _ _ y5
   replace y6:=ka _ _ y6
   replace y7:=ka _ _ y7
   have hc:=sameAc_any kind par M M pc fin obs regs box oa ra ba ob rb bb oc rc bc od rd bd _ (xo.keeps k1) (xr.keeps k1) (xb.keeps k1) (yo.keeps k1) (yr.keeps k1) (yb.keeps k1) rl bl
   have hB2:=hbr.trans (bW.mono hbr.size)
   clear xo xr xb yo yr yb rl bl ka
   generalize obs.length=O at *
   generalize regs.length=R at *
   generalize box.length=B at *
   go_upto_region 7 with fail
   clear x0 x1 x2 x3 x4 x5 x6 x7 y0 y1 y2 y3 y4 y5 y6 y7
   generalize (wr.alloc (.cells #[.int .i64 kind,.int .i64 par,.int .i64 M,.slice oa O oc,.slice ra R rc,.int .i64 pc,.slice ba B bc,.int .i64 fin] 42)).alloc (.cells #[.int .i64 kind,.int .i64 par,.int .i64 M,.slice ob O od,.slice rb R rd,.int .i64 pc,.slice bb B bd,.int .i64 fin] 42)=W at *
   have c0:=cell_blk N0 0
   have c1:=cell_blk N0 1
   have c2:=cell_blk N0 2
   have c3:=cell_blk N0 3
   have c4:=cell_blk N0 4
   have c5:=cell_blk N0 5
   have c6:=cell_blk N0 6
   have c7:=cell_blk N0 7
   have d0:=cell_blk N1 0
   have d1:=cell_blk N1 1
   have d2:=cell_blk N1 2
   have d3:=cell_blk N1 3
   have d4:=cell_blk N1 4
   have d5:=cell_blk N1 5
   have d6:=cell_blk N1 6
   have d7:=cell_blk N1 7
   simp at c0 c1 c2 c3 c4 c5 c6 c7 d0 d1 d2 d3 d4 d5 d6 d7
   go_wp2_with fail
   refine hc.mono ?_
   rintro e w' ⟨rfl,hb'⟩
   have hB3:=hB2.trans (hb'.mono hB2.size)
   go_wp2
   go_roundg (L - (i+1))
   case measure=>go_light;omega
   case rel=>go_light;exact ⟨i+1,by omega,rfl,by go_num,hB3⟩
  ·have hiz:¬ (i:Int) < (L:Int):=by omega
   go_wp2
   go_ret
   exact ⟨rfl,hbr⟩
theorem same_any (aa ab pa pb:Option Addr) (ca cb da db:Nat) (V:Wd) (w:World) (ha:ActsAt w aa V.acts) (hb:ActsAt w ab V.acts) (hp:ToldAt w pa V.prints) (hq:ToldAt w pb V.prints) :
  Calls Tryz.prog 26 #[.agg #[.slice aa V.acts.length ca,.slice pa V.prints.length da],.agg #[.slice ab V.acts.length cb,.slice pb V.prints.length db]] w fun e w'=>e=.returned (.bool true)∧Below w.heap.size w w':=by
 obtain ⟨N0,N1,kk,b1,s1⟩:=boxes2 w (.cells #[.slice aa V.acts.length ca,.slice pa V.prints.length da] 29) (.cells #[.slice ab V.acts.length cb,.slice pb V.prints.length db] 29)
 have hT:=equalTold_any pa pb da db V.prints _ (hp.keeps kk) (hq.keeps kk)
 have hA:=fun (w:World) (ha:ActsAt w aa V.acts) (hb:ActsAt w ab V.acts)=>equalActs_any aa ab ca cb V.acts w ha hb
 have HV:Aside (∀ w',Keeps w w'→ActsAt w' aa V.acts∧ActsAt w' ab V.acts):=fun w' q=>⟨ha.keeps q,hb.keeps q⟩
 clear ha hb hp hq
 generalize V.acts.length=L at *
 generalize V.prints.length=K at *
 go_enter Tryz.func26,Tryz.ntmps26
 go_upto_region 1 with fail
 generalize (w.alloc (.cells #[.slice aa L ca,.slice pa K da] 29)).alloc (.cells #[.slice ab L cb,.slice pb K db] 29)=W at *
 have c0:=cell_blk N0 0
 have c1:=cell_blk N0 1
 have d0:=cell_blk N1 0
 have d1:=cell_blk N1 1
 simp at c0 c1 d0 d1
 go_wp2_with fail
 refine hT.mono ?_
 rintro e w' ⟨rfl,n,rfl⟩
 have kn:=Keeps.drewN W n
 have hbn:=below_drewN b1 n
 replace c0:=kn _ _ c0
 replace d0:=kn _ _ d0
 have hV:=HV.out _ (kk.trans kn)
 generalize W.drewN n=W1 at *
 go_wp2_with fail
 refine (hA W1 hV.1 hV.2).mono ?_
 rintro e w' ⟨rfl,hb'⟩
 have hB3:=hbn.trans (hb'.mono hbn.size)
 go_wp2
 go_ret
 exact ⟨rfl,hB3⟩
end
end Go.Proofs.YtddokajfafmhhaaGreatDoor
