/- TSoundW JTopSound. -/
import Derived.Test.YtddokajfafmhhaaGreatDoorCBFacts
import Derived.Test.YtddokajfafmhhaaGreatDoorCBWIsWorld
namespace Go.Proofs.YtddokajfafmhhaaGreatDoor
set_option maxRecDepth 100000
set_option maxHeartbeats 8000000
section
open Go.RowKit
theorem broken_any (kind par M pc fin:Int) (oa ra ba:Option Addr) (O oc R rc B bc:Nat) (w:World) (hf:fin≠8):Calls Tryz.prog 19 #[.agg #[.int .i64 kind,.int .i64 par,.int .i64 M,.slice oa O oc,.slice ra R rc,.int .i64 pc,.slice ba B bc,.int .i64 fin]] w fun e w'=>e=.returned (.bool false)∧Below w.heap.size w w':=by
 have hfb:(fin == 8)=false:=by simp [hf]
 go_enter Tryz.func19,Tryz.ntmps19
 go_wp2
 go_ret
 exact ⟨ret_bool (by simp),below_box _ _⟩
theorem indexBroken_any (ao:Option Addr) (cap:Nat) (l:List Ac) (w:World) (h:ActsAt w ao l) (hf:∀ x∈l,x.fin≠8) :
  Calls Tryz.prog 41 #[.slice ao l.length cap,.func (.func 19) #[] #[]] w fun e w'=>e=.returned (.int .i64 (-1))∧Below w.heap.size w w':=by
 obtain ⟨L,hL⟩:∃ L,L=l.length:=⟨_,rfl⟩
 have HL:Aside (L=l.length):=hL
 have hm:=h.many
 rw [← hL] at hm ⊢
 clear hL
 go_enter Tryz.func41,Tryz.ntmps41
 go_wp2
 go_loopg [8] L (fun g s8 wr=>∃ i:Nat,i≤L∧g=L - i∧s8=.int .i64 i∧Below w.heap.size w wr)
 case atStart=>exact ⟨0,Nat.zero_le _,rfl,rfl,Below.refl _ _⟩
 case round =>
  obtain ⟨i,hi,rfl,rfl,hbr⟩:=hrel
  by_cases hiL:i < L
  ·have hiz:(i:Int) < (L:Int):=by omega
   obtain ⟨x,hx⟩:=at_some (l:=l) (i:=i) (by rw [← HL.out];exact hiL)
   have hfx:=hf x (List.mem_of_getElem? hx)
   obtain ⟨b,o,oa,oc,ra,rc,ba,bc,rfl,h1⟩:=(h.keeps (Keeps.below hbr)).cell i x hx
   obtain ⟨c0,c1,c2,c3,c4,c5,c6,c7,_,_,_,_,_⟩:=h1
   go_wp2_with fail
   refine (broken_any _ _ _ _ _ _ _ _ _ _ _ _ _ _ _ hfx).mono ?_
   rintro e w' ⟨rfl,hb'⟩
   have hb2:=hbr.trans (hb'.mono hbr.size)
   go_wp2_with fail
   go_roundg (L - (i+1))
   case measure=>go_light;omega
   case rel=>go_light;exact ⟨i+1,by omega,rfl,by go_num,hb2⟩
  ·have hiz:¬ (i:Int) < (L:Int):=by omega
   go_wp2
   go_ret
   exact ⟨rfl,hbr⟩
theorem containsBroken_any (ao:Option Addr) (cap:Nat) (l:List Ac) (w:World) (h:ActsAt w ao l) (hf:∀ x∈l,x.fin≠8) :
  Calls Tryz.prog 15 #[.slice ao l.length cap,.func (.func 19) #[] #[]] w fun e w'=>e=.returned (.bool false)∧Below w.heap.size w w':=by
 have hI:=indexBroken_any ao cap l w h hf
 generalize l.length=L at *
 have HI:Aside (Calls Tryz.prog 41 #[.slice ao L cap,.func (.func 19) #[] #[]] w _):=hI
 clear hI
 go_enter Tryz.func15,Tryz.ntmps15
 go_wp2_with fail
 refine Calls.mono HI.out ?_
 rintro e w' ⟨rfl,hb⟩
 go_wp2
 go_ret
 exact ⟨rfl,hb⟩
theorem topSound_any (l m:List Rw) (la ma:Option Addr) (lc mc:Nat) (most:Int) (w:World) (hT:TabAt 0 w) (h:RawsAt w la l) (hm:RawsAt w ma m) (hll:32*l.length≤140737488355328) (hmo:fit64 most) :
  Calls Tryz.prog 4 #[.slice la l.length lc,.slice ma m.length mc,.int .i64 most] w fun e w'=>e=.returned (.bool true)∧Below w.heap.size w w':=by
 have hpl:=fun w' (hb:Below w.heap.size w w')=>played_any l m la ma lc mc most w' (hT.keeps (Keeps.below hb)) (h.keeps (Keeps.below hb)) (hm.keeps (Keeps.below hb)) hll hmo
 obtain ⟨hOK,_⟩:=play_ok l m most
 have hfin:∀ x∈(playS l m most).acts,x.fin≠8:=fun x hx=>by
  obtain ⟨i,hi⟩:=List.mem_iff_getElem?.1 hx
  have:=(hOK.acts i x hi).fin
  omega
 have hck:ckS 3 (lenOf (programS l 14)) (xOf (programS l 14))=(0,0,0):=program_ok l 14
 have hw:wckS 3 (lenOf (programS l 14)) (xOf (programS l 14)) (playS l m most)=0:=by
  unfold wckS
  rw [hck,if_neg (by simp),hOK.may]
  rfl
 clear hOK hck
 go_enter Tryz.func4,Tryz.ntmps4
 go_wp2_with fail
 refine (worldTells_any w hT).mono ?_
 rintro e w1 ⟨rfl,hb1⟩
 go_wp2_with fail
 refine (hpl w1 hb1).mono ?_
 rintro e w2 ⟨ao,cap,xa,xc,aa,ac,pa,pc,rfl,hb2,hK,_,hVA,hVP⟩
 clear hpl
 obtain ⟨A,C,hPA,_,_⟩:=program_prog (by omega) hK
 have hB2:=hb1.trans (hb2.mono hb1.size)
 have hT2:=hT.keeps (Keeps.below hB2)
 have hchk:=fun w' (hb:Below w2.heap.size w2 w')=>acheck_any ao 3 cap A _ C _ aa pa ac pc (playS l m most) w' (hT2.keeps (Keeps.below hb)) (hPA.keeps (Keeps.below hb)) (hVA.keeps (Keeps.below hb)) (hVP.keeps (Keeps.below hb))
 rw [hw] at hchk
 have hcon:=fun w' (hb:Below w2.heap.size w2 w')=>containsBroken_any aa ac (playS l m most).acts w' (hVA.keeps (Keeps.below hb)) hfin
 generalize playS l m most=V at *
 obtain ⟨NP,NW,_,cb,_⟩:=boxes2 w2 (.cells #[.slice ao 3 cap] 25) (.cells #[.slice aa V.acts.length ac,.slice pa V.prints.length pc] 29)
 clear hK hPA hVA hVP hT h hm hT2
 go_upto_region 4 with fail
 generalize (w2.alloc (.cells #[.slice ao 3 cap] 25)).alloc (.cells #[.slice aa V.acts.length ac,.slice pa V.prints.length pc] 29)=w3 at *
 have p0:w3.cell? ⟨w2.heap.size,0,none⟩=some (.slice ao 3 cap):=cell_blk NP 0
 have q0:w3.cell? ⟨w2.heap.size+1,0,none⟩=some (.slice aa V.acts.length ac):=cell_blk NW 0
 have q1:w3.cell? ⟨w2.heap.size+1,1,none⟩=some (.slice pa V.prints.length pc):=cell_blk NW 1
 go_wp2_with fail
 refine (hchk w3 cb).mono ?_
 rintro e w4 ⟨rfl,hb4⟩
 replace q0:=Keeps.below hb4 _ _ q0
 go_wp2_with fail
 refine (hcon w4 (cb.trans (hb4.mono cb.size))).mono ?_
 rintro e w5 ⟨rfl,hb5⟩
 have hB5:=((hB2.trans (cb.mono hB2.size)).trans (hb4.mono (Nat.le_trans hB2.size cb.size))).trans (hb5.mono (Nat.le_trans (Nat.le_trans hB2.size cb.size) hb4.size))
 go_wp2
 go_ret
 exact ⟨rfl,hB5⟩
theorem topSound_walk (a0:Option Addr) (c0:Nat) (l0:List Rw) (a1:Option Addr) (c1:Nat) (l1:List Rw) (n2:Int) (w:World) (hT:TabAt 0 w) (h0:RawsAt w a0 l0) (hb0:32*l0.length≤140737488351232) (h1:RawsAt w a1 l1) (_:32*l1.length≤140737488351232) (hi:-9223372036854775808≤n2∧n2≤9223372036854775807) :
  Calls Tryz.prog 4 #[.slice a0 l0.length c0,.slice a1 l1.length c1,.int .i64 n2] w fun e w'=>e=.returned (.bool true)∧Below w.heap.size w w' :=
 topSound_any l0 l1 a0 a1 c0 c1 n2 w hT h0 h1 (by omega) hi
end
section
open Go.ChangeShapes Go.WideShapes Go.ChangeAt Go.RowKit
theorem and_up {a b:Bool} (ha:a=true) (hb:b=true):(a && b)=true:=by rw [ha,hb];rfl
theorem topSound_facts:joinedFacts Tryz.prog 4 Tryz.f4 Rows.topSoundSpec Rows.topSoundRow=true:=by
 unfold joinedFacts
 refine and_up ?_ (by as_aux_lemma=>kernel_rfl)
 refine and_up ?_ (by as_aux_lemma=>kernel_rfl)
 refine and_up ?_ (by as_aux_lemma=>kernel_rfl)
 refine and_up ?_ (by as_aux_lemma=>kernel_rfl)
 refine and_up ?_ (by as_aux_lemma=>kernel_rfl)
 refine and_up ?_ (by as_aux_lemma=>kernel_rfl)
 refine and_up ?_ (by as_aux_lemma=>kernel_rfl)
 refine and_up ?_ (by as_aux_lemma=>kernel_rfl)
 refine and_up ?_ (by as_aux_lemma=>kernel_rfl)
 refine and_up ?_ (by as_aux_lemma=>kernel_rfl)
 refine and_up ?_ (by as_aux_lemma=>kernel_rfl)
 refine and_up ?_ (by as_aux_lemma=>kernel_rfl)
 refine and_up ?_ (by as_aux_lemma=>kernel_rfl)
 refine and_up ?_ (by as_aux_lemma=>kernel_rfl)
 refine and_up ?_ (by as_aux_lemma=>kernel_rfl)
 refine and_up ?_ (by as_aux_lemma=>kernel_rfl)
 refine and_up ?_ (by as_aux_lemma=>kernel_rfl)
 refine and_up ?_ (by as_aux_lemma=>kernel_rfl)
 refine and_up ?_ (by as_aux_lemma=>kernel_rfl)
 refine and_up ?_ (by as_aux_lemma=>kernel_rfl)
 refine and_up ?_ (by as_aux_lemma=>kernel_rfl)
 refine and_up ?_ (by as_aux_lemma=>kernel_rfl)
 refine and_up ?_ (by as_aux_lemma=>kernel_rfl)
 refine and_up ?_ (by as_aux_lemma=>kernel_rfl)
 refine and_up ?_ (by as_aux_lemma=>kernel_rfl)
 refine and_up ?_ (by as_aux_lemma=>kernel_rfl)
 refine and_up ?_ (by as_aux_lemma=>kernel_rfl)
 refine and_up ?_ (by as_aux_lemma=>kernel_rfl)
 refine and_up ?_ (by as_aux_lemma=>kernel_rfl)
 refine and_up ?_ (by as_aux_lemma=>kernel_rfl)
 refine and_up ?_ (by as_aux_lemma=>kernel_rfl)
 as_aux_lemma=>kernel_rfl
end
end Go.Proofs.YtddokajfafmhhaaGreatDoor
