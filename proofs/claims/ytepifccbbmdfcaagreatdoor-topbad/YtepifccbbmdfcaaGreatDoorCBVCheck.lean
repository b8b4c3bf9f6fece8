/- VCheck. -/
import Derived.Test.YtepifccbbmdfcaaGreatDoorCBVRound
namespace Go.Proofs.YtepifccbbmdfcaaGreatDoor
set_option maxRecDepth 100000
set_option maxHeartbeats 8000000
section
open Go.RowKit
theorem Tryz.infoPt:(Tryz.prog.info? 101).map (fun i=>(i.zero,i.size,i.bytes))=some (some (.agg #[.bool false,.int .i64 0,.int .i64 0,.int .i64 0,.int .i64 0,.int .i64 0,.int .i64 0,.int .i64 0,.int .i64 0]),9,72):=by kernel_rfl
theorem good_iterL {x:Nat->Nat->Int} {L:Nat}:∀ (n:Nat) {st:List Pt},VGood L st->VGood L (vIter x L n st)
 | 0,_,h=>h
 | n+1,_,h=>good_iterL n (VGood.turns h x L)
theorem VMu.of {L:Nat} {st:List Pt} (h:VGood L st) (x:Nat->Nat->Int):vRound x L st≠st->vMu (vRound x L st)<vMu st:=(vTurns_mu h x L).2
theorem points_any (ao:Option Addr) (L rc:Nat) (x:Nat->Nat->Int) (w:World) (hrow:RowAt w ao L x) (hx:RowOk L x) :
  Calls Tryz.prog 42 #[.slice ao L rc] w fun e w'=>∃ g cap st,e=.returned (.slice (some ⟨g,0,none⟩) L cap)/\IsFlow x L st/\PtsOwn w' w.heap.size g cap L st/\Below w.heap.size w w':=by
 have hL:=hx.len;have hmk:=run_make_wide (P:=Tryz.prog) 9 87 101 _ 72 Tryz.underlying87 Tryz.infoPt .i64 .i64 L (by omega) (by omega);have hown:=ownsRow_made (f:=ptC) ptC_len (by omega) #[.bool false,.int .i64 0,.int .i64 0,.int .i64 0,.int .i64 0,.int .i64 0,.int .i64 0,.int .i64 0,.int .i64 0] none rfl w w.heap.size L 101 (Nat.le_refl _) (by unfold maxLen;omega);have b1:=below_box w (.cells (madeCells #[.bool false,.int .i64 0,.int .i64 0,.int .i64 0,.int .i64 0,.int .i64 0,.int .i64 0,.int .i64 0,.int .i64 0] (L*9)) 101)
 have hP:PtsOwn _ w.heap.size w.heap.size L L (List.replicate L none):=hown;clear hown
 go_enter Tryz.func42,Tryz.ntmps42
 go_upto_region 2 with fail
 simp only[Value.cells] at hmk ⊢;obtain⟨g,hg⟩:∃ g,g=w.heap.size:=⟨_,rfl⟩;have hgw:w.heap.size<=g:=by omega
 rw[<- hg] at hP ⊢;rw[<- hg] at b1;clear hmk;generalize w.alloc (.cells (madeCells #[.bool false,.int .i64 0,.int .i64 0,.int .i64 0,.int .i64 0,.int .i64 0,.int .i64 0,.int .i64 0,.int .i64 0] (L*9)) 101)=W at *;replace hP:PtsOwn W w.heap.size g L L (List.replicate L none):=by rw[hg] at hP ⊢;exact hP
 replace b1:Below w.heap.size w W:=by rw[hg] at b1;exact b1
 clear hg;have hput:=hP.put (by simp) (j:=0) (by omega) (some [3,3,0,0,0,0,0,0]);obtain⟨p0,p1,p2,p3,p4,p5,p6,p7,p8⟩:=hP.cells (j:=0) (p:=none) (by rw[List.getElem?_replicate,if_pos (by omega)]);have hfz:∀ j,W.frozen? ⟨g,j,none⟩=false:=fun j=>ownsRow_frozenAt hP rfl j
 have hpb:=putAt_below (A:=g) hgw (ptC (some [3,3,0,0,0,0,0,0])) 0 b1;rw[Nat.zero_mul] at hput p0 p1 p2 p3 p4 p5 p6 p7 p8;simp only[Nat.zero_add] at p1 p2 p3 p4 p5 p6 p7 p8;have hgl:=hP.lt.2;have HPUT:Aside (PtsOwn (putAt W g 0 (ptC (some [3,3,0,0,0,0,0,0]))) w.heap.size g L L (vStart L)/\Below w.heap.size w (putAt W g 0 (ptC (some [3,3,0,0,0,0,0,0])))):=⟨hput,hpb⟩;clear hput hpb hP b1;have hLz:(0:Int)<(L:Int):=by omega
 go_upto_region 3 with fail
 change Code.wp _ _ _ _ (putAt W g 0 (ptC (some [3,3,0,0,0,0,0,0])))
 obtain⟨hP,hb⟩:=HPUT.out;clear HPUT p0 p1 p2 p3 p4 p5 p6 p7 p8 hfz hgl;generalize putAt W g 0 (ptC (some [3,3,0,0,0,0,0,0]))=W2 at *
 go_loopg [13] (vMu (vStart L)) (fun g' s13 wr=>∃ n:Nat,g'=vMu (vIter x L n (vStart L))/\PtsOwn wr w.heap.size g L L (vIter x L n (vStart L))/\Below w.heap.size w wr)
 case atStart=>exact⟨0,rfl,hP,hb⟩
 case round =>
  clear hP hb;obtain⟨n,rfl,hP,hb⟩:=hrel;have hgd:=good_iterL (x:=x) n (vgood_start L);obtain⟨st,hst⟩:∃ st,st=vIter x L n (vStart L):=⟨_,rfl⟩;have HST:Aside (st=vIter x L n (vStart L)):=hst;rw[<- hst] at hP hgd;clear hst;have mu:=VMu.of hgd x
  go_wp2_with fail
  refine(round_any w wr ao L rc x g L st hb hrow hx hP hgd).mono ?_;rintro e w2 ⟨rfl,hP2,hb2⟩
  cases hd:decide (vRound x L st≠st) with
  | true =>
   have hne:=of_decide_eq_true hd;have hlt:=mu hne;go_wp2
   go_roundg (vMu (vRound x L st))
   case measure=>go_light;rw[<- HST.out];exact hlt
   case rel =>
    go_light
    refine⟨n+1,?_,?_,hb2⟩
    ·rw[vIter_succ,<- HST.out]
    ·rw[vIter_succ,<- HST.out];exact hP2
  | false =>
   have heq:vRound x L st=st:=by
    have:=of_decide_eq_false hd;exact Classical.byContradiction fun h=>this h
   rw[heq] at hP2;have HF:Aside (IsFlow x L st):=⟨⟨n,HST.out⟩,heq⟩;clear heq hd;go_wp2
   go_ret
   exact⟨g,L,st,rfl,HF.out,hP2,hb2⟩
end
section
open Go.RowKit
def TabAt (g:Nat) (w:World):Prop:=∀ op:Nat,op<20 ->
 w.cell? ⟨g,op*5,none⟩=some (.bool (aOf op))/\w.cell? ⟨g,op*5+1,none⟩=some (.bool (bOf op))/\w.cell? ⟨g,op*5+2,none⟩=some (.bool (nOf op)) /\
 w.cell? ⟨g,op*5+3,none⟩=some (.int .i64 (loOf op))/\w.cell? ⟨g,op*5+4,none⟩=some (.int .i64 (hiOf op))
theorem TabAt.keeps {g:Nat} {w w':World} (h:TabAt g w) (k:Keeps w w'):TabAt g w':=fun op ho =>
 ⟨k _ _ (h op ho).1,k _ _ (h op ho).2.1,k _ _ (h op ho).2.2.1,k _ _ (h op ho).2.2.2.1,k _ _ (h op ho).2.2.2.2⟩
end
section
open Go.RowKit
theorem cret_bool {a b:Bool} (h:a=b):Ending.returned (.bool a)=.returned (.bool b):=by rw[h]
theorem cret_num {a b:Int} (h:a=b):Ending.returned (.int .i64 a)=.returned (.int .i64 b):=by rw[h]
theorem isOperator_any (op:Int) (w:World) :
  Calls Tryz.prog 141 #[.int .i64 op] w fun e w'=>e=.returned (.bool (okOp op))/\w'=w:=by
 go_enter Tryz.func141,Tryz.ntmps141
 go_wp2
 all_goals
  go_ret
  refine⟨cret_bool ?_,rfl⟩
  go_light
  simp[okOp, *] <;> omega
theorem isRegister_any (r:Int) (w:World) :
  Calls Tryz.prog 142 #[.int .i64 r] w fun e w'=>e=.returned (.bool (okReg r))/\w'=w:=by
 go_enter Tryz.func142,Tryz.ntmps142
 go_wp2
 all_goals
  go_ret
  refine⟨cret_bool ?_,rfl⟩
  go_light
  simp[okReg, *] <;> omega
theorem cin_any (n lo hi:Int) (w:World) :
  Calls Tryz.prog 58 #[.int .i64 n,.int .i64 lo,.int .i64 hi] w fun e w'=>e=.returned (.bool (decide (lo<=n) && decide (n<=hi)))/\w'=w:=by
 go_enter Tryz.func58,Tryz.ntmps58
 go_wp2
 all_goals
  go_ret
  refine⟨cret_bool ?_,rfl⟩
  go_light
  simp[*] <;> omega
theorem goesOn_any (op:Int) (w:World) :
  Calls Tryz.prog 97 #[.int .i64 op] w fun e w'=>e=.returned (.bool (op != 0 && op != 19 && op != 6))/\w'=w:=by
 go_enter Tryz.func97,Tryz.ntmps97
 go_wp2
 all_goals
  go_ret
  refine⟨cret_bool ?_,rfl⟩
  go_light
  simp_all
end
section
open Go.RowKit
theorem refHasB_any (op:Int) (w:World) :
  Calls Tryz.prog 128 #[.int .i64 op] w fun e w'=>e=.returned (.bool (bOf op))/\w'=w:=by
 go_enter Tryz.func128,Tryz.ntmps128
 go_wp2_with (go_at_call 58;refine(cin_any _ _ _ _).mono ?_;rintro e w' ⟨rfl,rfl⟩)
 all_goals
  go_ret
  refine⟨cret_bool ?_,rfl⟩
  go_light
  simp_all [bOf]
theorem cbelow_box (w:World) (o:Obj):Below w.heap.size w (w.alloc o):=(Below.refl _ _).alloc (Nat.le_refl _) o
theorem leadsBeside_any (op a b n place many:Int) (w:World) (h1:-60<=n/\n<=60\/(op≠5/\op≠6)) (h2:0<=place) (h3:place<=1000000) :
  Calls Tryz.prog 96 #[.agg #[.int .i64 op,.int .i64 a,.int .i64 b,.int .i64 n],.int .i64 place,.int .i64 many] w fun e w'=>e=.returned (.bool (beside op n place many))/\Below w.heap.size w w':=by
 by_cases h5:op=5
 ·subst h5
  have hn:-60<=n:=by omega
  have hn':n<=60:=by omega
  clear h1
  go_enter Tryz.func96,Tryz.ntmps96
  go_wp2
  all_goals
   go_ret
   refine⟨cret_bool ?_,cbelow_box _ _⟩
   go_light
   simp[beside, *] <;> omega
 ·by_cases h6:op=6
  ·subst h6
   have hn:-60<=n:=by omega
   have hn':n<=60:=by omega
   clear h1 h5
   go_enter Tryz.func96,Tryz.ntmps96
   go_wp2
   all_goals
    go_ret
    refine⟨cret_bool ?_,cbelow_box _ _⟩
    go_light
    simp[beside, *] <;> omega
  ·have e5:(op != 5)=true:=by simp[h5]
   have e6:(op != 6)=true:=by simp[h6]
   clear h1
   go_enter Tryz.func96,Tryz.ntmps96
   go_wp2
   go_ret
   refine⟨cret_bool ?_,cbelow_box _ _⟩
   go_light
   simp[beside, *]
end
section
open Go.RowKit
theorem checkParts_no (op a b n:Int) (w:World) (h:okOp op=false) :
  Calls Tryz.prog 95 #[.agg #[.int .i64 op,.int .i64 a,.int .i64 b,.int .i64 n]] w fun e w'=>e=.returned (.int .i64 (partsFault op a b n))/\Below w.heap.size w w':=by
 have hf:partsFault op a b n=3:=by simp[partsFault,h]
 rw[hf];clear hf
 go_enter Tryz.func95,Tryz.ntmps95
 go_wp2_with (go_at_call 141;refine(isOperator_any _ _).mono ?_;rintro e w' ⟨rfl,rfl⟩)
 go_ret
 exact⟨rfl,cbelow_box _ _⟩
theorem checkParts_yes (k:Nat) (hk:k<20) (a b n:Int) (w:World) (hT:TabAt 0 w) :
  Calls Tryz.prog 95 #[.agg #[.int .i64 k,.int .i64 a,.int .i64 b,.int .i64 n]] w fun e w'=>e=.returned (.int .i64 (partsFault k a b n))/\Below w.heap.size w w':=by
 have ho:okOp k=true:=by simp[okOp];omega
 obtain⟨t0,t1,t2,t3,t4⟩:=hT.keeps (Keeps.alloc w (.cells #[.int .i64 k,.int .i64 a,.int .i64 b,.int .i64 n] 43)) k hk;have hkz:(k:Int)<20:=by omega
 go_enter Tryz.func95,Tryz.ntmps95
 go_wp2_with (first | (go_at_call 141;refine(isOperator_any _ _).mono ?_;rintro e w' ⟨rfl,rfl⟩) | (go_at_call 142;refine(isRegister_any _ _).mono ?_;rintro e w' ⟨rfl,rfl⟩))
 all_goals
  go_ret
  refine⟨cret_num ?_,(cbelow_box _ _).alloc (by simp) _⟩
  go_light
  clear t0 t1 t2 t3 t4;simp only[partsFault,ho]
  simp_all
  try omega
theorem checkParts_any (op a b n:Int) (w:World) (hT:TabAt 0 w) :
  Calls Tryz.prog 95 #[.agg #[.int .i64 op,.int .i64 a,.int .i64 b,.int .i64 n]] w fun e w'=>e=.returned (.int .i64 (partsFault op a b n))/\Below w.heap.size w w':=by
 cases ho:okOp op
 ·exact checkParts_no op a b n w ho
 ·simp[okOp] at ho
  obtain⟨k,rfl⟩:=Int.eq_ofNat_of_zero_le ho.1;exact checkParts_yes k (by omega) a b n w hT
end
section
open Go.RowKit
theorem parts_n {op a b n:Int} (h:partsFault op a b n=0):-60<=n/\n<=60\/(op≠5/\op≠6):=by
 unfold partsFault at h
 split at h
 ·omega
 ·split at h
  ·omega
  ·rename_i h2
   by_cases h5:op=5\/op=6
   ·left
    have e1:op≠1:=by omega
    simp only[not_or] at h2;have l:=h2.2.2.1;have m:=h2.2.2.2;simp only[loOf,hiOf,if_neg e1,if_pos h5] at l m;omega
   ·right;omega
theorem checkBehavior_size (ao:Option Addr) (L C kinds:Nat) (x:Nat->Nat->Int) (w:World) (hL:32*L<=281474976710656) (h:L<1\/60<L) :
  Calls Tryz.prog 66 #[.slice ao L C,.int .i64 kinds] w fun e w'=>e=.returned (.int .i64 (rowFault kinds L x))/\Below w.heap.size w w':=by
 have hf:rowFault kinds L x=1:=by rw[rowFault,if_pos h]
 rw[hf];clear hf
 by_cases h0:L<1
 ·have hz:(L:Int)<1:=by omega
  go_enter Tryz.func66,Tryz.ntmps66
  go_wp2
  go_ret
  exact⟨rfl,Below.refl _ _⟩
 ·have hz:(1:Int)<=(L:Int):=by omega
  have hz':(60:Int)<(L:Int):=by omega
  clear h h0
  go_enter Tryz.func66,Tryz.ntmps66
  go_wp2
  go_ret
  exact⟨rfl,Below.refl _ _⟩
theorem checkBehavior_go (ao:Option Addr) (L C kinds:Nat) (x:Nat->Nat->Int) (w:World) (hT:TabAt 0 w) (hR:RowAt w ao L x) (h1:1<=L) (h60:L<=60) :
  Calls Tryz.prog 66 #[.slice ao L C,.int .i64 kinds] w fun e w'=>e=.returned (.int .i64 (rowFault kinds L x))/\Below w.heap.size w w':=by
 have hf:rowFault kinds L x=first (fun i=>insFault kinds L i (x i 0) (x i 1) (x i 2) (x i 3)) L 0:=by simp[rowFault];omega
 rw[hf];clear hf;generalize hF:(fun i:Nat=>insFault kinds L i (x i 0) (x i 1) (x i 2) (x i 3))=F;have HF:Aside ((fun i:Nat=>insFault kinds L i (x i 0) (x i 1) (x i 2) (x i 3))=F):=hF;clear hF;have hd1:decide ((L:Int)<1)=false:=by simp;omega
 have hd2:decide ((60:Int)<(L:Int))=false:=by simp;omega
 go_enter Tryz.func66,Tryz.ntmps66
 go_wp2
 clear hd1 hd2
 go_loopg [18] L (fun g s18 wr=>∃ i:Nat,i<=L/\g=L-i/\s18=.int .i64 i/\Below w.heap.size w wr/\Aside (first F L 0=first F (L-i) i))
 case atStart=>exact⟨0,Nat.zero_le _,rfl,rfl,Below.refl _ _,rfl⟩
 case round =>
  obtain⟨i,hi,rfl,rfl,hb,hA⟩:=hrel
  by_cases hiL:i<L
  ·have hiz:(i:Int)<(L:Int):=by omega
   have hfi:Aside (F i=insFault kinds L i (x i 0) (x i 1) (x i 2) (x i 3)):=by rw[<- HF.out];rfl
   obtain⟨b,o,rfl,hc⟩:=(hR.keeps (Keeps.below hb)) i hiL;have a0:wr.cell? ⟨b,o+i*4,none⟩=some (.int .i64 (x i 0)):=hc 0 (by omega);have a1:=hc 1 (by omega);have a2:=hc 2 (by omega);have a3:=hc 3 (by omega);clear hc;have hTr:=hT.keeps (Keeps.below hb)
   go_wp2_with fail
   generalize x i 0=op at *;generalize x i 1=ra at *;generalize x i 2=rb at *;generalize x i 3=n at *;refine(checkParts_any op ra rb n _ (hTr.keeps (Keeps.alloc _ _))).mono ?_;rintro e w1 ⟨rfl,hb1⟩;have k1:=Keeps.below hb1;have c0:w1.cell? ⟨wr.heap.size,0,none⟩=some (.int .i64 op):=k1 _ _ (by simp);have c1:w1.cell? ⟨wr.heap.size,1,none⟩=some (.int .i64 ra):=k1 _ _ (by simp);have c2:w1.cell? ⟨wr.heap.size,2,none⟩=some (.int .i64 rb):=k1 _ _ (by simp)
   have c3:w1.cell? ⟨wr.heap.size,3,none⟩=some (.int .i64 n):=k1 _ _ (by simp);have hs:=hb.size;have hb':Below w.heap.size w w1:=(hb.alloc hs _).trans (hb1.mono (by simp;omega));have hsz1:=hb1.size;clear k1 hb1 a0 a1 a2 a3 hTr hb
   by_cases hp:partsFault op ra rb n=0
   ·have hpn:=parts_n hp
    have Hp:Aside (partsFault op ra rb n=0):=hp;rw[hp];clear hp
    go_wp2_with fail
    refine(leadsBeside_any op ra rb n i L _ hpn (by omega) (by omega)).mono ?_;rintro e w2 ⟨rfl,hb2⟩;have k2:=Keeps.below hb2;have d0:=k2 _ _ c0;have d3:=k2 _ _ c3;have hb3:Below w.heap.size w w2:=hb'.trans (hb2.mono hb'.size);clear k2 hb2 c0 c1 c2 c3 hb' hpn
    cases hbs:beside op n i L
    ·by_cases h17:op=17
     ·have e17:(op == 17)=true:=by simp[h17]
      by_cases hkn:(kinds:Int)<=n
      ·have Hfi:Aside (F i=2):=hfi.out.trans (ins_spawn Hp.out h17 hkn)
       clear hfi Hp h17;go_wp2
       go_ret
       exact⟨cret_num (by rw[hA.out,first_hit F L i hiL (by rw[Hfi.out];decide),Hfi.out]),hb3⟩
      ·have hno:¬ (op=17/\(kinds:Int)<=n):=fun c=>hkn c.2
       have hdk:decide ((kinds:Int)<=n)=false:=by simp;omega
       clear h17
       by_cases hl:i=L-1
       ·have el:((i:Int) == (L:Int)-1)=true:=by simp;omega
        cases hg:(op != 0 && op != 19 && op != 6)
        ·have Hfi:Aside (F i=0):=hfi.out.trans (ins_last Hp.out hbs hno hg)
         have HG:Aside ((op != 0 && op != 19 && op != 6)=false):=hg;clear hfi Hp hno hl hg
         go_wp2_with (go_at_call 97;refine(goesOn_any _ _).mono ?_;rintro e w' ⟨rfl,rfl⟩;rw[HG.out])
         go_roundg (L-(i+1))
         case measure=>go_light;omega
         case rel=>go_light;exact⟨i+1,by omega,rfl,by go_num,hb3,hA.out.trans (first_pass F L i hiL Hfi.out)⟩
        ·have Hfi:Aside (F i=5):=hfi.out.trans (ins_short Hp.out hbs hno (by omega) hg)
         have HG:Aside ((op != 0 && op != 19 && op != 6)=true):=hg;clear hfi Hp hno hl hg
         go_wp2_with (go_at_call 97;refine(goesOn_any _ _).mono ?_;rintro e w' ⟨rfl,rfl⟩;rw[HG.out])
         go_ret
         exact⟨cret_num (by rw[hA.out,first_hit F L i hiL (by rw[Hfi.out];decide),Hfi.out]),hb3⟩
       ·have el:((i:Int) == (L:Int)-1)=false:=by simp;omega
        have Hfi:Aside (F i=0):=hfi.out.trans (ins_inner Hp.out hbs hno (by omega));clear hfi Hp hno hl;go_wp2
        go_roundg (L-(i+1))
        case measure=>go_light;omega
        case rel=>go_light;exact⟨i+1,by omega,rfl,by go_num,hb3,hA.out.trans (first_pass F L i hiL Hfi.out)⟩
     ·have e17:(op == 17)=false:=beq_eq_false_iff_ne.2 h17
      have hno:¬ (op=17/\(kinds:Int)<=n):=fun c=>h17 c.1
      clear h17
      by_cases hl:i=L-1
      ·have el:((i:Int) == (L:Int)-1)=true:=by simp;omega
       cases hg:(op != 0 && op != 19 && op != 6)
       ·have Hfi:Aside (F i=0):=hfi.out.trans (ins_last Hp.out hbs hno hg)
        have HG:Aside ((op != 0 && op != 19 && op != 6)=false):=hg;clear hfi Hp hno hl hg
        go_wp2_with (go_at_call 97;refine(goesOn_any _ _).mono ?_;rintro e w' ⟨rfl,rfl⟩;rw[HG.out])
        go_roundg (L-(i+1))
        case measure=>go_light;omega
        case rel=>go_light;exact⟨i+1,by omega,rfl,by go_num,hb3,hA.out.trans (first_pass F L i hiL Hfi.out)⟩
       ·have Hfi:Aside (F i=5):=hfi.out.trans (ins_short Hp.out hbs hno (by omega) hg)
        have HG:Aside ((op != 0 && op != 19 && op != 6)=true):=hg;clear hfi Hp hno hl hg
        go_wp2_with (go_at_call 97;refine(goesOn_any _ _).mono ?_;rintro e w' ⟨rfl,rfl⟩;rw[HG.out])
        go_ret
        exact⟨cret_num (by rw[hA.out,first_hit F L i hiL (by rw[Hfi.out];decide),Hfi.out]),hb3⟩
      ·have el:((i:Int) == (L:Int)-1)=false:=by simp;omega
       have Hfi:Aside (F i=0):=hfi.out.trans (ins_inner Hp.out hbs hno (by omega));clear hfi Hp hno hl;go_wp2
       go_roundg (L-(i+1))
       case measure=>go_light;omega
       case rel=>go_light;exact⟨i+1,by omega,rfl,by go_num,hb3,hA.out.trans (first_pass F L i hiL Hfi.out)⟩
    ·have Hfi:Aside (F i=2):=hfi.out.trans (ins_beside Hp.out hbs)
     clear hfi Hp;go_wp2
     go_ret
     exact⟨cret_num (by rw[hA.out,first_hit F L i hiL (by rw[Hfi.out];decide),Hfi.out]),hb3⟩
   ·have Hfi:Aside (F i=partsFault op ra rb n):=hfi.out.trans (ins_parts hp)
    have hpb:(partsFault op ra rb n != 0)=true:=by simp[hp]
    clear hfi;go_wp2
    go_ret
    exact⟨cret_num (by rw[hA.out,first_hit F L i hiL (by rw[Hfi.out];exact hp),Hfi.out]),hb'⟩
  ·go_wp2
   go_ret
   exact⟨cret_num (by rw[hA.out,show L-i=0 by omega];rfl),hb⟩
theorem checkBehavior_any (ao:Option Addr) (L C kinds:Nat) (x:Nat->Nat->Int) (w:World) (hT:TabAt 0 w) (hR:RowAt w ao L x) (hL:32*L<=281474976710656) :
  Calls Tryz.prog 66 #[.slice ao L C,.int .i64 kinds] w fun e w'=>e=.returned (.int .i64 (rowFault kinds L x))/\Below w.heap.size w w':=by
 by_cases h:L<1\/60<L
 ·exact checkBehavior_size ao L C kinds x w hL h
 ·exact checkBehavior_go ao L C kinds x w hT hR (by omega) (by omega)
end
section
open Go.RowKit
theorem ccheck_any (ao:Option Addr) (G cap:Nat) (A:Nat->Option Addr) (L C:Nat->Nat) (X:Nat->Nat->Nat->Int) (w:World) (hT:TabAt 0 w) (hp:ProgAt w ao G A L C X) :
  Calls Tryz.prog 40 #[.agg #[.slice ao G cap]] w fun e w'=>e=.returned (.int .i64 (progFault G L X))/\Below w.heap.size w w':=by
 have hG:=hp.many
 by_cases h0:G=0
 ·subst h0
  go_enter Tryz.func40,Tryz.ntmps40
  go_wp2
  go_ret
  exact⟨rfl,cbelow_box _ _⟩
 ·have e0:((G:Int) == 0)=false:=by simp;omega
  by_cases h6:6<G
  ·have hf:progFault G L X=1:=by rw[progFault,if_neg h0,if_pos h6]
   rw[hf];have hz:(6:Int)<(G:Int):=by omega
   clear hf
   go_enter Tryz.func40,Tryz.ntmps40
   go_wp2
   go_ret
   exact⟨rfl,cbelow_box _ _⟩
  ·have hf:progFault G L X=first (fun r=>rowFault G (L r) (X r)) G 0:=by rw[progFault,if_neg h0,if_neg h6]
   rw[hf];clear hf;generalize hF:(fun r:Nat=>rowFault G (L r) (X r))=F;have HF:Aside ((fun r:Nat=>rowFault G (L r) (X r))=F):=hF;clear hF;have hz:decide ((6:Int)<(G:Int))=false:=by simp;omega
   go_enter Tryz.func40,Tryz.ntmps40
   go_wp2
   clear hz e0;have hbox:Aside (Below w.heap.size w (w.alloc (Obj.cells #[Value.slice ao G cap] 38))):=cbelow_box _ _;have cbox:(w.alloc (Obj.cells #[Value.slice ao G cap] 38)).cell? ⟨w.heap.size,0,none⟩=some (.slice ao G cap):=by simp
   go_loopg [17] G (fun g s17 wr=>∃ r:Nat,r<=G/\g=G-r/\s17=.int .i64 r/\Below w.heap.size w wr/\Aside (wr.cell? ⟨w.heap.size,0,none⟩=some (.slice ao G cap))/\Aside (first F G 0=first F (G-r) r))
   case atStart=>exact⟨0,Nat.zero_le _,rfl,rfl,hbox.out,cbox,rfl⟩
   case round =>
    obtain⟨r,hr,rfl,rfl,hb,hc,hA⟩:=hrel;clear cbox hbox
    by_cases hrG:r<G
    ·have hrz:(r:Int)<(G:Int):=by omega
     have hfi:Aside (F r=rowFault G (L r) (X r)):=by rw[<- HF.out];rfl
     have hp':=hp.keeps (Keeps.below hb);obtain⟨b,o,rfl,hca⟩:=hp'.outer r hrG;have hcb:=hc.out
     go_wp2_with fail
     refine(checkBehavior_any _ (L r) (C r) G (X r) _ (hT.keeps (Keeps.below hb)) (hp'.rows r hrG) (hp.long r hrG)).mono ?_;rintro e w1 ⟨rfl,hb1⟩;have hb':Below w.heap.size w w1:=hb.trans (hb1.mono hb.size);have hc':Aside (w1.cell? ⟨w.heap.size,0,none⟩=some (.slice (some ⟨b,o,none⟩) G cap)):=Keeps.below hb1 _ _ hcb;clear hb1 hcb hca hp' hb hc
     by_cases hz:rowFault G (L r) (X r)=0
     ·have Hz:Aside (F r=0):=hfi.out.trans hz
      rw[hz];clear hz hfi;go_wp2
      go_roundg (G-(r+1))
      case measure=>go_light;omega
      case rel=>go_light;exact⟨r+1,by omega,rfl,by go_num,hb',hc',hA.out.trans (first_pass F G r hrG Hz.out)⟩
     ·have hzb:(rowFault G (L r) (X r) != 0)=true:=by simp[hz]
      go_wp2
      go_ret
      exact⟨cret_num (by rw[hA.out,first_hit F G r hrG (by rw[hfi.out];exact hz),hfi.out]),hb'⟩
    ·go_wp2
     go_ret
     exact⟨cret_num (by rw[hA.out,show G-r=0 by omega];rfl),hb⟩
end
section
open Go.RowKit
theorem vcheck_any (ao:Option Addr) (G cap:Nat) (A:Nat->Option Addr) (L C:Nat->Nat) (X:Nat->Nat->Nat->Int) (w:World) (hT:TabAt 0 w) (hp:ProgAt w ao G A L C X) :
  Calls Tryz.prog 26 #[.agg #[.slice ao G cap]] w fun e w'=>e=.returned (.tuple #[.int .i64 (ckS G L X).1,.int .i64 (ckS G L X).2.1,.int .i64 (ckS G L X).2.2])/\Below w.heap.size w w':=by
 have hG:=hp.many;obtain⟨R,hR⟩:∃ R,R=ckS G L X:=⟨_,rfl⟩;have HR:Aside (R=ckS G L X):=hR;rw[<- hR];clear hR
 go_enter Tryz.func26,Tryz.ntmps26
 go_wp2_with fail
 have k1:=Keeps.alloc w (Obj.cells #[Value.slice ao G cap] 38);have b1:=below_box w (Obj.cells #[Value.slice ao G cap] 38);have c1:(w.alloc (Obj.cells #[Value.slice ao G cap] 38)).cell? ⟨w.heap.size,0,none⟩=some (.slice ao G cap):=by simp
 generalize w.alloc (Obj.cells #[Value.slice ao G cap] 38)=W at *;refine(ccheck_any ao G cap A L C X _ (hT.keeps k1) (hp.keeps k1)).mono ?_;rintro e w1 ⟨rfl,hb1⟩;have b2:=b1.trans (hb1.mono b1.size);have c2:=Keeps.below hb1 _ _ c1;clear c1 b1 hb1 k1
 by_cases hf:progFault G L X=0
 ·have HRV:Aside (R=verRows L X G 0):=by show R=_;rw[HR.out,ckS,if_neg (by simp[hf])]
  have HF:Aside (progFault G L X=0):=hf;rw[hf];clear hf HR;go_wp2
  go_loopg [18] G (fun g s18 wr=>∃ r:Nat,r<=G/\g=G-r/\s18=.int .i64 r/\Below w.heap.size w wr/\Aside (R=verRows L X (G-r) r))
  case atStart=>exact⟨0,Nat.zero_le _,rfl,rfl,b2,HRV⟩
  case round =>
   clear b2 c2 HRV;obtain⟨r,hr,rfl,rfl,hb,hA⟩:=hrel
   by_cases hrG:r<G
   ·have hrz:(r:Int)<(G:Int):=by omega
    have hp':=hp.keeps (Keeps.below hb);obtain⟨b,o,rfl,hca⟩:=hp'.outer r hrG;have hrow:=hp'.rows r hrG;have hx:=rowV_ok HF.out hrG;have hLr:=hx.len
    go_wp2_with fail
    refine(points_any (A r) (L r) (C r) (X r) _ hrow hx).mono ?_;rintro e w2 ⟨g,pc,st,rfl,hfl,hP,hb2⟩;have HST:Aside (st=flowS (X r) (L r)):=hfl.eq;have hgd:VGood (L r) st:=by rw[HST.out];exact flowS_good _ _
    have hrow2:=hrow.keeps (Keeps.below hb2);have hb3:=hb.trans (hb2.mono hb.size);have hblk:=hP.lt;clear hfl hca hp' hrow hb hb2;obtain⟨F,hF⟩:∃ F,F=badAt (X r) st:=⟨_,rfl⟩;have HFB:Aside (F=badAt (X r) st):=hF;have HRB:Aside (rowBad (X r) (L r)=firstBad F (L r) 0):=by show rowBad _ _=_;rw[rowBad,<- HST.out,<- hF]
    clear hF;obtain⟨Lr,hLe⟩:∃ Lr,Lr=L r:=⟨_,rfl⟩;have HLE:Aside (Lr=L r):=hLe;rw[<- hLe] at hP hgd hrow2 hx hLr ⊢;clear hLe;replace HRB:Aside (rowBad (X r) (L r)=firstBad F Lr 0):=by show _=_;rw[HRB.out,HLE.out]
    obtain⟨b',o',hAr,_⟩:=hrow2 0 (by omega);rw[hAr] at hrow2 ⊢;clear hAr
    go_wp2_with fail
    go_loopg [26] Lr (fun g' s26 wi=>∃ i:Nat,i<=Lr/\g'=Lr-i/\s26=.int .i64 i/\Below w2.heap.size w2 wi/\Aside (firstBad F Lr 0=firstBad F (Lr-i) i))
    case atStart=>exact⟨0,Nat.zero_le _,rfl,rfl,Below.refl _ _,rfl⟩
    case round =>
     obtain⟨i,hi,rfl,rfl,hbi,hAi⟩:=hrel
     by_cases hiL:i<Lr
     ·have hiz:(i:Int)<(Lr:Int):=by omega
      have hi0:(0:Int)<=(i:Int):=Int.natCast_nonneg _;have hki:=Keeps.below hbi;have hPi:=hP.below hbi;obtain⟨p,hpi⟩:∃ p,st[i]?=some p:=⟨st[i]'(by rw[hgd.1];exact hiL),List.getElem?_eq_getElem _⟩;obtain⟨p0,p1,p2,p3,p4,p5,p6,p7,p8⟩:=hPi.cells hpi;obtain⟨_,_,hq,hc⟩:=(hrow2.keeps hki) i hiL;simp only[Option.some.injEq,Addr.mk.injEq,and_true] at hq;obtain⟨rfl,rfl⟩:=hq;have a0:wr.cell? ⟨b',o'+i*4,none⟩=some (.int .i64 (X r i 0)):=hc 0 (by omega)
      have a1:=hc 1 (by omega);have a2:=hc 2 (by omega);have a3:=hc 3 (by omega);clear hc;have hbo:=hx.op i hiL;have ha01:=hx.a i hiL;have hb01:=hx.b i hiL;have HFI:Aside (F i=badAt (X r) st i):=by show F i=_;rw[HFB.out]
      cases p with
      | none =>
       have hf0:Aside (F i=false):=by
        show F i=false
        rw[HFI.out]
        unfold badAt vPt
        rw[hpi];rfl
       go_upto_region 10 with fail
       go_quiet (fail)
       have hbn:Below w2.heap.size w2 ((wr.alloc (Obj.cells (ptA false []) 101)).drewN nq):=below_drewN (hbi.trans ((below_box _ _).mono hbi.size)) nq;go_wp2
       go_roundg (Lr-(i+1))
       case measure=>go_light;omega
       case rel=>go_light;exact⟨i+1,by omega,rfl,by go_num,hbn,hAi.out.trans (firstBad_pass F Lr i hiL hf0.out)⟩
      | some k =>
       have hfk:Aside (F i=!vMayDo (X r i 0) (X r i 1) (X r i 2) k):=by
        show F i=_
        rw[HFI.out]
        unfold badAt vPt
        rw[hpi];rfl
       generalize e0:X r i 0=op at a0 hbo hfk;generalize e1:X r i 1=av at a1 ha01 hfk;generalize e2:X r i 2=bv at a2 hb01 hfk;generalize e3:X r i 3=n at a3;obtain⟨ra,rfl⟩:=Int.eq_ofNat_of_zero_le ha01.1;obtain⟨rb,rfl⟩:=Int.eq_ofNat_of_zero_le hb01.1;clear e0 e1 e2 e3;have hra8:ra<8:=by omega
       have hrb8:rb<8:=by omega
       simp only[Option.getD_some,Option.isSome_some] at p0 p1 p2 p3 p4 p5 p6 p7 p8
       go_upto_region 10 with fail
       obtain⟨I1,k1,bb1,s1⟩:=boxes1 wr (Obj.cells (ptA true k) 101);have hbW:=hbi.trans (bb1.mono hbi.size);replace a0:=k1 _ _ a0;replace a1:=k1 _ _ a1;replace a2:=k1 _ _ a2;replace a3:=k1 _ _ a3;obtain⟨B,hB⟩:∃ B,B=wr.heap.size:=⟨_,rfl⟩;rw[<- hB] at I1 s1 ⊢;clear hB bb1 k1 p0 p1 p2 p3 p4 p5 p6 p7 p8 hbi;generalize wr.alloc (Obj.cells (ptA true k) 101)=W at *;have q0:=vCell_blk I1 0;have q1:=vCell_blk I1 1
       have q2:=vCell_blk I1 2;have q3:=vCell_blk I1 3;have q4:=vCell_blk I1 4;have q5:=vCell_blk I1 5;have q6:=vCell_blk I1 6;have q7:=vCell_blk I1 7;have q8:=vCell_blk I1 8;simp at q0 q1 q2 q3 q4 q5 q6 q7 q8;obtain⟨mb,hmb⟩:∃ mb,mb=vMayDo op ra rb k:=⟨_,rfl⟩;have HMB:Aside (mb=vMayDo op ra rb k):=hmb;clear hmb
       go_cut [42] (fun s42 wq=>Below W.heap.size W wq/\s42=.bool !mb)
       case first =>
        refine wp_region_need (fun j=>true) (fun w'=>w'.cell? ⟨B,0,none⟩=some (.bool true)/\w'.cell? ⟨B,1,none⟩=some (.int .i64 (vAt k 0))/\w'.cell? ⟨B,2,none⟩=some (.int .i64 (vAt k 1))/\w'.cell? ⟨B,3,none⟩=some (.int .i64 (vAt k 2))/\w'.cell? ⟨B,4,none⟩=some (.int .i64 (vAt k 3))/\w'.cell? ⟨B,5,none⟩=some (.int .i64 (vAt k 4))/\w'.cell? ⟨B,6,none⟩=some (.int .i64 (vAt k 5))/\w'.cell? ⟨B,7,none⟩=some (.int .i64 (vAt k 6))/\w'.cell? ⟨B,8,none⟩=some (.int .i64 (vAt k 7))/\w'.cell? ⟨b',o'+i*4,none⟩=some (.int .i64 op)/\w'.cell? ⟨b',o'+i*4+1,none⟩=some (.int .i64 (ra:Int))/\w'.cell? ⟨b',o'+i*4+2,none⟩=some (.int .i64 (rb:Int))/\w'.cell? ⟨b',o'+i*4+3,none⟩=some (.int .i64 n)) (by kernel_rfl) ⟨q0,q1,q2,q3,q4,q5,q6,q7,q8,a0,a1,a2,a3⟩ (fun hS=>?_)
        refine tkN 0 hS ?_;refine tkN 1 hS ?_;refine tkN 2 hS ?_;refine tkN 3 hS ?_;refine tkN 4 hS ?_;refine tkN 5 hS ?_;refine tkN 6 hS ?_;refine tkN 7 hS ?_;refine tkN 8 hS ?_;refine stN 9 (fun K hK=>?_);go_simp;have hmd:=mayBeDone_any op n ra rb k W.drew hbo hra8 hrb8;rw[<- HMB.out] at hmd;refine hmd.mono ?_;clear hmd;rintro e w5 ⟨rfl,hb5⟩;have hb6:Below W.heap.size W w5:=(Below.refl _ _).drew.trans hb5
        have kk:=Keeps.below hb6;have hS5:=(⟨kk _ _ q0,kk _ _ q1,kk _ _ q2,kk _ _ q3,kk _ _ q4,kk _ _ q5,kk _ _ q6,kk _ _ q7,kk _ _ q8,kk _ _ a0,kk _ _ a1,kk _ _ a2,kk _ _ a3⟩:w5.cell? ⟨B,0,none⟩=some (.bool true)/\w5.cell? ⟨B,1,none⟩=some (.int .i64 (vAt k 0))/\w5.cell? ⟨B,2,none⟩=some (.int .i64 (vAt k 1))/\w5.cell? ⟨B,3,none⟩=some (.int .i64 (vAt k 2))/\w5.cell? ⟨B,4,none⟩=some (.int .i64 (vAt k 3))/\w5.cell? ⟨B,5,none⟩=some (.int .i64 (vAt k 4))/\w5.cell? ⟨B,6,none⟩=some (.int .i64 (vAt k 5))/\w5.cell? ⟨B,7,none⟩=some (.int .i64 (vAt k 6))/\w5.cell? ⟨B,8,none⟩=some (.int .i64 (vAt k 7))/\w5.cell? ⟨b',o'+i*4,none⟩=some (.int .i64 op)/\w5.cell? ⟨b',o'+i*4+1,none⟩=some (.int .i64 (ra:Int))/\w5.cell? ⟨b',o'+i*4+2,none⟩=some (.int .i64 (rb:Int))/\w5.cell? ⟨b',o'+i*4+3,none⟩=some (.int .i64 n))
        refine otN hK (hS5) ?_;clear hK;replace hS:=hS5;refine tkN 10 hS ?_;refine tkN 11 hS ?_;refine dnN ?_
        go_wp2_with fail
        go_meet
        case rel=>exact⟨hb6,rfl⟩
       case rest =>
        obtain⟨hb7,rfl⟩:=hcut;have hb8:=hbW.trans (hb7.mono hbW.size);have hbF:=hb3.trans (hb8.mono hb3.size)
        cases mb with
        | true =>
         have hf0:Aside (F i=false):=by show F i=false;rw[hfk.out,<- HMB.out];rfl
         go_wp2
         go_roundg (Lr-(i+1))
         case measure=>go_light;omega
         case rel=>go_light;exact⟨i+1,by omega,rfl,by go_num,hb8,hAi.out.trans (firstBad_pass F Lr i hiL hf0.out)⟩
        | false =>
         have hf1:F i=true:=by rw[hfk.out,<- HMB.out];rfl
         have hRR:Aside (R=((r:Int),(i:Int),9)):=by
          show R=_
          rw[hA.out];exact verRows_hit hrG (HRB.out.trans (hAi.out.trans (firstBad_hit F Lr i hiL hf1)))
         clear hf1;go_wp2
         go_ret3
         exact⟨by rw[hRR.out];rfl,hbF⟩
     ·have hpass:Aside (R=verRows L X (G-(r+1)) (r+1)):=by
       show R=_
       rw[hA.out];refine verRows_pass hrG (HRB.out.trans (hAi.out.trans ?_));rw[show Lr-i=0 by omega];rfl
      have hbF:=hb3.trans (hbi.mono hb3.size);go_wp2
      go_roundg (G-(r+1))
      case measure=>go_light;omega
      case rel=>go_light;exact⟨r+1,by omega,rfl,by go_num,hbF,hpass⟩
   ·have hRR:Aside (R=(0,0,0)):=by show R=_;rw[hA.out,show G-r=0 by omega];rfl
    go_wp2
    go_ret3
    exact⟨by rw[hRR.out];rfl,hb⟩
 ·have HRV:Aside (R=(0,0,progFault G L X)):=by show R=_;rw[HR.out,ckS,if_pos hf]
  have hfb:(progFault G L X != 0)=true:=by simp[hf]
  clear HR;go_wp2
  go_ret3
  exact⟨by rw[HRV.out];rfl,b2⟩
end
end Go.Proofs.YtepifccbbmdfcaaGreatDoor
