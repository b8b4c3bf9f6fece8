/- JBoxesFull. -/
import Derived.Deep.Modes
import Derived.SizedLaws
import Derived.Test.YtihpkcccfgbcmaaGreatDoorRows
import Derived.Test.YtihpkcccfgbcmaaGreatDoorCBKActs
namespace Go.Proofs.YtihpkcccfgbcmaaGreatDoor
set_option maxRecDepth 100000
set_option maxHeartbeats 8000000
section
open Go.RowKit
theorem in_any (n lo hi:Int) (w:World) :
  Calls Tryz.prog 67 #[.int .i64 n,.int .i64 lo,.int .i64 hi] w fun e w'=>e=.returned (.bool (decide (lo<=n) && decide (n<=hi)))/\w=w':=by
 go_enter Tryz.func67,Tryz.ntmps67
 go_wp2
 all_goals
  go_ret
  refine⟨ret_bool ?_,rfl⟩
  go_light
  simp[*] <;> omega
end
section
open Go.RowKit
theorem cin_any (n lo hi:Int) (w:World) :
  Calls Tryz.prog 67 #[.int .i64 n,.int .i64 lo,.int .i64 hi] w fun e w'=>e=.returned (.bool (decide (lo<=n) && decide (n<=hi)))/\w'=w:=by
 go_enter Tryz.func67,Tryz.ntmps67
 go_wp2
 all_goals
  go_ret
  refine⟨cret_bool ?_,rfl⟩
  go_light
  simp[*] <;> omega
end
section
open Go.RowKit
theorem refHasB_any (op:Int) (w:World) :
  Calls Tryz.prog 145 #[.int .i64 op] w fun e w'=>e=.returned (.bool (bOf op))/\w'=w:=by
 go_enter Tryz.func145,Tryz.ntmps145
 go_wp2_with (go_at_call 67;refine(cin_any _ _ _ _).mono ?_;rintro e w' ⟨rfl,rfl⟩)
 all_goals
  go_ret
  refine⟨cret_bool ?_,rfl⟩
  go_light
  simp_all [bOf]
end
section
open Go.RowKit
def echoR:List (List Ins):=[
 [⟨8,2,1,0⟩,⟨15,2,0,0⟩,⟨8,3,0,0⟩,⟨5,3,0,3⟩,⟨13,1,3,0⟩,⟨0,0,0,0⟩,⟨7,4,0,1⟩,⟨1,5,0,0⟩,⟨9,4,5,0⟩,⟨17,3,4,1⟩,⟨9,0,3,0⟩,⟨13,1,3,0⟩,⟨0,0,0,0⟩],
 [⟨8,2,1,1⟩,⟨8,3,0,0⟩,⟨2,3,2,0⟩,⟨9,0,3,0⟩,⟨15,3,0,0⟩,⟨0,0,0,0⟩]]
def boxA (k:Nat):List Ax:=(List.range k).map (fun i:Nat=>(⟨3,0,(i:Int),0⟩:Ax))++List.replicate 84 ⟨1,0,0,0⟩
def boxW (k:Nat):List (Int × Int):=(List.range (min k 6)).map fun i:Nat=>(0,(i:Int))
theorem box_ok:∀ k,k<12->(runWS 2 (lenOf echoR) (xOf echoR) 40 (boxA k)).2=0/\(runWS 2 (lenOf echoR) (xOf echoR) 40 (boxA k)).1.prints=boxW k:=by decide +kernel
end
section
open Go.RowKit
theorem ins_lit {w:World} {B n:Nat} {c:Array Value} {t:TypeId} (h:w.heap[B]?=some (.cells c t (0,0))) (l:List Ins) (hn:l.length=n) (hc:c.toList=l.flatMap fIns) (hs:c.size=n*4) (hm:n<=maxLen):SeqAt fIns 4 w (some ⟨B,0,none⟩) l:=by
 have k:=ownsRow_lit (base:=0) h (Nat.zero_le _) hs hm;rw[hc,<- hn] at k;exact SeqOwn.at (f:=fIns) (s:=4) (fun _=>rfl) k
theorem kinds_two {w:World} {B:Nat} {a b:List Ins} {aa ba:Option Addr} {ac bc:Nat} {t:TypeId} (h:w.heap[B]?=some (.cells #[.slice aa a.length ac,.slice ba b.length bc] t (0,0))) (ha:SeqAt fIns 4 w aa a) (hb:SeqAt fIns 4 w ba b):KindsAt w (some ⟨B,0,none⟩) [a,b]:=fun r l hl=>by
 match r,hl with
 | 0,hl=>simp at hl;subst hl;exact⟨B,0,aa,ac,rfl,by rw[cellBlk h];rfl,ha⟩
 | 1,hl=>simp at hl;subst hl;exact⟨B,0,ba,bc,rfl,by rw[cellBlk h];rfl,hb⟩
 | r+2,hl=>simp at hl
theorem blk_up {w:World} {k:Nat} {x:Obj} (h:w.heap[k]?=some x) (o:Obj):(w.alloc o).heap[k]?=some x:=((below_box w o).block k (Array.getElem?_eq_some_iff.1 h).1).trans h
theorem echo_any (w:World):Calls Tryz.prog 18 #[] w fun e w'=>∃ ao,e=.returned (.agg #[.slice ao 2 2])/\Below w.heap.size w w'/\KindsAt w' ao echoR:=by
 obtain⟨N0,_,b1,s1⟩:=boxes1 w (.cells #[.slice none 0 0] 24)
 go_enter Tryz.func18,Tryz.ntmps18
 go_upto_region 1 with fail
 generalize w.alloc (.cells #[.slice none 0 0] 24)=W at *;have e0:=fun o1 o2 o3=>blk_up (blk_up (blk_up N0 o1) o2) o3
 have c0:∀ o1 o2 o3,(((W.alloc o1).alloc o2).alloc o3).cell? ⟨w.heap.size,0,none⟩=some (.slice none 0 0):=fun o1 o2 o3=>cell_blk (e0 o1 o2 o3) 0
 have cf:∀ o1 o2 o3 i,(((W.alloc o1).alloc o2).alloc o3).frozen? ⟨w.heap.size,i,none⟩=false:=fun o1 o2 o3 i=>fz_blk (e0 o1 o2 o3) i
 have sv:∀ v,(W.setCell ⟨w.heap.size,0,none⟩ v).heap.size=w.heap.size+1:=fun v=>by rw[<- s1];simp
 have NV:=fun v=>setCell_blk N0 0 v
 have z0:∀ o1 o2 o3 v,((((W.setCell ⟨w.heap.size,0,none⟩ v).alloc o1).alloc o2).alloc o3).cell? ⟨w.heap.size,0,none⟩=some v:=fun o1 o2 o3 v=>by
  have:=cell_blk (blk_up (blk_up (blk_up (NV v) o1) o2) o3) 0
  simpa using this
 have hbw:∀ o1 o2 o3 v,Below w.heap.size w ((((W.setCell ⟨w.heap.size,0,none⟩ v).alloc o1).alloc o2).alloc o3):=fun o1 o2 o3 v=>by
  have h0:Below w.heap.size w (W.setCell ⟨w.heap.size,0,none⟩ v):=b1.setCell (Nat.le_refl _) _;have h1:=h0.alloc h0.size o1;have h2:=h1.alloc h1.size o2;exact h2.alloc h2.size o3
 have E1:∀ o1 o2 o3 v,((((W.setCell ⟨w.heap.size,0,none⟩ v).alloc o1).alloc o2).alloc o3).heap[w.heap.size+1]?=some o1:=fun o1 o2 o3 v=>by
  have h:=Deep.blk_alloc_new (W.setCell ⟨w.heap.size,0,none⟩ v) o1;rw[sv] at h;exact blk_up (blk_up h o2) o3
 have E2:∀ o1 o2 o3 v,((((W.setCell ⟨w.heap.size,0,none⟩ v).alloc o1).alloc o2).alloc o3).heap[w.heap.size+1+1]?=some o2:=fun o1 o2 o3 v=>by
  have h:=Deep.blk_alloc_new ((W.setCell ⟨w.heap.size,0,none⟩ v).alloc o1) o2;have e:((W.setCell ⟨w.heap.size,0,none⟩ v).alloc o1).heap.size=w.heap.size+1+1:=by rw[<- sv v];simp[World.alloc]
  rw[e] at h;exact blk_up h o3
 have E3:∀ o1 o2 o3 v,((((W.setCell ⟨w.heap.size,0,none⟩ v).alloc o1).alloc o2).alloc o3).heap[w.heap.size+1+1+1]?=some o3:=fun o1 o2 o3 v=>by
  have h:=Deep.blk_alloc_new (((W.setCell ⟨w.heap.size,0,none⟩ v).alloc o1).alloc o2) o3;have e:(((W.setCell ⟨w.heap.size,0,none⟩ v).alloc o1).alloc o2).heap.size=w.heap.size+1+1+1:=by rw[<- sv v];simp[World.alloc]
  rw[e] at h;exact h
 go_wp2
 refine bodyPost_ret (v:=.agg #[.slice (some ⟨w.heap.size+1+1+1,0,none⟩) 2 2]) (by simp[results,Tryz.results18,go_sem,z0]) rfl ?_;have hmx:maxLen=9223372036854775807:=rfl;refine⟨_,rfl,hbw _ _ _ _,?_⟩;exact kinds_two (E3 _ _ _ _) (ins_lit (E1 _ _ _ _) _ (n:=13) rfl rfl rfl (by omega)) (ins_lit (E2 _ _ _ _) _ (n:=6) rfl rfl rfl (by omega))
end
section
open Go.RowKit
theorem equalTold_any (aa ab:Option Addr) (ca cb:Nat) (l:List (Int × Int)) (w:World) (ha:ToldAt w aa l) (hb:ToldAt w ab l) :
  Calls Tryz.prog 19 #[.slice aa l.length ca,.slice ab l.length cb] w fun e w'=>e=.returned (.bool true)/\∃ n,w'=w.drewN n:=by
 have hl:=ha.many;obtain⟨L,hL⟩:∃ L,L=l.length:=⟨_,rfl⟩;have HL:Aside (L=l.length):=hL;rw[<- hL] at hl ⊢;clear hL
 go_enter Tryz.func19,Tryz.ntmps19
 go_wp2
 go_loopg [13,5] L (fun g s13 s5 wr=>∃ i n:Nat,i<=L/\g=L-i/\s13=.int .i64 i/\wr=w.drewN n)
 case atStart=>exact⟨0,0,Nat.zero_le _,rfl,rfl,rfl⟩
 case round =>
  obtain⟨i,n,hi,rfl,rfl,rfl⟩:=hrel
  by_cases hiL:i<L
  ·have hiz:(i:Int)<(L:Int):=by omega
   obtain⟨⟨vk,vn⟩,hv⟩:=at_some (l:=l) (i:=i) (by rw[<- HL.out];exact hiL);obtain⟨ba,oa,rfl,a1,a2⟩:=ha.cell i _ hv;obtain⟨bb,ob,rfl,b1,b2⟩:=hb.cell i _ hv;simp only at a1 a2 b1 b2;clear hv;go_wp2
   go_quiet (fail)
   go_wp2
   go_roundg (L-(i+1))
   case measure=>go_light;omega
   case rel=>go_light;exact⟨i+1,_,by omega,rfl,by go_num,rfl⟩
  ·go_wp2
   go_ret
   exact⟨rfl,_,rfl⟩
end
section
open Go.RowKit
def tellsA (k:Nat):List Ax:=(List.range k).map (fun i:Nat=>(⟨3,0,(i:Int),0⟩:Ax))
theorem tells_next (k:Nat):tellsA (k+1)=tellsA k++[⟨3,0,(k:Int),0⟩]:=by
 unfold tellsA
 rw[List.range_succ,List.map_append]
 rfl
theorem tells_len (k:Nat):(tellsA k).length=k:=by simp[tellsA]
def tolds (k:Nat):List (Int × Int):=(List.range k).map fun i:Nat=>(0,(i:Int))
theorem tolds_next (k:Nat):tolds (k+1)=tolds k++[(0,(k:Int))]:=by
 unfold tolds
 rw[List.range_succ,List.map_append]
 rfl
theorem tolds_len (k:Nat):(tolds k).length=k:=by simp[tolds]
def insFc (x:Ins):Bool:=(decide (-4398046511104<=x.op) && decide (x.op<=4398046511104)) && ((decide (-4398046511104<=x.a) && decide (x.a<=4398046511104)) && ((decide (-4398046511104<=x.b) && decide (x.b<=4398046511104)) && (decide (-4398046511104<=x.n) && decide (x.n<=4398046511104))))
def fitC (r:List (List Ins)):Bool:=r.all (fun l=>decide (l.length<=1000) && l.all insFc)
theorem fitC_of {r:List (List Ins)} (h:fitC r=true):∀ l∈r,l.length<=1000000/\∀ x∈l,insFit x:=by
 simp only[fitC,Bool.and_eq_true,decide_eq_true_eq,List.all_eq_true] at h;intro l hl;obtain⟨h1,h2⟩:=h l hl;refine⟨by omega,fun x hx f hf=>?_⟩;have:=h2 x hx;simp only[insFc,Bool.and_eq_true,decide_eq_true_eq] at this
 match f,hf with
 | 0,_=>show -9223372036854775808<=x.op/\x.op<=9223372036854775807;omega
 | 1,_=>show -9223372036854775808<=x.a/\x.a<=9223372036854775807;omega
 | 2,_=>show -9223372036854775808<=x.b/\x.b<=9223372036854775807;omega
 | 3,_=>show -9223372036854775808<=x.n/\x.n<=9223372036854775807;omega
theorem echo_fits:fitC echoR=true:=by decide +kernel
theorem seqTl_new1 (w:World) (x:Int × Int) (t:TypeId) (B:Nat) (hB:B=w.heap.size):SeqAt fTl 2 (w.alloc (.cells #[.int .i64 x.1,.int .i64 x.2] t)) (some ⟨B,0,none⟩) [x]:=fun i y hy=>by
 match i,hy with
 | 0,hy =>
  simp at hy;subst hy;refine⟨B,0,rfl,fun j u hu=>?_⟩;rw[cellBlk (by rw[hB];exact Deep.blk_alloc_new w _)]
  simpa[fTl] using hu
 | i+1,hy=>simp at hy
def boxP (k j:Nat):List Ax:=tellsA k++List.replicate j ⟨1,0,0,0⟩
theorem boxP_next (k j:Nat):boxP k (j+1)=boxP k j++[⟨1,0,0,0⟩]:=by
 unfold boxP
 rw[List.replicate_succ',<- List.append_assoc]
theorem boxP_len (k j:Nat):(boxP k j).length=k+j:=by simp[boxP,tells_len]
theorem boxesFull_any (n:Int) (w:World) (hT:TabAt 0 w) (hn:fit64 n) :
  Calls Tryz.prog 6 #[.int .i64 n] w fun e w'=>e=.returned (.bool true)/\Below w.heap.size w w':=by
 have hp12:=pick_bd (n:=n) (many:=12) (by omega);obtain⟨k,hk⟩:=Int.eq_ofNat_of_zero_le hp12.1;have hk12:k<12:=by omega
 obtain⟨hbe,hbp⟩:=box_ok k hk12;have HBA:Aside (boxA k=tellsA k++List.replicate 84 ⟨1,0,0,0⟩):=rfl;have HBW:Aside (boxW k=tolds (min k 6)):=rfl;have hmx:maxLen=9223372036854775807:=rfl;have hO1:SeqOwn fAx 4 30 w w.heap.size (.slice none 0 0) (tellsA 0):=seqOwn_nil _ _
 go_enter Tryz.func6,Tryz.ntmps6
 go_wp2_with fail
 refine(picked_any n 12 w hn.1 hn.2 (by omega) (by omega)).mono ?_;rintro e w' ⟨rfl,rfl⟩;rw[hk]
 go_wp2_with fail
 go_loopg [13,4] k (fun gg s13 s4 wr=>∃ (i:Nat) (oa:Option Addr) (oc:Nat),i<=k/\gg=k-i/\s13=.int .i64 i/\s4=.slice oa i oc/\Aside (SeqOwn fAx 4 30 wr w.heap.size (.slice oa i oc) (tellsA i))/\Aside (Below w.heap.size w wr))
 case atStart=>exact⟨0,none,0,Nat.zero_le _,rfl,rfl,rfl,hO1,Below.refl _ _⟩
 case round =>
  obtain⟨i,oa,oc,hi,rfl,rfl,rfl,HO,HB⟩:=hrel;obtain⟨wO,hwO⟩:∃ wO,wO=wr:=⟨_,rfl⟩;subst hwO
  by_cases hiL:i<k
  ·have hiz:(i:Int)<(k:Int):=by omega
   have bx:=below_box wO (.cells #[.int .i64 3,.int .i64 0,.int .i64 i,.int .i64 0] 30);have hsn:=seqAx_new wO (⟨3,0,(i:Int),0⟩:Ax) 30 wO.heap.size rfl;have hO3:=HO.out.below bx;have hsz:=HB.out.size;have hB3:=HB.out.trans (bx.mono hsz);have htl:=tells_len i;have sx:(wO.alloc (.cells #[.int .i64 3,.int .i64 0,.int .i64 i,.int .i64 0] 30)).heap.size=wO.heap.size+1:=by simp
   go_upto_region 7 with(first | (at_builtin;refine wpList_seq Tryz.rowAx rfl _ _ (by rfl) (v:=.slice oa i oc) (by simp[Act.eval]) hO3 (by omega) [(⟨3,0,(i:Int),0⟩:Ax)] (some ⟨wO.heap.size,0,none⟩) 1 (by simp[Act.eval]) hsn (by simp) (by simp;omega) (by simp;omega) ?_;rintro g cap w5 hO4 hg4 hb4 hB4) | fail)
   have hO5:Aside (SeqOwn fAx 4 30 w5 w.heap.size (.slice (some ⟨g,0,none⟩) (i+1) cap) (tellsA (i+1))):=by
    show SeqOwn _ _ _ _ _ _ _
    rw[tells_next]
    simpa[htl] using hO4
   have hB5:Aside (Below w.heap.size w w5):=hB3.trans hb4;clear hO4 hO3 hB3 hg4 hb4 hB4 hsn bx;go_wp2
   go_roundg (k-(i+1))
   case measure=>go_light;omega
   case rel=>go_light;exact⟨i+1,some ⟨g,0,none⟩,cap,by omega,rfl,by go_num,by simp,hO5,hB5⟩
  ·have hge:¬ (i:Int)<(k:Int):=by omega
   have hik:i=k:=by omega
   subst hik;have hO2:SeqOwn fAx 4 30 wO w.heap.size (.slice oa i oc) (boxP i 0):=by
    show SeqOwn _ _ _ _ _ _ (tellsA i++[])
    rw[List.append_nil];exact HO.out
   clear HO hO1
   go_wp2_with fail
   go_loopg [22,4] 84 (fun gg s22 s4 wr=>∃ (j:Nat) (oa:Option Addr) (oc:Nat),j<=84/\gg=84-j/\s22=.int .i64 j/\s4=.slice oa (i+j) oc/\Aside (SeqOwn fAx 4 30 wr w.heap.size (.slice oa (i+j) oc) (boxP i j))/\Aside (Below w.heap.size w wr))
   case atStart=>exact⟨0,oa,oc,Nat.zero_le _,rfl,rfl,rfl,hO2,HB⟩
   case round =>
    obtain⟨j,ob,od,hj,rfl,rfl,rfl,HO,HB2⟩:=hrel;clear hO2 HB;obtain⟨wP,hwP⟩:∃ wP,wP=wr:=⟨_,rfl⟩;subst hwP
    by_cases hjL:j<84
    ·have hjz:(j:Int)<84:=by omega
     have bx:=below_box wP (.cells #[.int .i64 1,.int .i64 0,.int .i64 0,.int .i64 0] 30);have hsn:=seqAx_new wP (⟨1,0,0,0⟩:Ax) 30 wP.heap.size rfl;have hO3:=HO.out.below bx;have hsz:=HB2.out.size;have hB3:=HB2.out.trans (bx.mono hsz);have htl:=boxP_len i j;have sx:(wP.alloc (.cells #[.int .i64 1,.int .i64 0,.int .i64 0,.int .i64 0] 30)).heap.size=wP.heap.size+1:=by simp
     go_upto_region 11 with(first | (at_builtin;refine wpList_seq Tryz.rowAx rfl _ _ (by rfl) (v:=.slice ob (i+j) od) (by simp[Act.eval]) hO3 (by omega) [(⟨1,0,0,0⟩:Ax)] (some ⟨wP.heap.size,0,none⟩) 1 (by simp[Act.eval]) hsn (by simp) (by simp;omega) (by simp;omega) ?_;rintro g cap w5 hO4 hg4 hb4 hB4) | fail)
     have hO5:Aside (SeqOwn fAx 4 30 w5 w.heap.size (.slice (some ⟨g,0,none⟩) (i+(j+1)) cap) (boxP i (j+1))):=by
      show SeqOwn _ _ _ _ _ _ _
      rw[boxP_next,<- Nat.add_assoc]
      simpa[htl] using hO4
     have hB5:Aside (Below w.heap.size w w5):=hB3.trans hb4;clear hO4 hO3 hB3 hg4 hb4 hB4 hsn bx;go_wp2
     go_roundg (84-(j+1))
     case measure=>go_light;omega
     case rel=>go_light;exact⟨j+1,some ⟨g,0,none⟩,cap,by omega,rfl,by go_num,by simp[Nat.add_assoc],hO5,hB5⟩
    ·have hge:¬ (j:Int)<84:=by omega
     have hjk:j=84:=by omega
     subst hjk;have hAX:AxsAt wP ob (boxA i):=seqAx_to (HO.out.at Tryz.rowAx.len);have hBL:(boxA i).length=i+84:=boxP_len i 84;clear HO
     go_wp2_with fail
     refine(echo_any wP).mono ?_;rintro e w1 ⟨ao,rfl,hb1,hK⟩;obtain⟨A,C,hPA⟩:=prog_of hK (by decide) (fitC_of echo_fits);have hW1:=HB2.out.trans (hb1.mono HB2.out.size);have hr:=run_any ao 2 2 A (lenOf echoR) C (xOf echoR) 40 ob od (boxA i) w1 (hT.keeps (Keeps.below hW1)) hPA (hAX.keeps (Keeps.below hb1)) (by omega);rw[hBL] at hr;generalize runWS 2 (lenOf echoR) (xOf echoR) 40 (boxA i)=R at *;obtain⟨V,ee⟩:=R
     simp only at hbe hbp;subst hbe;have HBP:Aside (V.prints=boxW i):=hbp;clear hbp;clear hAX hBL hK hPA HB2 hb1
     go_wp2_with fail
     refine hr.mono ?_;rintro e w2 ⟨aa,ac,pa,pc,rfl,hb2,hVA,hVP,_⟩
     dsimp only at hVA hVP ⊢
     have hW2:=hW1.trans (hb2.mono hW1.size);generalize hLP:V.prints.length=LP;have HLP:Aside (V.prints.length=LP):=hLP;clear hLP;obtain⟨NW,_,cb,cs⟩:=boxes1 w2 (.cells #[.slice aa V.acts.length ac,.slice pa LP pc] 28);have hW3:=hW2.trans (cb.mono hW2.size);have HVP:Aside (ToldAt (w2.alloc (.cells #[.slice aa V.acts.length ac,.slice pa LP pc] 28)) pa V.prints):=hVP.keeps (Keeps.below cb);clear hr hVA hVP hW1 hb2 cb
     go_upto_region 13 with fail
     generalize w2.alloc (.cells #[.slice aa V.acts.length ac,.slice pa LP pc] 28)=w3 at *;have q1:w3.cell? ⟨w2.heap.size,1,none⟩=some (.slice pa LP pc):=cell_blk NW 1;clear NW cs;generalize w2.heap.size=Q at *;have hO5:SeqOwn fTl 2 43 w3 w3.heap.size (.slice none 0 0) (tolds 0):=seqOwn_nil _ _;obtain⟨mk,hmk⟩:∃ mk,mk=min i 6:=⟨_,rfl⟩;have HMK:Aside (mk=min i 6):=hmk;have hmi:(min (i:Int) 6:Int)=(mk:Int):=by omega
     clear hmk
     go_wp2_with fail
     go_loopg [37,8] mk (fun gg s37 s8 wr=>∃ (j:Nat) (oa:Option Addr) (oc:Nat),j<=mk/\gg=mk-j/\s37=.int .i64 j/\s8=.slice oa j oc/\Aside (SeqOwn fTl 2 43 wr w3.heap.size (.slice oa j oc) (tolds j))/\Aside (Below w3.heap.size w3 wr))
     case atStart=>exact⟨0,none,0,Nat.zero_le _,rfl,rfl,rfl,hO5,Below.refl _ _⟩
     case round =>
      obtain⟨j,oe,of_,hj,rfl,rfl,rfl,HO,HB⟩:=hrel;clear hO5;obtain⟨wQ,hwQ⟩:∃ wQ,wQ=wr:=⟨_,rfl⟩;subst hwQ
      by_cases hjL:j<mk
      rotate_left
      ·have hge:¬ (j:Int)<(mk:Int):=by omega
       have hjk:j=mk:=by omega
       subst hjk;have hTW:ToldAt wQ oe (tolds j):=seqTl_to (HO.out.at Tryz.rowTl.len) (by rw[tolds_len];omega);have hTV:ToldAt wQ pa V.prints:=HVP.out.keeps (Keeps.below HB.out);replace q1:=Keeps.below HB.out _ _ q1;have hVT:V.prints=tolds j:=by rw[HBP.out,HBW.out,HMK.out]
       have hle:LP=j:=by rw[<- HLP.out,hVT,tolds_len]
       rw[hVT] at hTV;have hte:=tolds_len j;have he:=equalTold_any pa oe pc of_ (tolds j) wQ hTV hTW;rw[hte] at he;subst hle;have hWz:=hW3.trans (HB.out.mono hW3.size);clear HO HVP HB hTW hTV hW3
       go_wp2_with fail
       refine he.mono ?_;rintro e w9 ⟨rfl,nn,rfl⟩;go_wp2
       go_ret
       exact⟨rfl,below_drewN hWz nn⟩
      ·have hjz:(j:Int)<(mk:Int):=by omega
       have bx:=below_box wQ (.cells #[.int .i64 0,.int .i64 j] 43);have hsn:=seqTl_new1 wQ (0,(j:Int)) 43 wQ.heap.size rfl;have hO3:=HO.out.below bx;have hsz:=HB.out.size;have hB3:=HB.out.trans (bx.mono hsz);have htl:=tolds_len j;have sx:(wQ.alloc (.cells #[.int .i64 0,.int .i64 j] 43)).heap.size=wQ.heap.size+1:=by simp
       go_upto_region 18 with(first | (at_builtin;refine wpList_seq Tryz.rowTl rfl _ _ (by rfl) (v:=.slice oe j of_) (by simp[Act.eval]) hO3 (by omega) [((0:Int),(j:Int))] (some ⟨wQ.heap.size,0,none⟩) 1 (by simp[Act.eval]) hsn (by simp) (by simp;omega) (by simp;omega) ?_;rintro g cap w5 hO4 hg4 hb4 hB4) | fail)
       have hO6:Aside (SeqOwn fTl 2 43 w5 w3.heap.size (.slice (some ⟨g,0,none⟩) (j+1) cap) (tolds (j+1))):=by
        show SeqOwn _ _ _ _ _ _ _
        rw[tolds_next]
        simpa[htl] using hO4
       have hB5:Aside (Below w3.heap.size w3 w5):=hB3.trans hb4;clear hO4 hO3 hB3 hg4 hb4 hB4 hsn bx;go_wp2
       go_roundg (mk-(j+1))
       case measure=>go_light;omega
       case rel=>go_light;exact⟨j+1,some ⟨g,0,none⟩,cap,by omega,rfl,by go_num,by simp,hO6,hB5⟩
theorem boxesFull_walk (n0:Int) (w:World) (hT:TabAt 0 w) (h0:-9223372036854775808<=n0/\n0<=9223372036854775807) :
  Calls Tryz.prog 6 #[.int .i64 n0] w fun e w'=>e=.returned (.bool true)/\Below w.heap.size w w' :=
 boxesFull_any n0 w hT h0
end
section
open Go.ChangeShapes Go.WideShapes Go.ChangeAt Go.RowKit
theorem and_up {a b:Bool} (ha:a=true) (hb:b=true):(a && b)=true:=by rw[ha,hb];rfl
theorem boxesFull_facts:joinedFacts Tryz.prog 6 Tryz.f6 Rows.boxesFullSpec Rows.boxesFullRow=true:=by
 unfold joinedFacts
 refine and_up ?_ (by as_aux_lemma=>kernel_rfl);refine and_up ?_ (by as_aux_lemma=>kernel_rfl);refine and_up ?_ (by as_aux_lemma=>kernel_rfl);refine and_up ?_ (by as_aux_lemma=>kernel_rfl);refine and_up ?_ (by as_aux_lemma=>kernel_rfl);refine and_up ?_ (by as_aux_lemma=>kernel_rfl);refine and_up ?_ (by as_aux_lemma=>kernel_rfl);refine and_up ?_ (by as_aux_lemma=>kernel_rfl);refine and_up ?_ (by as_aux_lemma=>kernel_rfl)
 refine and_up ?_ (by as_aux_lemma=>kernel_rfl);refine and_up ?_ (by as_aux_lemma=>kernel_rfl);refine and_up ?_ (by as_aux_lemma=>kernel_rfl);refine and_up ?_ (by as_aux_lemma=>kernel_rfl);refine and_up ?_ (by as_aux_lemma=>kernel_rfl);refine and_up ?_ (by as_aux_lemma=>kernel_rfl);refine and_up ?_ (by as_aux_lemma=>kernel_rfl);refine and_up ?_ (by as_aux_lemma=>kernel_rfl);refine and_up ?_ (by as_aux_lemma=>kernel_rfl)
 refine and_up ?_ (by as_aux_lemma=>kernel_rfl);refine and_up ?_ (by as_aux_lemma=>kernel_rfl);refine and_up ?_ (by as_aux_lemma=>kernel_rfl);refine and_up ?_ (by as_aux_lemma=>kernel_rfl);refine and_up ?_ (by as_aux_lemma=>kernel_rfl);refine and_up ?_ (by as_aux_lemma=>kernel_rfl);refine and_up ?_ (by as_aux_lemma=>kernel_rfl);refine and_up ?_ (by as_aux_lemma=>kernel_rfl);refine and_up ?_ (by as_aux_lemma=>kernel_rfl)
 refine and_up ?_ (by as_aux_lemma=>kernel_rfl);refine and_up ?_ (by as_aux_lemma=>kernel_rfl);refine and_up ?_ (by as_aux_lemma=>kernel_rfl);refine and_up ?_ (by as_aux_lemma=>kernel_rfl)
 as_aux_lemma=>kernel_rfl
end
end Go.Proofs.YtihpkcccfgbcmaaGreatDoor
