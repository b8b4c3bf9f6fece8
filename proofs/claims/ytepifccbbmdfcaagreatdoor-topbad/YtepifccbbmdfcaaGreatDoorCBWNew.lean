/- WNew. -/
import Derived.Test.YtepifccbbmdfcaaGreatDoorCBVCheck
namespace Go.Proofs.YtepifccbbmdfcaaGreatDoor
set_option maxRecDepth 100000
set_option maxHeartbeats 8000000
open Go.RowKit
theorem anumber_any (n:Int) (w:World):Calls Tryz.prog 45 #[.int .i64 n] w fun e w'=>e=.returned (.agg #[.int .i64 1,.int .i64 n])/\Below w.heap.size w w':=by
 go_enter Tryz.func45,Tryz.ntmps45
 go_wp2
 exact bodyPost_ret (v:=.agg #[.int .i64 1,.int .i64 n]) (by simp[results,Tryz.results45,go_sem]) rfl ⟨rfl,below_box _ _⟩
theorem vals_of_blk {w:World} {g:Nat} {c:Array Value} {t:TypeId} (l:List Vl) (h:w.heap[g]?=some (.cells c t (0,0))) (hc:c.toList=l.flatMap fun v=>[.int .i64 v.k,.int .i64 v.n]):ValsAt w (some ⟨g,0,none⟩) l:=fun i v hi=>by
 have h0:=flat_get (f:=fun v:Vl=>[Value.int .i64 v.k,.int .i64 v.n]) (s:=2) (fun _=>rfl) l i 0 hi (by omega);have h1:=flat_get (f:=fun v:Vl=>[Value.int .i64 v.k,.int .i64 v.n]) (s:=2) (fun _=>rfl) l i 1 hi (by omega);rw[<- hc,Array.getElem?_toList] at h0 h1;refine⟨g,0,rfl,?_,?_⟩
 ·rw[vCell_blk h,Nat.zero_add];exact h0
 ·rw[vCell_blk h,Nat.zero_add];exact h1
theorem made16:madeCells (Value.cells (.agg #[.int .i64 0,.int .i64 0])) (8*2)=#[.int .i64 0,.int .i64 0,.int .i64 0,.int .i64 0,.int .i64 0,.int .i64 0,.int .i64 0,.int .i64 0,.int .i64 0,.int .i64 0,.int .i64 0,.int .i64 0,.int .i64 0,.int .i64 0,.int .i64 0,.int .i64 0]:=by kernel_rfl
theorem make8 (w:World):(Instr.makeSlice 48 (.int .i64 8) (.int .i64 8)).run Tryz.prog w=.ok (.slice (some ⟨w.heap.size,0,none⟩) 8 8) (w.alloc (.cells #[.int .i64 0,.int .i64 0,.int .i64 0,.int .i64 0,.int .i64 0,.int .i64 0,.int .i64 0,.int .i64 0,.int .i64 0,.int .i64 0,.int .i64 0,.int .i64 0,.int .i64 0,.int .i64 0,.int .i64 0,.int .i64 0] 66)):=by
 have h:=run_make_rowk (P:=Tryz.prog) 2 48 66 _ 16 Tryz.underlying48 Tryz.infoV .i64 .i64 8 (by omega) (by omega) w;rw[made16] at h;exact h
theorem abeginning_any (kind par M:Int) (oa:Option Addr) (on oc:Nat) (k n:Int) (w:World) :
  Calls Tryz.prog 46 #[.int .i64 kind,.int .i64 par,.agg #[.int .i64 M,.slice oa on oc],.agg #[.int .i64 k,.int .i64 n]] w fun e w' =>
   ∃ g,e=.returned (.agg #[.int .i64 kind,.int .i64 par,.int .i64 M,.slice oa on oc,.slice (some ⟨g,0,none⟩) 8 8,.int .i64 (-1),.slice none 0 0,.int .i64 0])/\Below w.heap.size w w' /\
    w.heap.size<=g/\w'.heap[g]?=some (.cells #[.int .i64 k,.int .i64 n,.int .i64 0,.int .i64 0,.int .i64 0,.int .i64 0,.int .i64 0,.int .i64 0,.int .i64 0,.int .i64 0,.int .i64 0,.int .i64 0,.int .i64 0,.int .i64 0,.int .i64 0,.int .i64 0] 66):=by
 have hmk:=make8
 go_enter Tryz.func46,Tryz.ntmps46
 go_wp2
 obtain⟨_,_,_,D,_,hb,_⟩:=boxes4 w (.cells #[.int .i64 M,.slice oa on oc] 47) (.cells #[.int .i64 k,.int .i64 n] 66) (.cells #[.int .i64 kind,.int .i64 par,.int .i64 M,.slice oa on oc,.slice (some ⟨w.heap.size+1+1+1,0,none⟩) 8 8,.int .i64 (-1),.slice none 0 0,.int .i64 0] 50) (.cells #[.int .i64 k,.int .i64 n,.int .i64 0,.int .i64 0,.int .i64 0,.int .i64 0,.int .i64 0,.int .i64 0,.int .i64 0,.int .i64 0,.int .i64 0,.int .i64 0,.int .i64 0,.int .i64 0,.int .i64 0,.int .i64 0] 66)
 exact bodyPost_ret (v:=.agg #[.int .i64 kind,.int .i64 par,.int .i64 M,.slice oa on oc,.slice (some ⟨w.heap.size+1+1+1,0,none⟩) 8 8,.int .i64 (-1),.slice none 0 0,.int .i64 0]) (by simp[results,Tryz.results46,go_sem]) rfl ⟨_,rfl,hb,by omega,D⟩
theorem newW_at {W:World} {a f o g rc:Nat} {most:Int} {t1 t2 t3 t4:TypeId}
  (T:W.heap[a]?=some (.cells #[.int .i64 0,.int .i64 (-1),.int .i64 most,.slice (some ⟨o,0,none⟩) 1 1,.slice (some ⟨g,0,none⟩) 8 rc,.int .i64 (-1),.slice none 0 0,.int .i64 0] t1))
  (F:W.heap[f]?=some (.cells #[.int .i64 1,.int .i64 0,.int .i64 1,.int .i64 0] t2))
  (O:W.heap[o]?=some (.cells #[.slice (some ⟨f,0,none⟩) 2 2,.bool false] t3))
  (R:W.heap[g]?=some (.cells #[.int .i64 2,.int .i64 0,.int .i64 0,.int .i64 0,.int .i64 0,.int .i64 0,.int .i64 0,.int .i64 0,.int .i64 0,.int .i64 0,.int .i64 0,.int .i64 0,.int .i64 0,.int .i64 0,.int .i64 0,.int .i64 0] t4)):ActsAt W (some ⟨a,0,none⟩) (newW most).acts:=by
 refine⟨fun i x hi=>?_,by simp[newW]⟩;have hx:i=0/\x=beginS 0 (-1) most [⟨[numV 0,numV 0],false⟩] ⟨2,0⟩:=by
  obtain⟨h1,h2⟩:=List.getElem?_eq_some_iff.1 hi;simp[newW] at h1 h2;exact⟨h1,h2.symm⟩
 obtain⟨rfl,rfl⟩:=hx;have c:∀ (j:Nat) (v:Value),(#[.int .i64 0,.int .i64 (-1),.int .i64 most,.slice (some ⟨o,0,none⟩) 1 1,.slice (some ⟨g,0,none⟩) 8 rc,.int .i64 (-1),.slice none 0 0,.int .i64 0]:Array Value)[j]?=some v->W.cell? ⟨a,0+0*8+j,none⟩=some v:=fun j v h=>by rw[show 0+0*8+j=j by omega,cell_blk T];exact h
 refine⟨a,0,some ⟨o,0,none⟩,1,some ⟨g,0,none⟩,rc,none,0,rfl,c 0 _ rfl,c 1 _ rfl,c 2 _ rfl,c 3 _ rfl,c 4 _ rfl,c 5 _ rfl,c 6 _ rfl,c 7 _ rfl,?_,vals_of_blk _ R rfl,fun i v hi=>by simp[beginS] at hi,by simp[beginS],by simp[beginS]⟩;refine⟨fun i x hi=>?_,by simp[beginS]⟩;have hx:i=0/\x=⟨[numV 0,numV 0],false⟩:=by
  obtain⟨h1,h2⟩:=List.getElem?_eq_some_iff.1 hi;simp[beginS] at h1 h2;exact⟨h1,h2.symm⟩
 obtain⟨rfl,rfl⟩:=hx;exact⟨o,0,some ⟨f,0,none⟩,2,rfl,cell_blk O 0,cell_blk O 1,vals_of_blk _ F rfl,by simp⟩
def NewAt (W:World) (base:Nat) (aa:Option Addr) (ca:Nat) (most:Int):Prop:=∃ a f o g:Nat,aa=some ⟨a,0,none⟩/\ca=1 /\
 W.heap[a]?=some (.cells #[.int .i64 0,.int .i64 (-1),.int .i64 most,.slice (some ⟨o,0,none⟩) 1 1,.slice (some ⟨g,0,none⟩) 8 8,.int .i64 (-1),.slice none 0 0,.int .i64 0] 50) /\
 W.heap[f]?=some (.cells #[.int .i64 1,.int .i64 0,.int .i64 1,.int .i64 0] 66)/\W.heap[o]?=some (.cells #[.slice (some ⟨f,0,none⟩) 2 2,.bool false] 92) /\
 W.heap[g]?=some (.cells #[.int .i64 2,.int .i64 0,.int .i64 0,.int .i64 0,.int .i64 0,.int .i64 0,.int .i64 0,.int .i64 0,.int .i64 0,.int .i64 0,.int .i64 0,.int .i64 0,.int .i64 0,.int .i64 0,.int .i64 0,.int .i64 0] 66)/\base<=a/\base<=f/\base<=o/\base<=g/\[a,o,f,g].Nodup
def wnewE (G:Nat) (L:Nat->Nat) (X:Nat->Nat->Nat->Int) (most:Int):Int:=if (ckS G L X).2.2≠0 then (ckS G L X).2.2 else if most<2\/60<most then 2 else 0
def wnew (G:Nat) (L:Nat->Nat) (X:Nat->Nat->Nat->Int) (most:Int):Wd:=if wnewE G L X most=0 then newW most else ⟨[],[]⟩
theorem anewB_any (ao:Option Addr) (G cap:Nat) (A:Nat->Option Addr) (L C:Nat->Nat) (X:Nat->Nat->Nat->Int) (most:Int) (w:World) (hT:TabAt 0 w) (hp:ProgAt w ao G A L C X) :
  Calls Tryz.prog 24 #[.agg #[.slice ao G cap],.int .i64 most] w fun e w'=>∃ aa ca,
   e=.returned (.tuple #[.agg #[.slice aa (wnew G L X most).acts.length ca,.slice none (wnew G L X most).prints.length 0],.int .i64 (wnewE G L X most)])/\Below w.heap.size w w'/\ActsAt w' aa (wnew G L X most).acts/\ToldAt w' none (wnew G L X most).prints/\(wnewE G L X most=0->NewAt w' w.heap.size aa ca most):=by
 have HE:Aside (wnewE G L X most=if (ckS G L X).2.2≠0 then (ckS G L X).2.2 else if most<2\/60<most then 2 else 0):=rfl;have HW:Aside (wnew G L X most=if wnewE G L X most=0 then newW most else ⟨[],[]⟩):=rfl;generalize wnew G L X most=V at *;generalize wnewE G L X most=E at *;obtain⟨B0,B1,k1,b1,s1⟩:=boxes2 w (.cells #[.slice ao G cap] 38) (.cells #[.slice none 0 0,.slice none 0 0] 32)
 go_enter Tryz.func24,Tryz.ntmps24
 go_wp2_with fail
 replace hT:=hT.keeps k1;replace hp:=hp.keeps k1;generalize (w.alloc (.cells #[.slice ao G cap] 38)).alloc (.cells #[.slice none 0 0,.slice none 0 0] 32)=W at *;refine(vcheck_any ao G cap A L C X _ hT hp).mono ?_;rintro e w1 ⟨rfl,hb1⟩;have N0:w1.heap[w.heap.size]?=some (.cells #[.slice ao G cap] 38):=(hb1.block _ (by rw[s1];omega)).trans B0;have N1:w1.heap[w.heap.size+1]?=some (.cells #[.slice none 0 0,.slice none 0 0] 32):=(hb1.block _ (by rw[s1];omega)).trans B1
 have b2:=b1.trans (hb1.mono b1.size);have e0:=vCell_blk N1 0;have e1:=vCell_blk N1 1;have g0:=fz_blk N1 0;have g1:=fz_blk N1 1;simp at e0 e1;have hs:w.heap.size+1<w1.heap.size:=by have:=hb1.size;omega
 clear B0 B1 hb1 b1 s1 hT hp k1;obtain⟨p,hp⟩:∃ p,p=ckS G L X:=⟨_,rfl⟩;rw[<- hp] at HE ⊢;clear hp;obtain⟨p1,p2,p3⟩:=p;simp only at HE ⊢
 by_cases h3:p3=0
 ·subst h3
  by_cases hm:most<2\/60<most
  ·have hE:E=2:=by rw[HE.out];simp[hm]
   have hV:V=⟨[],[]⟩:=by rw[HW.out,hE];simp
   have HVE:Aside (V=_/\E=_):=⟨hV,hE⟩;clear hV hE;have M:=put2_blk N1 (.slice none 0 0) (.slice none 0 0);have hbM:=put2_below b2 (Nat.le_succ _) (A:=w.heap.size+1) (.slice none 0 0) (.slice none 0 0);have hmb:(decide (most<2))=true\/(decide (most<2)=false/\decide (60<most)=true):=by
    by_cases h2:most<2
    ·simp[h2]
    ·simp[h2];omega
   rcases hmb with h2 | ⟨h2,h60⟩
   ·simp at h2
    go_wp2
    change bodyPost _ _ _ _ _ (put2 w1 (w.heap.size+1) (.slice none 0 0) (.slice none 0 0))
    generalize put2 w1 (w.heap.size+1) (.slice none 0 0) (.slice none 0 0)=W3 at *;have m0:=cell_blk M 0;have m1:=cell_blk M 1;simp at m0 m1;exact bodyPost_ret (v:=.tuple #[.agg #[.slice none 0 0,.slice none 0 0],.int .i64 2]) (by simp[results,Tryz.results24,go_sem,m0,m1]) rfl ⟨none,0,by rw[HVE.out.1,HVE.out.2];rfl,hbM,by rw[HVE.out.1];exact ActsAt.nil _ _,by rw[HVE.out.1];exact ToldAt.nil _ _,fun h0=>absurd (HVE.out.2.symm.trans h0) (by decide)⟩
   ·simp at h2 h60
    go_wp2
    change bodyPost _ _ _ _ _ (put2 w1 (w.heap.size+1) (.slice none 0 0) (.slice none 0 0))
    generalize put2 w1 (w.heap.size+1) (.slice none 0 0) (.slice none 0 0)=W3 at *;have m0:=cell_blk M 0;have m1:=cell_blk M 1;simp at m0 m1;exact bodyPost_ret (v:=.tuple #[.agg #[.slice none 0 0,.slice none 0 0],.int .i64 2]) (by simp[results,Tryz.results24,go_sem,m0,m1]) rfl ⟨none,0,by rw[HVE.out.1,HVE.out.2];rfl,hbM,by rw[HVE.out.1];exact ActsAt.nil _ _,by rw[HVE.out.1];exact ToldAt.nil _ _,fun h0=>absurd (HVE.out.2.symm.trans h0) (by decide)⟩
  ·have hE:E=0:=by rw[HE.out];simp[hm]
   have hV:V=newW most:=by rw[HW.out,hE];simp
   have HVE:Aside (V=_/\E=_):=⟨hV,hE⟩;clear hV hE;simp only[not_or,Int.not_lt] at hm;obtain⟨hm1,hm2⟩:=hm
   go_wp2_with fail
   refine(anumber_any 0 _).mono ?_;rintro e w2 ⟨rfl,hb2⟩
   go_wp2_with fail
   refine(anumber_any 0 _).mono ?_;rintro e w3 ⟨rfl,hb3⟩;have b3:=b2.trans ((hb2.trans (hb3.mono hb2.size)).mono b2.size);have N3:w3.heap[w.heap.size+1]?=some (.cells #[.slice none 0 0,.slice none 0 0] 32):=((hb2.trans (hb3.mono hb2.size)).block _ hs).trans N1;have hs3:w.heap.size+1<w3.heap.size:=by have:=hb2.size;have:=hb3.size;omega
   clear hb2 hb3 b2 hs N1 N0 e0 e1 g0 g1;obtain⟨F,O,_,_,b4,s4⟩:=boxes3 w3 (.cells #[.int .i64 1,.int .i64 0,.int .i64 1,.int .i64 0] 66) (.cells #[.slice (some ⟨w3.heap.size,0,none⟩) 2 2,.bool false] 92) (.cells #[.int .i64 most,.slice (some ⟨w3.heap.size+1,0,none⟩) 1 1] 47)
   go_wp2_with fail
   have N4:((((w3.alloc (.cells #[.int .i64 1,.int .i64 0,.int .i64 1,.int .i64 0] 66)).alloc (.cells #[.slice (some ⟨w3.heap.size,0,none⟩) 2 2,.bool false] 92)).alloc (.cells #[.int .i64 most,.slice (some ⟨w3.heap.size+1,0,none⟩) 1 1] 47))).heap[w.heap.size+1]?=_:=(b4.block _ hs3).trans N3;generalize ((w3.alloc (.cells #[.int .i64 1,.int .i64 0,.int .i64 1,.int .i64 0] 66)).alloc (.cells #[.slice (some ⟨w3.heap.size,0,none⟩) 2 2,.bool false] 92)).alloc (.cells #[.int .i64 most,.slice (some ⟨w3.heap.size+1,0,none⟩) 1 1] 47)=W4 at *
   refine(abeginning_any 0 (-1) most _ 1 1 2 0 W4).mono ?_;rintro e w5 ⟨g,rfl,hb5,hg,R⟩;have b5:=b3.trans ((b4.trans (hb5.mono b4.size)).mono b3.size);have N5:=(hb5.block _ (by omega)).trans N4;have F5:=(hb5.block _ (by omega)).trans F;have O5:=(hb5.block _ (by omega)).trans O;have hs5:=hb5.size;have hg5:g<w5.heap.size:=(Array.getElem?_eq_some_iff.1 R).1;clear N4 N3 F O b4 b3 hb5;obtain⟨_,T6,_,b6,s6⟩:=boxes2 w5 (.cells #[.int .i64 0,.int .i64 (-1),.int .i64 most,.slice (some ⟨w3.heap.size+1,0,none⟩) 1 1,.slice (some ⟨g,0,none⟩) 8 8,.int .i64 (-1),.slice none 0 0,.int .i64 0] 50) (.cells #[.int .i64 0,.int .i64 (-1),.int .i64 most,.slice (some ⟨w3.heap.size+1,0,none⟩) 1 1,.slice (some ⟨g,0,none⟩) 8 8,.int .i64 (-1),.slice none 0 0,.int .i64 0] 50)
   have N6:=(b6.block _ (by omega)).trans N5;have F6:=(b6.block _ (by omega)).trans F5;have O6:=(b6.block _ (by omega)).trans O5;have R6:=(b6.block _ hg5).trans R;have e0:=cell_blk N6 0;have e1:=cell_blk N6 1;have g0:=fz_blk N6 0;have g1:=fz_blk N6 1;simp only[List.getElem?_toArray,List.getElem?_cons_zero,List.getElem?_cons_succ] at e0 e1;have b7:=b5.trans (b6.mono b5.size);clear b6 b5 N5 F5 O5 R
   go_wp2_with fail
   generalize (w5.alloc (.cells #[.int .i64 0,.int .i64 (-1),.int .i64 most,.slice (some ⟨w3.heap.size+1,0,none⟩) 1 1,.slice (some ⟨g,0,none⟩) 8 8,.int .i64 (-1),.slice none 0 0,.int .i64 0] 50)).alloc (.cells #[.int .i64 0,.int .i64 (-1),.int .i64 most,.slice (some ⟨w3.heap.size+1,0,none⟩) 1 1,.slice (some ⟨g,0,none⟩) 8 8,.int .i64 (-1),.slice none 0 0,.int .i64 0] 50)=W7 at *;have M:=put2_blk N6 (.slice (some ⟨w5.heap.size+1,0,none⟩) 1 1) (.slice none 0 0)
   have hbM:=put2_below b7 (Nat.le_succ _) (A:=w.heap.size+1) (.slice (some ⟨w5.heap.size+1,0,none⟩) 1 1) (.slice none 0 0);have T7:=(put2_other (.slice (some ⟨w5.heap.size+1,0,none⟩) 1 1) (.slice none 0 0) (show w5.heap.size+1≠w.heap.size+1 by omega)).trans T6;have F7:=(put2_other (.slice (some ⟨w5.heap.size+1,0,none⟩) 1 1) (.slice none 0 0) (show w3.heap.size≠w.heap.size+1 by omega)).trans F6;have O7:=(put2_other (.slice (some ⟨w5.heap.size+1,0,none⟩) 1 1) (.slice none 0 0) (show w3.heap.size+1≠w.heap.size+1 by omega)).trans O6
   have R7:=(put2_other (.slice (some ⟨w5.heap.size+1,0,none⟩) 1 1) (.slice none 0 0) (show g≠w.heap.size+1 by omega)).trans R6
   change bodyPost _ _ _ _ _ (put2 W7 (w.heap.size+1) (.slice (some ⟨w5.heap.size+1,0,none⟩) 1 1) (.slice none 0 0))
   generalize put2 W7 (w.heap.size+1) (.slice (some ⟨w5.heap.size+1,0,none⟩) 1 1) (.slice none 0 0)=W8 at *;have m0:=cell_blk M 0;have m1:=cell_blk M 1;simp at m0 m1;have HNA:Aside (NewAt W8 w.heap.size (some ⟨w5.heap.size+1,0,none⟩) 1 most):=⟨w5.heap.size+1,w3.heap.size,w3.heap.size+1,g,rfl,rfl,T7,F7,O7,R7,by omega,by omega,by omega,by omega,by simp only[List.nodup_cons,List.mem_cons,List.not_mem_nil,or_false,not_or,not_false_eq_true,List.nodup_nil,and_true];omega⟩
   have hacts:ActsAt W8 (some ⟨w5.heap.size+1,0,none⟩) (newW most).acts:=newW_at T7 F7 O7 R7;exact bodyPost_ret (v:=.tuple #[.agg #[.slice (some ⟨w5.heap.size+1,0,none⟩) 1 1,.slice none 0 0],.int .i64 0]) (by simp[results,Tryz.results24,go_sem,m0,m1]) rfl ⟨_,1,by rw[HVE.out.1,HVE.out.2];rfl,hbM,by rw[HVE.out.1];exact hacts,by rw[HVE.out.1];exact ToldAt.nil _ _,fun _=>HNA.out⟩
 ·have hE:E=p3:=by rw[HE.out];simp[h3]
  have hV:V=⟨[],[]⟩:=by rw[HW.out,hE];simp[h3]
  have HVE:Aside (V=_/\E=_):=⟨hV,hE⟩;clear hV hE;have M:=put2_blk N1 (.slice none 0 0) (.slice none 0 0);have hbM:=put2_below b2 (Nat.le_succ _) (A:=w.heap.size+1) (.slice none 0 0) (.slice none 0 0);have h3b:(p3 != 0)=true:=by simp[h3]
  go_wp2
  change bodyPost _ _ _ _ _ (put2 w1 (w.heap.size+1) (.slice none 0 0) (.slice none 0 0))
  generalize put2 w1 (w.heap.size+1) (.slice none 0 0) (.slice none 0 0)=W3 at *;have m0:=cell_blk M 0;have m1:=cell_blk M 1;simp at m0 m1;exact bodyPost_ret (v:=.tuple #[.agg #[.slice none 0 0,.slice none 0 0],.int .i64 p3]) (by simp[results,Tryz.results24,go_sem,m0,m1]) rfl ⟨none,0,by rw[HVE.out.1,HVE.out.2];rfl,hbM,by rw[HVE.out.1];exact ActsAt.nil _ _,by rw[HVE.out.1];exact ToldAt.nil _ _,fun h0=>absurd (HVE.out.2.symm.trans h0) h3⟩
end Go.Proofs.YtepifccbbmdfcaaGreatDoor
