/- HTransfer. -/
import Derived.Test.YtddokajfafmhhaaGreatDoorCBHLaws3
namespace Go.Proofs.YtddokajfafmhhaaGreatDoor
set_option maxRecDepth 100000
set_option maxHeartbeats 8000000
open Go.RowKit Go.Maps
theorem HeapOwn.put2Low {w:World} {base:Nat} {v:Value} {rows:List (Value × Ob)} (h:HeapOwn w base v rows) {A:Nat} (hA:A < base) (x y:Value):HeapOwn (put2 w A x y) base v rows:=(h.setLow (a:=⟨A,0,none⟩) hA _).setLow (a:=⟨A,1,none⟩) hA _
theorem put2_grown (w:World) (A:Nat) (x y:Value):w.grownBy (put2 w A x y) (some A):=grownBy_trans (grownBy_set w A 0 x) (grownBy_set _ A 1 y)
theorem MvAt.kept {w w':World} {B:Nat} {order:List Int} {b:Int} (h:MvAt w B order b) {r:Option Nat} (hg:w.grownBy w' r) (hr:∀ g,r=some g→∃ c t,w.heap[g]?=some (.cells c t (0,0))∧t≠123):MvAt w' B order b:=by
 obtain ⟨m,hB,D,n,hD,hh⟩:=h
 have hBr:some B≠r:=fun e=>by
  obtain ⟨c,t,h1,h2⟩:=hr B e.symm
  rw [hB] at h1
  simp only [Option.some.injEq,Obj.cells.injEq] at h1
  exact h2 h1.2.1.symm
 have hmr:some m≠r:=fun e=>by
  obtain ⟨c,t,h1,h2⟩:=hr m e.symm
  exact map_not_cells hD h1 rfl
 exact ⟨m,(hg.block B (Array.getElem?_eq_some_iff.1 hB).1 hBr).trans hB,D,n,hD.kept hg hmr,hh⟩
theorem MvAt.put2 {w:World} {B:Nat} {order:List Int} {b:Int} (h:MvAt w B order b) {A:Nat} {c:Array Value} {t:TypeId} (hA:w.heap[A]?=some (.cells c t (0,0))) (ht:t≠123) (x y:Value):MvAt (put2 w A x y) B order b :=
 h.kept (put2_grown w A x y) (fun g e=>by cases e;exact ⟨c,t,hA,ht⟩)
def HeapsApart (v1:Value) (r1:List (Value × Ob)) (v2:Value) (r2:List (Value × Ob)):Prop:=(v1.ownBlock=none∨v1.ownBlock≠v2.ownBlock)∧∀ p∈r1,∀ q∈r2,p.1.ownBlock=none∨p.1.ownBlock≠q.1.ownBlock
theorem buryR_mem (ps:List Int):∀ (rows:List (Value × Ob)) (p:Value × Ob),p∈buryR rows ps→p∈rows∨p.1.ownBlock=none:=by
 induction ps with
 | nil=>intro rows p h;exact .inl h
 | cons q r ih =>
  intro rows p h
  rcases ih _ p h with h1 | h1
  ·rcases List.mem_or_eq_of_mem_set h1 with h2 | h2
   ·exact .inl h2
   ·exact .inr (by rw [h2];rfl)
  ·exact .inr h1
abbrev HtS (B:Nat) (a b c d e f:Value) (x:World):Prop:=x.cell? ⟨B,0,none⟩=some a∧x.cell? ⟨B,1,none⟩=some b∧x.cell? ⟨B+1+1,0,none⟩=some c∧x.cell? ⟨B+1+1,1,none⟩=some d∧x.cell? ⟨B+1,0,none⟩=some e∧x.cell? ⟨B+1,1,none⟩=some f
theorem transfer_any2 (M:Int) (ao:Option Addr) (cap:Nat) (l:List Ob) (k n:Int) (M':Int) (ao':Option Addr) (cap':Nat) (l':List Ob) (move:Bool) (w:World) (h:ObsAt w ao l) (h':ObsAt w ao' l') :
  Calls Tryz.prog 134 #[.agg #[.int .i64 M,.slice ao l.length cap],.agg #[.int .i64 k,.int .i64 n],.agg #[.int .i64 M',.slice ao' l'.length cap'],.bool move] w fun e w' =>
   ∃ fa fc ta tc rows1 rows2,e=.returned (.tuple #[.agg #[.int .i64 (transferS M l ⟨k,n⟩ M' l' move).M1,.slice fa (transferS M l ⟨k,n⟩ M' l' move).o1.length fc],.agg #[.int .i64 (transferS M l ⟨k,n⟩ M' l' move).M2,.slice ta (transferS M l ⟨k,n⟩ M' l' move).o2.length tc],.agg #[.int .i64 (transferS M l ⟨k,n⟩ M' l' move).v.k,.int .i64 (transferS M l ⟨k,n⟩ M' l' move).v.n],.int .i64 (transferS M l ⟨k,n⟩ M' l' move).e]) ∧
    Below w.heap.size w w'∧rows1.map (·.2)=(transferS M l ⟨k,n⟩ M' l' move).o1∧rows2.map (·.2)=(transferS M l ⟨k,n⟩ M' l' move).o2 ∧
    HeapOwn w' w.heap.size (.slice fa (transferS M l ⟨k,n⟩ M' l' move).o1.length fc) rows1∧HeapOwn w' w.heap.size (.slice ta (transferS M l ⟨k,n⟩ M' l' move).o2.length tc) rows2 ∧HeapsApart (.slice fa (transferS M l ⟨k,n⟩ M' l' move).o1.length fc) rows1 (.slice ta (transferS M l ⟨k,n⟩ M' l' move).o2.length tc) rows2:=by
 go_enter Tryz.func134,Tryz.ntmps134
 go_upto_region 1 with fail
 obtain ⟨N0,N1,N2,N3,N4,N5,k1,b1,hs'⟩:=boxes6 w (Obj.cells #[.int .i64 M,.slice ao l.length cap] 39) (Obj.cells #[.int .i64 k,.int .i64 n] 86) (Obj.cells #[.int .i64 M',.slice ao' l'.length cap'] 39) (Obj.cells #[.int .i64 0,.slice none 0 0] 39) (Obj.cells #[.int .i64 0,.slice none 0 0] 39) (Obj.cells #[.int .i64 0,.int .i64 0] 86)
 generalize (((((w.alloc (Obj.cells #[.int .i64 M,.slice ao l.length cap] 39)).alloc (Obj.cells #[.int .i64 k,.int .i64 n] 86)).alloc (Obj.cells #[.int .i64 M',.slice ao' l'.length cap'] 39)).alloc (Obj.cells #[.int .i64 0,.slice none 0 0] 39)).alloc (Obj.cells #[.int .i64 0,.slice none 0 0] 39)).alloc (Obj.cells #[.int .i64 0,.int .i64 0] 86)=W at *
 have hs:w.heap.size+1+1+1+1+1+1≤W.heap.size:=Nat.le_of_eq hs'.symm
 clear hs'
 have hck:=transferable_any M ao cap l k n M' ao' cap' l' W (h.keeps k1) (h'.keeps k1)
 have c0:=cell_blk N0 0
 have c1:=cell_blk N0 1
 have c2:=cell_blk N1 0
 have c3:=cell_blk N1 1
 have c4:=cell_blk N2 0
 have c5:=cell_blk N2 1
 simp at c0 c1 c2 c3 c4 c5
 go_wp2_with fail
 refine hck.mono ?_
 clear hck
 rintro e w1 ⟨ov,oc,rfl,hb1,hI⟩
 replace N0:=(hb1.block _ (by omega)).trans N0
 replace N1:=(hb1.block _ (by omega)).trans N1
 replace N2:=(hb1.block _ (by omega)).trans N2
 replace N3:=(hb1.block _ (by omega)).trans N3
 replace N4:=(hb1.block _ (by omega)).trans N4
 replace N5:=(hb1.block _ (by omega)).trans N5
 replace c0:=Keeps.below hb1 _ _ c0
 replace c1:=Keeps.below hb1 _ _ c1
 replace c2:=Keeps.below hb1 _ _ c2
 replace c3:=Keeps.below hb1 _ _ c3
 replace c4:=Keeps.below hb1 _ _ c4
 replace c5:=Keeps.below hb1 _ _ c5
 replace k1:=k1.trans (Keeps.below hb1)
 replace b1:=b1.trans (hb1.mono b1.size)
 have hs1:w.heap.size+1+1+1+1+1+1≤w1.heap.size:=by have:=hb1.size;omega
 replace hI:=ownsRow_le hI (show w.heap.size+1+1+1+1+1+1≤W.heap.size from hs)
 clear hb1 hs
 obtain ⟨order,ee,htr⟩:∃ order ee,trS M l ⟨k,n⟩ M' l'=(order,ee):=⟨_,_,rfl⟩
 have HTR:Aside (trS M l ⟨k,n⟩ M' l'=(order,ee)):=htr
 rw [htr] at hI ⊢
 clear htr
 simp only at hI ⊢
 by_cases hee:ee=0
 ·subst hee
  have h0:(trS M l ⟨k,n⟩ M' l').2=0:=by rw [HTR.out]
  obtain ⟨hA,hB,ho,hdead,hroom⟩:=trS_ok h0
  rw [HTR.out] at ho
  simp only at ho
  have hok:=reach_ok hA [⟨k,n⟩] (hMay_roots' hA)
  have hld1:Leads (reach l [⟨k,n⟩]) [⟨k,n⟩]:=leads_roots
  have hld2:∀ p∈reach l [⟨k,n⟩],Leads (reach l [⟨k,n⟩]) (obAt l p).fs:=fun p hp=>leads_fields hA hp
  rw [← ho] at hok hld1 hld2 hroom
  have hl60:=hMay_bound hA
  have hl60':=hMay_bound hB
  have hM60:=mMay_of hB
  have hol:=hok.len
  have hkn:=hld1 ⟨k,n⟩ (by simp)
  have hnb:k=2→0≤n∧n < 60:=fun e=>by have:=hok.2 _ (hkn e);simp only at this;omega
  simp only at hkn
  have HS:Aside (transferS M l ⟨k,n⟩ M' l' move=⟨M,if move then buryL l order else l,M',l'++mvObs l order l'.length order,mvV order l'.length ⟨k,n⟩,0⟩):=by
   show transferS _ _ _ _ _ _=_
   rw [transferS,HTR.out]
   simp
  have HOK:Aside (Ok l.length order∧Ok 60 order∧Leads order [⟨k,n⟩]∧(∀ p∈order,Leads order (obAt l p).fs)):=⟨hok,hok.mono hl60,hld1,hld2⟩
  clear h0 hA hB ho hdead hok hld1 hld2
  have hI60:order.length+l'.length≤60:=by omega
  go_wp2_with fail
  refine (newPlaces_any ov oc order l'.length w1 (IntsOwn.at hI) HOK.out.2.1 (by omega) (by omega)).mono ?_
  rintro e w2 ⟨m,rfl,hP,hb2⟩
  go_wp2_with fail
  refine (mover_any m order l'.length w2 hP).mono ?_
  rintro e w3 ⟨B,rfl,hM,hb3⟩
  go_upto_region 5 with fail
  have hb13:Below w1.heap.size w1 w3:=hb2.trans (hb3.mono hb2.size)
  have k13:=Keeps.below hb13
  replace c0:=k13 _ _ c0
  replace c1:=k13 _ _ c1
  replace c2:=k13 _ _ c2
  replace c3:=k13 _ _ c3
  replace c4:=k13 _ _ c4
  replace c5:=k13 _ _ c5
  replace N0:=(hb13.block _ (by omega)).trans N0
  replace N1:=(hb13.block _ (by omega)).trans N1
  replace N2:=(hb13.block _ (by omega)).trans N2
  replace N3:=(hb13.block _ (by omega)).trans N3
  replace N4:=(hb13.block _ (by omega)).trans N4
  replace N5:=(hb13.block _ (by omega)).trans N5
  replace k1:=k1.trans k13
  replace b1:=b1.trans (hb13.mono b1.size)
  replace hs1:w.heap.size+1+1+1+1+1+1≤w3.heap.size:=by have:=hb13.size;omega
  replace hI:=ownsRow_below hI hb13
  clear k13 hb13 hb2 hb3 hP
  have hob:=h.keeps k1
  have hob':=h'.keeps k1
  clear h h' k1
  refine wp_region_need (fun j=>j != 4 && j != 5) (fun w'=>w'.cell? ⟨w.heap.size,0,none⟩=some (.int .i64 M)∧w'.cell? ⟨w.heap.size,1,none⟩=some (.slice ao l.length cap)∧w'.cell? ⟨w.heap.size+1+1,0,none⟩=some (.int .i64 M')∧w'.cell? ⟨w.heap.size+1+1,1,none⟩=some (.slice ao' l'.length cap')) (by kernel_rfl) ⟨c0,c1,c4,c5⟩ (fun hS=>?_)
  have hbd:Below w3.heap.size w3 w3.drew:=(Below.refl _ _).drew
  clear c0 c1 c4 c5
  refine tkN 0 hS ?_
  refine tkN 2 hS ?_
  refine stN 1 (fun K hK=>?_)
  go_simp
  refine (clone_any M ao cap l _ (hob.keeps (Keeps.below hbd))).mono ?_
  rintro e w4 ⟨g1,rows1,rfl,hr1,hO1,hb4⟩
  replace hb4:Below w3.heap.size w3 w4:=hbd.trans hb4
  have k4:=Keeps.below hb4
  have hO1':HeapOwn w4 w3.heap.size (.slice (some ⟨g1,0,none⟩) l.length l.length) rows1:=hO1
  replace hS:=(⟨k4 _ _ hS.1,k4 _ _ hS.2.1,k4 _ _ hS.2.2.1,k4 _ _ hS.2.2.2⟩:w4.cell? ⟨w.heap.size,0,none⟩=some (.int .i64 M)∧w4.cell? ⟨w.heap.size,1,none⟩=some (.slice ao l.length cap)∧w4.cell? ⟨w.heap.size+1+1,0,none⟩=some (.int .i64 M')∧w4.cell? ⟨w.heap.size+1+1,1,none⟩=some (.slice ao' l'.length cap'))
  refine hK.out _ _ (fun _=>hS) ?_
  clear hK hbd hO1
  refine stN 3 (fun K hK=>?_)
  go_simp
  refine (clone_any M' ao' cap' l' _ (hob'.keeps k4)).mono ?_
  rintro e w5 ⟨g2,rows2,rfl,hr2,hO2,hb5⟩
  have k5:=Keeps.below hb5
  replace hS:=(⟨k5 _ _ hS.1,k5 _ _ hS.2.1,k5 _ _ hS.2.2.1,k5 _ _ hS.2.2.2⟩:w5.cell? ⟨w.heap.size,0,none⟩=some (.int .i64 M)∧w5.cell? ⟨w.heap.size,1,none⟩=some (.slice ao l.length cap)∧w5.cell? ⟨w.heap.size+1+1,0,none⟩=some (.int .i64 M')∧w5.cell? ⟨w.heap.size+1+1,1,none⟩=some (.slice ao' l'.length cap'))
  refine hK.out _ _ (fun _=>hS) ?_
  have hg12:g2≠g1:=by
   have h1:=(World.ownsRow.lt hO1'.top g1 rfl).2
   have h2:=(World.ownsRow.lt hO2.top g2 rfl).1
   omega
  replace hO1:=hO1'.below hb5
  have hb35:Below w3.heap.size w3 w5:=hb4.trans (hb5.mono hb4.size)
  have hO2':HeapOwn w5 w3.heap.size (.slice (some ⟨g2,0,none⟩) l'.length l'.length) rows2:=hO2.le hb4.size
  have hap:∀ (i j:Nat) p q,rows1[i]?=some p→rows2[j]?=some q→p.1.ownBlock=none∨p.1.ownBlock≠q.1.ownBlock:=fun i j p q hp hq=>by
   have h1:=apart_new hO1' (hO2.row j q hq).1 (Nat.le_refl _) i p hp
   rcases h1 with h1 | h1
   ·by_cases hpn:p.1.ownBlock=none
    ·exact Or.inl hpn
    ·exact Or.inr (fun e=>hpn (by rw [e];exact h1))
   ·exact Or.inr (fun e=>h1 e.symm)
  clear hK hO1' hO2 hb4 hb5 k4 k5 hob hob'
  replace N0:=(hb35.block _ (by omega)).trans N0
  replace N1:=(hb35.block _ (by omega)).trans N1
  replace N2:=(hb35.block _ (by omega)).trans N2
  replace N3:=(hb35.block _ (by omega)).trans N3
  replace N4:=(hb35.block _ (by omega)).trans N4
  replace N5:=(hb35.block _ (by omega)).trans N5
  have hM5:=hM.below hb35
  have hI5:=ownsRow_below hI hb35
  have b5:=b1.trans (hb35.mono b1.size)
  have hs5:=hb35.size
  have f0:∀ j,w5.frozen? ⟨w.heap.size,j,none⟩=false:=fun j=>fz_blk N0 j
  have f2:∀ j,w5.frozen? ⟨w.heap.size+1+1,j,none⟩=false:=fun j=>fz_blk N2 j
  refine stN 4 (fun K hK=>?_)
  have y0:=hS.1
  have y1:=hS.2.1
  have y2:=hS.2.2.1
  have y3:=hS.2.2.2
  go_simp
  refine hK.out _ _ (fun h=>absurd h (by decide)) ?_
  clear hK
  refine stN 5 (fun K hK=>?_)
  go_simp
  refine hK.out _ _ (fun h=>absurd h (by decide)) ?_
  clear hK
  refine dnN ?_
  clear hS y0 y1 y2 y3 f0 f2
  have PC:=put2_blk (w:=put2 w5 w.heap.size (.int .i64 M) (.slice (some ⟨g1,0,none⟩) l.length l.length)) ((put2_other _ _ (by omega)).trans N2) (.int .i64 M') (.slice (some ⟨g2,0,none⟩) l'.length l'.length)
  have PA:=(put2_other (w:=put2 w5 w.heap.size (.int .i64 M) (.slice (some ⟨g1,0,none⟩) l.length l.length)) (A:=w.heap.size+1+1) (.int .i64 M') (.slice (some ⟨g2,0,none⟩) l'.length l'.length) (show w.heap.size≠_ by omega)).trans (put2_blk N0 (.int .i64 M) (.slice (some ⟨g1,0,none⟩) l.length l.length))
  replace N1:=((put2_other (w:=put2 w5 w.heap.size (.int .i64 M) (.slice (some ⟨g1,0,none⟩) l.length l.length)) (A:=w.heap.size+1+1) (.int .i64 M') (.slice (some ⟨g2,0,none⟩) l'.length l'.length) (by omega)).trans (put2_other (w:=w5) (A:=w.heap.size) (.int .i64 M) (.slice (some ⟨g1,0,none⟩) l.length l.length) (by omega))).trans N1
  replace N3:=((put2_other (w:=put2 w5 w.heap.size (.int .i64 M) (.slice (some ⟨g1,0,none⟩) l.length l.length)) (A:=w.heap.size+1+1) (.int .i64 M') (.slice (some ⟨g2,0,none⟩) l'.length l'.length) (by omega)).trans (put2_other (w:=w5) (A:=w.heap.size) (.int .i64 M) (.slice (some ⟨g1,0,none⟩) l.length l.length) (by omega))).trans N3
  replace N4:=((put2_other (w:=put2 w5 w.heap.size (.int .i64 M) (.slice (some ⟨g1,0,none⟩) l.length l.length)) (A:=w.heap.size+1+1) (.int .i64 M') (.slice (some ⟨g2,0,none⟩) l'.length l'.length) (by omega)).trans (put2_other (w:=w5) (A:=w.heap.size) (.int .i64 M) (.slice (some ⟨g1,0,none⟩) l.length l.length) (by omega))).trans N4
  replace N5:=((put2_other (w:=put2 w5 w.heap.size (.int .i64 M) (.slice (some ⟨g1,0,none⟩) l.length l.length)) (A:=w.heap.size+1+1) (.int .i64 M') (.slice (some ⟨g2,0,none⟩) l'.length l'.length) (by omega)).trans (put2_other (w:=w5) (A:=w.heap.size) (.int .i64 M) (.slice (some ⟨g1,0,none⟩) l.length l.length) (by omega))).trans N5
  have hO1p:=(hO1.put2Low (A:=w.heap.size) (by omega) (.int .i64 M) (.slice (some ⟨g1,0,none⟩) l.length l.length)).put2Low (A:=w.heap.size+1+1) (by omega) (.int .i64 M') (.slice (some ⟨g2,0,none⟩) l'.length l'.length)
  have hO2p:=(hO2'.put2Low (A:=w.heap.size) (by omega) (.int .i64 M) (.slice (some ⟨g1,0,none⟩) l.length l.length)).put2Low (A:=w.heap.size+1+1) (by omega) (.int .i64 M') (.slice (some ⟨g2,0,none⟩) l'.length l'.length)
  have b6:=put2_below (put2_below b5 (Nat.le_refl _) (.int .i64 M) (.slice (some ⟨g1,0,none⟩) l.length l.length)) (A:=w.heap.size+1+1) (by omega) (.int .i64 M') (.slice (some ⟨g2,0,none⟩) l'.length l'.length)
  have hI6:IntsOwn (put2 (put2 w5 w.heap.size (.int .i64 M) (.slice (some ⟨g1,0,none⟩) l.length l.length)) (w.heap.size+1+1) (.int .i64 M') (.slice (some ⟨g2,0,none⟩) l'.length l'.length)) (w.heap.size+1+1+1+1+1+1) (.slice ov order.length oc) order:=ownsRow_setCell_below (ownsRow_setCell_below (ownsRow_setCell_below (ownsRow_setCell_below hI5 (a:=⟨w.heap.size,0,none⟩) (by show w.heap.size < _;omega) (.int .i64 M)) (a:=⟨w.heap.size,1,none⟩) (by show w.heap.size < _;omega) (.slice (some ⟨g1,0,none⟩) l.length l.length)) (a:=⟨w.heap.size+1+1,0,none⟩) (by show w.heap.size+1+1 < _;omega) (.int .i64 M')) (a:=⟨w.heap.size+1+1,1,none⟩) (by show w.heap.size+1+1 < _;omega) (.slice (some ⟨g2,0,none⟩) l'.length l'.length)
  have hM6:MvAt (put2 (put2 w5 w.heap.size (.int .i64 M) (.slice (some ⟨g1,0,none⟩) l.length l.length)) (w.heap.size+1+1) (.int .i64 M') (.slice (some ⟨g2,0,none⟩) l'.length l'.length)) B order l'.length:=(hM5.put2 N0 (by decide) _ _).put2 ((put2_other _ _ (by omega)).trans N2) (by decide) _ _
  have hs6:w3.heap.size≤(put2 (put2 w5 w.heap.size (.int .i64 M) (.slice (some ⟨g1,0,none⟩) l.length l.length)) (w.heap.size+1+1) (.int .i64 M') (.slice (some ⟨g2,0,none⟩) l'.length l'.length)).heap.size:=by rw [put2_size,put2_size];exact hs5
  change Exit.then _ _ _ _ (put2 (put2 w5 w.heap.size (.int .i64 M) (.slice (some ⟨g1,0,none⟩) l.length l.length)) (w.heap.size+1+1) (.int .i64 M') (.slice (some ⟨g2,0,none⟩) l'.length l'.length))
  clear hO1 hO2' b5 hI5 hM5 N0 N2 hI hM hb35 b1 hs5
  generalize (put2 (put2 w5 w.heap.size (.int .i64 M) (.slice (some ⟨g1,0,none⟩) l.length l.length)) (w.heap.size+1+1) (.int .i64 M') (.slice (some ⟨g2,0,none⟩) l'.length l'.length))=w6 at *
  have c0:=cell_blk PA 0
  have c1:=cell_blk PA 1
  have c4:=cell_blk PC 0
  have c5:=cell_blk PC 1
  simp at c0 c1 c4 c5
  go_upto_region 6 with fail
  refine wp_region_need (fun j=>j != 8) (fun w'=>w'.cell? ⟨w.heap.size,0,none⟩=some (.int .i64 M)∧w'.cell? ⟨w.heap.size,1,none⟩=some (.slice (some ⟨g1,0,none⟩) l.length l.length)∧w'.cell? ⟨w.heap.size+1+1,0,none⟩=some (.int .i64 M')∧w'.cell? ⟨w.heap.size+1+1,1,none⟩=some (.slice (some ⟨g2,0,none⟩) l'.length l'.length)) (by kernel_rfl) ⟨c0,c1,c4,c5⟩ (fun hS=>?_)
  have hbd:Below w6.heap.size w6 w6.drew:=(Below.refl _ _).drew
  clear c0 c1 c4 c5
  refine tkN 0 hS ?_
  refine tkN 1 hS ?_
  refine tkN 2 hS ?_
  refine tkN 3 hS ?_
  refine tkN 4 hS ?_
  refine stN 5 (fun K hK=>?_)
  go_simp
  have hob1:=hO1p.obs.2
  rw [hr1] at hob1
  refine (movedObjects_any M (some ⟨g1,0,none⟩) l.length l ov oc order B order l'.length w6.drew (hob1.keeps (Keeps.below hbd)) ((IntsOwn.at hI6).keeps (Keeps.below hbd)) (hM6.below hbd) HOK.out.1 hl60 HOK.out.2.2.2 HOK.out.2.1).mono ?_
  rintro e w7 ⟨g3,rows3,rfl,hO3,hr3,hb7⟩
  replace hb7:Below w6.heap.size w6 w7:=hbd.trans hb7
  replace hO3:HeapOwn w7 w6.heap.size (.slice (some ⟨g3,0,none⟩) order.length order.length) rows3:=hO3
  have k7:=Keeps.below hb7
  replace hS:=(⟨k7 _ _ hS.1,k7 _ _ hS.2.1,k7 _ _ hS.2.2.1,k7 _ _ hS.2.2.2⟩:w7.cell? ⟨w.heap.size,0,none⟩=some (.int .i64 M)∧w7.cell? ⟨w.heap.size,1,none⟩=some (.slice (some ⟨g1,0,none⟩) l.length l.length)∧w7.cell? ⟨w.heap.size+1+1,0,none⟩=some (.int .i64 M')∧w7.cell? ⟨w.heap.size+1+1,1,none⟩=some (.slice (some ⟨g2,0,none⟩) l'.length l'.length))
  refine hK.out _ _ (fun _=>hS) ?_
  have hr3l:order.length=rows3.length:=by have:=congrArg List.length hr3;rw [List.length_map,mvObs_length'] at this;exact this.symm
  have hr2l:rows2.length=l'.length:=by rw [← hr2,List.length_map]
  have hap3:∀ (i j:Nat) p q,rows2[i]?=some p→rows3[j]?=some q→p.1.ownBlock=none∨p.1.ownBlock≠q.1.ownBlock:=fun i j p q hp hq=>by
   have h1:=apart_new hO2p (hO3.row j q hq).1 (Nat.le_refl _) i p hp
   rcases h1 with h1 | h1
   ·by_cases hpn:p.1.ownBlock=none
    ·exact Or.inl hpn
    ·exact Or.inr (fun e=>hpn (by rw [e];exact h1))
   ·exact Or.inr (fun e=>h1 e.symm)
  have hap13:∀ (i j:Nat) p q,rows1[i]?=some p→rows3[j]?=some q→p.1.ownBlock=none∨p.1.ownBlock≠q.1.ownBlock:=fun i j p q hp hq=>by
   have h1:=apart_new hO1p (hO3.row j q hq).1 (Nat.le_refl _) i p hp
   rcases h1 with h1 | h1
   ·by_cases hpn:p.1.ownBlock=none
    ·exact Or.inl hpn
    ·exact Or.inr (fun e=>hpn (by rw [e];exact h1))
   ·exact Or.inr (fun e=>h1 e.symm)
  have HAPX:Aside (∀ p∈rows1,∀ q∈rows2++rows3,p.1.ownBlock=none∨p.1.ownBlock≠q.1.ownBlock):=fun p hp q hq=>by
   obtain ⟨i,hi⟩:=List.mem_iff_getElem?.1 hp
   rcases List.mem_append.1 hq with hq | hq
   ·obtain ⟨k,hk⟩:=List.mem_iff_getElem?.1 hq
    exact hap i k p q hi hk
   ·obtain ⟨k,hk⟩:=List.mem_iff_getElem?.1 hq
    exact hap13 i k p q hi hk
  clear hap13
  have hO1q:=hO1p.below hb7
  have hO2q:=hO2p.below hb7
  have hM7:=hM6.below hb7
  have hI7:=ownsRow_below hI6 hb7
  replace PA:=(hb7.block _ (by omega)).trans PA
  replace PC:=(hb7.block _ (by omega)).trans PC
  replace N1:=(hb7.block _ (by omega)).trans N1
  replace N3:=(hb7.block _ (by omega)).trans N3
  replace N4:=(hb7.block _ (by omega)).trans N4
  replace N5:=(hb7.block _ (by omega)).trans N5
  have b7:=b6.trans (hb7.mono b6.size)
  have hs7:w3.heap.size≤w7.heap.size:=by have:=hb7.size;omega
  have hs67:=hb7.size
  clear hK hbd hb7 k7 hO1p hO2p hM6 hI6 b6 hob1
  have hHR3:Aside (order.length=rows3.length):=hr3l
  have hHR2:Aside (rows2.length=l'.length):=hr2l
  clear hr3l hr2l
  refine wpAnyN_one (i:=6) (by kernel_rfl) rfl (fun K hK=>?_)
  refine step_catObs (by rfl) _ _ (by rfl) (by rfl) hO2q (by omega) g3 order.length order.length hHR3.out hO3 (by omega) (by rfl) hap3 (by have:=hHR3.out;have:=hHR2.out;omega) ?_
  intro ta tc w8 hO8 hg8 hown8
  replace PA:=owns_blk hO2q.top hg8 PA (by decide)
  replace PC:=owns_blk hO2q.top hg8 PC (by decide)
  replace N1:=owns_blk hO2q.top hg8 N1 (by decide)
  replace N3:=owns_blk hO2q.top hg8 N3 (by decide)
  replace N4:=owns_blk hO2q.top hg8 N4 (by decide)
  replace N5:=owns_blk hO2q.top hg8 N5 (by decide)
  have c0:=cell_blk PA 0
  have c1:=cell_blk PA 1
  have c4:=cell_blk PC 0
  have c5:=cell_blk PC 1
  simp at c0 c1 c4 c5
  replace hS:=(⟨c0,c1,c4,c5⟩:w8.cell? ⟨w.heap.size,0,none⟩=some (.int .i64 M)∧w8.cell? ⟨w.heap.size,1,none⟩=some (.slice (some ⟨g1,0,none⟩) l.length l.length)∧w8.cell? ⟨w.heap.size+1+1,0,none⟩=some (.int .i64 M')∧w8.cell? ⟨w.heap.size+1+1,1,none⟩=some (.slice (some ⟨g2,0,none⟩) l'.length l'.length))
  refine otN hK hS ?_
  obtain ⟨oc2,hgo2⟩:=hO2q.blk
  have hO1r:HeapOwn w8 w3.heap.size (.slice (some ⟨g1,0,none⟩) l.length l.length) rows1:=hO1q.other hg8 (fun e=>hg12 (by simp only [Value.ownBlock,Option.some.injEq] at e;exact e.symm)) hgo2
  have hI8:=World.ownsRow.kept hI7 hg8 (owns_other hI7 hO2q.top (by decide))
  have hM8:=hM7.kept hg8 (fun g e=>by simp only [Value.ownBlock,Option.some.injEq] at e;subst e;exact ⟨_,_,hgo2,by decide⟩)
  have b8:Below w.heap.size w w8:=b7.grown hg8 b7.size (fun j hj=>by have:=(World.ownsRow.lt hO2q.top j hj).1;omega)
  have hs8:w3.heap.size≤w8.heap.size:=by have:=hg8.size;omega
  have hta:(Value.slice ta (rows2.length+order.length) tc).ownBlock≠some g1:=fun e=>by
   rcases hown8 with h1 | ⟨gg,h1,h2⟩
   ·rw [e] at h1
    simp only [Value.ownBlock,Option.some.injEq] at h1
    exact hg12 h1.symm
   ·rw [e] at h1
    simp only [Option.some.injEq] at h1
    have:=(World.ownsRow.lt hO1q.top g1 rfl).2
    omega
  rw [hHR2.out] at hO8 hta ⊢
  have HTA:Aside ((Value.slice ta (l'.length+order.length) tc).ownBlock≠some g1):=hta
  clear hta hown8 hK hO1q hO2q hM7 hI7 hg8 hgo2 b7 hap hap3 hO3
  refine tkN 7 hS ?_
  refine stN 8 (fun K hK=>?_)
  have f2:∀ j,w8.frozen? ⟨w.heap.size+1+1,j,none⟩=false:=fun j=>fz_blk PC j
  go_simp
  refine hK.out _ _ (fun h=>absurd h (by decide)) ?_
  clear hK
  refine dnN ?_
  clear hS c0 c1 c4 c5 f2
  have PC9:=setCell_blk PC 1 (.slice ta (l'.length+order.length) tc)
  have oth:∀ k,k≠w.heap.size+1+1→(w8.setCell ⟨w.heap.size+1+1,1,none⟩ (.slice ta (l'.length+order.length) tc)).heap[k]?=w8.heap[k]?:=fun k hk=>Deep.blk_setCell_other _ ⟨w.heap.size+1+1,1,none⟩ _ _ hk
  replace PA:=(oth _ (by omega)).trans PA
  replace N1:=(oth _ (by omega)).trans N1
  replace N3:=(oth _ (by omega)).trans N3
  replace N4:=(oth _ (by omega)).trans N4
  replace N5:=(oth _ (by omega)).trans N5
  have hO1s:=hO1r.setLow (a:=⟨w.heap.size+1+1,1,none⟩) (by show w.heap.size+1+1 < _;omega) (.slice ta (l'.length+order.length) tc)
  have hO9:=hO8.setLow (a:=⟨w.heap.size+1+1,1,none⟩) (by show w.heap.size+1+1 < _;omega) (.slice ta (l'.length+order.length) tc)
  have hI9:IntsOwn (w8.setCell ⟨w.heap.size+1+1,1,none⟩ (.slice ta (l'.length+order.length) tc)) (w.heap.size+1+1+1+1+1+1) (.slice ov order.length oc) order:=ownsRow_setCell_below hI8 (a:=⟨w.heap.size+1+1,1,none⟩) (by show w.heap.size+1+1 < _;omega) (.slice ta (l'.length+order.length) tc)
  have hM9:=hM8.kept (grownBy_set w8 (w.heap.size+1+1) 1 (.slice ta (l'.length+order.length) tc)) (fun g e=>by cases e;exact ⟨_,_,PC,by decide⟩)
  have b9:Below w.heap.size w (w8.setCell ⟨w.heap.size+1+1,1,none⟩ (.slice ta (l'.length+order.length) tc)):=b8.setCell (by show w.heap.size≤w.heap.size+1+1;omega) _
  have hs9:w3.heap.size≤(w8.setCell ⟨w.heap.size+1+1,1,none⟩ (.slice ta (l'.length+order.length) tc)).heap.size:=by simp [World.setCell];exact hs8
  clear oth hO1r hO8 hI8 hM8 b8 PC
  generalize w8.setCell ⟨w.heap.size+1+1,1,none⟩ (.slice ta (l'.length+order.length) tc)=w9 at *
  simp at PC9
  have c0:=cell_blk PA 0
  have c1:=cell_blk PA 1
  have c2:=cell_blk N1 0
  have c3:=cell_blk N1 1
  have c4:=cell_blk PC9 0
  have c5:=cell_blk PC9 1
  simp at c0 c1 c2 c3 c4 c5
  cases move with
  | false =>
   go_upto_region 9 with fail
   refine wp_region_need (fun j=>true) (fun w'=>w'.cell? ⟨w.heap.size,0,none⟩=some (.int .i64 M)∧w'.cell? ⟨w.heap.size,1,none⟩=some (.slice (some ⟨g1,0,none⟩) l.length l.length)∧w'.cell? ⟨w.heap.size+1+1,0,none⟩=some (.int .i64 M')∧w'.cell? ⟨w.heap.size+1+1,1,none⟩=some (.slice ta (l'.length+order.length) tc)∧w'.cell? ⟨w.heap.size+1,0,none⟩=some (.int .i64 k)∧w'.cell? ⟨w.heap.size+1,1,none⟩=some (.int .i64 n)) (by kernel_rfl) ⟨c0,c1,c4,c5,c2,c3⟩ (fun hS=>?_)
   have hbd:Below w9.heap.size w9 w9.drew:=(Below.refl _ _).drew
   clear c0 c1 c2 c3 c4 c5
   refine tkN 0 hS ?_
   refine tkN 1 hS ?_
   refine tkN 2 hS ?_
   refine tkN 3 hS ?_
   refine stN 4 (fun K hK=>?_)
   go_simp
   refine (mover1_any k n B order l'.length w9.drew (hM9.below hbd) hkn hnb).mono ?_
   rintro e wz ⟨rfl,hbz⟩
   replace hbz:Below w9.heap.size w9 wz:=hbd.trans hbz
   have kz:=Keeps.below hbz
   replace hS:=(⟨kz _ _ hS.1,kz _ _ hS.2.1,kz _ _ hS.2.2.1,kz _ _ hS.2.2.2.1,kz _ _ hS.2.2.2.2.1,kz _ _ hS.2.2.2.2.2⟩:wz.cell? ⟨w.heap.size,0,none⟩=some (.int .i64 M)∧wz.cell? ⟨w.heap.size,1,none⟩=some (.slice (some ⟨g1,0,none⟩) l.length l.length)∧wz.cell? ⟨w.heap.size+1+1,0,none⟩=some (.int .i64 M')∧wz.cell? ⟨w.heap.size+1+1,1,none⟩=some (.slice ta (l'.length+order.length) tc)∧wz.cell? ⟨w.heap.size+1,0,none⟩=some (.int .i64 k)∧wz.cell? ⟨w.heap.size+1,1,none⟩=some (.int .i64 n))
   refine hK.out _ _ (fun _=>hS) ?_
   generalize hx:mvV order l'.length ⟨k,n⟩=x
   have HX:Aside (mvV order l'.length ⟨k,n⟩=x):=hx
   clear hx
   obtain ⟨x1,x2⟩:=x
   simp only
   replace N3:=(hbz.block _ (by omega)).trans N3
   replace N4:=(hbz.block _ (by omega)).trans N4
   replace N5:=(hbz.block _ (by omega)).trans N5
   have hOa:=hO1s.below hbz
   have hOb:=hO9.below hbz
   have bz:=b9.trans (hbz.mono b9.size)
   have f3:∀ j,wz.frozen? ⟨w.heap.size+1+1+1,j,none⟩=false:=fun j=>fz_blk N3 j
   have f4:∀ j,wz.frozen? ⟨w.heap.size+1+1+1+1,j,none⟩=false:=fun j=>fz_blk N4 j
   have f5:∀ j,wz.frozen? ⟨w.heap.size+1+1+1+1+1,j,none⟩=false:=fun j=>fz_blk N5 j
   have d0:=cell_blk N3 0
   have d1:=cell_blk N3 1
   have d2:=cell_blk N4 0
   have d3:=cell_blk N4 1
   have d4:=cell_blk N5 0
   have d5:=cell_blk N5 1
   simp at d0 d1 d2 d3 d4 d5
   clear hK hbz kz hbd hO1s hO9 b9 hM9
   have hS5:HtS w.heap.size (.int .i64 M) (.slice (some ⟨g1,0,none⟩) l.length l.length) (.int .i64 M') (.slice ta (l'.length+order.length) tc) (.int .i64 k) (.int .i64 n) (put2 wz (w.heap.size+1+1+1) (.int .i64 M) (.slice (some ⟨g1,0,none⟩) l.length l.length)):=⟨(World.cell?_of_block (put2_other _ _ (by show w.heap.size≠_;omega))).trans hS.1,(World.cell?_of_block (put2_other _ _ (by show w.heap.size≠_;omega))).trans hS.2.1,(World.cell?_of_block (put2_other _ _ (by show w.heap.size+1+1≠_;omega))).trans hS.2.2.1,(World.cell?_of_block (put2_other _ _ (by show w.heap.size+1+1≠_;omega))).trans hS.2.2.2.1,(World.cell?_of_block (put2_other _ _ (by show w.heap.size+1≠_;omega))).trans hS.2.2.2.2.1,(World.cell?_of_block (put2_other _ _ (by show w.heap.size+1≠_;omega))).trans hS.2.2.2.2.2⟩
   have HS5:Aside (HtS w.heap.size (.int .i64 M) (.slice (some ⟨g1,0,none⟩) l.length l.length) (.int .i64 M') (.slice ta (l'.length+order.length) tc) (.int .i64 k) (.int .i64 n) (put2 wz (w.heap.size+1+1+1) (.int .i64 M) (.slice (some ⟨g1,0,none⟩) l.length l.length))):=hS5
   clear hS5 hS
   refine stN 5 (fun K hK=>?_)
   go_simp
   have hS:=HS5.out
   refine hK.out _ _ (fun _=>hS) ?_
   clear hK
   have hS6:HtS w.heap.size (.int .i64 M) (.slice (some ⟨g1,0,none⟩) l.length l.length) (.int .i64 M') (.slice ta (l'.length+order.length) tc) (.int .i64 k) (.int .i64 n) (put2 (put2 wz (w.heap.size+1+1+1) (.int .i64 M) (.slice (some ⟨g1,0,none⟩) l.length l.length)) (w.heap.size+1+1+1+1) (.int .i64 M') (.slice ta (l'.length+order.length) tc)):=⟨(World.cell?_of_block (put2_other _ _ (by show w.heap.size≠_;omega))).trans hS.1,(World.cell?_of_block (put2_other _ _ (by show w.heap.size≠_;omega))).trans hS.2.1,(World.cell?_of_block (put2_other _ _ (by show w.heap.size+1+1≠_;omega))).trans hS.2.2.1,(World.cell?_of_block (put2_other _ _ (by show w.heap.size+1+1≠_;omega))).trans hS.2.2.2.1,(World.cell?_of_block (put2_other _ _ (by show w.heap.size+1≠_;omega))).trans hS.2.2.2.2.1,(World.cell?_of_block (put2_other _ _ (by show w.heap.size+1≠_;omega))).trans hS.2.2.2.2.2⟩
   have HS6:Aside (HtS w.heap.size (.int .i64 M) (.slice (some ⟨g1,0,none⟩) l.length l.length) (.int .i64 M') (.slice ta (l'.length+order.length) tc) (.int .i64 k) (.int .i64 n) (put2 (put2 wz (w.heap.size+1+1+1) (.int .i64 M) (.slice (some ⟨g1,0,none⟩) l.length l.length)) (w.heap.size+1+1+1+1) (.int .i64 M') (.slice ta (l'.length+order.length) tc))):=hS6
   clear hS6 hS
   refine stN 6 (fun K hK=>?_)
   go_simp
   have hS:=HS6.out
   refine hK.out _ _ (fun _=>hS) ?_
   clear hK
   have hS7:HtS w.heap.size (.int .i64 M) (.slice (some ⟨g1,0,none⟩) l.length l.length) (.int .i64 M') (.slice ta (l'.length+order.length) tc) (.int .i64 k) (.int .i64 n) (put2 (put2 (put2 wz (w.heap.size+1+1+1) (.int .i64 M) (.slice (some ⟨g1,0,none⟩) l.length l.length)) (w.heap.size+1+1+1+1) (.int .i64 M') (.slice ta (l'.length+order.length) tc)) (w.heap.size+1+1+1+1+1) (.int .i64 x1) (.int .i64 x2)):=⟨(World.cell?_of_block (put2_other _ _ (by show w.heap.size≠_;omega))).trans hS.1,(World.cell?_of_block (put2_other _ _ (by show w.heap.size≠_;omega))).trans hS.2.1,(World.cell?_of_block (put2_other _ _ (by show w.heap.size+1+1≠_;omega))).trans hS.2.2.1,(World.cell?_of_block (put2_other _ _ (by show w.heap.size+1+1≠_;omega))).trans hS.2.2.2.1,(World.cell?_of_block (put2_other _ _ (by show w.heap.size+1≠_;omega))).trans hS.2.2.2.2.1,(World.cell?_of_block (put2_other _ _ (by show w.heap.size+1≠_;omega))).trans hS.2.2.2.2.2⟩
   have HS7:Aside (HtS w.heap.size (.int .i64 M) (.slice (some ⟨g1,0,none⟩) l.length l.length) (.int .i64 M') (.slice ta (l'.length+order.length) tc) (.int .i64 k) (.int .i64 n) (put2 (put2 (put2 wz (w.heap.size+1+1+1) (.int .i64 M) (.slice (some ⟨g1,0,none⟩) l.length l.length)) (w.heap.size+1+1+1+1) (.int .i64 M') (.slice ta (l'.length+order.length) tc)) (w.heap.size+1+1+1+1+1) (.int .i64 x1) (.int .i64 x2))):=hS7
   clear hS7 hS
   refine stN 7 (fun K hK=>?_)
   go_simp
   have hS:=HS7.out
   refine hK.out _ _ (fun _=>hS) ?_
   clear hK
   refine tkN 8 hS ?_
   refine dnN ?_
   have p3:=put2_blk (w:=(put2 (put2 wz (w.heap.size+1+1+1) (.int .i64 M) (.slice (some ⟨g1,0,none⟩) l.length l.length)) (w.heap.size+1+1+1+1) (.int .i64 M') (.slice ta (l'.length+order.length) tc))) (A:=w.heap.size+1+1+1+1+1) (((put2_other _ _ (by omega)).trans (put2_other _ _ (by omega))).trans N5) (.int .i64 x1) (.int .i64 x2)
   have p2:=(put2_other (w:=(put2 (put2 wz (w.heap.size+1+1+1) (.int .i64 M) (.slice (some ⟨g1,0,none⟩) l.length l.length)) (w.heap.size+1+1+1+1) (.int .i64 M') (.slice ta (l'.length+order.length) tc))) (A:=w.heap.size+1+1+1+1+1) (.int .i64 x1) (.int .i64 x2) (show w.heap.size+1+1+1+1≠_ by omega)).trans (put2_blk ((put2_other _ _ (by omega)).trans N4) (.int .i64 M') (.slice ta (l'.length+order.length) tc))
   have p1:=(put2_other (w:=(put2 (put2 wz (w.heap.size+1+1+1) (.int .i64 M) (.slice (some ⟨g1,0,none⟩) l.length l.length)) (w.heap.size+1+1+1+1) (.int .i64 M') (.slice ta (l'.length+order.length) tc))) (A:=w.heap.size+1+1+1+1+1) (.int .i64 x1) (.int .i64 x2) (show w.heap.size+1+1+1≠_ by omega)).trans ((put2_other (A:=w.heap.size+1+1+1+1) (.int .i64 M') (.slice ta (l'.length+order.length) tc) (show w.heap.size+1+1+1≠_ by omega)).trans (put2_blk N3 (.int .i64 M) (.slice (some ⟨g1,0,none⟩) l.length l.length)))
   have bb:Below w.heap.size w (put2 (put2 (put2 wz (w.heap.size+1+1+1) (.int .i64 M) (.slice (some ⟨g1,0,none⟩) l.length l.length)) (w.heap.size+1+1+1+1) (.int .i64 M') (.slice ta (l'.length+order.length) tc)) (w.heap.size+1+1+1+1+1) (.int .i64 x1) (.int .i64 x2)):=put2_below (put2_below (put2_below bz (by omega) _ _) (by omega) _ _) (by omega) _ _
   have hOA:HeapOwn (put2 (put2 (put2 wz (w.heap.size+1+1+1) (.int .i64 M) (.slice (some ⟨g1,0,none⟩) l.length l.length)) (w.heap.size+1+1+1+1) (.int .i64 M') (.slice ta (l'.length+order.length) tc)) (w.heap.size+1+1+1+1+1) (.int .i64 x1) (.int .i64 x2)) w3.heap.size (.slice (some ⟨g1,0,none⟩) l.length l.length) rows1:=((hOa.put2Low (by omega) _ _).put2Low (by omega) _ _).put2Low (by omega) _ _
   have hOB:HeapOwn (put2 (put2 (put2 wz (w.heap.size+1+1+1) (.int .i64 M) (.slice (some ⟨g1,0,none⟩) l.length l.length)) (w.heap.size+1+1+1+1) (.int .i64 M') (.slice ta (l'.length+order.length) tc)) (w.heap.size+1+1+1+1+1) (.int .i64 x1) (.int .i64 x2)) w3.heap.size (.slice ta (l'.length+order.length) tc) (rows2++rows3):=((hOb.put2Low (by omega) _ _).put2Low (by omega) _ _).put2Low (by omega) _ _
   change Exit.then _ _ _ _ (put2 (put2 (put2 wz (w.heap.size+1+1+1) (.int .i64 M) (.slice (some ⟨g1,0,none⟩) l.length l.length)) (w.heap.size+1+1+1+1) (.int .i64 M') (.slice ta (l'.length+order.length) tc)) (w.heap.size+1+1+1+1+1) (.int .i64 x1) (.int .i64 x2))
   clear hOa hOb bz N3 N4 N5 f3 f4 f5 d0 d1 d2 d3 d4 d5 hS HS5 HS6 HS7
   generalize (put2 (put2 (put2 wz (w.heap.size+1+1+1) (.int .i64 M) (.slice (some ⟨g1,0,none⟩) l.length l.length)) (w.heap.size+1+1+1+1) (.int .i64 M') (.slice ta (l'.length+order.length) tc)) (w.heap.size+1+1+1+1+1) (.int .i64 x1) (.int .i64 x2))=wf at *
   go_wp2
   have g0:=cell_blk p1 0
   have g1':=cell_blk p1 1
   have g2':=cell_blk p2 0
   have g3':=cell_blk p2 1
   have g4:=cell_blk p3 0
   have g5:=cell_blk p3 1
   simp at g0 g1' g2' g3' g4 g5
   refine bodyPost_ret (v:=.tuple #[.agg #[.int .i64 M,.slice (some ⟨g1,0,none⟩) l.length l.length],.agg #[.int .i64 M',(.slice ta (l'.length+order.length) tc)],.agg #[.int .i64 x1,.int .i64 x2],.int .i64 0]) (by simp [results,Tryz.results134,go_sem,g0,g1',g2',g3',g4,g5]) rfl ?_
   rw [HS.out,HX.out]
   have e2:(l'++mvObs l order l'.length order).length=l'.length+order.length:=by rw [List.length_append,mvObs_length']
   refine ⟨some ⟨g1,0,none⟩,l.length,ta,tc,rows1,rows2++rows3,?_,bb,?_,?_,?_,?_,?_⟩
   ·simp [mvObs_length']
   ·simpa using hr1
   ·rw [List.map_append,hr2,hr3]
   ·simp only [Bool.false_eq_true,if_false];exact hOA.le (by omega)
   ·simp only [e2];exact hOB.le (by omega)
   ·exact ⟨.inr (fun e=>HTA.out (by
     cases ta with
     | none=>cases e
     | some a=>exact e.symm)),HAPX.out⟩
  | true =>
   go_wp2_with fail
   refine (bury_any M g1 l.length l.length w3.heap.size _ rows1 ov oc order w9 hO1s (by rw [← hr1,List.length_map]) hI9 HOK.out.1 hl60).mono ?_
   rintro e wq ⟨rfl,hOq,hgq⟩
   obtain ⟨gcur,hgo1⟩:=hO1s.blk
   have hO9q:=hO9.other hgq HTA.out hgo1
   have hM9q:=hM9.kept hgq (fun g e=>by cases e;exact ⟨_,_,hgo1,by decide⟩)
   have b9q:Below w.heap.size w wq:=b9.grown hgq b9.size (fun j hj=>by cases hj;have:=(World.ownsRow.lt hO1s.top g1 rfl).1;omega)
   have hs9q:w3.heap.size≤wq.heap.size:=by have:=hgq.size;omega
   have hg1w:=(World.ownsRow.lt hO1s.top g1 rfl).1
   have oth:∀ k,k < w.heap.size+1+1+1+1+1+1→wq.heap[k]?=w9.heap[k]?:=fun k hk=>hgq.block k (by omega) (fun e=>by cases e;omega)
   replace PA:=(oth _ (by omega)).trans PA
   replace PC9:=(oth _ (by omega)).trans PC9
   replace N1:=(oth _ (by omega)).trans N1
   replace N3:=(oth _ (by omega)).trans N3
   replace N4:=(oth _ (by omega)).trans N4
   replace N5:=(oth _ (by omega)).trans N5
   clear c0 c1 c2 c3 c4 c5 oth hgq hgo1 hO9 hM9 b9 hs9 hI9 hO1s
   have hO1s:=hOq
   have hO9:=hO9q
   have hM9:=hM9q
   have b9:=b9q
   have hs9:=hs9q
   clear hOq hO9q hM9q b9q hs9q
   clear w9
   generalize wq=w9 at *
   have c0:=cell_blk PA 0
   have c1:=cell_blk PA 1
   have c2:=cell_blk N1 0
   have c3:=cell_blk N1 1
   have c4:=cell_blk PC9 0
   have c5:=cell_blk PC9 1
   simp at c0 c1 c2 c3 c4 c5
   go_upto_region 9 with fail
   refine wp_region_need (fun j=>true) (fun w'=>w'.cell? ⟨w.heap.size,0,none⟩=some (.int .i64 M)∧w'.cell? ⟨w.heap.size,1,none⟩=some (.slice (some ⟨g1,0,none⟩) l.length l.length)∧w'.cell? ⟨w.heap.size+1+1,0,none⟩=some (.int .i64 M')∧w'.cell? ⟨w.heap.size+1+1,1,none⟩=some (.slice ta (l'.length+order.length) tc)∧w'.cell? ⟨w.heap.size+1,0,none⟩=some (.int .i64 k)∧w'.cell? ⟨w.heap.size+1,1,none⟩=some (.int .i64 n)) (by kernel_rfl) ⟨c0,c1,c4,c5,c2,c3⟩ (fun hS=>?_)
   have hbd:Below w9.heap.size w9 w9.drew:=(Below.refl _ _).drew
   clear c0 c1 c2 c3 c4 c5
   refine tkN 0 hS ?_
   refine tkN 1 hS ?_
   refine tkN 2 hS ?_
   refine tkN 3 hS ?_
   refine stN 4 (fun K hK=>?_)
   go_simp
   refine (mover1_any k n B order l'.length w9.drew (hM9.below hbd) hkn hnb).mono ?_
   rintro e wz ⟨rfl,hbz⟩
   replace hbz:Below w9.heap.size w9 wz:=hbd.trans hbz
   have kz:=Keeps.below hbz
   replace hS:=(⟨kz _ _ hS.1,kz _ _ hS.2.1,kz _ _ hS.2.2.1,kz _ _ hS.2.2.2.1,kz _ _ hS.2.2.2.2.1,kz _ _ hS.2.2.2.2.2⟩:wz.cell? ⟨w.heap.size,0,none⟩=some (.int .i64 M)∧wz.cell? ⟨w.heap.size,1,none⟩=some (.slice (some ⟨g1,0,none⟩) l.length l.length)∧wz.cell? ⟨w.heap.size+1+1,0,none⟩=some (.int .i64 M')∧wz.cell? ⟨w.heap.size+1+1,1,none⟩=some (.slice ta (l'.length+order.length) tc)∧wz.cell? ⟨w.heap.size+1,0,none⟩=some (.int .i64 k)∧wz.cell? ⟨w.heap.size+1,1,none⟩=some (.int .i64 n))
   refine hK.out _ _ (fun _=>hS) ?_
   generalize hx:mvV order l'.length ⟨k,n⟩=x
   have HX:Aside (mvV order l'.length ⟨k,n⟩=x):=hx
   clear hx
   obtain ⟨x1,x2⟩:=x
   simp only
   replace N3:=(hbz.block _ (by omega)).trans N3
   replace N4:=(hbz.block _ (by omega)).trans N4
   replace N5:=(hbz.block _ (by omega)).trans N5
   have hOa:=hO1s.below hbz
   have hOb:=hO9.below hbz
   have bz:=b9.trans (hbz.mono b9.size)
   have f3:∀ j,wz.frozen? ⟨w.heap.size+1+1+1,j,none⟩=false:=fun j=>fz_blk N3 j
   have f4:∀ j,wz.frozen? ⟨w.heap.size+1+1+1+1,j,none⟩=false:=fun j=>fz_blk N4 j
   have f5:∀ j,wz.frozen? ⟨w.heap.size+1+1+1+1+1,j,none⟩=false:=fun j=>fz_blk N5 j
   have d0:=cell_blk N3 0
   have d1:=cell_blk N3 1
   have d2:=cell_blk N4 0
   have d3:=cell_blk N4 1
   have d4:=cell_blk N5 0
   have d5:=cell_blk N5 1
   simp at d0 d1 d2 d3 d4 d5
   clear hK hbz kz hbd hO1s hO9 b9 hM9
   have hS5:HtS w.heap.size (.int .i64 M) (.slice (some ⟨g1,0,none⟩) l.length l.length) (.int .i64 M') (.slice ta (l'.length+order.length) tc) (.int .i64 k) (.int .i64 n) (put2 wz (w.heap.size+1+1+1) (.int .i64 M) (.slice (some ⟨g1,0,none⟩) l.length l.length)):=⟨(World.cell?_of_block (put2_other _ _ (by show w.heap.size≠_;omega))).trans hS.1,(World.cell?_of_block (put2_other _ _ (by show w.heap.size≠_;omega))).trans hS.2.1,(World.cell?_of_block (put2_other _ _ (by show w.heap.size+1+1≠_;omega))).trans hS.2.2.1,(World.cell?_of_block (put2_other _ _ (by show w.heap.size+1+1≠_;omega))).trans hS.2.2.2.1,(World.cell?_of_block (put2_other _ _ (by show w.heap.size+1≠_;omega))).trans hS.2.2.2.2.1,(World.cell?_of_block (put2_other _ _ (by show w.heap.size+1≠_;omega))).trans hS.2.2.2.2.2⟩
   have HS5:Aside (HtS w.heap.size (.int .i64 M) (.slice (some ⟨g1,0,none⟩) l.length l.length) (.int .i64 M') (.slice ta (l'.length+order.length) tc) (.int .i64 k) (.int .i64 n) (put2 wz (w.heap.size+1+1+1) (.int .i64 M) (.slice (some ⟨g1,0,none⟩) l.length l.length))):=hS5
   clear hS5 hS
   refine stN 5 (fun K hK=>?_)
   go_simp
   have hS:=HS5.out
   refine hK.out _ _ (fun _=>hS) ?_
   clear hK
   have hS6:HtS w.heap.size (.int .i64 M) (.slice (some ⟨g1,0,none⟩) l.length l.length) (.int .i64 M') (.slice ta (l'.length+order.length) tc) (.int .i64 k) (.int .i64 n) (put2 (put2 wz (w.heap.size+1+1+1) (.int .i64 M) (.slice (some ⟨g1,0,none⟩) l.length l.length)) (w.heap.size+1+1+1+1) (.int .i64 M') (.slice ta (l'.length+order.length) tc)):=⟨(World.cell?_of_block (put2_other _ _ (by show w.heap.size≠_;omega))).trans hS.1,(World.cell?_of_block (put2_other _ _ (by show w.heap.size≠_;omega))).trans hS.2.1,(World.cell?_of_block (put2_other _ _ (by show w.heap.size+1+1≠_;omega))).trans hS.2.2.1,(World.cell?_of_block (put2_other _ _ (by show w.heap.size+1+1≠_;omega))).trans hS.2.2.2.1,(World.cell?_of_block (put2_other _ _ (by show w.heap.size+1≠_;omega))).trans hS.2.2.2.2.1,(World.cell?_of_block (put2_other _ _ (by show w.heap.size+1≠_;omega))).trans hS.2.2.2.2.2⟩
   have HS6:Aside (HtS w.heap.size (.int .i64 M) (.slice (some ⟨g1,0,none⟩) l.length l.length) (.int .i64 M') (.slice ta (l'.length+order.length) tc) (.int .i64 k) (.int .i64 n) (put2 (put2 wz (w.heap.size+1+1+1) (.int .i64 M) (.slice (some ⟨g1,0,none⟩) l.length l.length)) (w.heap.size+1+1+1+1) (.int .i64 M') (.slice ta (l'.length+order.length) tc))):=hS6
   clear hS6 hS
   refine stN 6 (fun K hK=>?_)
   go_simp
   have hS:=HS6.out
   refine hK.out _ _ (fun _=>hS) ?_
   clear hK
   have hS7:HtS w.heap.size (.int .i64 M) (.slice (some ⟨g1,0,none⟩) l.length l.length) (.int .i64 M') (.slice ta (l'.length+order.length) tc) (.int .i64 k) (.int .i64 n) (put2 (put2 (put2 wz (w.heap.size+1+1+1) (.int .i64 M) (.slice (some ⟨g1,0,none⟩) l.length l.length)) (w.heap.size+1+1+1+1) (.int .i64 M') (.slice ta (l'.length+order.length) tc)) (w.heap.size+1+1+1+1+1) (.int .i64 x1) (.int .i64 x2)):=⟨(World.cell?_of_block (put2_other _ _ (by show w.heap.size≠_;omega))).trans hS.1,(World.cell?_of_block (put2_other _ _ (by show w.heap.size≠_;omega))).trans hS.2.1,(World.cell?_of_block (put2_other _ _ (by show w.heap.size+1+1≠_;omega))).trans hS.2.2.1,(World.cell?_of_block (put2_other _ _ (by show w.heap.size+1+1≠_;omega))).trans hS.2.2.2.1,(World.cell?_of_block (put2_other _ _ (by show w.heap.size+1≠_;omega))).trans hS.2.2.2.2.1,(World.cell?_of_block (put2_other _ _ (by show w.heap.size+1≠_;omega))).trans hS.2.2.2.2.2⟩
   have HS7:Aside (HtS w.heap.size (.int .i64 M) (.slice (some ⟨g1,0,none⟩) l.length l.length) (.int .i64 M') (.slice ta (l'.length+order.length) tc) (.int .i64 k) (.int .i64 n) (put2 (put2 (put2 wz (w.heap.size+1+1+1) (.int .i64 M) (.slice (some ⟨g1,0,none⟩) l.length l.length)) (w.heap.size+1+1+1+1) (.int .i64 M') (.slice ta (l'.length+order.length) tc)) (w.heap.size+1+1+1+1+1) (.int .i64 x1) (.int .i64 x2))):=hS7
   clear hS7 hS
   refine stN 7 (fun K hK=>?_)
   go_simp
   have hS:=HS7.out
   refine hK.out _ _ (fun _=>hS) ?_
   clear hK
   refine tkN 8 hS ?_
   refine dnN ?_
   have p3:=put2_blk (w:=(put2 (put2 wz (w.heap.size+1+1+1) (.int .i64 M) (.slice (some ⟨g1,0,none⟩) l.length l.length)) (w.heap.size+1+1+1+1) (.int .i64 M') (.slice ta (l'.length+order.length) tc))) (A:=w.heap.size+1+1+1+1+1) (((put2_other _ _ (by omega)).trans (put2_other _ _ (by omega))).trans N5) (.int .i64 x1) (.int .i64 x2)
   have p2:=(put2_other (w:=(put2 (put2 wz (w.heap.size+1+1+1) (.int .i64 M) (.slice (some ⟨g1,0,none⟩) l.length l.length)) (w.heap.size+1+1+1+1) (.int .i64 M') (.slice ta (l'.length+order.length) tc))) (A:=w.heap.size+1+1+1+1+1) (.int .i64 x1) (.int .i64 x2) (show w.heap.size+1+1+1+1≠_ by omega)).trans (put2_blk ((put2_other _ _ (by omega)).trans N4) (.int .i64 M') (.slice ta (l'.length+order.length) tc))
   have p1:=(put2_other (w:=(put2 (put2 wz (w.heap.size+1+1+1) (.int .i64 M) (.slice (some ⟨g1,0,none⟩) l.length l.length)) (w.heap.size+1+1+1+1) (.int .i64 M') (.slice ta (l'.length+order.length) tc))) (A:=w.heap.size+1+1+1+1+1) (.int .i64 x1) (.int .i64 x2) (show w.heap.size+1+1+1≠_ by omega)).trans ((put2_other (A:=w.heap.size+1+1+1+1) (.int .i64 M') (.slice ta (l'.length+order.length) tc) (show w.heap.size+1+1+1≠_ by omega)).trans (put2_blk N3 (.int .i64 M) (.slice (some ⟨g1,0,none⟩) l.length l.length)))
   have bb:Below w.heap.size w (put2 (put2 (put2 wz (w.heap.size+1+1+1) (.int .i64 M) (.slice (some ⟨g1,0,none⟩) l.length l.length)) (w.heap.size+1+1+1+1) (.int .i64 M') (.slice ta (l'.length+order.length) tc)) (w.heap.size+1+1+1+1+1) (.int .i64 x1) (.int .i64 x2)):=put2_below (put2_below (put2_below bz (by omega) _ _) (by omega) _ _) (by omega) _ _
   have hOA:HeapOwn (put2 (put2 (put2 wz (w.heap.size+1+1+1) (.int .i64 M) (.slice (some ⟨g1,0,none⟩) l.length l.length)) (w.heap.size+1+1+1+1) (.int .i64 M') (.slice ta (l'.length+order.length) tc)) (w.heap.size+1+1+1+1+1) (.int .i64 x1) (.int .i64 x2)) w3.heap.size (.slice (some ⟨g1,0,none⟩) l.length l.length) (buryR rows1 order):=((hOa.put2Low (by omega) _ _).put2Low (by omega) _ _).put2Low (by omega) _ _
   have hOB:HeapOwn (put2 (put2 (put2 wz (w.heap.size+1+1+1) (.int .i64 M) (.slice (some ⟨g1,0,none⟩) l.length l.length)) (w.heap.size+1+1+1+1) (.int .i64 M') (.slice ta (l'.length+order.length) tc)) (w.heap.size+1+1+1+1+1) (.int .i64 x1) (.int .i64 x2)) w3.heap.size (.slice ta (l'.length+order.length) tc) (rows2++rows3):=((hOb.put2Low (by omega) _ _).put2Low (by omega) _ _).put2Low (by omega) _ _
   change Exit.then _ _ _ _ (put2 (put2 (put2 wz (w.heap.size+1+1+1) (.int .i64 M) (.slice (some ⟨g1,0,none⟩) l.length l.length)) (w.heap.size+1+1+1+1) (.int .i64 M') (.slice ta (l'.length+order.length) tc)) (w.heap.size+1+1+1+1+1) (.int .i64 x1) (.int .i64 x2))
   clear hOa hOb bz N3 N4 N5 f3 f4 f5 d0 d1 d2 d3 d4 d5 hS HS5 HS6 HS7
   generalize (put2 (put2 (put2 wz (w.heap.size+1+1+1) (.int .i64 M) (.slice (some ⟨g1,0,none⟩) l.length l.length)) (w.heap.size+1+1+1+1) (.int .i64 M') (.slice ta (l'.length+order.length) tc)) (w.heap.size+1+1+1+1+1) (.int .i64 x1) (.int .i64 x2))=wf at *
   go_wp2
   have g0:=cell_blk p1 0
   have g1':=cell_blk p1 1
   have g2':=cell_blk p2 0
   have g3':=cell_blk p2 1
   have g4:=cell_blk p3 0
   have g5:=cell_blk p3 1
   simp at g0 g1' g2' g3' g4 g5
   refine bodyPost_ret (v:=.tuple #[.agg #[.int .i64 M,.slice (some ⟨g1,0,none⟩) l.length l.length],.agg #[.int .i64 M',(.slice ta (l'.length+order.length) tc)],.agg #[.int .i64 x1,.int .i64 x2],.int .i64 0]) (by simp [results,Tryz.results134,go_sem,g0,g1',g2',g3',g4,g5]) rfl ?_
   rw [HS.out,HX.out]
   have e2:(l'++mvObs l order l'.length order).length=l'.length+order.length:=by rw [List.length_append,mvObs_length']
   refine ⟨some ⟨g1,0,none⟩,l.length,ta,tc,(buryR rows1 order),rows2++rows3,?_,bb,?_,?_,?_,?_,?_⟩
   ·simp [buryL_length,mvObs_length']
   ·simp only [if_true];rw [buryR_obs,hr1]
   ·rw [List.map_append,hr2,hr3]
   ·simp only [if_true,buryL_length];exact hOA.le (by omega)
   ·simp only [e2];exact hOB.le (by omega)
   ·exact ⟨.inr (fun e=>HTA.out (by
     cases ta with
     | none=>cases e
     | some a=>exact e.symm)),fun p hp q hq=>by
     rcases buryR_mem _ _ p hp with h1 | h1
     ·exact HAPX.out p h1 q hq
     ·exact .inl h1⟩
 ·have hnz:(ee != 0)=true:=by simp [hee]
  have HS:Aside (transferS M l ⟨k,n⟩ M' l' move=⟨0,[],0,[],⟨0,0⟩,ee⟩):=by
   show transferS _ _ _ _ _ _=_
   rw [transferS,HTR.out]
   simp [hee]
  have f3:∀ j,w1.frozen? ⟨w.heap.size+1+1+1,j,none⟩=false:=fun j=>fz_blk N3 j
  have f4:∀ j,w1.frozen? ⟨w.heap.size+1+1+1+1,j,none⟩=false:=fun j=>fz_blk N4 j
  have f5:∀ j,w1.frozen? ⟨w.heap.size+1+1+1+1+1,j,none⟩=false:=fun j=>fz_blk N5 j
  have d0:=cell_blk N3 0
  have d1:=cell_blk N3 1
  have d2:=cell_blk N4 0
  have d3:=cell_blk N4 1
  have d4:=cell_blk N5 0
  have d5:=cell_blk N5 1
  simp at d0 d1 d2 d3 d4 d5
  clear c0 c1 c2 c3 c4 c5 N0 N1 N2
  have p3:=put2_blk (w:=put2 (put2 w1 (w.heap.size+1+1+1) (.int .i64 0) (.slice none 0 0)) (w.heap.size+1+1+1+1) (.int .i64 0) (.slice none 0 0)) (A:=w.heap.size+1+1+1+1+1) (((put2_other _ _ (by omega)).trans (put2_other _ _ (by omega))).trans N5) (.int .i64 0) (.int .i64 0)
  have p2:=(put2_other (w:=put2 (put2 w1 (w.heap.size+1+1+1) (.int .i64 0) (.slice none 0 0)) (w.heap.size+1+1+1+1) (.int .i64 0) (.slice none 0 0)) (A:=w.heap.size+1+1+1+1+1) (.int .i64 0) (.int .i64 0) (show w.heap.size+1+1+1+1≠_ by omega)).trans (put2_blk ((put2_other _ _ (by omega)).trans N4) (.int .i64 0) (.slice none 0 0))
  have p1:=(put2_other (w:=put2 (put2 w1 (w.heap.size+1+1+1) (.int .i64 0) (.slice none 0 0)) (w.heap.size+1+1+1+1) (.int .i64 0) (.slice none 0 0)) (A:=w.heap.size+1+1+1+1+1) (.int .i64 0) (.int .i64 0) (show w.heap.size+1+1+1≠_ by omega)).trans ((put2_other (A:=w.heap.size+1+1+1+1) (.int .i64 0) (.slice none 0 0) (show w.heap.size+1+1+1≠_ by omega)).trans (put2_blk N3 (.int .i64 0) (.slice none 0 0)))
  have bb:Below w.heap.size w (put2 (put2 (put2 w1 (w.heap.size+1+1+1) (.int .i64 0) (.slice none 0 0)) (w.heap.size+1+1+1+1) (.int .i64 0) (.slice none 0 0)) (w.heap.size+1+1+1+1+1) (.int .i64 0) (.int .i64 0)):=put2_below (put2_below (put2_below b1 (by omega) _ _) (by omega) _ _) (by omega) _ _
  go_wp2
  change bodyPost _ _ _ _ _ (put2 (put2 (put2 w1 (w.heap.size+1+1+1) (.int .i64 0) (.slice none 0 0)) (w.heap.size+1+1+1+1) (.int .i64 0) (.slice none 0 0)) (w.heap.size+1+1+1+1+1) (.int .i64 0) (.int .i64 0))
  generalize put2 (put2 (put2 w1 (w.heap.size+1+1+1) (.int .i64 0) (.slice none 0 0)) (w.heap.size+1+1+1+1) (.int .i64 0) (.slice none 0 0)) (w.heap.size+1+1+1+1+1) (.int .i64 0) (.int .i64 0)=w2 at *
  have g0:=cell_blk p1 0
  have g1:=cell_blk p1 1
  have g2:=cell_blk p2 0
  have g3:=cell_blk p2 1
  have g4:=cell_blk p3 0
  have g5:=cell_blk p3 1
  simp at g0 g1 g2 g3 g4 g5
  refine bodyPost_ret (v:=.tuple #[.agg #[.int .i64 0,.slice none 0 0],.agg #[.int .i64 0,.slice none 0 0],.agg #[.int .i64 0,.int .i64 0],.int .i64 ee]) (by simp [results,Tryz.results134,go_sem,g0,g1,g2,g3,g4,g5]) rfl ?_
  rw [HS.out]
  exact ⟨none,0,none,0,[],[],rfl,bb,rfl,rfl,heapOwn_nil _ _,heapOwn_nil _ _,.inl rfl,by simp⟩
end Go.Proofs.YtddokajfafmhhaaGreatDoor
