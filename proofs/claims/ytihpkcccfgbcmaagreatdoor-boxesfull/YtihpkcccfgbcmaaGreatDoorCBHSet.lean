/- HSet. -/
import Derived.Test.YtihpkcccfgbcmaaGreatDoorCBHClone
namespace Go.Proofs.YtihpkcccfgbcmaaGreatDoor
set_option maxRecDepth 100000
set_option maxHeartbeats 8000000
section
open Go.RowKit
theorem heapOwn_nil (w:World) (base:Nat):HeapOwn w base (.slice none 0 0) []:=⟨World.ownsRow_nil _ _ _ _,fun i p hp=>by simp at hp,fun i j p q hp=>by simp at hp,by simp⟩
theorem four_cells {W:World} {N1 N2:Nat} {a0 a1 b0 b1:Value} {t1 t2:TypeId} (h1:W.heap[N1]?=some (.cells #[a0,a1] t1 (0,0))) (h2:W.heap[N2]?=some (.cells #[b0,b1] t2 (0,0))) (hne:N1≠N2) (x y u v:Value) :
  ((((W.setCell ⟨N1,0,none⟩ x).setCell ⟨N1,1,none⟩ y).setCell ⟨N2,0,none⟩ u).setCell ⟨N2,1,none⟩ v).cell? ⟨N1,0,none⟩=some x/\((((W.setCell ⟨N1,0,none⟩ x).setCell ⟨N1,1,none⟩ y).setCell ⟨N2,0,none⟩ u).setCell ⟨N2,1,none⟩ v).cell? ⟨N1,1,none⟩=some y /\
  ((((W.setCell ⟨N1,0,none⟩ x).setCell ⟨N1,1,none⟩ y).setCell ⟨N2,0,none⟩ u).setCell ⟨N2,1,none⟩ v).cell? ⟨N2,0,none⟩=some u/\((((W.setCell ⟨N1,0,none⟩ x).setCell ⟨N1,1,none⟩ y).setCell ⟨N2,0,none⟩ u).setCell ⟨N2,1,none⟩ v).cell? ⟨N2,1,none⟩=some v:=by
 have m1:=setCell_blk (setCell_blk h1 0 x) 1 y;have m2:((((W.setCell ⟨N1,0,none⟩ x).setCell ⟨N1,1,none⟩ y).setCell ⟨N2,0,none⟩ u).setCell ⟨N2,1,none⟩ v).heap[N1]?=some (.cells #[x,y] t1 (0,0)):=by
  rw[Deep.blk_setCell_other _ _ _ _ hne,Deep.blk_setCell_other _ _ _ _ hne,m1];simp
 have m3:((W.setCell ⟨N1,0,none⟩ x).setCell ⟨N1,1,none⟩ y).heap[N2]?=some (.cells #[b0,b1] t2 (0,0)):=by
  rw[Deep.blk_setCell_other _ _ _ _ (Ne.symm hne),Deep.blk_setCell_other _ _ _ _ (Ne.symm hne),h2]
 have m4:=setCell_blk (setCell_blk m3 0 u) 1 v;refine⟨by simp[World.cell?,m2],by simp[World.cell?,m2],?_,?_⟩ <;> simp[World.cell?,m4]
theorem alloc_any (M:Int) (ao:Option Addr) (cap:Nat) (l:List Ob) (n:Int) (w:World) (h:ObsAt w ao l) :
  Calls Tryz.prog 142 #[.agg #[.int .i64 M,.slice ao l.length cap],.int .i64 n] w fun e w'=>∃ va vc,e=.returned (.tuple #[.agg #[.int .i64 (allocS M l n).M,.slice va (allocS M l n).obs.length vc],.agg #[.int .i64 (allocS M l n).k,.int .i64 (allocS M l n).n],.int .i64 (allocS M l n).e]) /\
   Below w.heap.size w w'/\∃ rows,rows.map (·.2)=(allocS M l n).obs/\HeapOwn w' w.heap.size (.slice va (allocS M l n).obs.length vc) rows:=by
 have hm:=h.many;obtain⟨r,hr⟩:∃ r,r=allocS M l n:=⟨_,rfl⟩;have HR:Aside (r=allocS M l n):=hr;rw[<- hr];clear hr;obtain⟨L,hL⟩:∃ L,L=l.length:=⟨_,rfl⟩;have HL:Aside (L=l.length):=hL;rw[<- hL] at hm ⊢;clear hL
 go_enter Tryz.func142,Tryz.ntmps142
 go_wp2_with fail
 have N0:(((w.alloc (Obj.cells #[Value.int IntKind.i64 M,Value.slice ao L cap] 53)).alloc (Obj.cells #[Value.int IntKind.i64 0,Value.slice none 0 0] 53)).alloc (Obj.cells #[Value.int IntKind.i64 0,Value.int IntKind.i64 0] 66)).heap[w.heap.size]?=some (.cells #[Value.int IntKind.i64 M,Value.slice ao L cap] 53 (0,0)):=by
  rw[Deep.blk_alloc_lt _ _ _ (by simp;omega),Deep.blk_alloc_lt _ _ _ (by simp)];exact Deep.blk_alloc_new w _
 have N1:(((w.alloc (Obj.cells #[Value.int IntKind.i64 M,Value.slice ao L cap] 53)).alloc (Obj.cells #[Value.int IntKind.i64 0,Value.slice none 0 0] 53)).alloc (Obj.cells #[Value.int IntKind.i64 0,Value.int IntKind.i64 0] 66)).heap[w.heap.size+1]?=some (.cells #[Value.int IntKind.i64 0,Value.slice none 0 0] 53 (0,0)):=by
  rw[Deep.blk_alloc_lt _ _ _ (by simp)];have:=Deep.blk_alloc_new (w.alloc (Obj.cells #[Value.int IntKind.i64 M,Value.slice ao L cap] 53)) (Obj.cells #[Value.int IntKind.i64 0,Value.slice none 0 0] 53)
  simpa using this
 have N2:(((w.alloc (Obj.cells #[Value.int IntKind.i64 M,Value.slice ao L cap] 53)).alloc (Obj.cells #[Value.int IntKind.i64 0,Value.slice none 0 0] 53)).alloc (Obj.cells #[Value.int IntKind.i64 0,Value.int IntKind.i64 0] 66)).heap[w.heap.size+1+1]?=some (.cells #[Value.int IntKind.i64 0,Value.int IntKind.i64 0] 66 (0,0)):=by
  have:=Deep.blk_alloc_new ((w.alloc (Obj.cells #[Value.int IntKind.i64 M,Value.slice ao L cap] 53)).alloc (Obj.cells #[Value.int IntKind.i64 0,Value.slice none 0 0] 53)) (Obj.cells #[Value.int IntKind.i64 0,Value.int IntKind.i64 0] 66)
  simpa using this
 have k1:=((Keeps.alloc w (Obj.cells #[Value.int IntKind.i64 M,Value.slice ao L cap] 53)).trans (Keeps.alloc _ (Obj.cells #[Value.int IntKind.i64 0,Value.slice none 0 0] 53))).trans (Keeps.alloc _ (Obj.cells #[Value.int IntKind.i64 0,Value.int IntKind.i64 0] 66));have b1:Below w.heap.size w (((w.alloc (Obj.cells #[Value.int IntKind.i64 M,Value.slice ao L cap] 53)).alloc (Obj.cells #[Value.int IntKind.i64 0,Value.slice none 0 0] 53)).alloc (Obj.cells #[Value.int IntKind.i64 0,Value.int IntKind.i64 0] 66)):=(((Below.refl _ _).alloc (Nat.le_refl _) _).alloc (by simp) _).alloc (by simp;omega) _
 have hs0:w.heap.size+1+1+1=(((w.alloc (Obj.cells #[Value.int IntKind.i64 M,Value.slice ao L cap] 53)).alloc (Obj.cells #[Value.int IntKind.i64 0,Value.slice none 0 0] 53)).alloc (Obj.cells #[Value.int IntKind.i64 0,Value.int IntKind.i64 0] 66)).heap.size:=by simp
 generalize ((w.alloc (Obj.cells #[Value.int IntKind.i64 M,Value.slice ao L cap] 53)).alloc (Obj.cells #[Value.int IntKind.i64 0,Value.slice none 0 0] 53)).alloc (Obj.cells #[Value.int IntKind.i64 0,Value.int IntKind.i64 0] 66)=W at *;have hck:=check_any M ao cap l none 0 [] W (h.keeps k1) (fun i v hi=>by simp at hi) (by simp);rw[<- HL.out] at hck;refine hck.mono ?_;clear hck;rintro e w1 ⟨rfl,hb⟩;replace N0:=(hb.block _ (by omega)).trans N0
 replace N1:=(hb.block _ (by omega)).trans N1;replace N2:=(hb.block _ (by omega)).trans N2;replace b1:=b1.trans (hb.mono (by omega));replace k1:=k1.trans (Keeps.below hb);replace hs0:w.heap.size+1+1+1<=w1.heap.size:=Nat.le_trans (Nat.le_of_eq hs0) hb.size;clear hb;clear W;have p0:w1.cell? ⟨w.heap.size,0,none⟩=some (.int .i64 M):=by simp[World.cell?,N0]
 have p1:w1.cell? ⟨w.heap.size,1,none⟩=some (.slice ao L cap):=by simp[World.cell?,N0]
 have c0:w1.cell? ⟨w.heap.size+1,0,none⟩=some (.int .i64 0):=by simp[World.cell?,N1]
 have c1:w1.cell? ⟨w.heap.size+1,1,none⟩=some (.slice none 0 0):=by simp[World.cell?,N1]
 have c2:w1.cell? ⟨w.heap.size+1+1,0,none⟩=some (.int .i64 0):=by simp[World.cell?,N2]
 have c3:w1.cell? ⟨w.heap.size+1+1,1,none⟩=some (.int .i64 0):=by simp[World.cell?,N2]
 have f1:∀ j,w1.frozen? ⟨w.heap.size+1,j,none⟩=false:=fun j=>by simp[World.frozen?,N1]
 have f2:∀ j,w1.frozen? ⟨w.heap.size+1+1,j,none⟩=false:=fun j=>by simp[World.frozen?,N2]
 obtain⟨m1,m2,m3,m4⟩:=four_cells N1 N2 (by omega) (.int .i64 0) (.slice none 0 0) (.int .i64 0) (.int .i64 0);have bz:Below w.heap.size w ((((w1.setCell ⟨w.heap.size+1,0,none⟩ (.int .i64 0)).setCell ⟨w.heap.size+1,1,none⟩ (.slice none 0 0)).setCell ⟨w.heap.size+1+1,0,none⟩ (.int .i64 0)).setCell ⟨w.heap.size+1+1,1,none⟩ (.int .i64 0)) :=
  (((b1.setCell (by show w.heap.size<=w.heap.size+1;omega) _).setCell (by show w.heap.size<=w.heap.size+1;omega) _).setCell (by show w.heap.size<=w.heap.size+1+1;omega) _).setCell (by show w.heap.size<=w.heap.size+1+1;omega) _
 have BZ:Aside (_/\_/\_/\_/\_):=⟨m1,m2,m3,m4,bz⟩;clear m1 m2 m3 m4 bz
 cases hq:hMay M l [] with
 | false =>
  have HE:Aside (r=⟨0,[],0,0,8⟩):=by show r=_;rw[HR.out,allocS,if_pos hq]
  clear HR;simp only[erS_false];go_wp2
  obtain⟨m1,m2,m3,m4,bz⟩:=BZ.out;refine bodyPost_ret (v:=.tuple #[.agg #[.int .i64 0,.slice none 0 0],.agg #[.int .i64 0,.int .i64 0],.int .i64 8]) (by simp[results,Tryz.results142,go_sem,m1,m2,m3,m4]) rfl ⟨none,0,by rw[HE.out];rfl,bz,[],by rw[HE.out];rfl,by rw[HE.out];exact heapOwn_nil _ _⟩
 | true =>
  simp only[erS_true]
  cases hn:(decide (1<=n) && decide (n<=4)) with
  | false =>
   have HE:Aside (r=⟨0,[],0,0,2⟩):=by show r=_;rw[HR.out,allocS,if_neg (by simp[hq]),if_pos hn]
   clear HR
   go_wp2_with (go_at_call 163;refine(isFieldCount_any _ _).mono ?_;rintro e w' ⟨rfl,rfl⟩;rw[hn])
   obtain⟨m1,m2,m3,m4,bz⟩:=BZ.out;refine bodyPost_ret (v:=.tuple #[.agg #[.int .i64 0,.slice none 0 0],.agg #[.int .i64 0,.int .i64 0],.int .i64 2]) (by simp[results,Tryz.results142,go_sem,m1,m2,m3,m4]) rfl ⟨none,0,by rw[HE.out];rfl,bz,[],by rw[HE.out];rfl,by rw[HE.out];exact heapOwn_nil _ _⟩
  | true =>
   by_cases hLM:(L:Int)=M
   ·have HE:Aside (r=⟨0,[],0,0,7⟩):=by show r=_;rw[HR.out,allocS,if_neg (by simp[hq]),if_neg (by simp[hn]),if_pos (by rw[<- HL.out];exact hLM)]
    have heq:((L:Int) == M)=true:=by simp[hLM]
    clear HR hLM
    go_wp2_with (go_at_call 163;refine(isFieldCount_any _ _).mono ?_;rintro e w' ⟨rfl,rfl⟩;rw[hn])
    obtain⟨m1,m2,m3,m4,bz⟩:=BZ.out;refine bodyPost_ret (v:=.tuple #[.agg #[.int .i64 0,.slice none 0 0],.agg #[.int .i64 0,.int .i64 0],.int .i64 7]) (by simp[results,Tryz.results142,go_sem,m1,m2,m3,m4]) rfl ⟨none,0,by rw[HE.out];rfl,bz,[],by rw[HE.out];rfl,by rw[HE.out];exact heapOwn_nil _ _⟩
   ·have heq:((L:Int) == M)=false:=by simp[hLM]
    have hn1:1<=n:=by simp at hn;omega
    have hn4:n<=4:=by simp at hn;omega
    have hL60:L<=60:=by
     have:=hq;simp[hMay,mMay,<- HL.out] at this
     omega
    obtain⟨F,rfl⟩:=Int.eq_ofNat_of_zero_le (show 0<=n by omega);have HE:Aside (r=⟨M,l++[⟨zeroVals F,false⟩],2,L,0⟩):=by show r=_;rw[HR.out,allocS,if_neg (by simp[hq]),if_neg (by simp[hn]),if_neg (by rw[<- HL.out];exact hLM),<- HL.out];rfl
    clear HR hLM BZ hq
    go_wp2_with (first | (go_at_call 163;refine(isFieldCount_any _ _).mono ?_;rintro e w' ⟨rfl,rfl⟩;rw[hn]) | fail)
    have hcl:=clone_any M ao cap l w1 (h.keeps k1);rw[<- HL.out] at hcl;refine hcl.mono ?_;clear hcl;rintro e w2 ⟨g,rows,rfl,hrows,hO,hb2⟩;have HROWS:Aside (rows.map (·.2)=l):=hrows;clear hrows;replace N0:=(hb2.block _ (by omega)).trans N0;replace N1:=(hb2.block _ (by omega)).trans N1;replace N2:=(hb2.block _ (by omega)).trans N2;replace b1:=b1.trans (hb2.mono (by omega));replace hO:=hO.le (by omega:w.heap.size+1+1+1<=w1.heap.size)
    replace hs0:w.heap.size+1+1+1<=w2.heap.size:=Nat.le_trans hs0 hb2.size;clear hb2 p0 p1 c0 c1 c2 c3 f1 f2 k1 heq hn;have p0:w2.cell? ⟨w.heap.size,0,none⟩=some (.int .i64 M):=by simp[World.cell?,N0]
    have p1:w2.cell? ⟨w.heap.size,1,none⟩=some (.slice ao L cap):=by simp[World.cell?,N0]
    have f0:∀ j,w2.frozen? ⟨w.heap.size,j,none⟩=false:=fun j=>by simp[World.frozen?,N0]
    go_wp2
    have M0:((w2.setCell ⟨w.heap.size,0,none⟩ (.int .i64 M)).setCell ⟨w.heap.size,1,none⟩ (.slice (some ⟨g,0,none⟩) L L)).heap[w.heap.size]?=some (.cells #[.int .i64 M,.slice (some ⟨g,0,none⟩) L L] 53 (0,0)):=by
     rw[setCell_blk (setCell_blk N0 0 (.int .i64 M)) 1 (.slice (some ⟨g,0,none⟩) L L)];simp
    have M1:((w2.setCell ⟨w.heap.size,0,none⟩ (.int .i64 M)).setCell ⟨w.heap.size,1,none⟩ (.slice (some ⟨g,0,none⟩) L L)).heap[w.heap.size+1]?=some (.cells #[.int .i64 0,.slice none 0 0] 53 (0,0)):=by
     rw[Deep.blk_setCell_other _ _ _ _ (by show w.heap.size+1≠w.heap.size;omega),Deep.blk_setCell_other _ _ _ _ (by show w.heap.size+1≠w.heap.size;omega),N1]
    have M2:((w2.setCell ⟨w.heap.size,0,none⟩ (.int .i64 M)).setCell ⟨w.heap.size,1,none⟩ (.slice (some ⟨g,0,none⟩) L L)).heap[w.heap.size+1+1]?=some (.cells #[.int .i64 0,.int .i64 0] 66 (0,0)):=by
     rw[Deep.blk_setCell_other _ _ _ _ (by show w.heap.size+1+1≠w.heap.size;omega),Deep.blk_setCell_other _ _ _ _ (by show w.heap.size+1+1≠w.heap.size;omega),N2]
    have hO3:=(hO.setLow (a:=⟨w.heap.size,0,none⟩) (by show w.heap.size<_;omega) (.int .i64 M)).setLow (a:=⟨w.heap.size,1,none⟩) (by show w.heap.size<_;omega) (.slice (some ⟨g,0,none⟩) L L);have b3:Below w.heap.size w ((w2.setCell ⟨w.heap.size,0,none⟩ (.int .i64 M)).setCell ⟨w.heap.size,1,none⟩ (.slice (some ⟨g,0,none⟩) L L)):=(b1.setCell (Nat.le_refl _) _).setCell (Nat.le_refl _) _;have hs3:w.heap.size+1+1+1<=((w2.setCell ⟨w.heap.size,0,none⟩ (.int .i64 M)).setCell ⟨w.heap.size,1,none⟩ (.slice (some ⟨g,0,none⟩) L L)).heap.size:=by simpa[World.setCell] using hs0
    clear hO b1 hs0 N0 N1 N2 p0 p1 f0;generalize (w2.setCell ⟨w.heap.size,0,none⟩ (.int .i64 M)).setCell ⟨w.heap.size,1,none⟩ (.slice (some ⟨g,0,none⟩) L L)=w3 at *;have p1:w3.cell? ⟨w.heap.size,1,none⟩=some (.slice (some ⟨g,0,none⟩) L L):=by simp[World.cell?,M0]
    have f0:∀ j,w3.frozen? ⟨w.heap.size,j,none⟩=false:=fun j=>by simp[World.frozen?,M0]
    have hmk:=run_make_rowk (P:=Tryz.prog) 2 54 66 _ 16 Tryz.underlying54 Tryz.infoV .i64 .i64 F (by omega) (by omega);have hlen:rows.length=L:=by rw[HL.out,<- HROWS.out,List.length_map]
    refine wp_region_need (fun j=>j != 8) (fun w'=>w'.cell? ⟨w.heap.size,1,none⟩=some (.slice (some ⟨g,0,none⟩) L L)) (by kernel_rfl) p1 (fun hS=>?_);refine tkN 0 hS ?_;refine tkN 1 hS ?_;refine tkN 2 hS ?_;refine stN 3 (fun K hK=>?_);go_simp;refine hK.out _ _ (fun _=>Keeps.alloc _ _ _ _ hS) ?_;replace hS:(w3.alloc (Obj.cells (madeCells #[.int .i64 0,.int .i64 0] (F*2)) 66)).drew.cell? ⟨w.heap.size,1,none⟩=some (.slice (some ⟨g,0,none⟩) L L):=Keeps.alloc _ _ _ _ hS
    clear hK;refine tkN 4 hS ?_;refine wpAnyN_one (i:=5) (by kernel_rfl) rfl (fun K2 hK2=>?_);simp only[List.getElem_toArray,List.getElem_cons_zero,List.getElem_cons_succ];go_simp;refine hK2.out _ _ (fun _=>Keeps.alloc (w3.alloc (Obj.cells (madeCells #[.int .i64 0,.int .i64 0] (F*2)) 66)).drew _ _ _ hS) ?_;clear hK2;have hvm:=vals_made w3 (w.heap.size+1+1+1) F hs3 (by unfold maxLen;omega);refine wpAnyN_one (i:=6) (by kernel_rfl) rfl (fun K3 hK3=>?_)
    refine step_pushOb (w:=(w3.alloc (Obj.cells (madeCells #[.int .i64 0,.int .i64 0] (F*2)) 66)).drew) (by rfl) _ _ (by rfl) (by rfl) ((hO3.alloc _).below (Below.refl _ _).drew) (by show w.heap.size+1+1+1<=(w3.alloc _).heap.size;simp;omega) (.slice (some ⟨w3.heap.size,0,none⟩) F F) ⟨zeroVals F,false⟩ rfl hvm (by simp[zeroVals];omega)
     (fun j q hq=>Or.inr (fun e=>by
      have h1:=(World.ownsRow.lt (hO3.row j q hq).1 _ e.symm).2;have h2:w3.heap.size<w3.heap.size:=h1;omega)) (by omega) (by simp[Act.eval]) ?_
    intro g2 gc w4 hO4 hb4 hgx;clear hgx;have hb4':Below (w.heap.size+1+1+1) w3 w4:=(((Below.refl _ _).alloc hs3 _).drew).trans hb4;have hS4:w4.cell? ⟨w.heap.size,1,none⟩=some (.slice (some ⟨g,0,none⟩) L L):=(hb4'.cell (p:=⟨w.heap.size,1,none⟩) (by show w.heap.size<_;omega)).trans p1;refine hK3.out _ _ (fun _=>hS4) ?_;replace hS:=hS4;clear hK3;simp only[Act.put,List.getElem_toArray,List.getElem_cons_zero,List.getElem_cons_succ,List.setIfInBounds_toArray,List.set_cons_zero,List.set_cons_succ]
    refine tkN 7 hS ?_;have hfz:∀ j,w4.frozen? ⟨w.heap.size,j,none⟩=false:=fun j=>(hb4'.frozen (p:=⟨w.heap.size,j,none⟩) (by show w.heap.size<_;omega)).trans (f0 j)
    refine wpAnyN_one (i:=8) (by kernel_rfl) rfl (fun K4 hK4=>?_);simp only[List.getElem_toArray,List.getElem_cons_zero,List.getElem_cons_succ];go_simp;refine hK4.out _ _ (fun h=>absurd h (by decide)) ?_;clear hK4;refine dnN ?_;have hs4:=Nat.le_trans hs3 hb4'.size;rw[hlen] at hO4;have O0:(w4.setCell ⟨w.heap.size,1,none⟩ (.slice (some ⟨g2,0,none⟩) (L+1) gc)).heap[w.heap.size]?=some (.cells #[.int .i64 M,.slice (some ⟨g2,0,none⟩) (L+1) gc] 53 (0,0)):=by
     rw[setCell_blk ((hb4'.block _ (by omega)).trans M0) 1 (.slice (some ⟨g2,0,none⟩) (L+1) gc)];simp
    have O1:(w4.setCell ⟨w.heap.size,1,none⟩ (.slice (some ⟨g2,0,none⟩) (L+1) gc)).heap[w.heap.size+1]?=some (.cells #[.int .i64 0,.slice none 0 0] 53 (0,0)):=by
     rw[Deep.blk_setCell_other _ _ _ _ (by show w.heap.size+1≠w.heap.size;omega)];exact(hb4'.block _ (by omega)).trans M1
    have O2:(w4.setCell ⟨w.heap.size,1,none⟩ (.slice (some ⟨g2,0,none⟩) (L+1) gc)).heap[w.heap.size+1+1]?=some (.cells #[.int .i64 0,.int .i64 0] 66 (0,0)):=by
     rw[Deep.blk_setCell_other _ _ _ _ (by show w.heap.size+1+1≠w.heap.size;omega)];exact(hb4'.block _ (by omega)).trans M2
    have hO5:=hO4.setLow (a:=⟨w.heap.size,1,none⟩) (by show w.heap.size<_;omega) (.slice (some ⟨g2,0,none⟩) (L+1) gc);have b5:Below w.heap.size w (w4.setCell ⟨w.heap.size,1,none⟩ (.slice (some ⟨g2,0,none⟩) (L+1) gc)):=(b3.trans (hb4'.mono (by omega))).setCell (Nat.le_refl _) _;clear hb4 hb4' hO4 hS4 hS hfz hvm hmk p1 f0 hO3 b3 hs3 M0 M1 M2;generalize w4.setCell ⟨w.heap.size,1,none⟩ (.slice (some ⟨g2,0,none⟩) (L+1) gc)=w5 at *
    have p0:w5.cell? ⟨w.heap.size,0,none⟩=some (.int .i64 M):=by simp[World.cell?,O0]
    have p1:w5.cell? ⟨w.heap.size,1,none⟩=some (.slice (some ⟨g2,0,none⟩) (L+1) gc):=by simp[World.cell?,O0]
    have c0:w5.cell? ⟨w.heap.size+1,0,none⟩=some (.int .i64 0):=by simp[World.cell?,O1]
    have c1:w5.cell? ⟨w.heap.size+1,1,none⟩=some (.slice none 0 0):=by simp[World.cell?,O1]
    have c2:w5.cell? ⟨w.heap.size+1+1,0,none⟩=some (.int .i64 0):=by simp[World.cell?,O2]
    have c3:w5.cell? ⟨w.heap.size+1+1,1,none⟩=some (.int .i64 0):=by simp[World.cell?,O2]
    have f1:∀ j,w5.frozen? ⟨w.heap.size+1,j,none⟩=false:=fun j=>by simp[World.frozen?,O1]
    have f2:∀ j,w5.frozen? ⟨w.heap.size+1+1,j,none⟩=false:=fun j=>by simp[World.frozen?,O2]
    go_wp2
    obtain⟨m1,m2,m3,m4⟩:=four_cells O1 O2 (by omega) (.int .i64 M) (.slice (some ⟨g2,0,none⟩) (L+1) gc) (.int .i64 2) (.int .i64 L);have hol:r.obs.length=L+1:=by rw[HE.out];simp[HL.out]
    refine bodyPost_ret (v:=.tuple #[.agg #[.int .i64 M,.slice (some ⟨g2,0,none⟩) (L+1) gc],.agg #[.int .i64 2,.int .i64 L],.int .i64 0]) (by simp[results,Tryz.results142,go_sem,m1,m2,m3,m4]) rfl ⟨some ⟨g2,0,none⟩,gc,by rw[hol,HE.out],?_,rows++[(.slice (some ⟨w3.heap.size,0,none⟩) F F,⟨zeroVals F,false⟩)],by rw[HE.out,List.map_append,HROWS.out];rfl,?_⟩
    ·exact(((b5.setCell (by show w.heap.size<=w.heap.size+1;omega) _).setCell (by show w.heap.size<=w.heap.size+1;omega) _).setCell (by show w.heap.size<=w.heap.size+1+1;omega) _).setCell (by show w.heap.size<=w.heap.size+1+1;omega) _
    ·rw[hol]
     refine HeapOwn.le (base:=w.heap.size+1+1+1) ?_ (by omega);exact(((hO5.setLow (by show w.heap.size+1<_;omega) _).setLow (by show w.heap.size+1<_;omega) _).setLow (by show w.heap.size+1+1<_;omega) _).setLow (by show w.heap.size+1+1<_;omega) _
end
section
open Go.RowKit
theorem vals_two (w:World) (k n k' n':Int) (t:TypeId):ValsAt (w.alloc (.cells #[.int .i64 k,.int .i64 n,.int .i64 k',.int .i64 n'] t)) (some ⟨w.heap.size,0,none⟩) [⟨k,n⟩,⟨k',n'⟩]:=fun i v hi=>by
 match i,hi with
 | 0,hi =>
  simp at hi;subst hi;exact⟨_,_,rfl,by simp,by simp⟩
 | 1,hi =>
  simp at hi;subst hi;exact⟨_,_,rfl,by simp,by simp⟩
theorem set_any (M:Int) (ao:Option Addr) (cap:Nat) (l:List Ob) (k n f xk xn:Int) (w:World) (h:ObsAt w ao l) :
  Calls Tryz.prog 170 #[.agg #[.int .i64 M,.slice ao l.length cap],.agg #[.int .i64 k,.int .i64 n],.int .i64 f,.agg #[.int .i64 xk,.int .i64 xn]] w fun e w' =>
   ∃ va vc,e=.returned (.tuple #[.agg #[.int .i64 (setS M l ⟨k,n⟩ f ⟨xk,xn⟩).1,.slice va (setS M l ⟨k,n⟩ f ⟨xk,xn⟩).2.1.length vc],.int .i64 (setS M l ⟨k,n⟩ f ⟨xk,xn⟩).2.2])/\Below w.heap.size w w' /\
    ∃ rows,rows.map (·.2)=(setS M l ⟨k,n⟩ f ⟨xk,xn⟩).2.1/\HeapOwn w' w.heap.size (.slice va (setS M l ⟨k,n⟩ f ⟨xk,xn⟩).2.1.length vc) rows:=by
 have hm:=h.many;obtain⟨r,hr⟩:∃ r,r=setS M l ⟨k,n⟩ f ⟨xk,xn⟩:=⟨_,rfl⟩;have HR:Aside (r=setS M l ⟨k,n⟩ f ⟨xk,xn⟩):=hr;rw[<- hr];clear hr;obtain⟨L,hL⟩:∃ L,L=l.length:=⟨_,rfl⟩;have HL:Aside (L=l.length):=hL;rw[<- hL] at hm ⊢;clear hL
 go_enter Tryz.func170,Tryz.ntmps170
 go_wp2_with fail
 have HB:=boxes5 w (Obj.cells #[.int .i64 M,.slice ao L cap] 53) (Obj.cells #[.int .i64 k,.int .i64 n] 66) (Obj.cells #[.int .i64 xk,.int .i64 xn] 66) (Obj.cells #[.int .i64 0,.slice none 0 0] 53) (Obj.cells #[.int .i64 k,.int .i64 n,.int .i64 xk,.int .i64 xn] 66);have hv1:=vals_two ((((w.alloc (Obj.cells #[.int .i64 M,.slice ao L cap] 53)).alloc (Obj.cells #[.int .i64 k,.int .i64 n] 66)).alloc (Obj.cells #[.int .i64 xk,.int .i64 xn] 66)).alloc (Obj.cells #[.int .i64 0,.slice none 0 0] 53)) k n xk xn 66
 simp only[Deep.nblk_alloc] at hv1;generalize ((((w.alloc (Obj.cells #[.int .i64 M,.slice ao L cap] 53)).alloc (Obj.cells #[.int .i64 k,.int .i64 n] 66)).alloc (Obj.cells #[.int .i64 xk,.int .i64 xn] 66)).alloc (Obj.cells #[.int .i64 0,.slice none 0 0] 53)).alloc (Obj.cells #[.int .i64 k,.int .i64 n,.int .i64 xk,.int .i64 xn] 66)=W at *;obtain⟨N0,N1,N2,N3,N4,k1,b1,hs⟩:=HB;clear N4;have hck:=check_any M ao cap l _ 2 [⟨k,n⟩,⟨xk,xn⟩] W (h.keeps k1) hv1 (by simp)
 rw[<- HL.out] at hck;refine hck.mono ?_;clear hck;rintro e w1 ⟨rfl,hb⟩;replace N0:=(hb.block _ (by omega)).trans N0;replace N1:=(hb.block _ (by omega)).trans N1;replace N2:=(hb.block _ (by omega)).trans N2;replace N3:=(hb.block _ (by omega)).trans N3;replace b1:=b1.trans (hb.mono (by omega));replace k1:=k1.trans (Keeps.below hb);replace hs:w.heap.size+1+1+1+1<=w1.heap.size:=by have:=hb.size;omega
 clear hb hv1;clear W;have c2:w1.cell? ⟨w.heap.size+1+1+1,0,none⟩=some (.int .i64 0):=by simp[World.cell?,N3]
 have c3:w1.cell? ⟨w.heap.size+1+1+1,1,none⟩=some (.slice none 0 0):=by simp[World.cell?,N3]
 have f2:∀ j,w1.frozen? ⟨w.heap.size+1+1+1,j,none⟩=false:=fun j=>by simp[World.frozen?,N3]
 cases hq:hMay M l [⟨k,n⟩,⟨xk,xn⟩] with
 | false =>
  have HE:Aside (r=(0,[],8)):=by show r=_;rw[HR.out,setS,if_pos hq]
  clear HR;simp only[erS_false];go_wp2
  obtain⟨m1,m2⟩:=two_cells N3 (.int .i64 0) (.slice none 0 0);refine bodyPost_ret (v:=.tuple #[.agg #[.int .i64 0,.slice none 0 0],.int .i64 8]) (by simp[results,Tryz.results170,go_sem,m1,m2]) rfl ⟨none,0,by rw[HE.out];rfl,?_,[],by rw[HE.out];rfl,by rw[HE.out];exact heapOwn_nil _ _⟩;exact(b1.setCell (by show w.heap.size<=w.heap.size+1+1+1;omega) _).setCell (by show w.heap.size<=w.heap.size+1+1+1;omega) _
 | true =>
  simp only[erS_true];have hvm:=hMay_vMay hq (v:=⟨k,n⟩) (by simp);have p0:w1.cell? ⟨w.heap.size,0,none⟩=some (.int .i64 M):=by simp[World.cell?,N0]
  have p1:w1.cell? ⟨w.heap.size,1,none⟩=some (.slice ao L cap):=by simp[World.cell?,N0]
  have p2:w1.cell? ⟨w.heap.size+1,0,none⟩=some (.int .i64 k):=by simp[World.cell?,N1]
  have p3:w1.cell? ⟨w.heap.size+1,1,none⟩=some (.int .i64 n):=by simp[World.cell?,N1]
  go_wp2_with fail
  have hcf:=checkField_any M ao cap l k n f w1 (h.keeps k1) hvm;rw[<- HL.out] at hcf;refine hcf.mono ?_;clear hcf;rintro e w2 ⟨rfl,hb2⟩;replace N0:=(hb2.block _ (by omega)).trans N0;replace N1:=(hb2.block _ (by omega)).trans N1;replace N2:=(hb2.block _ (by omega)).trans N2;replace N3:=(hb2.block _ (by omega)).trans N3;replace b1:=b1.trans (hb2.mono (by omega));replace k1:=k1.trans (Keeps.below hb2)
  replace hs:w.heap.size+1+1+1+1<=w2.heap.size:=by have:=hb2.size;omega
  clear hb2 p0 p1 p2 p3 c2 c3 f2;have p0:w2.cell? ⟨w.heap.size,0,none⟩=some (.int .i64 M):=by simp[World.cell?,N0]
  have p1:w2.cell? ⟨w.heap.size,1,none⟩=some (.slice ao L cap):=by simp[World.cell?,N0]
  have c2:w2.cell? ⟨w.heap.size+1+1+1,0,none⟩=some (.int .i64 0):=by simp[World.cell?,N3]
  have c3:w2.cell? ⟨w.heap.size+1+1+1,1,none⟩=some (.slice none 0 0):=by simp[World.cell?,N3]
  have f2:∀ j,w2.frozen? ⟨w.heap.size+1+1+1,j,none⟩=false:=fun j=>by simp[World.frozen?,N3]
  by_cases he:fieldErr l ⟨k,n⟩ f=0
  ·obtain⟨hk2,p,q,ob,x,hp,hqf,hob,hx,hdead⟩:=field_there hvm he
   simp only at hk2 hp;have HE:Aside (r=(M,l.set p ⟨ob.fs.set q ⟨xk,xn⟩,ob.dead⟩,0)):=by show r=_;rw[HR.out,setS,if_neg (by simp[hq]),if_neg (by simp[he])];simp[setObs,hp,hqf,hob]
   rw[he];clear he hq HR hvm;subst hk2 hp hqf
   go_wp2_with fail
   have hcl:=clone_any M ao cap l w2 (h.keeps k1);rw[<- HL.out] at hcl;refine hcl.mono ?_;clear hcl;rintro e w3 ⟨g,rows,rfl,hrows,hO,hb3⟩;replace N0:=(hb3.block _ (by omega)).trans N0;replace N1:=(hb3.block _ (by omega)).trans N1;replace N2:=(hb3.block _ (by omega)).trans N2;replace N3:=(hb3.block _ (by omega)).trans N3;replace b1:=b1.trans (hb3.mono (by omega));replace hO:=hO.le hs;replace hs:w.heap.size+1+1+1+1<=w3.heap.size:=by have:=hb3.size;omega
   clear hb3 p0 p1 c2 c3 f2;have p0:w3.cell? ⟨w.heap.size,0,none⟩=some (.int .i64 M):=by simp[World.cell?,N0]
   have p1:w3.cell? ⟨w.heap.size,1,none⟩=some (.slice ao L cap):=by simp[World.cell?,N0]
   have f0:∀ j,w3.frozen? ⟨w.heap.size,j,none⟩=false:=fun j=>by simp[World.frozen?,N0]
   have HROWS:Aside (rows.map (·.2)=l):=hrows;have hlen:Aside (rows.length=L):=by show rows.length=L;rw[HL.out,<- hrows,List.length_map]
   have hpL:p<L:=by rw[HL.out];exact(List.getElem?_eq_some_iff.1 hob).1
   obtain⟨⟨rv,ob'⟩,hpr⟩:=at_some (l:=rows) (i:=p) (by rw[hlen.out];exact hpL);have hoo:ob'=ob:=by
    have e1:(rows.map (·.2))[p]?=some ob':=by simp[hpr]
    rw[hrows,hob] at e1;exact(Option.some.inj e1).symm
   subst hoo;have hqlt:q<ob'.fs.length:=(List.getElem?_eq_some_iff.1 hx).1;obtain⟨g',gc,hrv⟩:∃ g' gc,rv=.slice (some ⟨g',0,none⟩) ob'.fs.length gc:=by
    rcases ownsRow_form (hO.row p _ hpr).1 with⟨_,hn⟩ | ⟨g',gc,hg',_⟩
    ·simp only at hn;omega
    ·exact⟨g',gc,hg'⟩
   subst hrv;clear hrows;go_wp2
   have HO3:=(hO.setLow (a:=⟨w.heap.size,0,none⟩) (by show w.heap.size<_;omega) (.int .i64 M)).setLow (a:=⟨w.heap.size,1,none⟩) (by show w.heap.size<_;omega) (.slice (some ⟨g,0,none⟩) L L);have M0:((w3.setCell ⟨w.heap.size,0,none⟩ (.int .i64 M)).setCell ⟨w.heap.size,1,none⟩ (.slice (some ⟨g,0,none⟩) L L)).heap[w.heap.size]?=some (.cells #[.int .i64 M,.slice (some ⟨g,0,none⟩) L L] 53 (0,0)):=by
    rw[setCell_blk (setCell_blk N0 0 (.int .i64 M)) 1 (.slice (some ⟨g,0,none⟩) L L)];simp
   have MM:∀ j x,j≠w.heap.size->w3.heap[j]?=some x->((w3.setCell ⟨w.heap.size,0,none⟩ (.int .i64 M)).setCell ⟨w.heap.size,1,none⟩ (.slice (some ⟨g,0,none⟩) L L)).heap[j]?=some x:=fun j x hj hx=>by
    rw[Deep.blk_setCell_other _ _ _ _ hj,Deep.blk_setCell_other _ _ _ _ hj,hx]
   have M1:=MM _ _ (by omega) N1;have M2:=MM _ _ (by omega) N2;have M3:=MM _ _ (by omega) N3;have b3:Below w.heap.size w ((w3.setCell ⟨w.heap.size,0,none⟩ (.int .i64 M)).setCell ⟨w.heap.size,1,none⟩ (.slice (some ⟨g,0,none⟩) L L)):=(b1.setCell (Nat.le_refl _) _).setCell (Nat.le_refl _) _;clear MM hO b1 N0 N1 N2 N3 p0 p1 f0;generalize (w3.setCell ⟨w.heap.size,0,none⟩ (.int .i64 M)).setCell ⟨w.heap.size,1,none⟩ (.slice (some ⟨g,0,none⟩) L L)=w4 at *
   have p1:w4.cell? ⟨w.heap.size,1,none⟩=some (.slice (some ⟨g,0,none⟩) L L):=by simp[World.cell?,M0]
   have p2:w4.cell? ⟨w.heap.size+1,1,none⟩=some (.int .i64 p):=by simp[World.cell?,M1]
   have p3:w4.cell? ⟨w.heap.size+1+1,0,none⟩=some (.int .i64 xk):=by simp[World.cell?,M2]
   have p4:w4.cell? ⟨w.heap.size+1+1,1,none⟩=some (.int .i64 xn):=by simp[World.cell?,M2]
   have d1:w4.cell? ⟨g,p*2,none⟩=some (.slice (some ⟨g',0,none⟩) ob'.fs.length gc):=ownsRow_cell HO3.top rfl (by simp[obCells,pairs_fst,hpr,obPair]);have hrow:=(HO3.row p _ hpr).1;obtain⟨x0k,x0n⟩:=x;have d2:w4.cell? ⟨g',q*2,none⟩=some (.int .i64 x0k):=ownsRow_cell hrow rfl (by simp[valCells,pairs_fst,hx,valPair]);have d3:w4.cell? ⟨g',q*2+1,none⟩=some (.int .i64 x0n):=ownsRow_cell hrow rfl (by simp[valCells,pairs_snd,hx,valPair])
   have d4:∀ j,w4.frozen? ⟨g',j,none⟩=false:=fun j=>ownsRow_frozen hrow rfl j
   have hpz:(p:Int)<(L:Int):=by omega
   have hqz:(q:Int)<(ob'.fs.length:Int):=by omega
   have HX:Aside (ob'.fs[q]?=some ⟨x0k,x0n⟩/\rows[p]?=some (.slice (some ⟨g',0,none⟩) ob'.fs.length gc,ob')):=⟨hx,hpr⟩;clear hx hrow hob hpr
   go_region
   obtain⟨hx,hpr⟩:=HX.out;have hg':w.heap.size+1+1+1+1<=g':=(World.ownsRow.lt (HO3.row p _ hpr).1 g' rfl).1;have HO5:HeapOwn ((w4.setCell ⟨g',q*2,none⟩ (.int .i64 xk)).setCell ⟨g',q*2+1,none⟩ (.int .i64 xn)).drew (w.heap.size+1+1+1+1) (.slice (some ⟨g,0,none⟩) L L) (rows.set p (.slice (some ⟨g',0,none⟩) ob'.fs.length gc,⟨ob'.fs.set q ⟨xk,xn⟩,ob'.dead⟩)) :=
    (HO3.setField hpr q ⟨xk,xn⟩).below (Below.refl _ _).drew
   have b5:Below w.heap.size w ((w4.setCell ⟨g',q*2,none⟩ (.int .i64 xk)).setCell ⟨g',q*2+1,none⟩ (.int .i64 xn)).drew:=((b3.setCell (by show w.heap.size<=g';omega) _).setCell (by show w.heap.size<=g';omega) _).drew;have O0:((w4.setCell ⟨g',q*2,none⟩ (.int .i64 xk)).setCell ⟨g',q*2+1,none⟩ (.int .i64 xn)).drew.heap[w.heap.size]?=some (.cells #[.int .i64 M,.slice (some ⟨g,0,none⟩) L L] 53 (0,0)):=by
    show((w4.setCell ⟨g',q*2,none⟩ (.int .i64 xk)).setCell ⟨g',q*2+1,none⟩ (.int .i64 xn)).heap[w.heap.size]?=_
    rw[Deep.blk_setCell_other _ _ _ _ (by show w.heap.size≠g';omega),Deep.blk_setCell_other _ _ _ _ (by show w.heap.size≠g';omega),M0]
   have O3:((w4.setCell ⟨g',q*2,none⟩ (.int .i64 xk)).setCell ⟨g',q*2+1,none⟩ (.int .i64 xn)).drew.heap[w.heap.size+1+1+1]?=some (.cells #[.int .i64 0,.slice none 0 0] 53 (0,0)):=by
    show((w4.setCell ⟨g',q*2,none⟩ (.int .i64 xk)).setCell ⟨g',q*2+1,none⟩ (.int .i64 xn)).heap[w.heap.size+1+1+1]?=_
    rw[Deep.blk_setCell_other _ _ _ _ (by show w.heap.size+1+1+1≠g';omega),Deep.blk_setCell_other _ _ _ _ (by show w.heap.size+1+1+1≠g';omega),M3]
   clear p1 p2 p3 p4 d1 d2 d3 d4 M0 M1 M2 M3 HO3 b3;generalize ((w4.setCell ⟨g',q*2,none⟩ (.int .i64 xk)).setCell ⟨g',q*2+1,none⟩ (.int .i64 xn)).drew=w5 at *;have p0:w5.cell? ⟨w.heap.size,0,none⟩=some (.int .i64 M):=by simp[World.cell?,O0]
   have p1:w5.cell? ⟨w.heap.size,1,none⟩=some (.slice (some ⟨g,0,none⟩) L L):=by simp[World.cell?,O0]
   have c2:w5.cell? ⟨w.heap.size+1+1+1,0,none⟩=some (.int .i64 0):=by simp[World.cell?,O3]
   have c3:w5.cell? ⟨w.heap.size+1+1+1,1,none⟩=some (.slice none 0 0):=by simp[World.cell?,O3]
   have f2:∀ j,w5.frozen? ⟨w.heap.size+1+1+1,j,none⟩=false:=fun j=>by simp[World.frozen?,O3]
   have hol:Aside (r.2.1.length=L):=by show r.2.1.length=L;rw[HE.out];simp[HL.out]
   have hmap:Aside ((rows.set p (Value.slice (some ⟨g',0,none⟩) ob'.fs.length gc,(⟨ob'.fs.set q ⟨xk,xn⟩,ob'.dead⟩:Ob))).map (·.2)=r.2.1):=by show List.map _ _=_;rw[HE.out,List.map_set,HROWS.out]
   clear hx hpr;go_wp2
   obtain⟨m1,m2⟩:=two_cells O3 (.int .i64 M) (.slice (some ⟨g,0,none⟩) L L);refine bodyPost_ret (v:=.tuple #[.agg #[.int .i64 M,.slice (some ⟨g,0,none⟩) L L],.int .i64 0]) (by simp[results,Tryz.results170,go_sem,m1,m2]) rfl ⟨some ⟨g,0,none⟩,L,by rw[hol.out,HE.out],?_,_,hmap.out,?_⟩
   ·exact(b5.setCell (by show w.heap.size<=w.heap.size+1+1+1;omega) _).setCell (by show w.heap.size<=w.heap.size+1+1+1;omega) _
   ·rw[hol.out]
    refine HeapOwn.le (base:=w.heap.size+1+1+1+1) ?_ (by omega);exact(HO5.setLow (by show w.heap.size+1+1+1<_;omega) _).setLow (by show w.heap.size+1+1+1<_;omega) _
  ·have HE:Aside (r=(0,[],fieldErr l ⟨k,n⟩ f)):=by show r=_;rw[HR.out,setS,if_neg (by simp[hq]),if_pos he]
   have hne:(fieldErr l ⟨k,n⟩ f != 0)=true:=by simp[he]
   clear HR he hq;go_wp2
   obtain⟨m1,m2⟩:=two_cells N3 (.int .i64 0) (.slice none 0 0);refine bodyPost_ret (v:=.tuple #[.agg #[.int .i64 0,.slice none 0 0],.int .i64 (fieldErr l ⟨k,n⟩ f)]) (by simp[results,Tryz.results170,go_sem,m1,m2]) rfl ⟨none,0,by rw[HE.out];rfl,?_,[],by rw[HE.out];rfl,by rw[HE.out];exact heapOwn_nil _ _⟩;exact(b1.setCell (by show w.heap.size<=w.heap.size+1+1+1;omega) _).setCell (by show w.heap.size<=w.heap.size+1+1+1;omega) _
end
end Go.Proofs.YtihpkcccfgbcmaaGreatDoor
