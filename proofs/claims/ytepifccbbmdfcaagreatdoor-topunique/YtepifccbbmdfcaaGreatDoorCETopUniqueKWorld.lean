/- KWorld. -/
import Derived.Test.YtepifccbbmdfcaaGreatDoorCETopUniqueKProg3
namespace Go.Proofs.YtepifccbbmdfcaaGreatDoor
set_option maxRecDepth 100000
set_option maxHeartbeats 8000000
section
open Go.RowKit
theorem setRow_blk {w:World} {g:Nat} {cur:Array Value} {t:TypeId} (h:w.heap[g]?=some (.cells cur t (0,0))) (cs:Array Value):(w.setRow g cs).heap[g]?=some (.cells cs t (0,0)):=setRow_heap w g cur _ _ _ h
theorem RfAt.store {w w':World} {base g cap L:Nat} {st:List Pt} {rows:List Value} (h:RfAt w base g cap L st rows) (hl:st.length=L) {t:Nat} (ht:t<L) {k:List Int} {va:Option Addr} {vc:Nat}
  (hown:w'.ownsRow base 22 1 (.slice (some ⟨g,0,none⟩) L cap) L (rows.set t (.slice va k.length vc))) (hoth:∀ b,b<w.heap.size->b≠g->w'.heap[b]?=w.heap[b]?) (hV:VInts w' va k) (hg:∀ b o,va=some ⟨b,o,none⟩->b≠g) :
  RfAt w' base g cap L (st.set t (some k)) (rows.set t (.slice va k.length vc)) where
 own:=hown
 row:=fun i p hp=>by
  have hlen:rows.length=L:=by have:=h.own.1;omega
  rw[List.getElem?_set] at hp ⊢
  by_cases e:t=i
  ·subst e
   rw[if_pos rfl,if_pos (by omega)] at hp;rw[if_pos rfl,if_pos (by omega)];simp only[Option.some.injEq] at hp;subst hp;exact⟨va,vc,rfl,hV,hg⟩
  ·rw[if_neg e] at hp ⊢
   obtain⟨ra,rc,h1,h2,h3⟩:=h.row i p hp;exact⟨ra,rc,h1,h2.other (fun b o e hlt=>hoth b hlt (h3 b o e)),h3⟩
theorem listed_any (pg pcap L base:Nat) (st:List Pt) (w:World) (hL:1<=L/\L<=60) (hP:PtsOwn w base pg pcap L st) (hg:VGood L st) :
  Calls Tryz.prog 41 #[.slice (some ⟨pg,0,none⟩) L pcap] w fun e w'=>∃ g cap,e=.returned (.slice (some ⟨g,0,none⟩) L cap)/\Below w.heap.size w w'/\∃ rows,RfAt w' w.heap.size g cap L st rows:=by
 have hmk:=run_make_wide (P:=Tryz.prog) 1 61 22 _ 24 Tryz.underlying61 Tryz.infoS .i64 .i64 L (by omega) (by omega);have hown:=ownsRow_made (f:=fun u:Value=>[u]) (fun _=>rfl) (by decide) #[.slice none 0 0] (.slice none 0 0) rfl w w.heap.size L 22 (Nat.le_refl _) (by unfold maxLen;omega);have b1:=below_box w (.cells (madeCells #[.slice none 0 0] (L*1)) 22);have hmk8:∀ wy:World,(Instr.makeSlice 22 (.int .i64 8) (.int .i64 8)).run Tryz.prog wy=.ok (.slice (some ⟨wy.heap.size,0,none⟩) 8 8) (wy.alloc (.cells (regA [0,0,0,0,0,0,0,0]) 3)):=fun wy=>by
  have:=run_make_wide (P:=Tryz.prog) 1 22 3 (.int .i64 0) 8 Tryz.underlying22 (by kernel_rfl) .i64 .i64 8 (by decide) (by decide) wy;have e:madeCells (Value.int .i64 0).cells (8*1)=regA [0,0,0,0,0,0,0,0]:=by kernel_rfl
  rw[e] at this
  exact this
 go_enter Tryz.func41,Tryz.ntmps41
 go_upto_region 2 with fail
 rw[Nat.mul_one] at hown b1;obtain⟨g,hgg⟩:∃ g,g=w.heap.size:=⟨_,rfl⟩;have hgw:w.heap.size<=g:=by omega
 have hgp:g≠pg:=by have:=hP.lt;omega
 have hR0:RfAt (w.alloc (Obj.cells (madeCells #[Value.slice none 0 0] L) 22)) w.heap.size g L L (List.replicate L none) (List.replicate L (.slice none 0 0)):=by
  refine⟨?_,fun i p hp=>?_⟩
  ·rw[hgg]
   have e:(List.replicate L (Value.slice none 0 0)).flatMap (fun u:Value=>[u])=List.replicate L (.slice none 0 0):=by simp
   rw[e] at hown;exact hown
  ·rw[List.getElem?_replicate] at hp ⊢
   split at hp
   ·rename_i hi
    simp only[Option.some.injEq] at hp;subst hp;rw[if_pos hi];exact⟨none,0,rfl,fun i z hz=>by simp at hz,fun b o h=>by cases h⟩
   ·cases hp
 rw[<- hgg];clear hmk hown hgg;have hP1:=hP.below b1;have hplt:=hP.lt.2;clear hP;generalize w.alloc (Obj.cells (madeCells #[Value.slice none 0 0] L) 22)=W at *;go_wp2
 go_loopg [11] L (fun g' s11 wr=>∃ i:Nat,i<=L/\g'=L-i/\s11=.int .i64 i/\Below w.heap.size w wr/\PtsOwn wr base pg pcap L st/\∃ rows,RfAt wr w.heap.size g L L (st.take i++List.replicate (L-i) none) rows)
 case atStart=>exact⟨0,Nat.zero_le _,rfl,rfl,b1,hP1,_,by simpa using hR0⟩
 case round =>
  clear hR0 b1 hP1;obtain⟨i,hi,rfl,rfl,hb,hP,rows,hR⟩:=hrel
  by_cases hiL:i<L
  ·have hiz:(i:Int)<(L:Int):=by omega
   have hi0:(0:Int)<=(i:Int):=Int.natCast_nonneg _;obtain⟨p,hpi⟩:∃ p,st[i]?=some p:=⟨st[i]'(by rw[hg.1];exact hiL),List.getElem?_eq_getElem _⟩;obtain⟨p0,p1,p2,p3,p4,p5,p6,p7,p8⟩:=hP.cells hpi;have hlen:(st.take i).length=i:=by rw[List.length_take,hg.1];omega
   have hgr:=hR.lt.2;have hcur:(st.take i++List.replicate (L-i) none)[i]?=some none:=by
    rw[List.getElem?_append_right (by omega),hlen,Nat.sub_self,List.getElem?_replicate,if_pos (by omega)]
   obtain⟨za,zc,zcell,_⟩:=hR.cell hcur;simp only[Option.getD_none,List.length_nil] at zcell
   cases p with
   | none =>
    have HNX:Aside (st.take (i+1)++List.replicate (L-(i+1)) none=st.take i++List.replicate (L-i) none):=by
     show _=_
     rw[List.take_add_one,hpi,show L-i=(L-(i+1))+1 by omega,List.replicate_succ];simp
    have hbx:=below_box wr (Obj.cells (ptA false []) 101);have HX:Aside (Below w.heap.size w (wr.alloc (Obj.cells (ptA false []) 101))/\PtsOwn (wr.alloc (Obj.cells (ptA false []) 101)) base pg pcap L st/\RfAt (wr.alloc (Obj.cells (ptA false []) 101)) w.heap.size g L L (st.take i++List.replicate (L-i) none) rows):=⟨hb.trans (hbx.mono hb.size),hP.below hbx,hR.below hbx⟩;clear hbx;go_wp2
    go_roundg (L-(i+1))
    case measure=>go_light;omega
    case rel=>go_light;exact⟨i+1,by omega,rfl,by go_num,HX.out.1,HX.out.2.1,rows,by rw[HNX.out];exact HX.out.2.2⟩
   | some k =>
    have hk8:k.length=8:=hg.2 k (List.mem_of_getElem? hpi);have HNX:Aside (st.take (i+1)++List.replicate (L-(i+1)) none=(st.take i++List.replicate (L-i) none).set i (some k)):=by
     show _=_
     rw[List.take_add_one,hpi,show L-i=(L-(i+1))+1 by omega,List.replicate_succ,List.set_append,if_neg (by omega),hlen,Nat.sub_self];simp
    simp only[Option.getD_some,Option.isSome_some] at p0 p1 p2 p3 p4 p5 p6 p7 p8
    go_upto_region 6 with fail
    obtain⟨I1,k1,bb1,s1⟩:=boxes1 wr (Obj.cells (ptA true k) 101);obtain⟨B,hB⟩:∃ B,B=wr.heap.size:=⟨_,rfl⟩;have hBl:wr.heap.size<=B:=by omega
    have hBs:B<(wr.alloc (Obj.cells (ptA true k) 101)).heap.size:=by rw[s1];omega
    rw[<- hB] at I1 ⊢;have hb2:=hb.trans (bb1.mono hb.size);have hP2:=hP.below bb1;have hR2:=hR.below bb1;replace zcell:=k1 _ _ zcell;clear hB p0 p1 p2 p3 p4 p5 p6 p7 p8 hb hP hR bb1 k1 s1;generalize wr.alloc (Obj.cells (ptA true k) 101)=W2 at *;have hgr2:=hR2.lt.2;have fz2:∀ j,W2.frozen? ⟨g,j,none⟩=false:=fun j=>ownsRow_frozenAt hR2.own rfl j
    obtain⟨NB,hNB⟩:∃ NB,NB=W2.heap.size:=⟨_,rfl⟩;have hNBg:g≠NB:=by omega
    have hNBB:B≠NB:=by omega
    have hsz:(W2.setCell ⟨g,i,none⟩ (.slice (some ⟨NB,0,none⟩) 8 8)).heap.size=W2.heap.size:=by simp[World.setCell]
    have M1:((W2.setCell ⟨g,i,none⟩ (.slice (some ⟨NB,0,none⟩) 8 8)).alloc (Obj.cells (regA [0,0,0,0,0,0,0,0]) 3)).heap[NB]?=some (.cells (regA [0,0,0,0,0,0,0,0]) 3 (0,0)):=by
     have:=Deep.blk_alloc_new (W2.setCell ⟨g,i,none⟩ (.slice (some ⟨NB,0,none⟩) 8 8)) (Obj.cells (regA [0,0,0,0,0,0,0,0]) 3);rw[hsz,<- hNB] at this
     exact this
    have hoth:∀ b,b<W2.heap.size->b≠g->((W2.setCell ⟨g,i,none⟩ (.slice (some ⟨NB,0,none⟩) 8 8)).alloc (Obj.cells (regA [0,0,0,0,0,0,0,0]) 3)).heap[b]?=W2.heap[b]?:=fun b hb' hne=>(Deep.blk_alloc_lt _ _ _ (by rw[hsz];exact hb')).trans (Deep.blk_setCell_other W2 ⟨g,i,none⟩ _ b hne)
    have rlen:rows.length=L:=by have:=hR2.own.1;omega
    have own3:((W2.setCell ⟨g,i,none⟩ (.slice (some ⟨NB,0,none⟩) 8 8)).alloc (Obj.cells (regA [0,0,0,0,0,0,0,0]) 3)).ownsRow w.heap.size 22 1 (.slice (some ⟨g,0,none⟩) L L) L (rows.set i (.slice (some ⟨NB,0,none⟩) 8 8)) :=
     World.ownsRow.kept (ownsRow_putAt hR2.own rfl i [.slice (some ⟨NB,0,none⟩) 8 8] (by simp;omega)) (row:=none) (let bb:=below_box (W2.setCell ⟨g,i,none⟩ (.slice (some ⟨NB,0,none⟩) 8 8)) (Obj.cells (regA [0,0,0,0,0,0,0,0]) 3);⟨bb.os,bb.tape,bb.output,bb.size,fun j hj _=>bb.block j hj⟩) (Or.inr (by simp[Value.ownBlock]))
    have b3:Below w.heap.size w ((W2.setCell ⟨g,i,none⟩ (.slice (some ⟨NB,0,none⟩) 8 8)).alloc (Obj.cells (regA [0,0,0,0,0,0,0,0]) 3)):=(hb2.setCell (by show w.heap.size<=g;exact hgw) _).alloc (by rw[hsz];exact hb2.size) _;have oc:=ownsRow_at own3 (g:=g) rfl (j:=i) (u:=.slice (some ⟨NB,0,none⟩) 8 8) (by rw[List.getElem?_set,if_pos rfl,if_pos (by omega)]);have I3:=(hoth B hBs (by omega)).trans I1;have hNBw:w.heap.size<=NB:=by have:=hb2.size;omega
    go_upto_region 7 with fail
    rw[<- hNB];clear hmk8 zcell fz2 hsz hgr2 hgr hcur;have hP3oth:=hoth pg (by have:=hP2.lt;omega) (fun e=>hgp e.symm);generalize (W2.setCell ⟨g,i,none⟩ (.slice (some ⟨NB,0,none⟩) 8 8)).alloc (Obj.cells (regA [0,0,0,0,0,0,0,0]) 3)=W3 at *;have bc:∀ j,W3.cell? ⟨B,j,none⟩=(ptA true k)[j]?:=vCell_blk I3;have hrun:=run_copy_full (P:=Tryz.prog) 1 W3.drew 22 22 3 3 Tryz.underlying22 (by kernel_rfl) NB 8 8 (some ⟨B,1,none⟩) 8 _ _ M1 (regA k).toList rfl rfl (fun _=>⟨_,rfl,fun j v hv=>by
     have hadd:(⟨B,1,none⟩:Addr).add j=⟨B,1+j,none⟩:=by unfold Addr.add;split <;> simp_all
     rw[hadd]
     show W3.cell? ⟨B,1+j,none⟩=some v
     have e2:(ptA true k)[j+1]?=(regA k).toList[j]?:=by rw[<- Array.getElem?_toList];rfl
     rw[bc,Nat.add_comm 1 j,e2];exact hv⟩) (fun v hv=>by simp at hv;rcases hv with h | h | h | h | h | h | h | h <;> rw[h] <;> rfl)
    have HRUN:=show Aside _ from hrun
    clear hrun bc;refine wp_region_need (fun j=>j != 6) (fun w'=>w'.cell? ⟨g,i,none⟩=some (.slice (some ⟨NB,0,none⟩) 8 8)) (by kernel_rfl) oc (fun hS=>?_);refine tkN 0 hS ?_;refine tkN 1 hS ?_;refine tkN 2 hS ?_;refine tkN 3 hS ?_;refine tkN 4 hS ?_;refine tkN 5 hS ?_;refine wpAnyN_one (i:=6) (by kernel_rfl) rfl (fun K hK=>?_);refine step_copy rfl (.tmp 25) (.tmp 27) 22 22 rfl (.slice (some ⟨NB,0,none⟩) 8 8) (.slice (some ⟨B,1,none⟩) 8 8) (by simp[Act.eval]) (by simp[Act.eval]) _ _ HRUN.out ?_
    refine laN hK ?_;clear hK;have hgrown:W3.drew.grownBy (W3.drew.setRow NB (regA k).toList.toArray) (some NB):=⟨rfl,rfl,rfl,by simp,fun j _ hj=>setRow_other W3.drew NB j _ (fun e=>hj (by rw[e]))⟩;have own4:(W3.drew.setRow NB (regA k).toList.toArray).ownsRow w.heap.size 22 1 (.slice (some ⟨g,0,none⟩) L L) L (rows.set i (.slice (some ⟨NB,0,none⟩) k.length 8)):=by
     rw[hk8];exact World.ownsRow.kept (w:=W3.drew) own3 hgrown (Or.inr (by simp only[Value.ownBlock,ne_eq,Option.some.injEq];exact hNBg))
    have M4:(W3.drew.setRow NB (regA k).toList.toArray).heap[NB]?=some (.cells (regA k) 3 (0,0)):=setRow_blk (w:=W3.drew) M1 _;have hR4:=hR2.store (by rw[List.length_append,hlen,List.length_replicate];omega) hiL (w':=W3.drew.setRow NB (regA k).toList.toArray) own4 (fun b hb' hne=>(setRow_other W3.drew NB b _ (by omega)).trans (hoth b hb' hne)) (vInts_regs M4 hk8) (fun b o e=>by simp at e;omega);have b4:Below w.heap.size w (W3.drew.setRow NB (regA k).toList.toArray):=b3.drew.grown hgrown (Nat.le_trans b3.size (Nat.le_refl _)) (fun j hj=>by simp at hj;omega)
    have hP4:PtsOwn (W3.drew.setRow NB (regA k).toList.toArray) base pg pcap L st:=by
     refine⟨hP2.1,?_⟩
     rcases hP2.2 with⟨h0,_⟩ | ⟨g',c',cur,h0,h1,h2,h3⟩
     ·simp at h0
     ·simp only[Value.slice.injEq,Option.some.injEq,Addr.mk.injEq,and_true] at h0
      obtain⟨rfl,hc⟩:=h0;refine Or.inr ⟨pg,c',cur,by rw[hc.2],h1,?_,h3⟩;exact((setRow_other W3.drew NB pg _ (by have:=hP2.lt;omega)).trans hP3oth).trans h2
    have HF:Aside (Below w.heap.size w (W3.drew.setRow NB (regA k).toList.toArray)/\PtsOwn (W3.drew.setRow NB (regA k).toList.toArray) base pg pcap L st/\∃ rows',RfAt (W3.drew.setRow NB (regA k).toList.toArray) w.heap.size g L L (st.take (i+1)++List.replicate (L-(i+1)) none) rows'):=⟨b4,hP4,_,by rw[HNX.out];exact hR4⟩;clear hR4 b4 hP4 M4 own4 hgrown own3 M1 hoth HRUN hS oc I3 hP3oth b3;generalize W3.drew.setRow NB (regA k).toList.toArray=W5 at *
    go_wp2
    go_roundg (L-(i+1))
    case measure=>go_light;omega
    case rel=>go_light;exact⟨i+1,by omega,rfl,by go_num,HF.out.1,HF.out.2.1,HF.out.2.2⟩
  ·obtain rfl:i=L:=by omega
   have HE:Aside (st.take i++List.replicate (i-i) none=st):=by
    show _=_
    rw[Nat.sub_self,List.replicate_zero,List.append_nil,List.take_of_length_le (by rw[hg.1];exact Nat.le_refl _)]
   go_wp2
   go_ret
   exact⟨g,i,rfl,hb,rows,by rw[HE.out] at hR;exact hR⟩
end
section
open Go.RowKit
def tyErr (G:Nat) (L:Nat->Nat) (X:Nat->Nat->Nat->Int) (kind:Int):Int:=if progFault G L X≠0 then progFault G L X else if kind<0\/(G:Int)<=kind then 6 else 0
theorem SeqOwnLe {w:World} {base base':Nat} {e:TypeId} {size n:Nat} {v:Value} {xs:List Value} (h:w.ownsRow base e size v n xs) (hb:base'<=base):w.ownsRow base' e size v n xs:=by
 refine⟨h.1,?_⟩
 rcases h.2 with hn | ⟨g,cap,cur,h0,h1,h2⟩
 ·exact Or.inl hn
 ·exact Or.inr ⟨g,cap,cur,h0,by omega,h2⟩
theorem types_bad (ao:Option Addr) (G cap:Nat) (A:Nat->Option Addr) (L C:Nat->Nat) (X:Nat->Nat->Nat->Int) (kind:Int) (w:World) (hT:TabAt 0 w) (hp:ProgAt w ao G A L C X) (he:tyErr G L X kind≠0) :
  Calls Tryz.prog 20 #[.agg #[.slice ao G cap],.int .i64 kind] w fun e w'=>e=.returned (.tuple #[.slice none 0 0,.int .i64 (tyErr G L X kind)])/\Below w.heap.size w w':=by
 have hG:=hp.many;obtain⟨R,hR⟩:∃ R,R=tyErr G L X kind:=⟨_,rfl⟩;have HR:Aside (R=tyErr G L X kind/\R≠0):=⟨hR,by rw[hR];exact he⟩;rw[<- hR];clear hR he
 go_enter Tryz.func20,Tryz.ntmps20
 go_wp2_with fail
 have k1:=Keeps.alloc w (Obj.cells #[Value.slice ao G cap] 38);have b1:=below_box w (Obj.cells #[Value.slice ao G cap] 38);have c1:(w.alloc (Obj.cells #[Value.slice ao G cap] 38)).cell? ⟨w.heap.size,0,none⟩=some (.slice ao G cap):=by simp
 generalize w.alloc (Obj.cells #[Value.slice ao G cap] 38)=W at *;refine(ccheck_any ao G cap A L C X _ (hT.keeps k1) (hp.keeps k1)).mono ?_;rintro e w1 ⟨rfl,hb1⟩;have b2:=b1.trans (hb1.mono b1.size);have c2:=Keeps.below hb1 _ _ c1;clear c1 b1 hb1 k1
 by_cases hf:progFault G L X=0
 ·have HK:Aside (R=6/\(kind<0\/(G:Int)<=kind)):=by
   have h1:=HR.out.1;have h2:=HR.out.2
   unfold tyErr at h1
   rw[if_neg (by simp[hf])] at h1
   by_cases hk:kind<0\/(G:Int)<=kind
   ·rw[if_pos hk] at h1;exact⟨h1,hk⟩
   ·rw[if_neg hk] at h1;exact absurd h1 h2
  rw[hf];clear hf HR
  by_cases hk:kind<0
  ·go_wp2
   go_ret2
   exact⟨by rw[HK.out.1];rfl,b2⟩
  ·have hk2:(G:Int)<=kind:=by have:=HK.out.2;omega
   have hk0:0<=kind:=by omega
   go_wp2
   go_ret2
   exact⟨by rw[HK.out.1];rfl,b2⟩
 ·have HE:Aside (R=progFault G L X):=by
   have h1:=HR.out.1
   unfold tyErr at h1
   rw[if_pos hf] at h1;exact h1
  have hfb:(progFault G L X != 0)=true:=by simp[hf]
  have hfb2:(progFault G L X == 0)=false:=by simp[hf]
  clear HR;go_wp2
  go_ret2
  exact⟨by rw[HE.out];rfl,b2⟩
theorem types_ok (ao:Option Addr) (G cap:Nat) (A:Nat->Option Addr) (L C:Nat->Nat) (X:Nat->Nat->Nat->Int) (kind:Nat) (w:World) (hT:TabAt 0 w) (hp:ProgAt w ao G A L C X) (hf:progFault G L X=0) (hk:kind<G) :
  Calls Tryz.prog 20 #[.agg #[.slice ao G cap],.int .i64 (kind:Int)] w fun e w'=>∃ g vc,e=.returned (.tuple #[.slice (some ⟨g,0,none⟩) (L kind) vc,.int .i64 0])/\Below w.heap.size w w'/\∃ rows,RfAt w' w.heap.size g vc (L kind) (flowS (X kind) (L kind)) rows:=by
 have hG:=hp.many;have hkz:(kind:Int)<(G:Int):=by omega
 have hk0:(0:Int)<=(kind:Int):=Int.natCast_nonneg _;have hx:=rowV_ok hf hk;have hLk:=hx.len
 go_enter Tryz.func20,Tryz.ntmps20
 go_wp2_with fail
 have k1:=Keeps.alloc w (Obj.cells #[Value.slice ao G cap] 38);have b1:=below_box w (Obj.cells #[Value.slice ao G cap] 38);have c1:(w.alloc (Obj.cells #[Value.slice ao G cap] 38)).cell? ⟨w.heap.size,0,none⟩=some (.slice ao G cap):=by simp
 generalize w.alloc (Obj.cells #[Value.slice ao G cap] 38)=W at *;refine(ccheck_any ao G cap A L C X _ (hT.keeps k1) (hp.keeps k1)).mono ?_;rintro e w1 ⟨rfl,hb1⟩;have b2:=b1.trans (hb1.mono b1.size);have c2:=Keeps.below hb1 _ _ c1;have hp2:=(hp.keeps k1).keeps (Keeps.below hb1);obtain⟨b,o,rfl,hca⟩:=hp2.outer kind hk;have hrow:=hp2.rows kind hk;clear c1 b1 hb1 k1;rw[hf]
 go_wp2_with fail
 refine(points_any (A kind) (L kind) (C kind) (X kind) _ hrow hx).mono ?_;rintro e w2 ⟨g,pc,st,rfl,hfl,hP,hb2⟩;have HST:Aside (st=flowS (X kind) (L kind)):=hfl.eq;have hgd:VGood (L kind) st:=by rw[HST.out];exact flowS_good _ _
 have b3:=b2.trans (hb2.mono b2.size);clear hfl hca hrow hp2
 go_wp2_with fail
 refine(listed_any g pc (L kind) _ st w2 hLk hP hgd).mono ?_;rintro e w3 ⟨g3,c3,rfl,hb3,rows,hR⟩;have b4:=b3.trans (hb3.mono b3.size);have hR4:RfAt w3 w.heap.size g3 c3 (L kind) (flowS (X kind) (L kind)) rows:=by
  rw[<- HST.out];exact⟨SeqOwnLe hR.own b3.size,hR.row⟩
 clear hb3 hR;go_wp2
 go_ret2
 exact⟨g3,c3,rfl,b4,rows,hR4⟩
end
section
open Go.RowKit
theorem worldTells_any (w:World) (hT:TabAt 0 w):Calls Tryz.prog 18 #[] w fun e w'=>e=.returned (.bool true)/\Below w.heap.size w w':=by
 go_enter Tryz.func18,Tryz.ntmps18
 go_wp2_with fail
 refine(kprogram_any [] none 0 2 w ((fun i v hi=>by simp at hi)) (by simp) (by omega) hT).mono ?_;rintro e w1 ⟨ao,cap,rfl,hb1,hK⟩;obtain⟨A,C,hP,hck,hpf⟩:=program_prog (by omega) hK
 go_wp2_with fail
 refine(anew_any ao 3 cap A _ C _ 10 _ (hT.keeps (Keeps.below hb1)) hP).mono ?_;rintro e w2 ⟨aa,ca,rfl,hb2,_,_⟩;have hE:wnewE 3 (lenOf (programS [] 2)) (xOf (programS [] 2)) 10=0:=by
  unfold wnewE
  rw[hck]
  rfl
 have hV:wnew 3 (lenOf (programS [] 2)) (xOf (programS [] 2)) 10=newW 10:=by
  unfold wnew
  rw[if_pos hE]
 rw[hE,hV];have hb3:=hb1.trans (hb2.mono hb1.size);clear hP hK hck hpf hb1 hb2 hT hE hV;simp only[newW,List.length_cons,List.length_nil];go_wp2
 go_ret
 exact⟨rfl,hb3.alloc hb3.size _⟩
end
end Go.Proofs.YtepifccbbmdfcaaGreatDoor
