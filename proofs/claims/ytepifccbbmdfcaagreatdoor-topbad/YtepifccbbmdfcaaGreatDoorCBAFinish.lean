/- AFinish. -/
import Derived.Test.YtepifccbbmdfcaaGreatDoorCBAClear
namespace Go.Proofs.YtepifccbbmdfcaaGreatDoor
set_option maxRecDepth 100000
set_option maxHeartbeats 8000000
section
open Go.RowKit
theorem WdOwn.setOut {w:World} {base Bw:Nat} {V:Wd} {av pv:Value} {fl:List Fa} {rs:List (List (Value × Ob))} (h:WdOwn w base Bw V av pv fl rs) {b:Nat} (hb:b∉wdFoot Bw av pv fl rs) (i:Nat) (u:Value):WdOwn (w.setCell ⟨b,i,none⟩ u) base Bw V av pv fl rs :=
 h.at_block (fun k hk=>Deep.blk_setCell_other _ ⟨b,i,none⟩ _ _ (fun e=>hb (by have e':k=b:=e;rw[<- e'];exact hk)))
theorem Moved.setNew {w w':World} {F F':List Nat} (h:Moved w w' F F') {b:Nat} (hb:w.heap.size<=b) (i:Nat) (u:Value):Moved w (w'.setCell ⟨b,i,none⟩ u) F F' :=
 ⟨h.os,h.tape,h.output,by simp[World.setCell];exact h.size,fun k hk hk'=>(Deep.blk_setCell_other _ ⟨b,i,none⟩ _ _ (by show k≠b;omega)).trans (h.keep k hk hk'),h.sub⟩
theorem WdOwn.newHeap2 {w w0:World} {base Bw:Nat} {V:Wd} {av pv:Value} {fl:List Fa} {rs:List (List (Value × Ob))} {j:Nat} {x:Ac} (h:WdOwn w base Bw V av pv fl rs) (hx:V.acts[j]?=some x) {g n c:Nat} (hav:av=.slice (some ⟨g,0,none⟩) n c) {M:Int} {oa:Option Addr} {on oc B:Nat} {s:List (Value × Ob)} {l:List Ob} (hs:s.map (·.2)=l)
  (hon:on=l.length) (hH:HeapOwn w B (.slice oa on oc) s) (hB:∀ b∈wdFoot Bw av pv fl rs,b<B) {F:List Nat} (hM:Moved w0 w F (wdFoot Bw av pv fl rs)) (hB0:w0.heap.size<=B) :
  ∃ fl' rs',WdOwn ((w.setCell ⟨g,j*8+2,none⟩ (.int .i64 M)).setCell ⟨g,j*8+3,none⟩ (.slice oa on oc)) base Bw { V with acts:=V.acts.set j (x.heap M l) } av pv fl' rs'/\Moved w0 ((w.setCell ⟨g,j*8+2,none⟩ (.int .i64 M)).setCell ⟨g,j*8+3,none⟩ (.slice oa on oc)) F (wdFoot Bw av pv fl' rs') /\
   ∀ b∈wdFoot Bw av pv fl' rs',b∈wdFoot Bw av pv fl rs\/(B<=b/\b<w.heap.size):=by
 subst hon;have hj:=(List.getElem?_eq_some_iff.1 hx).1;obtain⟨fa,hfa⟩:=at_some (l:=fl) (i:=j) (by rw[h.flen];exact hj);obtain⟨r,hr⟩:=at_some (l:=rs) (i:=j) (by rw[h.rlen];exact hj);have hgw:g∈wdFoot Bw av pv fl rs:=List.mem_append_left _ (by simp[mem_vB,hav,Value.ownBlock]);have hbl:=hH.blk_le;have hbase:base<=B:=by
  have:=(World.ownsRow.lt h.acts g (by rw[hav];rfl)).1;have:=hB g hgw;omega
 have hsub:∀ b∈wdFoot Bw av pv (fl.set j { fa with M:=M,oa:=oa,on:=l.length,oc:=oc }) (rs.set j s),b∈wdFoot Bw av pv fl rs\/(B<=b/\b<w.heap.size):=fun b hb'=>by
  rcases wdFoot_set hb' with h1 | h1
  ·exact .inl h1
  ·rcases List.mem_append.1 h1 with h2 | h2
   ·exact .inr (hbl b h2)
   ·exact .inl (List.mem_append_right _ (mem_actsFoot hfa hr (List.mem_append_right _ h2)))
 refine⟨_,_,h.setHeap hfa hr hx hav hs (hH.base hbase) (fun b hb' hb2=>?_),⟨hM.os,hM.tape,hM.output,by rw[two_size];exact hM.size,fun b hb1 hb2=>?_,fun b hb'=>?_⟩,hsub⟩
 ·have:=hB b hb2
  have:=(hbl b hb').1;omega
 ·rw[two_other _ _ _ _ (fun e=>by subst e;rcases hM.sub b hgw with h1 | h1;exact hb2 h1;omega)]
  exact hM.keep b hb1 hb2
 ·rcases hsub b hb' with h1 | h1
  ·exact hM.sub b h1
  ·exact .inr (by omega)
def optV:Option Vl->Vl
 | none=>nilV
 | some v=>v
theorem give_any (n:Int) (w:World) {base Bw:Nat} {V:Wd} {av pv:Value} {fl:List Fa} {rs:List (List (Value × Ob))} (h:WdOwn w base Bw V av pv fl rs) {j:Nat} {x:Ac} (hx:V.acts[j]?=some x) {g nn c:Nat} (hav:av=.slice (some ⟨g,0,none⟩) nn c) (h8:x.regs.length=8) (h6:x.box.length<=6) :
  Calls Tryz.prog 81 #[.pointer (some ⟨g,j*8,none⟩),.int .i64 n] w fun e w'=>e=.returned (.tuple #[.agg #[.int .i64 (optV (giveS x n).2).k,.int .i64 (optV (giveS x n).2).n],.bool (giveS x n).2.isSome])/\∃ fl' rs',WdOwn w' base Bw { V with acts:=V.acts.set j (giveS x n).1 } av pv fl' rs'/\Moved w w' (wdFoot Bw av pv fl rs) (wdFoot Bw av pv fl' rs'):=by
 obtain⟨N0,k1,b1,s1⟩:=boxes1 w (.cells #[.int .i64 0,.int .i64 0] 66);have h1:=h.below b1;obtain⟨fa,r,hfa,hr,hA,u0,u1,k2,k3,u4,u5,u6,u7⟩:=h1.cellsAt hav hx;clear u0 u1 u4 u5 u6 u7;have kfg:=h1.fz hav;have hOb:=hA.obsAt;have HR:Aside (giveS x n=if (allocS x.M x.obs n).e=0 then (x.heap (allocS x.M x.obs n).M (allocS x.M x.obs n).obs,some ⟨(allocS x.M x.obs n).k,(allocS x.M x.obs n).n⟩) else if (allocS x.M x.obs n).e=7 then (if (allocS (clearS x).M (clearS x).obs n).e=0 then ((clearS x).heap (allocS (clearS x).M (clearS x).obs n).M (allocS (clearS x).M (clearS x).obs n).obs,some ⟨(allocS (clearS x).M (clearS x).obs n).k,(allocS (clearS x).M (clearS x).obs n).n⟩) else (clearS x,none)) else (x,none)):=rfl
 generalize giveS x n=RG at *;have hal:=alloc_any x.M fa.oa fa.oc x.obs n _ hOb;generalize allocS x.M x.obs n=AL at *;obtain⟨aM,al,ak,an,ae⟩:=AL;simp only at hal HR;have HW:Aside (WdOwn w base Bw V av pv fl rs):=h;have HAV:Aside (av=.slice (some ⟨g,0,none⟩) nn c):=hav;have hgl:g<w.heap.size:=(World.ownsRow.lt h.acts g (by rw[hav];rfl)).2;clear h h1 hav hA hOb
 go_enter Tryz.func81,Tryz.ntmps81
 go_upto_region 1 with fail
 generalize w.alloc (.cells #[.int .i64 0,.int .i64 0] 66)=W at *
 go_wp2_with fail
 refine hal.mono ?_;rintro e w2 ⟨va,vc,rfl,hb2,rows,hrows,hO⟩
 go_upto_region 2 with fail
 obtain⟨NH,NK,_,c2,s2⟩:=boxes2 w2 (.cells #[.int .i64 aM,.slice va al.length vc] 47) (.cells #[.int .i64 ak,.int .i64 an] 66);generalize (w2.alloc (.cells #[.int .i64 aM,.slice va al.length vc] 47)).alloc (.cells #[.int .i64 ak,.int .i64 an] 66)=W2 at *;have hBW:Below W.heap.size W W2:=hb2.trans (c2.mono hb2.size);have hB:Below w.heap.size w W2:=b1.trans (hBW.mono b1.size);have hW2:=HW.out.below hB
 have hMw:Moved w W2 (wdFoot Bw av pv fl rs) (wdFoot Bw av pv fl rs):=Moved.of_below hB;replace hO:=hO.below c2;replace N0:=(hBW.block _ (by omega)).trans N0;replace k2:=Keeps.below hBW _ _ k2;replace k3:=Keeps.below hBW _ _ k3;replace kfg:∀ i,W2.frozen? ⟨g,i,none⟩=false:=fun i=>(hBW.frozen (by simp;omega)).trans (kfg i)
 have hlt:∀ b∈wdFoot Bw av pv fl rs,b<w.heap.size:=fun b hb=>HW.out.blk_lt b hb
 have sW:w.heap.size<W.heap.size:=by omega
 have sW2:=hb2.size;generalize hH:w2.heap.size=H at *;have sH:W.heap.size<=H:=by omega
 have h0:W2.cell? ⟨H,0,none⟩=some (.int .i64 aM):=cell_blk NH 0;have h1:W2.cell? ⟨H,1,none⟩=some (.slice va al.length vc):=cell_blk NH 1;have h2:W2.cell? ⟨H+1,0,none⟩=some (.int .i64 ak):=cell_blk NK 0;have h3:W2.cell? ⟨H+1,1,none⟩=some (.int .i64 an):=cell_blk NK 1;have r0:W2.cell? ⟨w.heap.size,0,none⟩=some (.int .i64 0):=cell_blk N0 0;have r1:W2.cell? ⟨w.heap.size,1,none⟩=some (.int .i64 0):=cell_blk N0 1
 have rf:∀ i,W2.frozen? ⟨w.heap.size,i,none⟩=false:=fun i=>fz_blk N0 i
 have hf:∀ i,W2.frozen? ⟨H,i,none⟩=false:=fun i=>fz_blk NH i
 have hg:∀ i,W2.frozen? ⟨H+1,i,none⟩=false:=fun i=>fz_blk NK i
 clear hH hal hb2 c2 k1
 by_cases hae:ae=0
 ·subst hae
  obtain⟨fl',rs',z1,z2,z3⟩:=hW2.newHeap2 hx HAV.out (M:=aM) hrows rfl hO (fun b hb=>Nat.lt_trans (hlt b hb) sW) hMw (Nat.le_of_lt sW);have hR0:w.heap.size∉wdFoot Bw av pv fl' rs':=fun hb=>by
   rcases z3 _ hb with q | q
   ·have:=hlt _ q;omega
   ·omega
  have hRG:RG=(x.heap aM al,some ⟨ak,an⟩):=by rw[HR.out,if_pos rfl]
  have HZ:Aside (∃ fl' rs',WdOwn ((((W2.setCell ⟨g,j*8+2,none⟩ (.int .i64 aM)).setCell ⟨g,j*8+3,none⟩ (.slice va al.length vc)).setCell ⟨w.heap.size,0,none⟩ (.int .i64 ak)).setCell ⟨w.heap.size,1,none⟩ (.int .i64 an)) base Bw { V with acts:=V.acts.set j (x.heap aM al) } av pv fl' rs'/\Moved w ((((W2.setCell ⟨g,j*8+2,none⟩ (.int .i64 aM)).setCell ⟨g,j*8+3,none⟩ (.slice va al.length vc)).setCell ⟨w.heap.size,0,none⟩ (.int .i64 ak)).setCell ⟨w.heap.size,1,none⟩ (.int .i64 an)) (wdFoot Bw av pv fl rs) (wdFoot Bw av pv fl' rs')):=⟨fl',rs',(z1.setOut hR0 _ _).setOut hR0 _ _,(z2.setNew (Nat.le_refl _) _ _).setNew (Nat.le_refl _) _ _⟩
  have NZ:=two_blk ((two_other (j*8+2) (j*8+3) (.int .i64 aM) (.slice va al.length vc) (show w.heap.size≠g by omega)).trans N0) 0 1 (.int .i64 ak) (.int .i64 an);subst hRG;clear z1 z2 z3 hR0 HR hrows hO;go_wp2
  have y0:=cell_blk NZ 0;have y1:=cell_blk NZ 1;simp at y0 y1;exact bodyPost_ret (v:=.tuple #[.agg #[.int .i64 ak,.int .i64 an],.bool true]) (by simp[results,Tryz.results81,go_sem,y0,y1]) rfl ⟨rfl,HZ.out⟩
 by_cases hae7:ae=7
 rotate_left
 ·have q0:(ae != 0)=true:=by simp[hae]
  have q7:(ae == 7)=false:=by simp[hae7]
  have hR0:w.heap.size∉wdFoot Bw av pv fl rs:=fun hb=>by have:=hlt _ hb;omega
  have hRG:RG=(x,none):=by rw[HR.out,if_neg hae,if_neg hae7]
  have HZ:Aside (∃ fl' rs',WdOwn ((W2.setCell ⟨w.heap.size,0,none⟩ (.int .i64 0)).setCell ⟨w.heap.size,1,none⟩ (.int .i64 0)) base Bw { V with acts:=V.acts.set j x } av pv fl' rs'/\Moved w ((W2.setCell ⟨w.heap.size,0,none⟩ (.int .i64 0)).setCell ⟨w.heap.size,1,none⟩ (.int .i64 0)) (wdFoot Bw av pv fl rs) (wdFoot Bw av pv fl' rs')):=⟨fl,rs,((HW.out.same hx hB).setOut hR0 _ _).setOut hR0 _ _,(hMw.setNew (Nat.le_refl _) _ _).setNew (Nat.le_refl _) _ _⟩
  have NZ:=two_blk N0 0 1 (.int .i64 0) (.int .i64 0);subst hRG;clear hR0 HR hrows hO hW2 hMw;go_wp2
  have y0:=cell_blk NZ 0;have y1:=cell_blk NZ 1;simp at y0 y1;exact bodyPost_ret (v:=.tuple #[.agg #[.int .i64 0,.int .i64 0],.bool false]) (by simp[results,Tryz.results81,go_sem,y0,y1]) rfl ⟨rfl,HZ.out⟩
 subst hae7;have hcl:=clearUp_any W2 hW2 hx HAV.out h8 h6;clear hrows hO k2 k3 kfg hf hg rf r0 r1 h0 h1 h2 h3
 go_wp2_with fail
 refine hcl.mono ?_;rintro e W3 ⟨rfl,fl1,rs1,hW3,hM3⟩;have hjv:j<V.acts.length:=(List.getElem?_eq_some_iff.1 hx).1;have hx1:(V.acts.set j (clearS x))[j]?=some (clearS x):=by rw[List.getElem?_set,if_pos rfl,if_pos hjv]
 obtain⟨fb,rb,hfb,hrb,hA,u0,u1,k2,k3,u4,u5,u6,u7⟩:=hW3.cellsAt HAV.out hx1;clear u0 u1 u4 u5 u6 u7;have kfg:=hW3.fz HAV.out;have hOb:=hA.obsAt;have hal:=alloc_any (clearS x).M fb.oa fb.oc (clearS x).obs n W3 hOb;generalize allocS (clearS x).M (clearS x).obs n=AL at *;obtain⟨bM,bl,bk,bn,be⟩:=AL;simp only at hal HR;clear hA hOb hcl;have nH:H∉wdFoot Bw av pv fl rs:=fun hb=>by have:=hlt _ hb;omega
 have nK:H+1∉wdFoot Bw av pv fl rs:=fun hb=>by have:=hlt _ hb;omega
 have nR:w.heap.size∉wdFoot Bw av pv fl rs:=fun hb=>by have:=hlt _ hb;omega
 have sW3:=hM3.size;replace NH:=(hM3.keep H (by omega) nH).trans NH;replace NK:=(hM3.keep (H+1) (by omega) nK).trans NK;replace N0:=(hM3.keep w.heap.size (by omega) nR).trans N0;have mH:H∉wdFoot Bw av pv fl1 rs1:=fun hb=>by rcases hM3.sub _ hb with q | q;exact nH q;omega
 have mK:H+1∉wdFoot Bw av pv fl1 rs1:=fun hb=>by rcases hM3.sub _ hb with q | q;exact nK q;omega
 have mR:w.heap.size∉wdFoot Bw av pv fl1 rs1:=fun hb=>by rcases hM3.sub _ hb with q | q;exact nR q;omega
 have hMw3:=hMw.trans hM3;clear hM3 hMw nH nK nR hW2
 go_wp2_with fail
 refine hal.mono ?_;rintro e W4 ⟨vb,vd,rfl,hb4,rowsb,hrowsb,hO⟩;clear hal;have hlt3:∀ b∈wdFoot Bw av pv fl1 rs1,b<W3.heap.size:=fun b hb=>hW3.blk_lt b hb
 have hgH:g≠H:=by omega
 have hgK:g≠H+1:=by omega
 have hgR:g≠w.heap.size:=by omega
 have sH3:H+1<W3.heap.size:=by omega
 have hW4:=hW3.below hb4;replace hMw3:Moved w W4 (wdFoot Bw av pv fl rs) (wdFoot Bw av pv fl1 rs1):=hMw3.trans (Moved.of_below hb4);replace NH:=(hb4.block H (by omega)).trans NH;replace NK:=(hb4.block (H+1) (by omega)).trans NK;replace N0:=(hb4.block w.heap.size (by omega)).trans N0;have h0:W4.cell? ⟨H,0,none⟩=some (.int .i64 aM):=cell_blk NH 0;have h1:W4.cell? ⟨H,1,none⟩=some (.slice va al.length vc):=cell_blk NH 1
 have h2:W4.cell? ⟨H+1,0,none⟩=some (.int .i64 ak):=cell_blk NK 0;have h3:W4.cell? ⟨H+1,1,none⟩=some (.int .i64 an):=cell_blk NK 1;have hf:∀ i,W4.frozen? ⟨H,i,none⟩=false:=fun i=>fz_blk NH i
 have hg:∀ i,W4.frozen? ⟨H+1,i,none⟩=false:=fun i=>fz_blk NK i
 have hW5:WdOwn ((((W4.setCell ⟨H,0,none⟩ (.int .i64 bM)).setCell ⟨H,1,none⟩ (.slice vb bl.length vd)).setCell ⟨H+1,0,none⟩ (.int .i64 bk)).setCell ⟨H+1,1,none⟩ (.int .i64 bn)) base Bw _ av pv fl1 rs1:=(((hW4.setOut mH 0 (.int .i64 bM)).setOut mH 1 (.slice vb bl.length vd)).setOut mK 0 (.int .i64 bk)).setOut mK 1 (.int .i64 bn);have hM5:Moved w ((((W4.setCell ⟨H,0,none⟩ (.int .i64 bM)).setCell ⟨H,1,none⟩ (.slice vb bl.length vd)).setCell ⟨H+1,0,none⟩ (.int .i64 bk)).setCell ⟨H+1,1,none⟩ (.int .i64 bn)) (wdFoot Bw av pv fl rs) (wdFoot Bw av pv fl1 rs1):=(((hMw3.setNew (b:=H) (by omega) 0 (.int .i64 bM)).setNew (b:=H) (by omega) 1 (.slice vb bl.length vd)).setNew (b:=H+1) (by omega) 0 (.int .i64 bk)).setNew (b:=H+1) (by omega) 1 (.int .i64 bn)
 have hoth:∀ k,k≠H->k≠H+1->((((W4.setCell ⟨H,0,none⟩ (.int .i64 bM)).setCell ⟨H,1,none⟩ (.slice vb bl.length vd)).setCell ⟨H+1,0,none⟩ (.int .i64 bk)).setCell ⟨H+1,1,none⟩ (.int .i64 bn)).heap[k]?=W4.heap[k]?:=fun k hk hk'=>(two_other 0 1 _ _ hk').trans (two_other 0 1 _ _ hk)
 have MH:=(two_other (w:=(W4.setCell ⟨H,0,none⟩ (.int .i64 bM)).setCell ⟨H,1,none⟩ (.slice vb bl.length vd)) 0 1 (.int .i64 bk) (.int .i64 bn) (show H≠H+1 by omega)).trans (two_blk NH 0 1 (.int .i64 bM) (.slice vb bl.length vd));have MK:=two_blk ((two_other (w:=W4) 0 1 (.int .i64 bM) (.slice vb bl.length vd) (show H+1≠H by omega)).trans NK) 0 1 (.int .i64 bk) (.int .i64 bn);replace hO:=hO.at_block (w':=((((W4.setCell ⟨H,0,none⟩ (.int .i64 bM)).setCell ⟨H,1,none⟩ (.slice vb bl.length vd)).setCell ⟨H+1,0,none⟩ (.int .i64 bk)).setCell ⟨H+1,1,none⟩ (.int .i64 bn))) (fun b hb=>hoth b (by have:=(hO.blk_le b hb).1;omega) (by have:=(hO.blk_le b hb).1;omega))
 replace N0:=(hoth w.heap.size (by omega) (by omega)).trans N0
 go_upto_region 5 with fail
 clear h0 h1 h2 h3 hf hg NH NK hoth hW4 hMw3 k2 k3 kfg;generalize (((W4.setCell ⟨H,0,none⟩ (.int .i64 bM)).setCell ⟨H,1,none⟩ (.slice vb bl.length vd)).setCell ⟨H+1,0,none⟩ (.int .i64 bk)).setCell ⟨H+1,1,none⟩ (.int .i64 bn)=W5 at *;obtain⟨fb,rb,hfb,hrb,hA,u0,u1,k2,k3,u4,u5,u6,u7⟩:=hW5.cellsAt HAV.out hx1;clear u0 u1 u4 u5 u6 u7 hA hfb hrb;have kfg:=hW5.fz HAV.out;have h0:W5.cell? ⟨H,0,none⟩=some (.int .i64 bM):=cell_blk MH 0
 have h1:W5.cell? ⟨H,1,none⟩=some (.slice vb bl.length vd):=cell_blk MH 1;have h2:W5.cell? ⟨H+1,0,none⟩=some (.int .i64 bk):=cell_blk MK 0;have h3:W5.cell? ⟨H+1,1,none⟩=some (.int .i64 bn):=cell_blk MK 1;have r0:W5.cell? ⟨w.heap.size,0,none⟩=some (.int .i64 0):=cell_blk N0 0;have r1:W5.cell? ⟨w.heap.size,1,none⟩=some (.int .i64 0):=cell_blk N0 1;have rf:∀ i,W5.frozen? ⟨w.heap.size,i,none⟩=false:=fun i=>fz_blk N0 i
 by_cases hbe:be=0
 rotate_left
 ·have q0:(be != 0)=true:=by simp[hbe]
  have hRG:RG=(clearS x,none):=by rw[HR.out];simp[hbe]
  have HZ:Aside (∃ fl' rs',WdOwn ((W5.setCell ⟨w.heap.size,0,none⟩ (.int .i64 0)).setCell ⟨w.heap.size,1,none⟩ (.int .i64 0)) base Bw { V with acts:=V.acts.set j (clearS x) } av pv fl' rs'/\Moved w ((W5.setCell ⟨w.heap.size,0,none⟩ (.int .i64 0)).setCell ⟨w.heap.size,1,none⟩ (.int .i64 0)) (wdFoot Bw av pv fl rs) (wdFoot Bw av pv fl' rs')):=⟨fl1,rs1,(hW5.setOut mR _ _).setOut mR _ _,(hM5.setNew (Nat.le_refl _) _ _).setNew (Nat.le_refl _) _ _⟩
  have NZ:=two_blk N0 0 1 (.int .i64 0) (.int .i64 0);subst hRG;clear HR hrowsb hO hW5 hM5;go_wp2
  have y0:=cell_blk NZ 0;have y1:=cell_blk NZ 1;simp at y0 y1;exact bodyPost_ret (v:=.tuple #[.agg #[.int .i64 0,.int .i64 0],.bool false]) (by simp[results,Tryz.results81,go_sem,y0,y1]) rfl ⟨rfl,HZ.out⟩
 subst hbe;obtain⟨fl',rs',z1,z2,z3⟩:=hW5.newHeap2 hx1 HAV.out (M:=bM) hrowsb rfl hO hlt3 hM5 (by omega);have hR0:w.heap.size∉wdFoot Bw av pv fl' rs':=fun hb=>by
  rcases z3 _ hb with q | q
  ·exact mR q
  ·omega
 have hRG:RG=((clearS x).heap bM bl,some ⟨bk,bn⟩):=by rw[HR.out];simp
 simp only[List.set_set] at z1;have HZ:Aside (∃ fl' rs',WdOwn ((((W5.setCell ⟨g,j*8+2,none⟩ (.int .i64 bM)).setCell ⟨g,j*8+3,none⟩ (.slice vb bl.length vd)).setCell ⟨w.heap.size,0,none⟩ (.int .i64 bk)).setCell ⟨w.heap.size,1,none⟩ (.int .i64 bn)) base Bw { V with acts:=V.acts.set j ((clearS x).heap bM bl) } av pv fl' rs'/\Moved w ((((W5.setCell ⟨g,j*8+2,none⟩ (.int .i64 bM)).setCell ⟨g,j*8+3,none⟩ (.slice vb bl.length vd)).setCell ⟨w.heap.size,0,none⟩ (.int .i64 bk)).setCell ⟨w.heap.size,1,none⟩ (.int .i64 bn)) (wdFoot Bw av pv fl rs) (wdFoot Bw av pv fl' rs')):=⟨fl',rs',(z1.setOut hR0 _ _).setOut hR0 _ _,(z2.setNew (Nat.le_refl _) _ _).setNew (Nat.le_refl _) _ _⟩
 have NZ:=two_blk ((two_other (j*8+2) (j*8+3) (.int .i64 bM) (.slice vb bl.length vd) (show w.heap.size≠g by omega)).trans N0) 0 1 (.int .i64 bk) (.int .i64 bn);subst hRG;clear z1 z2 z3 hR0 HR hrowsb hO;go_wp2
 have y0:=cell_blk NZ 0;have y1:=cell_blk NZ 1;simp at y0 y1;exact bodyPost_ret (v:=.tuple #[.agg #[.int .i64 bk,.int .i64 bn],.bool true]) (by simp[results,Tryz.results81,go_sem,y0,y1]) rfl ⟨rfl,HZ.out⟩
end
section
open Go.RowKit
theorem giveS_regs {a:Ac} {n:Int}:(giveS a n).1.regs.length=a.regs.length:=by
 unfold giveS
 split
 ·rfl
 ·split
  ·split
   ·exact clearS_regs
   ·exact clearS_regs
  ·rfl
theorem giveS_box {a:Ac} {n:Int}:(giveS a n).1.box.length=a.box.length:=by
 unfold giveS
 split
 ·rfl
 ·split
  ·split
   ·exact clearS_box
   ·exact clearS_box
  ·rfl
theorem amake_any (op a b n:Int) (w:World) {base Bw:Nat} {V:Wd} {av pv:Value} {fl:List Fa} {rs:List (List (Value × Ob))} (h:WdOwn w base Bw V av pv fl rs) {j:Nat} {x:Ac} (hx:V.acts[j]?=some x) {g nn c:Nat} (hav:av=.slice (some ⟨g,0,none⟩) nn c) (h8:x.regs.length=8) (h6:x.box.length<=6) (ha:0<=a/\a<=7) :
  Calls Tryz.prog 110 #[.pointer (some ⟨g,j*8,none⟩),.agg #[.int .i64 op,.int .i64 a,.int .i64 b,.int .i64 n]] w fun e w'=>e=.returned (.int .i64 (makeS x ⟨op,a,b,n⟩).2)/\∃ fl' rs',WdOwn w' base Bw { V with acts:=V.acts.set j (makeS x ⟨op,a,b,n⟩).1 } av pv fl' rs'/\Moved w w' (wdFoot Bw av pv fl rs) (wdFoot Bw av pv fl' rs'):=by
 obtain⟨qa,rfl⟩:=Int.eq_ofNat_of_zero_le ha.1;have hqa:qa<8:=by omega
 obtain⟨N0,k1,b1,s1⟩:=boxes1 w (.cells #[.int .i64 op,.int .i64 qa,.int .i64 b,.int .i64 n] 43);have h1:=h.below b1;have hgv:=give_any n _ h1 hx hav h8 h6;have hl8:=giveS_regs (a:=x) (n:=n);rw[h8] at hl8;have HRK:Aside (makeS x ⟨op,qa,b,n⟩=match giveS x n with
  | (y,none)=>(y,5)
  | (y,some v)=>(y.put qa v,0)):=rfl
 generalize makeS x ⟨op,qa,b,n⟩=RK at *;generalize giveS x n=RG at *;obtain⟨y,ov⟩:=RG;have hza:(qa:Int)<8:=by omega
 have HW:Aside (WdOwn w base Bw V av pv fl rs):=h;have HAV:Aside (av=.slice (some ⟨g,0,none⟩) nn c):=hav;have hM1:Moved w _ (wdFoot Bw av pv fl rs) (wdFoot Bw av pv fl rs):=Moved.of_below b1;have hn0:w.heap.size∉wdFoot Bw av pv fl rs:=fun hb=>by have:=h.blk_lt _ hb;omega
 have hjv:j<V.acts.length:=(List.getElem?_eq_some_iff.1 hx).1;simp only at hgv HRK hl8;clear h hav h1
 go_enter Tryz.func110,Tryz.ntmps110
 go_upto_region 1 with fail
 generalize w.alloc (.cells #[.int .i64 op,.int .i64 qa,.int .i64 b,.int .i64 n] 43)=W at *;have e3:W.cell? ⟨w.heap.size,3,none⟩=some (.int .i64 n):=cell_blk N0 3
 go_wp2_with fail
 refine hgv.mono ?_;rintro e w2 ⟨rfl,fl1,rs1,hW2,hM2⟩;replace N0:=(hM2.keep _ (by omega) hn0).trans N0;replace hM1:=hM1.trans hM2;have hnf:w.heap.size∉wdFoot Bw av pv fl1 rs1:=fun hb=>by rcases hM2.sub _ hb with q | q;exact hn0 q;omega
 have hwl:w.heap.size<w2.heap.size:=(Array.getElem?_eq_some_iff.1 N0).1;clear hgv hM2 e3 k1 b1 s1 hn0
 cases ov with
 | none =>
  have hRK:RK=(y,5):=by rw[HRK.out]
  subst hRK;clear N0;go_wp2
  go_ret
  exact⟨rfl,_,_,hW2.below (below_box _ _),hM1.trans (Moved.of_below (below_box _ _))⟩
 | some v =>
  obtain⟨vk,vn⟩:=v;have hRK:RK=(y.put qa ⟨vk,vn⟩,0):=by rw[HRK.out]
  subst hRK;simp only[optV]
  go_upto_region 4 with fail
  obtain⟨NV,_,bV,sV⟩:=boxes1 w2 (.cells #[.int .i64 vk,.int .i64 vn] 66);generalize w2.alloc (.cells #[.int .i64 vk,.int .i64 vn] 66)=wc at *;have hWc:=hW2.below bV;replace hM1:=hM1.trans (Moved.of_below bV);replace N0:=(bV.block _ hwl).trans N0;generalize w2.heap.size=G at *;have hx1:(V.acts.set j y)[j]?=some y:=by rw[List.getElem?_set,if_pos rfl,if_pos hjv]
  obtain⟨R,fb,rb,rc,hfb,hrb,hra,k4,kq,kf,hRl,_⟩:=hWc.regAt HAV.out hx1 hl8;obtain⟨v0,hv0⟩:=at_some (l:=y.regs) (i:=qa) (by omega);obtain⟨q1,q2⟩:=kq qa _ hv0;have f1:wc.cell? ⟨w.heap.size,1,none⟩=some (.int .i64 qa):=cell_blk N0 1;have g0:wc.cell? ⟨G,0,none⟩=some (.int .i64 vk):=cell_blk NV 0;have g1:wc.cell? ⟨G,1,none⟩=some (.int .i64 vn):=cell_blk NV 1;have hSof:∀ w2,Below wc.heap.size wc w2->(w2.cell? ⟨w.heap.size,1,none⟩=some (.int .i64 qa)/\w2.cell? ⟨g,j*8+4,none⟩=some (.slice (some ⟨R,0,none⟩) 8 rc)/\w2.cell? ⟨G,0,none⟩=some (.int .i64 vk)/\w2.cell? ⟨G,1,none⟩=some (.int .i64 vn)):=fun w2 hb'=>⟨Keeps.below hb' _ _ f1,Keeps.below hb' _ _ k4,Keeps.below hb' _ _ g0,Keeps.below hb' _ _ g1⟩
  have hBd:Below wc.heap.size wc wc.drew:=(Below.refl _ _).drew;refine wp_region_need (fun j=>j != 8) (fun w2=>w2.cell? ⟨w.heap.size,1,none⟩=some (.int .i64 qa)/\w2.cell? ⟨g,j*8+4,none⟩=some (.slice (some ⟨R,0,none⟩) 8 rc)/\w2.cell? ⟨G,0,none⟩=some (.int .i64 vk)/\w2.cell? ⟨G,1,none⟩=some (.int .i64 vn)) (by kernel_rfl) (hSof _ hBd) (fun hS=>?_);generalize wc.drew=wn at hS hBd ⊢;replace q1:=Keeps.below hBd _ _ q1
  replace q2:=Keeps.below hBd _ _ q2;have kf':∀ i,wn.frozen? ⟨R,i,none⟩=false:=fun i=>(hBd.frozen hRl).trans (kf i)
  refine tkN 0 hS ?_;refine tkN 1 hS ?_;refine tkN 2 hS ?_;refine tkN 3 hS ?_;refine tkN 4 hS ?_;refine tkN 5 hS ?_;refine tkN 6 hS ?_;refine tkN 7 hS ?_;refine stN 8 (fun K hK=>?_);go_simp;refine laN hK ?_;clear hK;have hS1:=(hWc.below hBd).setReg hfb hrb hx1 hra (q:=qa) (by omega) ⟨vk,vn⟩;have hM3:=(hM1.trans (Moved.of_below hBd)).trans hS1.2;replace hS1:=hS1.1;simp only[List.set_set] at hS1;have HZ:Aside (∃ fl' rs',WdOwn ((wn.setCell ⟨R,qa*2,none⟩ (.int .i64 vk)).setCell ⟨R,qa*2+1,none⟩ (.int .i64 vn)) base Bw { V with acts:=V.acts.set j (y.put qa ⟨vk,vn⟩) } av pv fl' rs'/\Moved w ((wn.setCell ⟨R,qa*2,none⟩ (.int .i64 vk)).setCell ⟨R,qa*2+1,none⟩ (.int .i64 vn)) (wdFoot Bw av pv fl rs) (wdFoot Bw av pv fl' rs')):=⟨_,_,hS1,hM3⟩
  clear hS1 hM3 hS hSof q1 q2 kf' kq;generalize (wn.setCell ⟨R,qa*2,none⟩ (.int .i64 vk)).setCell ⟨R,qa*2+1,none⟩ (.int .i64 vn)=wz at HZ ⊢;go_wp2
  go_ret
  exact⟨rfl,HZ.out⟩
end
section
open Go.RowKit
def finishS (a:Ac):Ac × Int:=if (a.reg 0).k≠2 then (a,8) else ({ a with regs:=keep1 a.regs },0)
theorem keep1_eq {l:List Vl} (h:l.length=8):l.take 1++List.replicate (6+1) nilV++l.drop (1+(6+1))=keep1 l:=by
 match l,h with
 | [a,b,c,d,e,f,g,i],_=>rfl
theorem finish_any (w:World) {base Bw:Nat} {V:Wd} {av pv:Value} {fl:List Fa} {rs:List (List (Value × Ob))} (h:WdOwn w base Bw V av pv fl rs) {j:Nat} {x:Ac} (hx:V.acts[j]?=some x) {g nn c:Nat} (hav:av=.slice (some ⟨g,0,none⟩) nn c) (h8:x.regs.length=8) :
  Calls Tryz.prog 107 #[.pointer (some ⟨g,j*8,none⟩)] w fun e w'=>e=.returned (.int .i64 (finishS x).2)/\WdOwn w' base Bw { V with acts:=V.acts.set j (finishS x).1 } av pv fl rs/\Moved w w' (wdFoot Bw av pv fl rs) (wdFoot Bw av pv fl rs):=by
 obtain⟨q0,v,e,hq,hv,ev⟩:=reg_of (x:=x) (a:=0) ⟨by omega,by omega⟩ h8;have hq0:q0=0:=by omega
 subst hq0;clear e;obtain⟨R,fa,r,rc,hfa,hr,hra,k4,kq,kf,hRl,hrc,hrcE⟩:=h.regAt hav hx h8;obtain⟨q1,q2⟩:=kq 0 _ hv;obtain⟨k,n⟩:=v;simp only[Nat.zero_mul,Nat.zero_add] at q1 q2;have HF:Aside (finishS x=if k≠2 then (x,8) else ({ x with regs:=keep1 x.regs },0)):=by
  show finishS x=_
  unfold finishS
  have ev':x.reg 0=⟨k,n⟩:=ev;rw[ev']
 generalize finishS x=RF at *;have HW:Aside (WdOwn w base Bw V av pv fl rs):=h;have HAV:Aside (av=.slice (some ⟨g,0,none⟩) nn c):=hav;clear h hav kq ev
 by_cases hk:k=2
 ·subst hk
  have hRF:RF=({ x with regs:=keep1 x.regs },0):=by rw[HF.out];rfl
  subst hRF;clear HF
  go_enter Tryz.func107,Tryz.ntmps107
  go_wp2_with fail
  refine(isNoObject_any _ _ _).mono ?_;rintro e w' ⟨rfl,hb⟩;have hA:=((HW.out.below hb).each j fa r x hfa hr hx).regs;have hrn:=(HW.out.each j fa r x hfa hr hx).rn;rw[hra] at hA;obtain⟨w2,hrun,hwr,hown⟩:=clear_own hA 1 6 (rc-1) (by omega) 0;have hrun':(Builtin.clear_ #[48] 0 #[.slice (some ⟨R,2,none⟩) 7 (rc-1)]).run Tryz.prog w'=.ok (.tuple #[]) w2:=hrun;rw[keep1_eq h8,<- hra] at hown;have hz:=(HW.out.below hb).inRegs hfa hr hx (w':=w2) ⟨hwr.os,hwr.tape,hwr.output,hwr.size,fun b hb=>hwr.other b (by rw[mem_vB,hra] at hb;simp[Value.ownBlock] at hb;simp;exact fun e=>hb e.symm)⟩ hown (by rw[<- keep1_eq h8];simp[h8])
  have HZ:Aside (WdOwn w2 base Bw { V with acts:=V.acts.set j { x with regs:=keep1 x.regs } } av pv fl rs/\Moved w w2 (wdFoot Bw av pv fl rs) (wdFoot Bw av pv fl rs)):=⟨hz.1,(Moved.of_below hb).trans hz.2⟩;replace k4:=Keeps.below hb _ _ k4;have hrc1:¬ rc=1:=by omega
  clear hz hown hwr hA hrun hb hrcE hrn;go_wp2
  go_ret
  exact⟨rfl,HZ.out.1,HZ.out.2⟩
 ·have hkb:(k != 2)=true:=by simp[hk]
  have hRF:RF=(x,8):=by rw[HF.out,if_pos hk]
  subst hRF;clear HF
  go_enter Tryz.func107,Tryz.ntmps107
  go_wp2_with (go_at_call 124;refine(isNoObject_any _ _ _).mono ?_;rw[hkb];rintro e w' ⟨rfl,hb⟩;have HB:Aside _:=hb;clear hb)
  go_ret
  exact⟨rfl,HW.out.same hx HB.out,Moved.of_below HB.out⟩
end
end Go.Proofs.YtepifccbbmdfcaaGreatDoor
