/- HEq. -/
import Derived.Test.YtihpkcccfgbcmaaGreatDoorCBFacts
import Derived.Test.YtihpkcccfgbcmaaGreatDoorCBWIsWorld
import Derived.Test.YtihpkcccfgbcmaaGreatDoorCETopSwapTSolo
namespace Go.Proofs.YtihpkcccfgbcmaaGreatDoor
set_option maxRecDepth 100000
set_option maxHeartbeats 8000000
section
open Go.RowKit
theorem Shp.tell {V:Wd} (h:Shp V) (tq n m:Int):Shp (tellS V tq n m):=by
 unfold tellS
 split
 ·rename_i ht
  refine h.put (fun x hx=>?_);have h5:=(takes_iff.1 ht).2;rw[at_get hx] at h5 ⊢;have h1:=giveS_regs (a:=x) (n:=2);have h2:=giveS_box (a:=x) (n:=2);have h3:=h _ x hx
  unfold toldS
  generalize giveS x 2=g at h1 h2 ⊢;obtain⟨b,o⟩:=g
  cases o with
  | none=>exact⟨h1.trans h3.1,by show b.box.length<=6;rw[h2];exact h3.2⟩
  | some v=>exact⟨h1.trans h3.1,by show(b.box++[v]).length<=6;rw[List.length_append,h2];simp;omega⟩
 ·exact h
theorem Shp.ended {V:Wd} (h:Shp V) (who:Nat) (way:Int):Shp (endS V who way):=by
 refine Shp.tell (h.put (fun x hx=>?_)) _ _ _;rw[at_get hx];exact⟨by simp[endedS,(h _ x hx).1],by simp[endedS]⟩
theorem Shp.act {V:Wd} (h:Shp V) (X:Nat->Nat->Nat->Int) (a:Ax):Shp (actS X V a):=by
 unfold actS
 split
 ·exact h
 split
 ·unfold stepS
  split
  ·exact h
  split
  ·refine h.put (fun x hx=>?_)
   rw[at_get hx];have h3:=h _ x hx
   unfold takeS
   cases hb:x.box with
   | nil=>exact⟨h3.1,by rw[hb];simp⟩
   | cons v r =>
    rw[hb] at h3;exact⟨(put_regs _ _ _).trans h3.1,by have:=h3.2;simp at this;show r.length<=6;omega⟩
  ·have hs:Shp (V.put a.who.toNat { (V.at a.who.toNat) with pc:=nextS (V.at a.who.toNat) (insAt X (V.at a.who.toNat).kind (V.at a.who.toNat).pc) }):=h.put (fun x hx=>by rw[at_get hx];exact h _ x hx)
   unfold doneS
   split
   ·exact(hs.perform).1.ended _ _
   ·exact(hs.perform).1
 split
 ·refine h.put (fun x hx=>?_)
  rw[at_get hx];exact⟨clearS_regs.trans (h _ x hx).1,by rw[clearS_box];exact(h _ x hx).2⟩
 ·exact h.tell _ _ _
theorem WdRows.at_block {w w':World} {base:Nat} {V:Wd} {av pv:Value} {fl:List Fa} {rs:List (List (Value × Ob))} (h:WdRows w base V av pv fl rs) (ha:∀ b,base<=b->w'.heap[b]?=w.heap[b]?):WdRows w' base V av pv fl rs where
 acts:=ownsRow_at_block h.acts (fun b hb=>ha b (World.ownsRow.lt h.acts b (mem_vB.1 hb)).1)
 prints:=ownsRow_at_block h.prints (fun b hb=>ha b (World.ownsRow.lt h.prints b (mem_vB.1 hb)).1)
 flen:=h.flen
 rlen:=h.rlen
 each j fa r x h1 h2 h3:=(h.each j fa r x h1 h2 h3).at_block (fun b hb=>ha b ((h.each j fa r x h1 h2 h3).ge b hb).1)
 apart0:=h.apart0
 apart1:=h.apart1
 apart2:=h.apart2
theorem WdRows.foot {w:World} {base Bw:Nat} {V:Wd} {av pv:Value} {fl:List Fa} {rs:List (List (Value × Ob))} (h:WdRows w base V av pv fl rs):∀ b∈wdFoot Bw av pv fl rs,b=Bw\/base<=b:=fun b hb=>by
 simp only[wdFoot,List.mem_append,List.mem_cons] at hb
 rcases hb with(rfl | hb | hb) | hb
 ·exact .inl rfl
 ·exact .inr (World.ownsRow.lt h.acts b (mem_vB.1 hb)).1
 ·exact .inr (World.ownsRow.lt h.prints b (mem_vB.1 hb)).1
 ·obtain⟨⟨fa,r⟩,hp,hb⟩:=List.mem_flatMap.1 hb
  obtain⟨j,hj⟩:=List.mem_iff_getElem?.1 hp;obtain⟨h1,h2⟩:=List.getElem?_zip_eq_some.1 hj;obtain⟨x,hx⟩:=at_some (l:=V.acts) (i:=j) (by rw[<- h.flen];exact(List.getElem?_eq_some_iff.1 h1).1);exact .inr ((h.each j fa r x h1 h2 hx).ge b hb).1
theorem wck_of {G:Nat} {L:Nat->Nat} {X:Nat->Nat->Nat->Int} {V:Wd} (h:wckS G L X V=0):(ckS G L X).2.2=0/\wdMay G L V=true:=by
 unfold wckS at h
 split at h
 ·omega
 ·rename_i hc
  split at h
  ·rename_i hm;exact⟨by omega,hm⟩
  ·omega
def doWS (G:Nat) (L:Nat->Nat) (X:Nat->Nat->Nat->Int) (V:Wd) (a:Ax):Wd × Int :=
 if wckS G L X V≠0 then (⟨[],[]⟩,wckS G L X V) else if axFault a≠0 then (⟨[],[]⟩,axFault a) else (actS X V a,0)
theorem do_any (ao:Option Addr) (G cap:Nat) (A:Nat->Option Addr) (L C:Nat->Nat) (X:Nat->Nat->Nat->Int) (aa pa:Option Addr) (ac pc:Nat) (V:Wd) (k n x y:Int) (w:World) (hT:TabAt 0 w) (hP:ProgAt w ao G A L C X) (ha:ActsAt w aa V.acts) (hp:ToldAt w pa V.prints) :
  Calls Tryz.prog 12 #[.agg #[.slice ao G cap],.agg #[.slice aa V.acts.length ac,.slice pa V.prints.length pc],.agg #[.int .i64 k,.int .i64 n,.int .i64 x,.int .i64 y]] w fun e w'=>WAns w w' (doWS G L X V ⟨k,n,x,y⟩) e:=by
 obtain⟨N0,N1,N2,N3,k1,b1,s1⟩:=boxes4 w (.cells #[.slice ao G cap] 24) (.cells #[.slice aa V.acts.length ac,.slice pa V.prints.length pc] 28) (.cells #[.int .i64 k,.int .i64 n,.int .i64 x,.int .i64 y] 30) (.cells #[.slice none 0 0,.slice none 0 0] 28);have HP:Aside (∀ w',Keeps w w'->ProgAt w' ao G A L C X/\TabAt 0 w'/\ActsAt w' aa V.acts/\ToldAt w' pa V.prints):=fun w' kk=>⟨hP.keeps kk,hT.keeps kk,ha.keeps kk,hp.keeps kk⟩
 clear hT hP ha hp;obtain⟨DR,hDR⟩:∃ DR,DR=doWS G L X V ⟨k,n,x,y⟩:=⟨_,rfl⟩;have HDR:Aside (DR=doWS G L X V ⟨k,n,x,y⟩):=hDR;rw[<- hDR];clear hDR
 go_enter Tryz.func12,Tryz.ntmps12
 go_upto_region 1 with fail
 generalize (((w.alloc (.cells #[.slice ao G cap] 24)).alloc (.cells #[.slice aa V.acts.length ac,.slice pa V.prints.length pc] 28)).alloc (.cells #[.int .i64 k,.int .i64 n,.int .i64 x,.int .i64 y] 30)).alloc (.cells #[.slice none 0 0,.slice none 0 0] 28)=W at *;have p0:W.cell? ⟨w.heap.size,0,none⟩=some (.slice ao G cap):=cell_blk N0 0;have q0:W.cell? ⟨w.heap.size+1,0,none⟩=some (.slice aa V.acts.length ac):=cell_blk N1 0
 have q1:W.cell? ⟨w.heap.size+1,1,none⟩=some (.slice pa V.prints.length pc):=cell_blk N1 1;have hK1:=HP.out W k1
 go_wp2_with fail
 refine(acheck_any ao G cap A L C X aa pa ac pc V W hK1.2.1 hK1.1 hK1.2.2.1 hK1.2.2.2).mono ?_;rintro e w1 ⟨rfl,hb1⟩;have hWs:W.heap.size=w.heap.size+4:=s1;have M3:=(hb1.block _ (by omega)).trans N3;have M2:=(hb1.block _ (by omega)).trans N2;have M1:=(hb1.block _ (by omega)).trans N1;have M0:=(hb1.block _ (by omega)).trans N0;have B1:=b1.trans (hb1.mono b1.size);have HP1:=HP.out w1 (k1.trans (Keeps.below hb1))
 have r0:w1.cell? ⟨w.heap.size+1+1+1,0,none⟩=some (.slice none 0 0):=cell_blk M3 0;have r1:w1.cell? ⟨w.heap.size+1+1+1,1,none⟩=some (.slice none 0 0):=cell_blk M3 1;have rf:∀ i,w1.frozen? ⟨w.heap.size+1+1+1,i,none⟩=false:=fun i=>fz_blk M3 i
 by_cases hck:wckS G L X V=0
 rotate_left
 ·have q0:(wckS G L X V != 0)=true:=by simp[hck]
  have HR:Aside (DR=(⟨[],[]⟩,wckS G L X V)):=by show DR=_;rw[HDR.out];unfold doWS;rw[if_pos hck]
  have NZ:=two_blk M3 0 1 (.slice none 0 0) (.slice none 0 0);have hBz:=two_below B1 (show w.heap.size<=w.heap.size+1+1+1 by omega) 0 1 (.slice none 0 0) (.slice none 0 0);clear HDR;generalize wckS G L X V=EN at *;clear HP1 HP;go_wp2
  have y0:=cell_blk NZ 0;have y1:=cell_blk NZ 1;simp at y0 y1;exact bodyPost_ret (v:=.tuple #[.agg #[.slice none 0 0,.slice none 0 0],.int .i64 EN]) (by simp[results,Tryz.results12,go_sem,y0,y1]) rfl (by rw[HR.out];exact⟨none,0,none,0,rfl,hBz,ActsAt.nil _ _,ToldAt.nil _ _,Nat.zero_le _⟩)
 have HR:Aside (DR=if axFault ⟨k,n,x,y⟩≠0 then (⟨[],[]⟩,axFault ⟨k,n,x,y⟩) else (actS X V ⟨k,n,x,y⟩,0)):=by show DR=_;rw[HDR.out];unfold doWS;rw[if_neg (by simp[hck])]
 have HCK:Aside (wckS G L X V=0):=hck;clear HDR;simp only[hck];clear hck;have a0:w1.cell? ⟨w.heap.size+1+1,0,none⟩=some (.int .i64 k):=cell_blk M2 0;have a1:w1.cell? ⟨w.heap.size+1+1,1,none⟩=some (.int .i64 n):=cell_blk M2 1;have a2:w1.cell? ⟨w.heap.size+1+1,2,none⟩=some (.int .i64 x):=cell_blk M2 2;have a3:w1.cell? ⟨w.heap.size+1+1,3,none⟩=some (.int .i64 y):=cell_blk M2 3
 go_wp2_with fail
 refine(checkAct_any ⟨k,n,x,y⟩ w1).mono ?_;rintro e w2 ⟨rfl,hb2⟩;have B2:=B1.trans (hb2.mono B1.size);have K2:=(k1.trans (Keeps.below hb1)).trans (Keeps.below hb2);have sz1:=hb1.size;replace M3:=(hb2.block _ (by omega)).trans M3;replace M2:=(hb2.block _ (by omega)).trans M2;replace M1:=(hb2.block _ (by omega)).trans M1;replace M0:=(hb2.block _ (by omega)).trans M0;clear r0 r1 rf a0 a1 a2 a3 HP1;generalize hAF:axFault ⟨k,n,x,y⟩=AF at *
 by_cases hAF0:AF=0
 rotate_left
 ·have qf:(AF != 0)=true:=by simp[hAF0]
  have HRR:Aside (DR=(⟨[],[]⟩,AF)):=by show DR=_;rw[HR.out,if_pos hAF0]
  have NZ:=two_blk M3 0 1 (.slice none 0 0) (.slice none 0 0);have hBz:=two_below B2 (show w.heap.size<=w.heap.size+1+1+1 by omega) 0 1 (.slice none 0 0) (.slice none 0 0);have r0:w2.cell? ⟨w.heap.size+1+1+1,0,none⟩=some (.slice none 0 0):=cell_blk M3 0;have r1:w2.cell? ⟨w.heap.size+1+1+1,1,none⟩=some (.slice none 0 0):=cell_blk M3 1;have rf:∀ i,w2.frozen? ⟨w.heap.size+1+1+1,i,none⟩=false:=fun i=>fz_blk M3 i
  clear HR HP hAF;go_wp2
  have y0:=cell_blk NZ 0;have y1:=cell_blk NZ 1;simp at y0 y1;exact bodyPost_ret (v:=.tuple #[.agg #[.slice none 0 0,.slice none 0 0],.int .i64 AF]) (by simp[results,Tryz.results12,go_sem,y0,y1]) rfl (by rw[HRR.out];exact⟨none,0,none,0,rfl,hBz,ActsAt.nil _ _,ToldAt.nil _ _,Nat.zero_le _⟩)
 subst hAF0;have HRR:Aside (DR=(actS X V ⟨k,n,x,y⟩,0)):=by show DR=_;rw[HR.out,if_neg (by simp)]
 clear HR;have HP2:=HP.out w2 K2;have v0:w2.cell? ⟨w.heap.size+1,0,none⟩=some (.slice aa V.acts.length ac):=cell_blk M1 0;have v1:w2.cell? ⟨w.heap.size+1,1,none⟩=some (.slice pa V.prints.length pc):=cell_blk M1 1;have vf:∀ i,w2.frozen? ⟨w.heap.size+1,i,none⟩=false:=fun i=>fz_blk M1 i
 have sw2:w.heap.size+1+1+1<w2.heap.size:=(Array.getElem?_eq_some_iff.1 M3).1
 go_wp2_with fail
 refine(wcopy_own aa pa ac pc V w2 HP2.2.2.1 HP2.2.2.2).mono ?_;rintro e w3 ⟨ga,gp,fl,rs,rfl,hb3,hWR⟩;have B3:=B2.trans (hb3.mono B2.size);have K3:=K2.trans (Keeps.below hb3);have sz2:=hb3.size;replace M3:=(hb3.block _ (by omega)).trans M3;replace M2:=(hb3.block _ (by omega)).trans M2;replace M1:=(hb3.block _ (by omega)).trans M1;replace M0:=(hb3.block _ (by omega)).trans M0;clear v0 v1 vf HP2;have v0:w3.cell? ⟨w.heap.size+1,0,none⟩=some (.slice aa V.acts.length ac):=cell_blk M1 0
 have v1:w3.cell? ⟨w.heap.size+1,1,none⟩=some (.slice pa V.prints.length pc):=cell_blk M1 1;have vf:∀ i,w3.frozen? ⟨w.heap.size+1,i,none⟩=false:=fun i=>fz_blk M1 i
 have T1:=two_blk M1 0 1 (.slice (some ⟨ga,0,none⟩) V.acts.length V.acts.length) (.slice (some ⟨gp,0,none⟩) V.prints.length V.prints.length);have hB4:=two_below B3 (show w.heap.size<=w.heap.size+1 by omega) 0 1 (.slice (some ⟨ga,0,none⟩) V.acts.length V.acts.length) (.slice (some ⟨gp,0,none⟩) V.prints.length V.prints.length);have o1:∀ b,b≠w.heap.size+1->((w3.setCell ⟨w.heap.size+1,0,none⟩ (.slice (some ⟨ga,0,none⟩) V.acts.length V.acts.length)).setCell ⟨w.heap.size+1,1,none⟩ (.slice (some ⟨gp,0,none⟩) V.prints.length V.prints.length)).heap[b]?=w3.heap[b]?:=fun b hb=>two_other 0 1 _ _ hb
 have sz4:=two_size w3 (w.heap.size+1) 0 1 (.slice (some ⟨ga,0,none⟩) V.acts.length V.acts.length) (.slice (some ⟨gp,0,none⟩) V.prints.length V.prints.length)
 go_upto_region 8 with fail
 have hWR4:=hWR.at_block (fun b hb=>o1 b (by omega));have hW4:=hWR4.own T1 (by omega) (show w.heap.size<=w2.heap.size by omega);have hF4:=hWR4.foot (Bw:=w.heap.size+1);clear hWR4;replace M3:=(o1 _ (by omega)).trans M3;replace M2:=(o1 _ (by omega)).trans M2;replace M0:=(o1 _ (by omega)).trans M0;generalize (w3.setCell ⟨w.heap.size+1,0,none⟩ (.slice (some ⟨ga,0,none⟩) V.acts.length V.acts.length)).setCell ⟨w.heap.size+1,1,none⟩ (.slice (some ⟨gp,0,none⟩) V.prints.length V.prints.length)=w4 at *
 clear v0 v1 vf o1 hWR hb3;obtain⟨hc0,hmay⟩:=wck_of HCK.out;obtain⟨hpf,hver⟩:=ver_of hc0;obtain⟨hG,hLb,_⟩:=progV_ok hpf;have HP4:=HP.out w4 (Keeps.below hB4);have hact:=act_any ao G cap A L C X k n x y w4 hW4 HP4.1 (wfit_of hmay) (fun k j hk hj=>insOk_at hver hk hj) (fun k hk=>by have:=(hLb k hk).2;omega) hAF;have hsh:=(wfit_of hmay).shp.act X ⟨k,n,x,y⟩;have hrest:=act_rest X V ⟨k,n,x,y⟩;have hfit:=wfit_of hmay
 have hl1:(actS X V ⟨k,n,x,y⟩).acts.length<=1000:=by have:=hfit.acts;omega
 have hl2:(actS X V ⟨k,n,x,y⟩).prints.length<=1000:=by have:=hfit.prints;omega
 have hbf:=fun b hb=>show w.heap.size<=b by have:=hF4 b hb;omega
 generalize actS X V ⟨k,n,x,y⟩=V2 at *;have p0:w4.cell? ⟨w.heap.size,0,none⟩=some (.slice ao G cap):=cell_blk M0 0;have a0:w4.cell? ⟨w.heap.size+1+1,0,none⟩=some (.int .i64 k):=cell_blk M2 0;have a1:w4.cell? ⟨w.heap.size+1+1,1,none⟩=some (.int .i64 n):=cell_blk M2 1;have a2:w4.cell? ⟨w.heap.size+1+1,2,none⟩=some (.int .i64 x):=cell_blk M2 2;have a3:w4.cell? ⟨w.heap.size+1+1,3,none⟩=some (.int .i64 y):=cell_blk M2 3
 clear hfit hrest hver hpf hLb hG HP4 HP hmay hc0
 go_wp2_with fail
 refine hact.mono ?_;rintro e w5 ⟨rfl,av4,pv4,fl4,rs4,hW5,hM5⟩;have hB5:=hB4.trans (hM5.below hB4.size hbf);have hsz4:w.heap.size+1+1+1<w4.heap.size:=(Array.getElem?_eq_some_iff.1 M3).1;have hn4:w.heap.size+1+1+1∉wdFoot (w.heap.size+1) (.slice (some ⟨ga,0,none⟩) V.acts.length V.acts.length) (.slice (some ⟨gp,0,none⟩) V.prints.length V.prints.length) fl rs:=fun hb=>by have:=hF4 _ hb;omega
 have hnf:w.heap.size+1+1+1∉wdFoot (w.heap.size+1) av4 pv4 fl4 rs4:=fun hb=>by
  rcases hM5.sub _ hb with h1 | h1
  ·exact hn4 h1
  ·omega
 have M5:=(hM5.keep _ hsz4 hn4).trans M3;clear hact hbf hF4 hn4 p0 a0 a1 a2 a3 M0 M2 M3 hM5 hW4 T1 sz4;obtain⟨xa,xc,ya,yc,ea,ep,hva,hvp,hcap⟩:=hW5.views2 hsh hl1 hl2;have cw0:=hW5.bw.1;have cw1:=hW5.bw.2.1;rw[ea] at cw0;rw[ep] at cw1;have NZ:=two_blk M5 0 1 (.slice xa V2.acts.length xc) (.slice ya V2.prints.length yc);have hBz:=two_below hB5 (show w.heap.size<=w.heap.size+1+1+1 by omega) 0 1 (.slice xa V2.acts.length xc) (.slice ya V2.prints.length yc)
 have rf:∀ i,w5.frozen? ⟨w.heap.size+1+1+1,i,none⟩=false:=fun i=>fz_blk M5 i
 have r0:w5.cell? ⟨w.heap.size+1+1+1,0,none⟩=some (.slice none 0 0):=cell_blk M5 0;have r1:w5.cell? ⟨w.heap.size+1+1+1,1,none⟩=some (.slice none 0 0):=cell_blk M5 1;have HVZ:Aside (WAns w ((w5.setCell ⟨w.heap.size+1+1+1,0,none⟩ (.slice xa V2.acts.length xc)).setCell ⟨w.heap.size+1+1+1,1,none⟩ (.slice ya V2.prints.length yc)) DR (.returned (.tuple #[.agg #[.slice xa V2.acts.length xc,.slice ya V2.prints.length yc],.int .i64 0]))):=by
  show WAns _ _ DR _
  rw[HRR.out];obtain⟨aa',ac',pa',pc',ea',ep',hva',hvp',_⟩:=((hW5.setOut hnf 0 (.slice xa V2.acts.length xc)).setOut hnf 1 (.slice ya V2.prints.length yc)).views2 hsh hl1 hl2;rw[ea] at ea';rw[ep] at ep';simp only[Value.slice.injEq] at ea' ep';obtain⟨rfl,_,rfl⟩:=ea';obtain⟨rfl,_,rfl⟩:=ep';exact⟨_,_,_,_,rfl,hBz,hva',hvp',hcap⟩
 clear hva hvp hcap HRR hnf hW5;go_wp2
 have y0:=cell_blk NZ 0;have y1:=cell_blk NZ 1;simp at y0 y1;exact bodyPost_ret (v:=.tuple #[.agg #[.slice xa V2.acts.length xc,.slice ya V2.prints.length yc],.int .i64 0]) (by simp[results,Tryz.results12,go_sem,y0,y1]) rfl HVZ.out
end
section
open Go.RowKit
section
variable {w w':World} {R:Nat}
end
def pX (l:List Rw):Nat->Nat->Nat->Int:=xOf (programS l 14)
def pL (l:List Rw):Nat->Nat:=lenOf (programS l 14)
def pF (l:List Rw) (r:Nat):List Pt:=flowS (xOf (programS l 14) r) (lenOf (programS l 14) r)
theorem play_ver (l:List Rw):Ver 3 (pL l) (pX l) (pF l):=(ver_of (by show(ckS 3 (lenOf (programS l 14)) (xOf (programS l 14))).2.2=0;exact congrArg (fun q=>q.2.2) (program_ok l 14))).2
theorem ok_wck {l:List Rw} {V:Wd} (h:WOk 3 (pL l) (pF l) V):wckS 3 (pL l) (pX l) V=0:=by
 unfold wckS
 rw[show ckS 3 (pL l) (pX l)=(0,0,0) from program_ok l 14,if_neg (by simp),h.may]
 rfl
theorem ok_do {l:List Rw} {V:Wd} (h:WOk 3 (pL l) (pF l) V) {a:Ax} (ha:axFault a=0):doWS 3 (pL l) (pX l) V a=(actS (pX l) V a,0):=by
 unfold doWS
 rw[if_neg (by simp[ok_wck h]),if_neg (by simp[ha])]
end
section
open Go.RowKit
theorem index_any (oa:Option Addr) (oc:Nat) (l:List Int) (z:Int) (w:World) (h:IntsAt w oa l) (hl:l.length<=1000000) :
  Calls Tryz.prog 84 #[.slice oa l.length oc,.int .i64 z] w fun e w'=>w=w'/\∃ r:Int,e=.returned (.int .i64 r)/\decide (0<=r)=decide (z∈l):=by
 obtain⟨L,hL⟩:∃ L,L=l.length:=⟨_,rfl⟩;have HL:Aside (L=l.length):=hL;rw[<- hL] at hl ⊢;clear hL;obtain⟨q,hq⟩:∃ q,q=decide (z∈l):=⟨_,rfl⟩;have HQ:Aside (q=decide (z∈l)):=hq;rw[<- hq];clear hq
 go_enter Tryz.func84,Tryz.ntmps84
 go_wp2
 go_loopg [4,5,8,9,10,11,12,13,14,15,16,17] L (fun g s4 s5 s8 s9 s10 s11 s12 s13 s14 s15 s16 s17 wr=>∃ i:Nat,i<=L/\g=L-i/\s8=.int .i64 i/\w=wr/\Aside (z∈l↔z∈l.drop i))
 case atStart=>exact⟨0,Nat.zero_le _,rfl,rfl,rfl,Iff.rfl⟩
 case round =>
  obtain⟨i,hi,rfl,rfl,rfl,hA⟩:=hrel
  by_cases hiL:i<L
  ·have hiz:(i:Int)<(L:Int):=by omega
   obtain⟨y,hy⟩:=at_some (l:=l) (i:=i) (by rw[<- HL.out];exact hiL);have HS:Aside (z∈l.drop i↔z=y\/z∈l.drop (i+1)):=by
    obtain⟨hlt,rfl⟩:=List.getElem?_eq_some_iff.1 hy
    show z∈l.drop i↔_
    rw[List.drop_eq_getElem_cons hlt,List.mem_cons]
   obtain⟨b,o,rfl,c1⟩:=h i _ hy;clear hy
   by_cases he:z=y
   ·subst he
    have HY:Aside (z∈l):=hA.out.2 (HS.out.2 (Or.inl rfl));clear hA HS;go_wp2
    go_ret
    refine⟨rfl,_,rfl,?_⟩;rw[HQ.out];have:=HY.out;simp[this]
   ·have heb:(z == y)=false:=by simp[he]
    have HN:Aside (z∈l↔z∈l.drop (i+1)):=by
     show z∈l↔_
     rw[hA.out,HS.out];exact⟨fun h=>h.resolve_left (fun e=>he e),Or.inr⟩
    clear hA HS he;go_wp2
    go_roundg (L-(i+1))
    case measure=>go_light;omega
    case rel=>go_light;exact⟨i+1,by omega,rfl,by go_num,rfl,HN⟩
  ·have HN:Aside (z∉l):=by
    show z∉l
    rw[hA.out,List.drop_eq_nil_of_le (by rw[<- HL.out];omega)];simp
   go_wp2
   go_ret
   refine⟨rfl,_,rfl,?_⟩;rw[HQ.out];have:=HN.out;simp[this]
theorem contains_any (oa:Option Addr) (oc:Nat) (l:List Int) (z:Int) (w:World) (h:IntsAt w oa l) (hl:l.length<=1000000) :
  Calls Tryz.prog 51 #[.slice oa l.length oc,.int .i64 z] w fun e w'=>e=.returned (.bool (decide (z∈l)))/\w=w':=by
 obtain⟨q,hq⟩:∃ q,q=decide (z∈l):=⟨_,rfl⟩;have hi:=index_any oa oc l z w h hl;rw[<- hq] at hi ⊢;clear hq
 go_enter Tryz.func51,Tryz.ntmps51
 go_wp2_with (go_at_call 84;refine hi.mono ?_;rintro e w' ⟨rfl,r,rfl,hr⟩)
 go_ret
 exact⟨rfl,rfl⟩
end
section
open Go.RowKit
def aloneB (X:Nat->Nat->Nat->Int) (V:Wd) (n:Nat):Bool :=
 if V.acts.length<=n\/(V.at n).fin≠0 then true
 else if 0<=(V.at n).pc/\(insAt X (V.at n).kind (V.at n).pc).op∈[(13:Int),14,15,17,19] then false
 else decide (((actS X V ⟨1,n,0,0⟩).at n).fin=0)
theorem at_mem' {w:Wd} {i:Nat} (h:i<w.acts.length):w.acts[i]?=some (w.at i):=by
 unfold Wd.at
 rw[Int.toNat_natCast,List.getElem?_eq_getElem h]
 rfl
theorem ints5 {w:World} {g:Nat} {t:TypeId} {a b c d e:Int} (h:w.heap[g]?=some (.cells #[.int .i64 a,.int .i64 b,.int .i64 c,.int .i64 d,.int .i64 e] t (0,0))):IntsAt w (some ⟨g,0,none⟩) [a,b,c,d,e]:=fun i z hi=>by
 refine⟨g,0,rfl,?_⟩;rw[Nat.zero_add,cellBlk h]
 match i,hi with
 | 0,hi=>simpa using hi
 | 1,hi=>simpa using hi
 | 2,hi=>simpa using hi
 | 3,hi=>simpa using hi
 | 4,hi=>simpa using hi
 | i+5,hi=>simp at hi
theorem alone_any (ao:Option Addr) (G cap:Nat) (A:Nat->Option Addr) (L C:Nat->Nat) (X:Nat->Nat->Nat->Int) (aa pa:Option Addr) (ac pc:Nat) (V:Wd) (n:Nat) (w:World) (hT:TabAt 0 w) (hP:ProgAt w ao G A L C X) (ha:ActsAt w aa V.acts) (hp:ToldAt w pa V.prints)
  (hL:∀ k,k<G->L k<=1000000) (hw:n<V.acts.length->(0<=(V.at n).kind/\(V.at n).kind<(G:Int))/\-1<=(V.at n).pc/\(V.at n).pc<(L (V.at n).kind.toNat:Int)) (hD:doWS G L X V ⟨1,n,0,0⟩=(actS X V ⟨1,n,0,0⟩,0)) :
  Calls Tryz.prog 26 #[.agg #[.slice ao G cap],.agg #[.slice aa V.acts.length ac,.slice pa V.prints.length pc],.int .i64 n] w fun e w'=>e=.returned (.bool (aloneB X V n))/\Below w.heap.size w w':=by
 obtain⟨N0,N1,k1,b1,s1⟩:=boxes2 w (.cells #[.slice ao G cap] 24) (.cells #[.slice aa V.acts.length ac,.slice pa V.prints.length pc] 28);have hdo:=fun w' (hk:Keeps w w')=>do_any ao G cap A L C X aa pa ac pc V 1 n 0 0 w' (hT.keeps hk) (hP.keeps hk) (ha.keeps hk) (hp.keeps hk)
 simp only[hD] at hdo;have HB:Aside (aloneB X V n=if V.acts.length<=n\/(V.at n).fin≠0 then true else if 0<=(V.at n).pc/\(insAt X (V.at n).kind (V.at n).pc).op∈[(13:Int),14,15,17,19] then false else decide (((actS X V ⟨1,n,0,0⟩).at n).fin=0)):=rfl;have HR:Aside (V.acts.length<=(actS X V ⟨1,n,0,0⟩).acts.length):=(act_rest X V ⟨1,n,0,0⟩).2.1;generalize actS X V ⟨1,n,0,0⟩=V2 at *;generalize aloneB X V n=RB at *
 have hlm:=ha.many
 by_cases hln:V.acts.length<=n
 ·have hRB:RB=true:=by rw[HB.out,if_pos (.inl hln)]
  subst hRB;have hz:(V.acts.length:Int)<=(n:Int):=by omega
  clear hdo HB HR ha hp hP hw;generalize V.acts.length=LA at *;generalize V.prints.length=LP at *
  go_enter Tryz.func26,Tryz.ntmps26
  go_upto_region 1 with fail
  generalize (w.alloc (.cells #[.slice ao G cap] 24)).alloc (.cells #[.slice aa LA ac,.slice pa LP pc] 28)=W at *;have q0:W.cell? ⟨w.heap.size+1,0,none⟩=some (.slice aa LA ac):=cell_blk N1 0;go_wp2
  go_ret
  exact⟨rfl,b1⟩
 have hnl:n<V.acts.length:=by omega
 have hz:¬ (V.acts.length:Int)<=(n:Int):=by omega
 have hzi:(n:Int)<(V.acts.length:Int):=by omega
 have hx:=at_mem' hnl;obtain⟨hk,hpc1,hpc2⟩:=hw hnl;obtain⟨b,o,oa,oc,ra,rc,ba,bc,rfl,A1⟩:=(ha.keeps k1).cell n _ hx;generalize hxe:V.at (n:Int)=x at *;obtain⟨xk,xp,xM,xo,xr,xpc,xb,xf⟩:=x;obtain⟨x0,x1,x2,x3,x4,x5,x6,x7,_,_,_,_,_⟩:=A1;simp only at x0 x1 x2 x3 x4 x5 x6 x7 hk hpc1 hpc2;have HB2:Aside (RB=if xf≠0 then true else if 0<=xpc/\(insAt X xk xpc).op∈[(13:Int),14,15,17,19] then false else decide ((V2.at n).fin=0)):=by
  show RB=_
  rw[HB.out]
  by_cases hf:xf≠0
  ·rw[if_pos (.inr hf),if_pos hf]
  ·rw[if_neg (by rintro(h | h);exact hln h;exact hf h),if_neg hf]
 clear HB hw hxe;have HV:Aside (∀ w',Keeps w w'->ActsAt w' (some ⟨b,o,none⟩) V.acts):=fun w' q=>ha.keeps q
 by_cases hf:xf≠0
 ·have hRB:RB=true:=by rw[HB2.out,if_pos hf]
  subst hRB;have f0:(xf != 0)=true:=by simp[hf]
  clear hdo HB2 HR hp hP HV ha hk hx;generalize V.acts.length=LA at *;generalize V.prints.length=LP at *
  go_enter Tryz.func26,Tryz.ntmps26
  go_upto_region 1 with fail
  generalize (w.alloc (.cells #[.slice ao G cap] 24)).alloc (.cells #[.slice (some ⟨b,o,none⟩) LA ac,.slice pa LP pc] 28)=W at *;have q0:W.cell? ⟨w.heap.size+1,0,none⟩=some (.slice (some ⟨b,o,none⟩) LA ac):=cell_blk N1 0;go_wp2
  go_ret
  exact⟨rfl,b1⟩
 have hf0:xf=0:=by simpa using hf
 subst hf0;clear hf;obtain⟨kk,hkk⟩:=Int.eq_ofNat_of_zero_le hk.1;have hkG:kk<G:=by omega
 have hL1:=hL kk hkG;rw[hkk,Int.toNat_natCast] at hpc2;obtain⟨bb,hbb⟩:∃ bb,bb=decide (0<=xpc/\(insAt X xk xpc).op∈[(13:Int),14,15,17,19]):=⟨_,rfl⟩;have HB3:Aside (RB=if bb=true then false else decide ((V2.at n).fin=0)):=by
  show RB=_
  rw[HB2.out,if_neg (by simp),hbb]
  by_cases hc:0<=xpc/\(insAt X xk xpc).op∈[(13:Int),14,15,17,19]
  ·rw[if_pos hc,if_pos (by simp[hc])]
  ·rw[if_neg hc,if_neg (by rw[decide_eq_true_eq];exact hc)]
 have HBB:Aside (bb=decide (0<=xpc/\(insAt X kk xpc).op∈[(13:Int),14,15,17,19])):=by show bb=_;rw[hbb,hkk]
 have HP:Aside (∀ w',Keeps w w'->ProgAt w' ao G A L C X):=fun w' q=>hP.keeps q
 have HLA:Aside (n<V.acts.length):=hnl;clear HB2 hbb hx hP ha hp hT hln hk;rw[hkk] at x0;have hkz:(kk:Int)<(G:Int):=by omega
 obtain⟨LA,hLA⟩:∃ LA,LA=V.acts.length:=⟨_,rfl⟩;have HLE:Aside (LA=V.acts.length):=hLA;rw[<- hLA] at hlm hnl hz hzi hdo N0 N1 k1 b1 s1 x0 x1 x2 x3 x4 x5 x6 x7 ⊢;clear hLA;generalize V.prints.length=LP at *
 go_enter Tryz.func26,Tryz.ntmps26
 go_upto_region 1 with fail
 generalize (w.alloc (.cells #[.slice ao G cap] 24)).alloc (.cells #[.slice (some ⟨b,o,none⟩) LA ac,.slice pa LP pc] 28)=W at *;have hsW:w.heap.size+1<W.heap.size:=by omega
 clear s1;have p0:W.cell? ⟨w.heap.size,0,none⟩=some (.slice ao G cap):=cell_blk N0 0;have q0:W.cell? ⟨w.heap.size+1,0,none⟩=some (.slice (some ⟨b,o,none⟩) LA ac):=cell_blk N1 0;have q1:W.cell? ⟨w.heap.size+1,1,none⟩=some (.slice pa LP pc):=cell_blk N1 1;obtain⟨N2,k2,b2,s2⟩:=boxes1 W (.cells #[.int .i64 kk,.int .i64 xp,.int .i64 xM,.slice oa xo.length oc,.slice ra xr.length rc,.int .i64 xpc,.slice ba xb.length bc,.int .i64 0] 56)
 go_upto_region 4 with fail
 clear x0 x1 x2 x3 x4 x5 x6 x7;generalize W.alloc (.cells #[.int .i64 kk,.int .i64 xp,.int .i64 xM,.slice oa xo.length oc,.slice ra xr.length rc,.int .i64 xpc,.slice ba xb.length bc,.int .i64 0] 56)=W2 at *;have c0:W2.cell? ⟨W.heap.size,0,none⟩=some (.int .i64 kk):=cell_blk N2 0;have c5:W2.cell? ⟨W.heap.size,5,none⟩=some (.int .i64 xpc):=cell_blk N2 5;replace p0:=Keeps.below b2 _ _ p0;replace q0:=Keeps.below b2 _ _ q0
 replace q1:=Keeps.below b2 _ _ q1;have b12:=b1.trans (b2.mono b1.size);have hK2:Keeps w W2:=k1.trans k2;have hP2:=HP.out W2 hK2
 go_cut [46] (fun s46 wc=>s46=.bool bb/\Below W2.heap.size W2 wc)
 case first =>
  have hB:Below W2.heap.size W2 W2.drew:=(Below.refl _ _).drew
  by_cases hp0:0<=xpc
  ·obtain⟨jj,hjj⟩:=Int.eq_ofNat_of_zero_le hp0
   have hjL:jj<L kk:=by omega
   obtain⟨ob,oo,hao,hcell⟩:=hP2.outer kk hkG;obtain⟨rb,ro,hrA,hrow⟩:=hP2.rows kk hkG jj hjL;have y0:=hrow 0 (by omega);simp only[Nat.add_zero] at y0;have hbe:bb=decide (X kk jj 0∈[(13:Int),14,15,17,19]):=by
    rw[HBB.out,hjj];have e:(insAt X kk jj).op=X kk jj 0:=rfl;rw[e];simp
   subst hjj;rw[hrA] at hcell;subst hao;generalize X kk jj 0=iop at *;generalize C kk=CK at *;generalize L kk=LK at *;have hjz:(jj:Int)<(LK:Int):=by omega
   have hjz0:(jj:Int) ≥ 0:=by omega
   have hSof:∀ w',Below W2.heap.size W2 w'->(w'.cell? ⟨w.heap.size,0,none⟩=some (.slice (some ⟨ob,oo,none⟩) G cap)/\w'.cell? ⟨W.heap.size,0,none⟩=some (.int .i64 kk)/\w'.cell? ⟨W.heap.size,5,none⟩=some (.int .i64 jj)/\w'.cell? ⟨ob,oo+kk,none⟩=some (.slice (some ⟨rb,ro,none⟩) LK CK)/\w'.cell? ⟨rb,ro+jj*4,none⟩=some (.int .i64 iop)):=fun w' hb =>
    have k:=Keeps.below hb
    ⟨k _ _ p0,k _ _ c0,k _ _ c5,k _ _ hcell,k _ _ y0⟩
   refine wp_region_need (fun _=>true) (fun w'=>w'.cell? ⟨w.heap.size,0,none⟩=some (.slice (some ⟨ob,oo,none⟩) G cap)/\w'.cell? ⟨W.heap.size,0,none⟩=some (.int .i64 kk)/\w'.cell? ⟨W.heap.size,5,none⟩=some (.int .i64 jj)/\w'.cell? ⟨ob,oo+kk,none⟩=some (.slice (some ⟨rb,ro,none⟩) LK CK)/\w'.cell? ⟨rb,ro+jj*4,none⟩=some (.int .i64 iop)) (by kernel_rfl) (hSof _ hB) (fun hS=>?_);generalize W2.drew=wc0 at hB hS ⊢
   refine tkN 0 hS ?_;refine tkN 1 hS ?_;refine tkN 2 hS ?_;refine tkN 3 hS ?_;refine tkN 5 hS ?_;refine tkN 6 hS ?_;refine tkN 7 hS ?_;refine tkN 8 hS ?_;refine tkN 9 hS ?_;refine tkN 10 hS ?_;refine tkN 11 hS ?_;refine tkN 12 hS ?_;refine tkN 13 hS ?_;refine tkN 14 hS ?_;refine tkN 15 hS ?_;refine stN 4 (fun K hK=>?_);go_simp;obtain⟨N3,k3,b3,s3⟩:=boxes1 wc0 (.cells #[.int .i64 13,.int .i64 14,.int .i64 15,.int .i64 17,.int .i64 19] 3)
   have hB2:=hB.trans (b3.mono hB.size);have hcon:=contains_any (some ⟨wc0.heap.size,0,none⟩) 5 [13,14,15,17,19] iop _ (ints5 N3) (by simp);rw[<- hbe] at hcon;clear hbe;refine otN hK (hSof _ hB2) ?_;clear hK;replace hS:=hSof _ hB2;generalize wc0.alloc (.cells #[.int .i64 13,.int .i64 14,.int .i64 15,.int .i64 17,.int .i64 19] 3)=wc1 at *;refine stN 16 (fun K hK=>?_);go_simp;refine hcon.mono ?_;rintro e w' ⟨rfl,rfl⟩
   refine otN hK (hSof _ hB2) ?_;clear hK;replace hS:=hSof _ hB2;refine tkN 17 hS ?_;refine dnN ?_
   go_wp2_with fail
   go_meet
   case rel=>exact⟨rfl,hB2⟩
  ·have hn0:¬ xpc ≥ 0:=by omega
   have hbe:bb=false:=by rw[HBB.out];simp[hp0]
   subst hbe;have hSof:∀ w',Below W2.heap.size W2 w'->(w'.cell? ⟨W.heap.size,0,none⟩=some (.int .i64 kk)/\w'.cell? ⟨W.heap.size,5,none⟩=some (.int .i64 xpc)):=fun w' hb =>
    have k:=Keeps.below hb
    ⟨k _ _ c0,k _ _ c5⟩
   refine wp_region_need (fun _=>true) (fun w'=>w'.cell? ⟨W.heap.size,0,none⟩=some (.int .i64 kk)/\w'.cell? ⟨W.heap.size,5,none⟩=some (.int .i64 xpc)) (by kernel_rfl) (hSof _ hB) (fun hS=>?_);generalize W2.drew=wc0 at hB hS ⊢;refine tkN 0 hS ?_;refine tkN 1 hS ?_;refine tkN 2 hS ?_;refine tkN 3 hS ?_;refine skN 4 hS ?_;refine skN 5 hS ?_;refine skN 6 hS ?_;refine skN 7 hS ?_;refine skN 8 hS ?_;refine skN 9 hS ?_
   refine skN 10 hS ?_;refine skN 11 hS ?_;refine skN 12 hS ?_;refine skN 13 hS ?_;refine skN 14 hS ?_;refine skN 15 hS ?_;refine skN 16 hS ?_;refine tkN 17 hS ?_;refine dnN ?_
   go_wp2_with fail
   go_meet
   case rel=>exact⟨rfl,hB⟩
 case rest =>
  obtain⟨rfl,hBc⟩:=hcut;have b3:=b12.trans (hBc.mono b12.size)
  cases bb with
  | true =>
   have hRB:RB=false:=by rw[HB3.out,if_pos rfl]
   subst hRB;go_wp2
   go_ret
   exact⟨rfl,b3⟩
  | false =>
   have HRB:Aside (RB=decide ((V2.at n).fin=0)):=by show RB=_;rw[HB3.out,if_neg (by simp)]
   have kc:=Keeps.below hBc;replace p0:=kc _ _ p0;replace q0:=kc _ _ q0;replace q1:=kc _ _ q1;have hd:=hdo wc (hK2.trans kc);clear HB3 HBB hdo HP hP2 c0 c5 N0 N1 N2
   go_wp2_with fail
   refine hd.mono ?_;rintro e w4 ⟨ya,yc,yb,yd,rfl,hb4,hYA,hYP,_⟩;simp only at hYA hYP ⊢;have hx2:=at_mem' (w:=V2) (i:=n) (by have:=HLA.out;have:=HR.out;omega);obtain⟨g,q,_,_,_,_,_,_,rfl,A2⟩:=hYA.cell n _ hx2;have f7:=A2.c7;have hV2:n<V2.acts.length:=by have:=HLA.out;have:=HR.out;omega
   have hVz:(n:Int)<(V2.acts.length:Int):=by omega
   have b5:=b3.trans (hb4.mono b3.size);obtain⟨N4,k4,c4,s4⟩:=boxes1 w4 (.cells #[.slice (some ⟨g,q,none⟩) V2.acts.length yc,.slice yb V2.prints.length yd] 28);have f7':=k4 _ _ f7;clear A2 f7 hx2 hYA hYP;generalize (V2.at (n:Int)).fin=f at *;have b6:=b5.trans (c4.mono b5.size)
   go_upto_region 7 with fail
   generalize w4.alloc (.cells #[.slice (some ⟨g,q,none⟩) V2.acts.length yc,.slice yb V2.prints.length yd] 28)=w5 at *;have g0:w5.cell? ⟨w4.heap.size,0,none⟩=some (.slice (some ⟨g,q,none⟩) V2.acts.length yc):=cell_blk N4 0;go_wp2
   go_ret
   exact⟨by rw[HRB.out];first | rfl | exact ret_bool rfl,b6⟩
end
section
open Go.RowKit
theorem equalInts_any (aa ab:Option Addr) (ca cb:Nat) (l:List Int) (w:World) (ha:IntsAt w aa l) (hb:IntsAt w ab l) (hl:l.length<=8796093022208) :
  Calls Tryz.prog 49 #[.slice aa l.length ca,.slice ab l.length cb] w fun e w'=>e=.returned (.bool true)/\∃ n,w'=w.drewN n:=by
 obtain⟨L,hL⟩:∃ L,L=l.length:=⟨_,rfl⟩;have HL:Aside (L=l.length):=hL;rw[<- hL] at hl ⊢;clear hL
 go_enter Tryz.func49,Tryz.ntmps49
 go_wp2
 go_loopg [13,5] L (fun g s13 s5 wr=>∃ i n:Nat,i<=L/\g=L-i/\s13=.int .i64 i/\wr=w.drewN n)
 case atStart=>exact⟨0,0,Nat.zero_le _,rfl,rfl,rfl⟩
 case round =>
  obtain⟨i,n,hi,rfl,rfl,rfl⟩:=hrel
  by_cases hiL:i<L
  ·have hiz:(i:Int)<(L:Int):=by omega
   obtain⟨z,hv⟩:=at_some (l:=l) (i:=i) (by rw[<- HL.out];exact hiL);obtain⟨ba,oa,rfl,a1⟩:=ha i _ hv;obtain⟨bb,ob,rfl,b1⟩:=hb i _ hv;clear hv;go_wp2
   go_quiet (fail)
   go_wp2
   go_roundg (L-(i+1))
   case measure=>go_light;omega
   case rel=>go_light;exact⟨i+1,_,by omega,rfl,by go_num,rfl⟩
  ·go_wp2
   go_ret
   exact⟨rfl,_,rfl⟩
theorem equalVals_any (aa ab:Option Addr) (ca cb:Nat) (l:List Vl) (w:World) (ha:ValsAt w aa l) (hb:ValsAt w ab l) (hl:l.length<=8796093022208) :
  Calls Tryz.prog 53 #[.slice aa l.length ca,.slice ab l.length cb] w fun e w'=>e=.returned (.bool true)/\∃ n,w'=w.drewN n:=by
 obtain⟨L,hL⟩:∃ L,L=l.length:=⟨_,rfl⟩;have HL:Aside (L=l.length):=hL;rw[<- hL] at hl ⊢;clear hL
 go_enter Tryz.func53,Tryz.ntmps53
 go_wp2
 go_loopg [13,5] L (fun g s13 s5 wr=>∃ i n:Nat,i<=L/\g=L-i/\s13=.int .i64 i/\wr=w.drewN n)
 case atStart=>exact⟨0,0,Nat.zero_le _,rfl,rfl,rfl⟩
 case round =>
  obtain⟨i,n,hi,rfl,rfl,rfl⟩:=hrel
  by_cases hiL:i<L
  ·have hiz:(i:Int)<(L:Int):=by omega
   obtain⟨⟨vk,vn⟩,hv⟩:=at_some (l:=l) (i:=i) (by rw[<- HL.out];exact hiL);obtain⟨ba,oa,rfl,a1,a2⟩:=ha i _ hv;obtain⟨bb,ob,rfl,b1,b2⟩:=hb i _ hv;simp only at a1 a2 b1 b2;clear hv;go_wp2
   go_quiet (fail)
   go_wp2
   go_roundg (L-(i+1))
   case measure=>go_light;omega
   case rel=>go_light;exact⟨i+1,_,by omega,rfl,by go_num,rfl⟩
  ·go_wp2
   go_ret
   exact⟨rfl,_,rfl⟩
end
end Go.Proofs.YtihpkcccfgbcmaaGreatDoor
