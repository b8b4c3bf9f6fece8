/- ADo TKeep HEq TSame. -/
import Derived.Deep.Modes
import Derived.Test.YtddokajfafmhhaaGreatDoorCBFacts
import Derived.Test.YtddokajfafmhhaaGreatDoorCBWIsWorld
import Derived.Test.YtddokajfafmhhaaGreatDoorCETSolo
namespace Go.Proofs.YtddokajfafmhhaaGreatDoor
set_option maxRecDepth 100000
set_option maxHeartbeats 8000000
section
open Go.RowKit
theorem Shp.tell {V:Wd} (h:Shp V) (tq n m:Int):Shp (tellS V tq n m):=by
 unfold tellS
 split
 ·rename_i ht
  refine h.put (fun x hx=>?_)
  have h5:=(takes_iff.1 ht).2
  rw [at_get hx] at h5 ⊢
  have h1:=giveS_regs (a:=x) (n:=2)
  have h2:=giveS_box (a:=x) (n:=2)
  have h3:=h _ x hx
  unfold toldS
  generalize giveS x 2=g at h1 h2 ⊢
  obtain ⟨b,o⟩:=g
  cases o with
  | none=>exact ⟨h1.trans h3.1,by show b.box.length≤6;rw [h2];exact h3.2⟩
  | some v=>exact ⟨h1.trans h3.1,by show (b.box++[v]).length≤6;rw [List.length_append,h2];simp;omega⟩
 ·exact h
theorem Shp.ended {V:Wd} (h:Shp V) (who:Nat) (way:Int):Shp (endS V who way):=by
 refine Shp.tell (h.put (fun x hx=>?_)) _ _ _
 rw [at_get hx]
 exact ⟨by simp [endedS,(h _ x hx).1],by simp [endedS]⟩
theorem Shp.act {V:Wd} (h:Shp V) (X:Nat→Nat→Nat→Int) (a:Ax):Shp (actS X V a):=by
 unfold actS
 split
 ·exact h
 split
 ·unfold stepS
  split
  ·exact h
  split
  ·refine h.put (fun x hx=>?_)
   rw [at_get hx]
   have h3:=h _ x hx
   unfold takeS
   cases hb:x.box with
   | nil=>exact ⟨h3.1,by rw [hb];simp⟩
   | cons v r =>
    rw [hb] at h3
    exact ⟨(put_regs _ _ _).trans h3.1,by have:=h3.2;simp at this;show r.length≤6;omega⟩
  ·have hs:Shp (V.put a.who.toNat { (V.at a.who.toNat) with pc:=nextS (V.at a.who.toNat) (insAt X (V.at a.who.toNat).kind (V.at a.who.toNat).pc) }):=h.put (fun x hx=>by rw [at_get hx];exact h _ x hx)
   unfold doneS
   split
   ·exact (hs.perform).1.ended _ _
   ·exact (hs.perform).1
 split
 ·refine h.put (fun x hx=>?_)
  rw [at_get hx]
  exact ⟨clearS_regs.trans (h _ x hx).1,by rw [clearS_box];exact (h _ x hx).2⟩
 ·exact h.tell _ _ _
theorem WdRows.at_block {w w':World} {base:Nat} {V:Wd} {av pv:Value} {fl:List Fa} {rs:List (List (Value × Ob))} (h:WdRows w base V av pv fl rs) (ha:∀ b,base≤b→w'.heap[b]?=w.heap[b]?):WdRows w' base V av pv fl rs where
 acts:=ownsRow_at_block h.acts (fun b hb=>ha b (World.ownsRow.lt h.acts b (mem_vB.1 hb)).1)
 prints:=ownsRow_at_block h.prints (fun b hb=>ha b (World.ownsRow.lt h.prints b (mem_vB.1 hb)).1)
 flen:=h.flen
 rlen:=h.rlen
 each j fa r x h1 h2 h3:=(h.each j fa r x h1 h2 h3).at_block (fun b hb=>ha b ((h.each j fa r x h1 h2 h3).ge b hb).1)
 apart0:=h.apart0
 apart1:=h.apart1
 apart2:=h.apart2
theorem WdRows.foot {w:World} {base Bw:Nat} {V:Wd} {av pv:Value} {fl:List Fa} {rs:List (List (Value × Ob))} (h:WdRows w base V av pv fl rs):∀ b∈wdFoot Bw av pv fl rs,b=Bw∨base≤b:=fun b hb=>by
 simp only [wdFoot,List.mem_append,List.mem_cons] at hb
 rcases hb with (rfl | hb | hb) | hb
 ·exact .inl rfl
 ·exact .inr (World.ownsRow.lt h.acts b (mem_vB.1 hb)).1
 ·exact .inr (World.ownsRow.lt h.prints b (mem_vB.1 hb)).1
 ·obtain ⟨⟨fa,r⟩,hp,hb⟩:=List.mem_flatMap.1 hb
  obtain ⟨j,hj⟩:=List.mem_iff_getElem?.1 hp
  obtain ⟨h1,h2⟩:=List.getElem?_zip_eq_some.1 hj
  obtain ⟨x,hx⟩:=at_some (l:=V.acts) (i:=j) (by rw [← h.flen];exact (List.getElem?_eq_some_iff.1 h1).1)
  exact .inr ((h.each j fa r x h1 h2 hx).ge b hb).1
theorem wck_of {G:Nat} {L:Nat→Nat} {X:Nat→Nat→Nat→Int} {V:Wd} (h:wckS G L X V=0):(ckS G L X).2.2=0∧wdMay G L V=true:=by
 unfold wckS at h
 split at h
 ·omega
 ·rename_i hc
  split at h
  ·rename_i hm;exact ⟨by omega,hm⟩
  ·omega
def doWS (G:Nat) (L:Nat→Nat) (X:Nat→Nat→Nat→Int) (V:Wd) (a:Ax):Wd × Int :=
 if wckS G L X V≠0 then (⟨[],[]⟩,wckS G L X V) else if axFault a≠0 then (⟨[],[]⟩,axFault a) else (actS X V a,0)
theorem do_any (ao:Option Addr) (G cap:Nat) (A:Nat→Option Addr) (L C:Nat→Nat) (X:Nat→Nat→Nat→Int) (aa pa:Option Addr) (ac pc:Nat) (V:Wd) (k n x y:Int) (w:World) (hT:TabAt 0 w) (hP:ProgAt w ao G A L C X) (ha:ActsAt w aa V.acts) (hp:ToldAt w pa V.prints) :
  Calls Tryz.prog 22 #[.agg #[.slice ao G cap],.agg #[.slice aa V.acts.length ac,.slice pa V.prints.length pc],.agg #[.int .i64 k,.int .i64 n,.int .i64 x,.int .i64 y]] w fun e w'=>WAns w w' (doWS G L X V ⟨k,n,x,y⟩) e:=by
 obtain ⟨N0,N1,N2,N3,k1,b1,s1⟩:=boxes4 w (.cells #[.slice ao G cap] 25) (.cells #[.slice aa V.acts.length ac,.slice pa V.prints.length pc] 29) (.cells #[.int .i64 k,.int .i64 n,.int .i64 x,.int .i64 y] 53) (.cells #[.slice none 0 0,.slice none 0 0] 29)
 have HP:Aside (∀ w',Keeps w w'→ProgAt w' ao G A L C X∧TabAt 0 w'∧ActsAt w' aa V.acts∧ToldAt w' pa V.prints):=fun w' kk=>⟨hP.keeps kk,hT.keeps kk,ha.keeps kk,hp.keeps kk⟩
 clear hT hP ha hp
 obtain ⟨DR,hDR⟩:∃ DR,DR=doWS G L X V ⟨k,n,x,y⟩:=⟨_,rfl⟩
 have HDR:Aside (DR=doWS G L X V ⟨k,n,x,y⟩):=hDR
 rw [← hDR]
 clear hDR
 go_enter Tryz.func22,Tryz.ntmps22
 go_upto_region 1 with fail
 generalize (((w.alloc (.cells #[.slice ao G cap] 25)).alloc (.cells #[.slice aa V.acts.length ac,.slice pa V.prints.length pc] 29)).alloc (.cells #[.int .i64 k,.int .i64 n,.int .i64 x,.int .i64 y] 53)).alloc (.cells #[.slice none 0 0,.slice none 0 0] 29)=W at *
 have p0:W.cell? ⟨w.heap.size,0,none⟩=some (.slice ao G cap):=cell_blk N0 0
 have q0:W.cell? ⟨w.heap.size+1,0,none⟩=some (.slice aa V.acts.length ac):=cell_blk N1 0
 have q1:W.cell? ⟨w.heap.size+1,1,none⟩=some (.slice pa V.prints.length pc):=cell_blk N1 1
 have hK1:=HP.out W k1
 go_wp2_with fail
 refine (acheck_any ao G cap A L C X aa pa ac pc V W hK1.2.1 hK1.1 hK1.2.2.1 hK1.2.2.2).mono ?_
 rintro e w1 ⟨rfl,hb1⟩
 have hWs:W.heap.size=w.heap.size+4:=s1
 have M3:=(hb1.block _ (by omega)).trans N3
 have M2:=(hb1.block _ (by omega)).trans N2
 have M1:=(hb1.block _ (by omega)).trans N1
 have M0:=(hb1.block _ (by omega)).trans N0
 have B1:=b1.trans (hb1.mono b1.size)
 have HP1:=HP.out w1 (k1.trans (Keeps.below hb1))
 have r0:w1.cell? ⟨w.heap.size+1+1+1,0,none⟩=some (.slice none 0 0):=cell_blk M3 0
 have r1:w1.cell? ⟨w.heap.size+1+1+1,1,none⟩=some (.slice none 0 0):=cell_blk M3 1
 have rf:∀ i,w1.frozen? ⟨w.heap.size+1+1+1,i,none⟩=false:=fun i=>fz_blk M3 i
 by_cases hck:wckS G L X V=0
 rotate_left
 ·have q0:(wckS G L X V != 0)=true:=by simp [hck]
  have HR:Aside (DR=(⟨[],[]⟩,wckS G L X V)):=by show DR=_;rw [HDR.out];unfold doWS;rw [if_pos hck]
  have NZ:=two_blk M3 0 1 (.slice none 0 0) (.slice none 0 0)
  have hBz:=two_below B1 (show w.heap.size≤w.heap.size+1+1+1 by omega) 0 1 (.slice none 0 0) (.slice none 0 0)
  clear HDR
  generalize wckS G L X V=EN at *
  clear HP1 HP
  go_wp2
  have y0:=cell_blk NZ 0
  have y1:=cell_blk NZ 1
  simp at y0 y1
  exact bodyPost_ret (v:=.tuple #[.agg #[.slice none 0 0,.slice none 0 0],.int .i64 EN]) (by simp [results,Tryz.results22,go_sem,y0,y1]) rfl (by rw [HR.out];exact ⟨none,0,none,0,rfl,hBz,ActsAt.nil _ _,ToldAt.nil _ _,Nat.zero_le _⟩)
 have HR:Aside (DR=if axFault ⟨k,n,x,y⟩≠0 then (⟨[],[]⟩,axFault ⟨k,n,x,y⟩) else (actS X V ⟨k,n,x,y⟩,0)):=by show DR=_;rw [HDR.out];unfold doWS;rw [if_neg (by simp [hck])]
 have HCK:Aside (wckS G L X V=0):=hck
 clear HDR
 simp only [hck]
 clear hck
 have a0:w1.cell? ⟨w.heap.size+1+1,0,none⟩=some (.int .i64 k):=cell_blk M2 0
 have a1:w1.cell? ⟨w.heap.size+1+1,1,none⟩=some (.int .i64 n):=cell_blk M2 1
 have a2:w1.cell? ⟨w.heap.size+1+1,2,none⟩=some (.int .i64 x):=cell_blk M2 2
 have a3:w1.cell? ⟨w.heap.size+1+1,3,none⟩=some (.int .i64 y):=cell_blk M2 3
 go_wp2_with fail
 refine (checkAct_any ⟨k,n,x,y⟩ w1).mono ?_
 rintro e w2 ⟨rfl,hb2⟩
 have B2:=B1.trans (hb2.mono B1.size)
 have K2:=(k1.trans (Keeps.below hb1)).trans (Keeps.below hb2)
 have sz1:=hb1.size
 replace M3:=(hb2.block _ (by omega)).trans M3
 replace M2:=(hb2.block _ (by omega)).trans M2
 replace M1:=(hb2.block _ (by omega)).trans M1
 replace M0:=(hb2.block _ (by omega)).trans M0
 clear r0 r1 rf a0 a1 a2 a3 HP1
 generalize hAF:axFault ⟨k,n,x,y⟩=AF at *
 by_cases hAF0:AF=0
 rotate_left
 ·have qf:(AF != 0)=true:=by simp [hAF0]
  have HRR:Aside (DR=(⟨[],[]⟩,AF)):=by show DR=_;rw [HR.out,if_pos hAF0]
  have NZ:=two_blk M3 0 1 (.slice none 0 0) (.slice none 0 0)
  have hBz:=two_below B2 (show w.heap.size≤w.heap.size+1+1+1 by omega) 0 1 (.slice none 0 0) (.slice none 0 0)
  have r0:w2.cell? ⟨w.heap.size+1+1+1,0,none⟩=some (.slice none 0 0):=cell_blk M3 0
  have r1:w2.cell? ⟨w.heap.size+1+1+1,1,none⟩=some (.slice none 0 0):=cell_blk M3 1
  have rf:∀ i,w2.frozen? ⟨w.heap.size+1+1+1,i,none⟩=false:=fun i=>fz_blk M3 i
  clear HR HP hAF
  go_wp2
  have y0:=cell_blk NZ 0
  have y1:=cell_blk NZ 1
  simp at y0 y1
  exact bodyPost_ret (v:=.tuple #[.agg #[.slice none 0 0,.slice none 0 0],.int .i64 AF]) (by simp [results,Tryz.results22,go_sem,y0,y1]) rfl (by rw [HRR.out];exact ⟨none,0,none,0,rfl,hBz,ActsAt.nil _ _,ToldAt.nil _ _,Nat.zero_le _⟩)
 subst hAF0
 have HRR:Aside (DR=(actS X V ⟨k,n,x,y⟩,0)):=by show DR=_;rw [HR.out,if_neg (by simp)]
 clear HR
 have HP2:=HP.out w2 K2
 have v0:w2.cell? ⟨w.heap.size+1,0,none⟩=some (.slice aa V.acts.length ac):=cell_blk M1 0
 have v1:w2.cell? ⟨w.heap.size+1,1,none⟩=some (.slice pa V.prints.length pc):=cell_blk M1 1
 have vf:∀ i,w2.frozen? ⟨w.heap.size+1,i,none⟩=false:=fun i=>fz_blk M1 i
 have sw2:w.heap.size+1+1+1 < w2.heap.size:=(Array.getElem?_eq_some_iff.1 M3).1
 go_wp2_with fail
 refine (wcopy_own aa pa ac pc V w2 HP2.2.2.1 HP2.2.2.2).mono ?_
 rintro e w3 ⟨ga,gp,fl,rs,rfl,hb3,hWR⟩
 have B3:=B2.trans (hb3.mono B2.size)
 have K3:=K2.trans (Keeps.below hb3)
 have sz2:=hb3.size
 replace M3:=(hb3.block _ (by omega)).trans M3
 replace M2:=(hb3.block _ (by omega)).trans M2
 replace M1:=(hb3.block _ (by omega)).trans M1
 replace M0:=(hb3.block _ (by omega)).trans M0
 clear v0 v1 vf HP2
 have v0:w3.cell? ⟨w.heap.size+1,0,none⟩=some (.slice aa V.acts.length ac):=cell_blk M1 0
 have v1:w3.cell? ⟨w.heap.size+1,1,none⟩=some (.slice pa V.prints.length pc):=cell_blk M1 1
 have vf:∀ i,w3.frozen? ⟨w.heap.size+1,i,none⟩=false:=fun i=>fz_blk M1 i
 have T1:=two_blk M1 0 1 (.slice (some ⟨ga,0,none⟩) V.acts.length V.acts.length) (.slice (some ⟨gp,0,none⟩) V.prints.length V.prints.length)
 have hB4:=two_below B3 (show w.heap.size≤w.heap.size+1 by omega) 0 1 (.slice (some ⟨ga,0,none⟩) V.acts.length V.acts.length) (.slice (some ⟨gp,0,none⟩) V.prints.length V.prints.length)
 have o1:∀ b,b≠w.heap.size+1→((w3.setCell ⟨w.heap.size+1,0,none⟩ (.slice (some ⟨ga,0,none⟩) V.acts.length V.acts.length)).setCell ⟨w.heap.size+1,1,none⟩ (.slice (some ⟨gp,0,none⟩) V.prints.length V.prints.length)).heap[b]?=w3.heap[b]?:=fun b hb=>two_other 0 1 _ _ hb
 have sz4:=two_size w3 (w.heap.size+1) 0 1 (.slice (some ⟨ga,0,none⟩) V.acts.length V.acts.length) (.slice (some ⟨gp,0,none⟩) V.prints.length V.prints.length)
 go_upto_region 8 with fail
 have hWR4:=hWR.at_block (fun b hb=>o1 b (by omega))
 have hW4:=hWR4.own T1 (by omega) (show w.heap.size≤w2.heap.size by omega)
 have hF4:=hWR4.foot (Bw:=w.heap.size+1)
 clear hWR4
 replace M3:=(o1 _ (by omega)).trans M3
 replace M2:=(o1 _ (by omega)).trans M2
 replace M0:=(o1 _ (by omega)).trans M0
 generalize (w3.setCell ⟨w.heap.size+1,0,none⟩ (.slice (some ⟨ga,0,none⟩) V.acts.length V.acts.length)).setCell ⟨w.heap.size+1,1,none⟩ (.slice (some ⟨gp,0,none⟩) V.prints.length V.prints.length)=w4 at *
 clear v0 v1 vf o1 hWR hb3
 obtain ⟨hc0,hmay⟩:=wck_of HCK.out
 obtain ⟨hpf,hver⟩:=ver_of hc0
 obtain ⟨hG,hLb,_⟩:=progV_ok hpf
 have HP4:=HP.out w4 (Keeps.below hB4)
 have hact:=act_any ao G cap A L C X k n x y w4 hW4 HP4.1 (wfit_of hmay) (fun k j hk hj=>insOk_at hver hk hj) (fun k hk=>by have:=(hLb k hk).2;omega) hAF
 have hsh:=(wfit_of hmay).shp.act X ⟨k,n,x,y⟩
 have hrest:=act_rest X V ⟨k,n,x,y⟩
 have hfit:=wfit_of hmay
 have hl1:(actS X V ⟨k,n,x,y⟩).acts.length≤1000:=by have:=hfit.acts;omega
 have hl2:(actS X V ⟨k,n,x,y⟩).prints.length≤1000:=by have:=hfit.prints;omega
 have hbf:=fun b hb=>show w.heap.size≤b by have:=hF4 b hb;omega
 generalize actS X V ⟨k,n,x,y⟩=V2 at *
 have p0:w4.cell? ⟨w.heap.size,0,none⟩=some (.slice ao G cap):=cell_blk M0 0
 have a0:w4.cell? ⟨w.heap.size+1+1,0,none⟩=some (.int .i64 k):=cell_blk M2 0
 have a1:w4.cell? ⟨w.heap.size+1+1,1,none⟩=some (.int .i64 n):=cell_blk M2 1
 have a2:w4.cell? ⟨w.heap.size+1+1,2,none⟩=some (.int .i64 x):=cell_blk M2 2
 have a3:w4.cell? ⟨w.heap.size+1+1,3,none⟩=some (.int .i64 y):=cell_blk M2 3
 clear hfit hrest hver hpf hLb hG HP4 HP hmay hc0
 go_wp2_with fail
 refine hact.mono ?_
 rintro e w5 ⟨rfl,av4,pv4,fl4,rs4,hW5,hM5⟩
 have hB5:=hB4.trans (hM5.below hB4.size hbf)
 have hsz4:w.heap.size+1+1+1 < w4.heap.size:=(Array.getElem?_eq_some_iff.1 M3).1
 have hn4:w.heap.size+1+1+1∉wdFoot (w.heap.size+1) (.slice (some ⟨ga,0,none⟩) V.acts.length V.acts.length) (.slice (some ⟨gp,0,none⟩) V.prints.length V.prints.length) fl rs:=fun hb=>by have:=hF4 _ hb;omega
 have hnf:w.heap.size+1+1+1∉wdFoot (w.heap.size+1) av4 pv4 fl4 rs4:=fun hb=>by
  rcases hM5.sub _ hb with h1 | h1
  ·exact hn4 h1
  ·omega
 have M5:=(hM5.keep _ hsz4 hn4).trans M3
 clear hact hbf hF4 hn4 p0 a0 a1 a2 a3 M0 M2 M3 hM5 hW4 T1 sz4
 obtain ⟨xa,xc,ya,yc,ea,ep,hva,hvp,hcap⟩:=hW5.views2 hsh hl1 hl2
 have cw0:=hW5.bw.1
 have cw1:=hW5.bw.2.1
 rw [ea] at cw0
 rw [ep] at cw1
 have NZ:=two_blk M5 0 1 (.slice xa V2.acts.length xc) (.slice ya V2.prints.length yc)
 have hBz:=two_below hB5 (show w.heap.size≤w.heap.size+1+1+1 by omega) 0 1 (.slice xa V2.acts.length xc) (.slice ya V2.prints.length yc)
 have rf:∀ i,w5.frozen? ⟨w.heap.size+1+1+1,i,none⟩=false:=fun i=>fz_blk M5 i
 have r0:w5.cell? ⟨w.heap.size+1+1+1,0,none⟩=some (.slice none 0 0):=cell_blk M5 0
 have r1:w5.cell? ⟨w.heap.size+1+1+1,1,none⟩=some (.slice none 0 0):=cell_blk M5 1
 have HVZ:Aside (WAns w ((w5.setCell ⟨w.heap.size+1+1+1,0,none⟩ (.slice xa V2.acts.length xc)).setCell ⟨w.heap.size+1+1+1,1,none⟩ (.slice ya V2.prints.length yc)) DR (.returned (.tuple #[.agg #[.slice xa V2.acts.length xc,.slice ya V2.prints.length yc],.int .i64 0]))):=by
  show WAns _ _ DR _
  rw [HRR.out]
  obtain ⟨aa',ac',pa',pc',ea',ep',hva',hvp',_⟩:=((hW5.setOut hnf 0 (.slice xa V2.acts.length xc)).setOut hnf 1 (.slice ya V2.prints.length yc)).views2 hsh hl1 hl2
  rw [ea] at ea'
  rw [ep] at ep'
  simp only [Value.slice.injEq] at ea' ep'
  obtain ⟨rfl,_,rfl⟩:=ea'
  obtain ⟨rfl,_,rfl⟩:=ep'
  exact ⟨_,_,_,_,rfl,hBz,hva',hvp',hcap⟩
 clear hva hvp hcap HRR hnf hW5
 go_wp2
 have y0:=cell_blk NZ 0
 have y1:=cell_blk NZ 1
 simp at y0 y1
 exact bodyPost_ret (v:=.tuple #[.agg #[.slice xa V2.acts.length xc,.slice ya V2.prints.length yc],.int .i64 0]) (by simp [results,Tryz.results22,go_sem,y0,y1]) rfl HVZ.out
end
section
open Go.RowKit
def SlcB (w:World) (R:Nat):Prop:=∀ o v,w.cell? ⟨R,o,none⟩=some v→∃ a n c,v=.slice a n c
theorem slcB2 {w:World} {R:Nat} {t:TypeId} {a b:Option Addr} {n c m d:Nat} (h:w.heap[R]?=some (.cells #[.slice a n c,.slice b m d] t (0,0))):SlcB w R:=fun o v hv=>by
 rw [cellBlk h] at hv
 match o,hv with
 | 0,hv=>exact ⟨_,_,_,by simpa using hv.symm⟩
 | 1,hv=>exact ⟨_,_,_,by simpa using hv.symm⟩
 | o+2,hv=>simp at hv
section
variable {w w':World} {R:Nat}
theorem SlcB.ne (hR:SlcB w R) {b o:Nat} {v:Value} (h:w.cell? ⟨b,o,none⟩=some v) (hv:∀ a n c,v≠.slice a n c):b≠R:=fun e=>by
 subst e
 obtain ⟨a,n,c,e⟩:=hR o v h
 exact hv a n c e
theorem ValsAt.offS {ao:Option Addr} {l:List Vl} (h:ValsAt w ao l) (hR:SlcB w R) (ho:∀ b,b≠R→w'.heap[b]?=w.heap[b]?):ValsAt w' ao l:=fun i v hi=>by
 obtain ⟨b,o,e,h1,h2⟩:=h i v hi
 have hb:=hR.ne h1 (by simp)
 exact ⟨b,o,e,cell_off ho hb h1,cell_off ho hb h2⟩
theorem ToldAt.offS {ao:Option Addr} {l:List (Int × Int)} (h:ToldAt w ao l) (hR:SlcB w R) (ho:∀ b,b≠R→w'.heap[b]?=w.heap[b]?):ToldAt w' ao l :=
 ⟨fun i v hi=>by
  obtain ⟨b,o,e,h1,h2⟩:=h.cell i v hi
  have hb:=hR.ne h1 (by simp)
  exact ⟨b,o,e,cell_off ho hb h1,cell_off ho hb h2⟩,h.many⟩
theorem ObsAt.offS {ao:Option Addr} {l:List Ob} (h:ObsAt w ao l) (hR:SlcB w R) (ho:∀ b,b≠R→w'.heap[b]?=w.heap[b]?):ObsAt w' ao l :=
 ⟨fun i v hi=>by
  obtain ⟨b,o,fa,fc,e,h1,h2,h3,h4⟩:=h.cell i v hi
  have hb:=hR.ne h2 (by simp)
  exact ⟨b,o,fa,fc,e,cell_off ho hb h1,cell_off ho hb h2,h3.offS hR ho,h4⟩,h.many⟩
theorem ActsAt.offS {ao:Option Addr} {l:List Ac} (h:ActsAt w ao l) (hR:SlcB w R) (ho:∀ b,b≠R→w'.heap[b]?=w.heap[b]?):ActsAt w' ao l :=
 ⟨fun i v hi=>by
  obtain ⟨b,o,oa,oc,ra,rc,ba,bc,e,h1⟩:=h.cell i v hi
  have hb:=hR.ne h1.c0 (by simp)
  exact ⟨b,o,oa,oc,ra,rc,ba,bc,e,⟨cell_off ho hb h1.c0,cell_off ho hb h1.c1,cell_off ho hb h1.c2,cell_off ho hb h1.c3,cell_off ho hb h1.c4,cell_off ho hb h1.c5,cell_off ho hb h1.c6,cell_off ho hb h1.c7,h1.obs.offS hR ho,h1.regs.offS hR ho,h1.box.offS hR ho,h1.rlen,h1.blen⟩⟩,h.many⟩
end
def pX (l:List Rw):Nat→Nat→Nat→Int:=xOf (programS l 14)
def pL (l:List Rw):Nat→Nat:=lenOf (programS l 14)
def pF (l:List Rw) (r:Nat):List Pt:=flowS (xOf (programS l 14) r) (lenOf (programS l 14) r)
def stepsS (l m:List Rw) (most:Int) (i:Nat):Wd:=(runS (pX l) (newW (2+pick most 40)) ((actsS m 60).take i)).1
theorem play_ver (l:List Rw):Ver 3 (pL l) (pX l) (pF l):=(ver_of (by show (ckS 3 (lenOf (programS l 14)) (xOf (programS l 14))).2.2=0;exact congrArg (fun q=>q.2.2) (program_ok l 14))).2
theorem steps_ok (l m:List Rw) (most:Int) (i:Nat):WOk 3 (pL l) (pF l) (stepsS l m most i):=by
 have hp:=pick_bd (n:=most) (many:=40) (by omega)
 exact (WOk.run (play_ver l) _ (wok_new (play_ver l) (by omega) (M:=2+pick most 40) (by omega)) (fun a ha=>actsS_ok m 60 a (List.mem_of_mem_take ha))).2
theorem steps_next (l m:List Rw) (most:Int) {i:Nat} {a:Ax} (ha:(actsS m 60)[i]?=some a):stepsS l m most (i+1)=actS (pX l) (stepsS l m most i) a∧axFault a=0:=by
 have h0:=actsS_ok m 60 a (List.mem_of_getElem? ha)
 refine ⟨?_,h0⟩
 unfold stepsS
 rw [List.take_add_one,ha,run_app _ _ _ _ (fun b hb=>actsS_ok m 60 b (List.mem_of_mem_take hb))]
 simp only [Option.toList_some]
 rw [runS,if_neg (by simp [h0])]
 rfl
theorem steps_all (l m:List Rw) (most:Int):stepsS l m most (actsS m 60).length=playS l m most:=by
 unfold stepsS playS
 rw [List.take_length]
 rfl
theorem ok_wck {l:List Rw} {V:Wd} (h:WOk 3 (pL l) (pF l) V):wckS 3 (pL l) (pX l) V=0:=by
 unfold wckS
 rw [show ckS 3 (pL l) (pX l)=(0,0,0) from program_ok l 14,if_neg (by simp),h.may]
 rfl
theorem ok_do {l:List Rw} {V:Wd} (h:WOk 3 (pL l) (pF l) V) {a:Ax} (ha:axFault a=0):doWS 3 (pL l) (pX l) V a=(actS (pX l) V a,0):=by
 unfold doWS
 rw [if_neg (by simp [ok_wck h]),if_neg (by simp [ha])]
end
section
open Go.RowKit
theorem equalInts_any (aa ab:Option Addr) (ca cb:Nat) (l:List Int) (w:World) (ha:IntsAt w aa l) (hb:IntsAt w ab l) (hl:l.length≤8796093022208) :
  Calls Tryz.prog 23 #[.slice aa l.length ca,.slice ab l.length cb] w fun e w'=>e=.returned (.bool true)∧∃ n,w'=w.drewN n:=by
 obtain ⟨L,hL⟩:∃ L,L=l.length:=⟨_,rfl⟩
 have HL:Aside (L=l.length):=hL
 rw [← hL] at hl ⊢
 clear hL
 go_enter Tryz.func23,Tryz.ntmps23
 go_wp2
 go_loopg [13,5] L (fun g s13 s5 wr=>∃ i n:Nat,i≤L∧g=L - i∧s13=.int .i64 i∧wr=w.drewN n)
 case atStart=>exact ⟨0,0,Nat.zero_le _,rfl,rfl,rfl⟩
 case round =>
  obtain ⟨i,n,hi,rfl,rfl,rfl⟩:=hrel
  by_cases hiL:i < L
  ·have hiz:(i:Int) < (L:Int):=by omega
   obtain ⟨z,hv⟩:=at_some (l:=l) (i:=i) (by rw [← HL.out];exact hiL)
   obtain ⟨ba,oa,rfl,a1⟩:=ha i _ hv
   obtain ⟨bb,ob,rfl,b1⟩:=hb i _ hv
   clear hv
   go_wp2
   go_quiet (fail)
   go_wp2
   go_roundg (L - (i+1))
   case measure=>go_light;omega
   case rel=>go_light;exact ⟨i+1,_,by omega,rfl,by go_num,rfl⟩
  ·go_wp2
   go_ret
   exact ⟨rfl,_,rfl⟩
theorem equalVals_any (aa ab:Option Addr) (ca cb:Nat) (l:List Vl) (w:World) (ha:ValsAt w aa l) (hb:ValsAt w ab l) (hl:l.length≤8796093022208) :
  Calls Tryz.prog 51 #[.slice aa l.length ca,.slice ab l.length cb] w fun e w'=>e=.returned (.bool true)∧∃ n,w'=w.drewN n:=by
 obtain ⟨L,hL⟩:∃ L,L=l.length:=⟨_,rfl⟩
 have HL:Aside (L=l.length):=hL
 rw [← hL] at hl ⊢
 clear hL
 go_enter Tryz.func51,Tryz.ntmps51
 go_wp2
 go_loopg [13,5] L (fun g s13 s5 wr=>∃ i n:Nat,i≤L∧g=L - i∧s13=.int .i64 i∧wr=w.drewN n)
 case atStart=>exact ⟨0,0,Nat.zero_le _,rfl,rfl,rfl⟩
 case round =>
  obtain ⟨i,n,hi,rfl,rfl,rfl⟩:=hrel
  by_cases hiL:i < L
  ·have hiz:(i:Int) < (L:Int):=by omega
   obtain ⟨⟨vk,vn⟩,hv⟩:=at_some (l:=l) (i:=i) (by rw [← HL.out];exact hiL)
   obtain ⟨ba,oa,rfl,a1,a2⟩:=ha i _ hv
   obtain ⟨bb,ob,rfl,b1,b2⟩:=hb i _ hv
   simp only at a1 a2 b1 b2
   clear hv
   go_wp2
   go_quiet (fail)
   go_wp2
   go_roundg (L - (i+1))
   case measure=>go_light;omega
   case rel=>go_light;exact ⟨i+1,_,by omega,rfl,by go_num,rfl⟩
  ·go_wp2
   go_ret
   exact ⟨rfl,_,rfl⟩
end
section
open Go.RowKit
theorem equalTold_any (aa ab:Option Addr) (ca cb:Nat) (l:List (Int × Int)) (w:World) (ha:ToldAt w aa l) (hb:ToldAt w ab l) :
  Calls Tryz.prog 32 #[.slice aa l.length ca,.slice ab l.length cb] w fun e w'=>e=.returned (.bool true)∧∃ n,w'=w.drewN n:=by
 have hl:=ha.many
 obtain ⟨L,hL⟩:∃ L,L=l.length:=⟨_,rfl⟩
 have HL:Aside (L=l.length):=hL
 rw [← hL] at hl ⊢
 clear hL
 go_enter Tryz.func32,Tryz.ntmps32
 go_wp2
 go_loopg [13,5] L (fun g s13 s5 wr=>∃ i n:Nat,i≤L∧g=L - i∧s13=.int .i64 i∧wr=w.drewN n)
 case atStart=>exact ⟨0,0,Nat.zero_le _,rfl,rfl,rfl⟩
 case round =>
  obtain ⟨i,n,hi,rfl,rfl,rfl⟩:=hrel
  by_cases hiL:i < L
  ·have hiz:(i:Int) < (L:Int):=by omega
   obtain ⟨⟨vk,vn⟩,hv⟩:=at_some (l:=l) (i:=i) (by rw [← HL.out];exact hiL)
   obtain ⟨ba,oa,rfl,a1,a2⟩:=ha.cell i _ hv
   obtain ⟨bb,ob,rfl,b1,b2⟩:=hb.cell i _ hv
   simp only at a1 a2 b1 b2
   clear hv
   go_wp2
   go_quiet (fail)
   go_wp2
   go_roundg (L - (i+1))
   case measure=>go_light;omega
   case rel=>go_light;exact ⟨i+1,_,by omega,rfl,by go_num,rfl⟩
  ·go_wp2
   go_ret
   exact ⟨rfl,_,rfl⟩
theorem sameOb_any (oa ob:Option Addr) (ca cb:Nat) (o:Ob) (w:World) (ha:ValsAt w oa o.fs) (hb:ValsAt w ob o.fs) (hl:16*o.fs.length≤140737488351232) :
  Calls Tryz.prog 53 #[.agg #[.slice oa o.fs.length ca,.bool o.dead],.agg #[.slice ob o.fs.length cb,.bool o.dead]] w fun e w'=>e=.returned (.bool true)∧Below w.heap.size w w':=by
 obtain ⟨fs,dead⟩:=o
 simp only at ha hb hl ⊢
 obtain ⟨N0,N1,k1,b1,s1⟩:=boxes2 w (.cells #[.slice oa fs.length ca,.bool dead] 97) (.cells #[.slice ob fs.length cb,.bool dead] 97)
 have heq:=fun (w:World) (ha:ValsAt w oa fs) (hb:ValsAt w ob fs)=>equalVals_any oa ob ca cb fs w ha hb (by omega)
 generalize fs.length=L at *
 go_enter Tryz.func53,Tryz.ntmps53
 go_upto_region 1 with fail
 generalize (w.alloc (.cells #[.slice oa L ca,.bool dead] 97)).alloc (.cells #[.slice ob L cb,.bool dead] 97)=W at *
 have c0:=cell_blk N0 0
 have c1:=cell_blk N0 1
 have d0:=cell_blk N1 0
 have d1:=cell_blk N1 1
 simp at c0 c1 d0 d1
 have hd:(dead == dead)=true:=by simp
 go_wp2_with fail
 refine (heq W (ha.keeps k1) (hb.keeps k1)).mono ?_
 rintro e w' ⟨rfl,n,rfl⟩
 go_wp2
 go_ret
 exact ⟨ret_bool (by simp),below_drewN b1 n⟩
theorem equalObs_any (aa ab:Option Addr) (ca cb:Nat) (l:List Ob) (w:World) (ha:ObsAt w aa l) (hb:ObsAt w ab l) :
  Calls Tryz.prog 52 #[.slice aa l.length ca,.slice ab l.length cb,.func (.func 53) #[] #[]] w fun e w'=>e=.returned (.bool true)∧Below w.heap.size w w':=by
 have hl:=ha.many
 obtain ⟨L,hL⟩:∃ L,L=l.length:=⟨_,rfl⟩
 have HL:Aside (L=l.length):=hL
 rw [← hL] at hl ⊢
 clear hL
 go_enter Tryz.func52,Tryz.ntmps52
 go_wp2
 go_loopg [17,7,8,9] L (fun g s17 s7 s8 s9 wr=>∃ i:Nat,i≤L∧g=L - i∧s17=.int .i64 i∧Below w.heap.size w wr)
 case atStart=>exact ⟨0,Nat.zero_le _,rfl,rfl,Below.refl _ _⟩
 case round =>
  obtain ⟨i,hi,rfl,rfl,hbr⟩:=hrel
  by_cases hiL:i < L
  ·have hiz:(i:Int) < (L:Int):=by omega
   obtain ⟨x,hx⟩:=at_some (l:=l) (i:=i) (by rw [← HL.out];exact hiL)
   obtain ⟨b1,o1,fa,fc,rfl,p0,p1,pv,pl⟩:=(ha.keeps (Keeps.below hbr)).cell i x hx
   obtain ⟨b2,o2,ga,gc,rfl,q0,q1,qv,_⟩:=(hb.keeps (Keeps.below hbr)).cell i x hx
   clear hx
   obtain ⟨N0,N1,k1,bb,s1⟩:=boxes2 wr (.cells #[.slice fa x.fs.length fc,.bool x.dead] 97) (.cells #[.slice ga x.fs.length gc,.bool x.dead] 97)
   have ka:=Keeps.alloc wr (.cells #[.slice fa x.fs.length fc,.bool x.dead] 97)
   replace q0:=ka _ _ q0
   replace q1:=ka _ _ q1
   have hc:=fun (w:World) (ha:ValsAt w fa x.fs) (hb:ValsAt w ga x.fs)=>sameOb_any fa ga fc gc x w ha hb pl
   go_upto_region 7 with fail
   have hcW:=hc _ (pv.keeps k1) (qv.keeps k1)
   have hB2:=hbr.trans (bb.mono hbr.size)
   clear hc ka q0 q1 p0 p1 pv qv pl
   generalize (wr.alloc (.cells #[.slice fa x.fs.length fc,.bool x.dead] 97)).alloc (.cells #[.slice ga x.fs.length gc,.bool x.dead] 97)=W at *
   have c0:=cell_blk N0 0
   have c1:=cell_blk N0 1
   have d0:=cell_blk N1 0
   have d1:=cell_blk N1 1
   simp at c0 c1 d0 d1
   go_wp2_with fail
   refine hcW.mono ?_
   rintro e w' ⟨rfl,hb'⟩
   have hB3:=hB2.trans (hb'.mono hB2.size)
   go_wp2
   go_roundg (L - (i+1))
   case measure=>go_light;omega
   case rel=>go_light;exact ⟨i+1,by omega,rfl,by go_num,hB3⟩
  ·have hiz:¬ (i:Int) < (L:Int):=by omega
   go_wp2
   go_ret
   exact ⟨rfl,hbr⟩
theorem sameAc_any (kind par M M' pc fin:Int) (obs:List Ob) (regs box:List Vl) (oa ra ba ob rb bb:Option Addr) (oc rc bc od rd bd:Nat) (w:World) (h1:ObsAt w oa obs) (h2:ValsAt w ra regs) (h3:ValsAt w ba box) (k1:ObsAt w ob obs) (k2:ValsAt w rb regs) (k3:ValsAt w bb box) (hr:16*regs.length≤140737488351232) (hb:16*box.length≤140737488351232) :
  Calls Tryz.prog 50 #[.agg #[.int .i64 kind,.int .i64 par,.int .i64 M,.slice oa obs.length oc,.slice ra regs.length rc,.int .i64 pc,.slice ba box.length bc,.int .i64 fin],.agg #[.int .i64 kind,.int .i64 par,.int .i64 M',.slice ob obs.length od,.slice rb regs.length rd,.int .i64 pc,.slice bb box.length bd,.int .i64 fin]] w fun e w'=>e=.returned (.bool true)∧Below w.heap.size w w':=by
 obtain ⟨N0,N1,kk,b1,s1⟩:=boxes2 w (.cells #[.int .i64 kind,.int .i64 par,.int .i64 M,.slice oa obs.length oc,.slice ra regs.length rc,.int .i64 pc,.slice ba box.length bc,.int .i64 fin] 42) (.cells #[.int .i64 kind,.int .i64 par,.int .i64 M',.slice ob obs.length od,.slice rb regs.length rd,.int .i64 pc,.slice bb box.length bd,.int .i64 fin] 42)
 have ho:=fun (w:World) (ha:ObsAt w oa obs) (hb:ObsAt w ob obs)=>equalObs_any oa ob oc od obs w ha hb
 have hre:=fun (w:World) (ha:ValsAt w ra regs) (hb:ValsAt w rb regs)=>equalVals_any ra rb rc rd regs w ha hb (by omega)
 have hbe:=fun (w:World) (ha:ValsAt w ba box) (hb:ValsAt w bb box)=>equalVals_any ba bb bc bd box w ha hb (by omega)
 have HV:Aside (∀ w',Keeps w w'→(ObsAt w' oa obs∧ObsAt w' ob obs)∧(ValsAt w' ra regs∧ValsAt w' rb regs)∧(ValsAt w' ba box∧ValsAt w' bb box)):=fun w' q=>⟨⟨h1.keeps q,k1.keeps q⟩,⟨h2.keeps q,k2.keeps q⟩,⟨h3.keeps q,k3.keeps q⟩⟩
 clear h1 h2 h3 k1 k2 k3
 generalize obs.length=L at *
 generalize regs.length=R at *
 generalize box.length=B at *
 go_enter Tryz.func50,Tryz.ntmps50
 go_upto_region 1 with fail
 generalize (w.alloc (.cells #[.int .i64 kind,.int .i64 par,.int .i64 M,.slice oa L oc,.slice ra R rc,.int .i64 pc,.slice ba B bc,.int .i64 fin] 42)).alloc (.cells #[.int .i64 kind,.int .i64 par,.int .i64 M',.slice ob L od,.slice rb R rd,.int .i64 pc,.slice bb B bd,.int .i64 fin] 42)=W at *
 have c0:=cell_blk N0 0
 have c1:=cell_blk N0 1
 have c3:=cell_blk N0 3
 have c4:=cell_blk N0 4
 have c5:=cell_blk N0 5
 have c6:=cell_blk N0 6
 have c7:=cell_blk N0 7
 have d0:=cell_blk N1 0
 have d1:=cell_blk N1 1
 have d3:=cell_blk N1 3
 have d4:=cell_blk N1 4
 have d5:=cell_blk N1 5
 have d6:=cell_blk N1 6
 have d7:=cell_blk N1 7
 simp at c0 c1 c3 c4 c5 c6 c7 d0 d1 d3 d4 d5 d6 d7
 have e0:(kind == kind)=true:=by simp
 have e1:(par == par)=true:=by simp
 have e2:(pc == pc)=true:=by simp
 have e3:(fin == fin)=true:=by simp
 have hV:=HV.out W kk
 clear HV
 go_wp2_with fail
 refine (hre W hV.2.1.1 hV.2.1.2).mono ?_
 rintro e w' ⟨rfl,n1,rfl⟩
 have hb1:=below_drewN b1 n1
 have kn1:=Keeps.drewN W n1
 replace c3:=kn1 _ _ c3
 replace c6:=kn1 _ _ c6
 replace d3:=kn1 _ _ d3
 replace d6:=kn1 _ _ d6
 have hB:=hbe (W.drewN n1) (hV.2.2.1.keeps kn1) (hV.2.2.2.keeps kn1)
 have hO:=fun n=>ho ((W.drewN n1).drewN n) ((hV.1.1.keeps kn1).keeps (Keeps.drewN _ n)) ((hV.1.2.keeps kn1).keeps (Keeps.drewN _ n))
 clear c0 c1 c4 c5 c7 d0 d1 d4 d5 d7 hV kn1 hre hbe ho
 generalize W.drewN n1=W1 at *
 go_wp2_with fail
 refine hB.mono ?_
 rintro e w' ⟨rfl,n2,rfl⟩
 have hO2:=hO n2
 have hb2:=below_drewN hb1 n2
 have kn2:=Keeps.drewN W1 n2
 replace c3:=kn2 _ _ c3
 replace d3:=kn2 _ _ d3
 clear hO hB c6 d6 kn2 hb1
 generalize W1.drewN n2=W2 at *
 go_wp2_with fail
 refine hO2.mono ?_
 rintro e w' ⟨rfl,hb'⟩
 have hB3:=hb2.trans (hb'.mono hb2.size)
 go_wp2
 go_ret
 exact ⟨rfl,hB3⟩
theorem equalActs_any (aa ab:Option Addr) (ca cb:Nat) (l:List Ac) (w:World) (ha:ActsAt w aa l) (hb:ActsAt w ab l) :
  Calls Tryz.prog 49 #[.slice aa l.length ca,.slice ab l.length cb,.func (.func 50) #[] #[]] w fun e w'=>e=.returned (.bool true)∧Below w.heap.size w w':=by
 have hl:=ha.many
 obtain ⟨L,hL⟩:∃ L,L=l.length:=⟨_,rfl⟩
 have HL:Aside (L=l.length):=hL
 rw [← hL] at hl ⊢
 clear hL
 go_enter Tryz.func49,Tryz.ntmps49
 go_wp2
 go_loopg [17,7,8,9] L (fun g s17 s7 s8 s9 wr=>∃ i:Nat,i≤L∧g=L - i∧s17=.int .i64 i∧Below w.heap.size w wr)
 case atStart=>exact ⟨0,Nat.zero_le _,rfl,rfl,Below.refl _ _⟩
 case round =>
  obtain ⟨i,hi,rfl,rfl,hbr⟩:=hrel
  by_cases hiL:i < L
  ·have hiz:(i:Int) < (L:Int):=by omega
   obtain ⟨⟨kind,par,M,obs,regs,pc,box,fin⟩,hx⟩:=at_some (l:=l) (i:=i) (by rw [← HL.out];exact hiL)
   obtain ⟨b1,o1,oa,oc,ra,rc,ba,bc,rfl,A1⟩:=(ha.keeps (Keeps.below hbr)).cell i _ hx
   obtain ⟨b2,o2,ob,od,rb,rd,bb,bd,rfl,A2⟩:=(hb.keeps (Keeps.below hbr)).cell i _ hx
   clear hx
   obtain ⟨x0,x1,x2,x3,x4,x5,x6,x7,xo,xr,xb,rl,bl⟩:=A1
   obtain ⟨y0,y1,y2,y3,y4,y5,y6,y7,yo,yr,yb,_,_⟩:=A2
   simp only at x0 x1 x2 x3 x4 x5 x6 x7 xo xr xb rl bl y0 y1 y2 y3 y4 y5 y6 y7 yo yr yb
   obtain ⟨N0,N1,k1,bW,s1⟩:=boxes2 wr (.cells #[.int .i64 kind,.int .i64 par,.int .i64 M,.slice oa obs.length oc,.slice ra regs.length rc,.int .i64 pc,.slice ba box.length bc,.int .i64 fin] 42) (.cells #[.int .i64 kind,.int .i64 par,.int .i64 M,.slice ob obs.length od,.slice rb regs.length rd,.int .i64 pc,.slice bb box.length bd,.int .i64 fin] 42)
   have ka:=Keeps.alloc wr (.cells #[.int .i64 kind,.int .i64 par,.int .i64 M,.slice oa obs.length oc,.slice ra regs.length rc,.int .i64 pc,.slice ba box.length bc,.int .i64 fin] 42)
   replace y0:=ka _ _ y0
   replace y1:=ka _ _ y1
   replace y2:=ka _ _ y2
   replace y3:=ka _ _ y3
   replace y4:=ka _ _ y4
   replace y5:=ka _ _ y5
   replace y6:=ka _ _ y6
   replace y7:=ka _ _ y7
   have hc:=sameAc_any kind par M M pc fin obs regs box oa ra ba ob rb bb oc rc bc od rd bd _ (xo.keeps k1) (xr.keeps k1) (xb.keeps k1) (yo.keeps k1) (yr.keeps k1) (yb.keeps k1) rl bl
   have hB2:=hbr.trans (bW.mono hbr.size)
   clear xo xr xb yo yr yb rl bl ka
   generalize obs.length=O at *
   generalize regs.length=R at *
   generalize box.length=B at *
   go_upto_region 7 with fail
   clear x0 x1 x2 x3 x4 x5 x6 x7 y0 y1 y2 y3 y4 y5 y6 y7
   generalize (wr.alloc (.cells #[.int .i64 kind,.int .i64 par,.int .i64 M,.slice oa O oc,.slice ra R rc,.int .i64 pc,.slice ba B bc,.int .i64 fin] 42)).alloc (.cells #[.int .i64 kind,.int .i64 par,.int .i64 M,.slice ob O od,.slice rb R rd,.int .i64 pc,.slice bb B bd,.int .i64 fin] 42)=W at *
   have c0:=cell_blk N0 0
   have c1:=cell_blk N0 1
   have c2:=cell_blk N0 2
   have c3:=cell_blk N0 3
   have c4:=cell_blk N0 4
   have c5:=cell_blk N0 5
   have c6:=cell_blk N0 6
   have c7:=cell_blk N0 7
   have d0:=cell_blk N1 0
   have d1:=cell_blk N1 1
   have d2:=cell_blk N1 2
   have d3:=cell_blk N1 3
   have d4:=cell_blk N1 4
   have d5:=cell_blk N1 5
   have d6:=cell_blk N1 6
   have d7:=cell_blk N1 7
   simp at c0 c1 c2 c3 c4 c5 c6 c7 d0 d1 d2 d3 d4 d5 d6 d7
   go_wp2_with fail
   refine hc.mono ?_
   rintro e w' ⟨rfl,hb'⟩
   have hB3:=hB2.trans (hb'.mono hB2.size)
   go_wp2
   go_roundg (L - (i+1))
   case measure=>go_light;omega
   case rel=>go_light;exact ⟨i+1,by omega,rfl,by go_num,hB3⟩
  ·have hiz:¬ (i:Int) < (L:Int):=by omega
   go_wp2
   go_ret
   exact ⟨rfl,hbr⟩
theorem same_any (aa ab pa pb:Option Addr) (ca cb da db:Nat) (V:Wd) (w:World) (ha:ActsAt w aa V.acts) (hb:ActsAt w ab V.acts) (hp:ToldAt w pa V.prints) (hq:ToldAt w pb V.prints) :
  Calls Tryz.prog 26 #[.agg #[.slice aa V.acts.length ca,.slice pa V.prints.length da],.agg #[.slice ab V.acts.length cb,.slice pb V.prints.length db]] w fun e w'=>e=.returned (.bool true)∧Below w.heap.size w w':=by
 obtain ⟨N0,N1,kk,b1,s1⟩:=boxes2 w (.cells #[.slice aa V.acts.length ca,.slice pa V.prints.length da] 29) (.cells #[.slice ab V.acts.length cb,.slice pb V.prints.length db] 29)
 have hT:=equalTold_any pa pb da db V.prints _ (hp.keeps kk) (hq.keeps kk)
 have hA:=fun (w:World) (ha:ActsAt w aa V.acts) (hb:ActsAt w ab V.acts)=>equalActs_any aa ab ca cb V.acts w ha hb
 have HV:Aside (∀ w',Keeps w w'→ActsAt w' aa V.acts∧ActsAt w' ab V.acts):=fun w' q=>⟨ha.keeps q,hb.keeps q⟩
 clear ha hb hp hq
 generalize V.acts.length=L at *
 generalize V.prints.length=K at *
 go_enter Tryz.func26,Tryz.ntmps26
 go_upto_region 1 with fail
 generalize (w.alloc (.cells #[.slice aa L ca,.slice pa K da] 29)).alloc (.cells #[.slice ab L cb,.slice pb K db] 29)=W at *
 have c0:=cell_blk N0 0
 have c1:=cell_blk N0 1
 have d0:=cell_blk N1 0
 have d1:=cell_blk N1 1
 simp at c0 c1 d0 d1
 go_wp2_with fail
 refine hT.mono ?_
 rintro e w' ⟨rfl,n,rfl⟩
 have kn:=Keeps.drewN W n
 have hbn:=below_drewN b1 n
 replace c0:=kn _ _ c0
 replace d0:=kn _ _ d0
 have hV:=HV.out _ (kk.trans kn)
 generalize W.drewN n=W1 at *
 go_wp2_with fail
 refine (hA W1 hV.1 hV.2).mono ?_
 rintro e w' ⟨rfl,hb'⟩
 have hB3:=hbn.trans (hb'.mono hbn.size)
 go_wp2
 go_ret
 exact ⟨rfl,hB3⟩
end
end Go.Proofs.YtddokajfafmhhaaGreatDoor
