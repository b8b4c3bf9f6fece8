/- HLaws3. -/
import Derived.Defers
import Derived.Test.YtepifccbbmdfcaaGreatDoorCBATell
namespace Go.Proofs.YtepifccbbmdfcaaGreatDoor
set_option maxRecDepth 100000
set_option maxHeartbeats 8000000
section
open Go.RowKit
section
variable {w:World} {base Bw:Nat} {V:Wd} {av pv:Value} {fl:List Fa} {rs:List (List (Value × Ob))} {j:Nat} {fa:Fa} {r:List (Value × Ob)} {x:Ac}
theorem WdOwn.less (h:WdOwn w base Bw V av pv fl rs) (hfa:fl[j]?=some fa) (hr:rs[j]?=some r) {g nn c:Nat} (hav:av=.slice (some ⟨g,0,none⟩) nn c) {k:Nat} (hk:k<8) {u:Value} {fb:Fa} {s:List (Value × Ob)} {y:Ac}
  (hf:fAc fb=(fAc fa).set k u) (hnew:AcOwn w base fb s y) (hnd:(acFoot fb s).Nodup) (hin:∀ b∈acFoot fb s,b∈acFoot fa r) :
  WdOwn (w.setCell ⟨g,j*8+k,none⟩ u) base Bw { V with acts:=V.acts.set j y } av pv (fl.set j fb) (rs.set j s)/\Moved w (w.setCell ⟨g,j*8+k,none⟩ u) (wdFoot Bw av pv fl rs) (wdFoot Bw av pv (fl.set j fb) (rs.set j s)):=by
 have hgw:g∈wdFoot Bw av pv fl rs:=List.mem_append_left _ (by simp[mem_vB,hav,Value.ownBlock]);refine⟨h.update1 hfa hr hav hk (fun _ _ _=>rfl) hf hnew hnd (fun b hb=>.inl (hin b hb)),rfl,rfl,rfl,by simp[World.setCell],fun b _ hb=>Deep.blk_setCell_other _ ⟨g,j*8+k,none⟩ _ _ (fun e=>hb (by have e':b=g:=e;rw[e'];exact hgw)),fun b hb=>?_⟩
 rcases wdFoot_set hb with h1 | h1
 ·exact .inl h1
 ·exact .inl (List.mem_append_right _ (mem_actsFoot hfa hr (hin b h1)))
theorem WdOwn.noBox (h:WdOwn w base Bw V av pv fl rs) (hfa:fl[j]?=some fa) (hr:rs[j]?=some r) (hx:V.acts[j]?=some x) {g nn c:Nat} (hav:av=.slice (some ⟨g,0,none⟩) nn c) :
  WdOwn (w.setCell ⟨g,j*8+6,none⟩ (.slice none 0 0)) base Bw { V with acts:=V.acts.set j { x with box:=[] } } av pv (fl.set j { fa with ba:=none,bn:=0,bc:=0 }) (rs.set j r)/\Moved w (w.setCell ⟨g,j*8+6,none⟩ (.slice none 0 0)) (wdFoot Bw av pv fl rs) (wdFoot Bw av pv (fl.set j { fa with ba:=none,bn:=0,bc:=0 }) (rs.set j r)):=by
 have hA:=h.each j fa r x hfa hr hx;have hn1:=List.nodup_append.1 (h.apart1 j fa r hfa hr).1;have hn2:=List.nodup_append.1 hn1.2.1;have e:acFoot { fa with ba:=none,bn:=0,bc:=0 } r=(vB (.slice fa.oa fa.on fa.oc)++rowsB r)++vB (.slice fa.ra fa.rn fa.rc):=by simp[acFoot,vB,Value.ownBlock]
 refine h.less hfa hr hav (by omega) rfl { hA with bn:=rfl,box:=World.ownsRow_nil _ _ _ _ } ?_ (fun b hb=>?_)
 ·rw[e]
  exact List.nodup_append.2 ⟨hn1.1,hn2.1,fun a ha b hb=>hn1.2.2 a ha b (List.mem_append_left _ hb)⟩
 ·rw[e] at hb
  rcases List.mem_append.1 hb with hb | hb
  ·exact List.mem_append_left _ hb
  ·exact List.mem_append_right _ (List.mem_append_left _ hb)
theorem WdOwn.noObs (h:WdOwn w base Bw V av pv fl rs) (hfa:fl[j]?=some fa) (hr:rs[j]?=some r) (hx:V.acts[j]?=some x) {g nn c:Nat} (hav:av=.slice (some ⟨g,0,none⟩) nn c) :
  WdOwn (w.setCell ⟨g,j*8+3,none⟩ (.slice none 0 0)) base Bw { V with acts:=V.acts.set j { x with obs:=[] } } av pv (fl.set j { fa with oa:=none,on:=0,oc:=0 }) (rs.set j [])/\Moved w (w.setCell ⟨g,j*8+3,none⟩ (.slice none 0 0)) (wdFoot Bw av pv fl rs) (wdFoot Bw av pv (fl.set j { fa with oa:=none,on:=0,oc:=0 }) (rs.set j [])):=by
 have hA:=h.each j fa r x hfa hr hx;have hn1:=List.nodup_append.1 (h.apart1 j fa r hfa hr).1;have e:acFoot { fa with oa:=none,on:=0,oc:=0 } []=vB (.slice fa.ra fa.rn fa.rc)++vB (.slice fa.ba fa.bn fa.bc):=by simp[acFoot,vB,Value.ownBlock,rowsB]
 refine h.less hfa hr hav (by omega) rfl { hA with on:=rfl,obs:=rfl,heap:=heapOwn_nil _ _ } ?_ (fun b hb=>?_)
 ·rw[e]
  exact hn1.2.1
 ·rw[e] at hb
  exact List.mem_append_right _ hb
theorem WdOwn.setPc (h:WdOwn w base Bw V av pv fl rs) (hx:V.acts[j]?=some x) {g nn c:Nat} (hav:av=.slice (some ⟨g,0,none⟩) nn c) (p:Int) :
  ∃ fl' rs',WdOwn (w.setCell ⟨g,j*8+5,none⟩ (.int .i64 p)) base Bw { V with acts:=V.acts.set j { x with pc:=p } } av pv fl' rs'/\Moved w (w.setCell ⟨g,j*8+5,none⟩ (.int .i64 p)) (wdFoot Bw av pv fl rs) (wdFoot Bw av pv fl' rs'):=by
 obtain⟨fa,r,hfa,hr,hA,_⟩:=h.cellsAt hav hx;exact⟨_,_,h.setNum hfa hr hav (k:=5) (by omega) (fb:={ fa with pc:=p }) rfl rfl { hA with pc:=rfl }⟩
theorem WdOwn.setFin (h:WdOwn w base Bw V av pv fl rs) (hx:V.acts[j]?=some x) {g nn c:Nat} (hav:av=.slice (some ⟨g,0,none⟩) nn c) (p:Int) :
  ∃ fl' rs',WdOwn (w.setCell ⟨g,j*8+7,none⟩ (.int .i64 p)) base Bw { V with acts:=V.acts.set j { x with fin:=p } } av pv fl' rs'/\Moved w (w.setCell ⟨g,j*8+7,none⟩ (.int .i64 p)) (wdFoot Bw av pv fl rs) (wdFoot Bw av pv fl' rs'):=by
 obtain⟨fa,r,hfa,hr,hA,_⟩:=h.cellsAt hav hx;exact⟨_,_,h.setNum hfa hr hav (k:=7) (by omega) (fb:={ fa with fin:=p }) rfl rfl { hA with fin:=rfl }⟩
theorem set_at {α:Type} {l:List α} {j:Nat} {a:α} (h:l[j]?=some a) (b:α):(l.set j b)[j]?=some b:=by
 rw[List.getElem?_set,if_pos rfl,if_pos (List.getElem?_eq_some_iff.1 h).1]
end
theorem none8 {l:List Vl} (h:l.length=8):l.take 0++List.replicate (7+1) nilV++l.drop (0+(7+1))=l.map (fun _=>nilV):=by
 match l,h with
 | [a,b,c,d,e,f,g,i],_=>rfl
theorem aend_any (who:Nat) (way:Int) (w:World) {base Bw:Nat} {V:Wd} {av pv:Value} {fl:List Fa} {rs:List (List (Value × Ob))} (h:WdOwn w base Bw V av pv fl rs) (hsh:Shp V) {x:Ac} (hx:V.acts[who]?=some x) :
  Calls Tryz.prog 77 #[.pointer (some ⟨Bw,0,none⟩),.int .i64 who,.int .i64 way] w fun e w'=>e=.returned (.tuple #[])/\∃ fl' rs',WdOwn w' base Bw (endS V who way) av pv fl' rs'/\Moved w w' (wdFoot Bw av pv fl rs) (wdFoot Bw av pv fl' rs'):=by
 obtain⟨fa,r,g,c,hfa,hr,hA,hav⟩:=h.at hx;obtain⟨h8,h6⟩:=hsh who x hx;have HAV:Aside (av=.slice (some ⟨g,0,none⟩) V.acts.length c):=hav;have hwl:=(List.getElem?_eq_some_iff.1 hx).1;have c0:=h.bw.1;rw[hav] at c0;have hwz:(who:Int)<(V.acts.length:Int):=by omega
 obtain⟨_,_,hfa',hr',_,_,k1,_,k3,k4,k5,k6,k7⟩:=h.cellsAt hav hx;rw[hfa] at hfa';rw[hr] at hr';simp only[Option.some.injEq] at hfa' hr';subst hfa' hr';rw[h8] at k4;have HE:Aside (endS V who way=tellS { V with acts:=V.acts.set who (endedS x way) } x.par who way):=by
  show endS V who way=_
  unfold endS
  rw[at_of hx]
  rfl
 generalize endS V who way=RE at *;obtain⟨R,fa2,r2,rc,hfa2,hr2,hR1,k4',_,_,_,_,hrc⟩:=h.regAt hav hx h8;rw[hfa] at hfa2;rw[hr] at hr2;simp only[Option.some.injEq] at hfa2 hr2;subst hfa2 hr2;subst hrc;clear k4';have hra:=hA.regs;rw[hA.rn,h8,hR1] at hra;rw[hR1] at k4;obtain⟨W1,hrun,hwr,hown⟩:=clear_own hra 0 7 fa.rc (by omega) 0;have hrun':(Builtin.clear_ #[48] 0 #[.slice (some ⟨R,0,none⟩) 8 fa.rc]).run Tryz.prog w=.ok (.tuple #[]) W1:=hrun
 rw[none8 h8] at hown;have hz1:=h.inRegs hfa hr hx (w':=W1) ⟨hwr.os,hwr.tape,hwr.output,hwr.size,fun b hb=>hwr.other b (by rw[mem_vB,hR1] at hb;simp[Value.ownBlock] at hb;simp;exact fun e=>hb e.symm)⟩ (by rw[hA.rn,h8,hR1];exact hown) (by simp);have x1:=set_at hx { x with regs:=x.regs.map (fun _=>nilV) };have hz2:=hz1.1.noBox hfa hr x1 hav;have x2:=set_at x1 { x with regs:=x.regs.map (fun _=>nilV),box:=[] }
 have hz3:=hz2.1.noObs (set_at hfa _) (set_at hr _) x2 hav;have x3:=set_at x2 { x with regs:=x.regs.map (fun _=>nilV),box:=[],obs:=[] };obtain⟨fl4,rs4,hz4,hm4⟩:=hz3.1.setPc x3 hav (-1);have x4:=set_at x3 { x with regs:=x.regs.map (fun _=>nilV),box:=[],obs:=[],pc:=-1 };obtain⟨fl5,rs5,hz5,hm5⟩:=hz4.setFin x4 hav way;have hM:=((((hz1.2.trans hz2.2).trans hz3.2).trans hm4).trans hm5);have hc1:=hz1.1.cellsAt hav x1
 have hf1:=hz1.1.fz hav;have hbw1:=hz1.1.bw.1;rw[hav] at hbw1;obtain⟨_,_,_,_,_,_,p1,_,p3,_,p5,p6,p7⟩:=hc1;clear hz1 hz2 hz3 hz4 hm4 x1 x2 x3 x4 hown hwr hra hrun;simp only[List.set_set] at hz5;generalize V.acts.length=VL at *;clear k1 k3 k5 k6 k7
 go_enter Tryz.func77,Tryz.ntmps77
 go_wp2_with fail
 refine(tell_any x.par who way _ hz5 (hsh.set (by simpa using h8) (by simp))).mono ?_;rintro e w' ⟨rfl,fl',rs',hW,hM'⟩;have HZ:Aside (∃ fl' rs',WdOwn w' base Bw RE av pv fl' rs'/\Moved w w' (wdFoot Bw av pv fl rs) (wdFoot Bw av pv fl' rs')):=by
  refine⟨fl',rs',?_,hM.trans hM'⟩;rw[HE.out];exact hW
 clear hW hM';go_wp2
 go_end0
 exact⟨rfl,HZ.out⟩
end
section
open Go.RowKit
theorem send1_any (P I:Nat) (q who:Nat) (w:World) {base Bw:Nat} {V:Wd} {av pv:Value} {fl:List Fa} {rs:List (List (Value × Ob))} (h:WdOwn w base Bw V av pv fl rs) {x:Ac} (hx:V.acts[who]?=some x) {g nn c:Nat} (hav:av=.slice (some ⟨g,0,none⟩) nn c) (h8:x.regs.length=8) (hq:q<8) (hP:w.cell? ⟨P,0,none⟩=some (.pointer (some ⟨g,who*8,none⟩))) (hI:w.cell? ⟨I,1,none⟩=some (.int .i64 q)) :
  CallsD Tryz.prog 154 #[.pointer (some ⟨P,0,none⟩),.pointer (some ⟨I,0,none⟩)] .returning w fun e u w'=>u=.returning/\(e=.returned (.tuple #[])/\∃ fl' rs',WdOwn w' base Bw { V with acts:=V.acts.set who (x.put q nilV) } av pv fl' rs'/\Moved w w' (wdFoot Bw av pv fl rs) (wdFoot Bw av pv fl' rs')):=by
 obtain⟨R,fa,r,rc,hfa,hr,hra,k4,kq,kf,hRl,_⟩:=h.regAt hav hx h8;obtain⟨v,hv⟩:=at_some (l:=x.regs) (i:=q) (by omega);obtain⟨q1,q2⟩:=kq q _ hv;have hqz:(q:Int)<8:=by omega
 have hS1:=fun w' (hb:Below w.heap.size w w')=>(h.below hb).setReg hfa hr hx hra (q:=q) (by omega) nilV
 have hM:=fun w' (hb:Below w.heap.size w w')=>(Moved.of_below (F:=wdFoot Bw av pv fl rs) hb).trans (hS1 w' hb).2
 have hSof:∀ w',Below w.heap.size w w'->(w'.cell? ⟨P,0,none⟩=some (.pointer (some ⟨g,who*8,none⟩))/\w'.cell? ⟨I,1,none⟩=some (.int .i64 q)/\w'.cell? ⟨g,who*8+4,none⟩=some (.slice (some ⟨R,0,none⟩) 8 rc)):=fun w' hb'=>⟨Keeps.below hb' _ _ hP,Keeps.below hb' _ _ hI,Keeps.below hb' _ _ k4⟩
 clear h kq
 go_enter_d Tryz.func154,Tryz.ntmps154
 go_upto_region 0 with fail
 have hBd:Below w.heap.size w w.drew:=(Below.refl _ _).drew;refine wp_region_need (fun j=>j != 8) (fun w'=>w'.cell? ⟨P,0,none⟩=some (.pointer (some ⟨g,who*8,none⟩))/\w'.cell? ⟨I,1,none⟩=some (.int .i64 q)/\w'.cell? ⟨g,who*8+4,none⟩=some (.slice (some ⟨R,0,none⟩) 8 rc)) (by kernel_rfl) (hSof _ hBd) (fun hS=>?_);generalize w.drew=wn at hS hBd ⊢;replace q1:=Keeps.below hBd _ _ q1;replace q2:=Keeps.below hBd _ _ q2
 have kf':∀ i,wn.frozen? ⟨R,i,none⟩=false:=fun i=>(hBd.frozen hRl).trans (kf i)
 refine tkN 0 hS ?_;refine tkN 1 hS ?_;refine tkN 2 hS ?_;refine tkN 3 hS ?_;refine tkN 4 hS ?_;refine tkN 5 hS ?_;refine tkN 6 hS ?_;refine tkN 7 hS ?_;refine stN 8 (fun K hK=>?_);go_simp;refine laN hK ?_;clear hK;have HZ:Aside (WdOwn ((wn.setCell ⟨R,q*2,none⟩ (.int .i64 0)).setCell ⟨R,q*2+1,none⟩ (.int .i64 0)) base Bw { V with acts:=V.acts.set who (x.put q nilV) } av pv fl rs/\Moved w ((wn.setCell ⟨R,q*2,none⟩ (.int .i64 0)).setCell ⟨R,q*2+1,none⟩ (.int .i64 0)) (wdFoot Bw av pv fl rs) (wdFoot Bw av pv fl rs)):=⟨(hS1 wn hBd).1,hM wn hBd⟩
 go_wp2
 go_end0
 exact⟨rfl,_,_,HZ.out.1,HZ.out.2⟩
end
section
open Go.RowKit Go.Maps
theorem transferable_any (M:Int) (ao:Option Addr) (cap:Nat) (l:List Ob) (k n:Int) (M':Int) (ao':Option Addr) (cap':Nat) (l':List Ob) (w:World) (h:ObsAt w ao l) (h':ObsAt w ao' l') :
  Calls Tryz.prog 162 #[.agg #[.int .i64 M,.slice ao l.length cap],.agg #[.int .i64 k,.int .i64 n],.agg #[.int .i64 M',.slice ao' l'.length cap']] w fun e w' =>
   ∃ ov oc,e=.returned (.tuple #[.slice ov (trS M l ⟨k,n⟩ M' l').1.length oc,.int .i64 (trS M l ⟨k,n⟩ M' l').2])/\Below w.heap.size w w'/\IntsOwn w' w.heap.size (.slice ov (trS M l ⟨k,n⟩ M' l').1.length oc) (trS M l ⟨k,n⟩ M' l').1:=by
 have hE:∀ wy,Keeps w wy->ObsAt wy ao l/\ObsAt wy ao' l':=fun wy hk=>⟨h.keeps hk,h'.keeps hk⟩
 have hone:Aside (∀ wy:World,ValsAt (wy.alloc (.cells #[.int .i64 k,.int .i64 n] 66)) (some ⟨wy.heap.size,0,none⟩) [⟨k,n⟩]):=fun wy=>vals_one wy k n _
 clear h h'
 go_enter Tryz.func162,Tryz.ntmps162
 go_upto_region 1 with fail
 have HB:=boxes3 w (Obj.cells #[.int .i64 M,.slice ao l.length cap] 47) (Obj.cells #[.int .i64 k,.int .i64 n] 66) (Obj.cells #[.int .i64 M',.slice ao' l'.length cap'] 47);obtain⟨N0,N1,N2,k1,b1,hs'⟩:=HB;generalize ((w.alloc (Obj.cells #[.int .i64 M,.slice ao l.length cap] 47)).alloc (Obj.cells #[.int .i64 k,.int .i64 n] 66)).alloc (Obj.cells #[.int .i64 M',.slice ao' l'.length cap'] 47)=W at *;have hs:w.heap.size+1+1+1<=W.heap.size:=Nat.le_of_eq hs'.symm
 clear hs';have c0:=cell_blk N0 0;have c1:=cell_blk N0 1;have c2:=cell_blk N1 0;have c3:=cell_blk N1 1;simp at c0 c1 c2 c3
 go_wp2_with fail
 obtain⟨-,ka,ba,-⟩:=boxes1 W (Obj.cells #[.int .i64 k,.int .i64 n] 66);have hv1:=hone.out W;generalize W.alloc (Obj.cells #[.int .i64 k,.int .i64 n] 66)=Wa at *;refine(check_any M ao cap l _ 1 [⟨k,n⟩] Wa (hE _ (k1.trans ka)).1 hv1 (by simp)).mono ?_;rintro e w1 ⟨rfl,hb1⟩;have bb:Below W.heap.size W w1:=ba.trans (hb1.mono ba.size);replace N0:=(bb.block _ (by omega)).trans N0;replace N1:=(bb.block _ (by omega)).trans N1
 replace N2:=(bb.block _ (by omega)).trans N2;replace k1:=k1.trans (Keeps.below bb);replace b1:=b1.trans (bb.mono b1.size);replace hs:w.heap.size+1+1+1<=w1.heap.size:=by have:=bb.size;omega
 have hv2:=fun wy=>hone.out wy
 clear hb1 ka ba hv1 bb c0 c1 c2 c3 hone;have c0:=cell_blk N0 0;have c1:=cell_blk N0 1;have c2:=cell_blk N1 0;have c3:=cell_blk N1 1;have c4:=cell_blk N2 0;have c5:=cell_blk N2 1;simp at c0 c1 c2 c3 c4 c5
 cases hA:hMay M l [⟨k,n⟩] with
 | false =>
  have HS:Aside (trS M l ⟨k,n⟩ M' l'=([],8)):=by show trS _ _ _ _ _=_;simp[trS,hA]
  rw[erS_false];go_wp2
  go_ret2
  rw[HS.out];exact⟨none,0,rfl,b1,World.ownsRow_nil _ _ _ _⟩
 | true =>
  rw[erS_true];have hck:=check_any M' ao' cap' l' none 0 [] w1 (hE _ k1).2 (fun i v hi=>by simp at hi) (by simp)
  go_wp2_with fail
  refine hck.mono ?_;clear hck;rintro e w2 ⟨rfl,hb2⟩;replace N0:=(hb2.block _ (by omega)).trans N0;replace N2:=(hb2.block _ (by omega)).trans N2;replace k1:=k1.trans (Keeps.below hb2);replace b1:=b1.trans (hb2.mono b1.size);replace hs:w.heap.size+1+1+1<=w2.heap.size:=by have:=hb2.size;omega
  replace c0:=Keeps.below hb2 _ _ c0;replace c1:=Keeps.below hb2 _ _ c1;replace c2:=Keeps.below hb2 _ _ c2;replace c3:=Keeps.below hb2 _ _ c3;replace c4:=Keeps.below hb2 _ _ c4;replace c5:=Keeps.below hb2 _ _ c5;clear hb2 N1
  cases hB:hMay M' l' [] with
  | false =>
   have HS:Aside (trS M l ⟨k,n⟩ M' l'=([],8)):=by show trS _ _ _ _ _=_;simp[trS,hB]
   rw[erS_false];go_wp2
   go_ret2
   rw[HS.out];exact⟨none,0,rfl,b1,World.ownsRow_nil _ _ _ _⟩
  | true =>
   rw[erS_true];have hl60:=hMay_bound hA;have hl60':=hMay_bound hB;have hM60:=mMay_of hB;have hok:=reach_ok hA [⟨k,n⟩] (hMay_roots' hA);have hol:=hok.len;obtain⟨-,ka,ba,-⟩:=boxes1 w2 (Obj.cells #[.int .i64 k,.int .i64 n] 66);have hv1:=hv2 w2
   go_upto_region 4 with(go_at_call 69;refine(reached_any M ao cap l _ 1 [⟨k,n⟩] _ (hE _ (k1.trans ka)).1 hv1 (by simp) hA).mono ?_;rintro e w3 ⟨ov,oc,rfl,hb3,hI⟩;have bb:Below w2.heap.size w2 w3:=ba.trans (hb3.mono ba.size);have kb:=Keeps.below bb;replace c1:=kb _ _ c1;replace c4:=kb _ _ c4;replace c5:=kb _ _ c5)
   have hI3:IntsOwn w3 w.heap.size _ _:=ownsRow_le hI (by have:=ba.size;omega);have hA3:=hI.at;have hob:=(hE _ (k1.trans kb)).1;replace b1:=b1.trans (bb.mono b1.size);clear hb3 kb bb hv1 ka ba hv2 c0 c2 c3 N0 N2 hI;obtain⟨rr,hrr⟩:∃ rr,rr=reach l [⟨k,n⟩]:=⟨_,rfl⟩;have HRR:Aside (rr=reach l [⟨k,n⟩]):=hrr;rw[<- hrr] at hI3 hA3 hok hol ⊢;have HT:Aside (trS M l ⟨k,n⟩ M' l'=if rr.any (fun p=>(obAt l p).dead)=true then ([],10) else if M' < ((l'.length+rr.length:Nat):Int) then ([],7) else (rr,0)):=by
    show trS _ _ _ _ _=_
    rw[trS,hA,hB,<- hrr]
    rfl
   clear hrr;obtain⟨R,hR⟩:∃ R,R=rr.length:=⟨_,rfl⟩;have HR:Aside (R=rr.length):=hR;rw[<- hR] at hI3 hol ⊢;clear hR;go_wp2
   go_loopg [27,10] R (fun g s27 s10 wr=>∃ i:Nat,i<=R/\g=R-i/\s27=.int .i64 i/\wr=w3/\Aside (∀ p∈rr.take i,(obAt l p).dead=false))
   case atStart=>exact⟨0,Nat.zero_le _,rfl,rfl,rfl,fun p hp=>by simp at hp⟩
   case round =>
    obtain⟨i,hi,rfl,rfl,rfl,hD⟩:=hrel
    by_cases hiR:i<R
    ·have hiz:(i:Int)<(R:Int):=by omega
     obtain⟨p,hp⟩:=at_some (l:=rr) (i:=i) (by rw[<- HR.out];exact hiR);have hpm:=List.mem_of_getElem? hp;have hpb:=hok.2 p hpm;obtain⟨q,rfl⟩:=Int.eq_ofNat_of_zero_le hpb.1;have hqz:(q:Int)<(l.length:Int):=hpb.2;obtain⟨⟨fs,dead⟩,hx⟩:=at_some (l:=l) (i:=q) (by omega);have hd:Aside ((obAt l (q:Int)).dead=dead):=by show(obAt l (q:Int)).dead=dead;simp[obAt,hx]
     have HTK:Aside (rr.take (i+1)=rr.take i++[(q:Int)]):=by show rr.take (i+1)=_;rw[List.take_add_one,hp];rfl
     obtain⟨b,o,fa,fc,rfl,d1,d2,_,_⟩:=hob.cell q _ hx;obtain⟨ib,io,rfl,d3⟩:=hA3 i _ hp;simp only at d1 d2;have HPM:Aside ((q:Int)∈rr):=hpm;clear hp hx hpm
     cases dead with
     | true =>
      have HS:Aside (trS M l ⟨k,n⟩ M' l'=([],10)):=by
       show trS _ _ _ _ _=_
       rw[HT.out,if_pos (List.any_eq_true.2 ⟨_,HPM.out,hd.out⟩)]
      go_wp2
      go_ret2
      rw[HS.out];exact⟨none,0,rfl,b1,World.ownsRow_nil _ _ _ _⟩
     | false =>
      go_wp2
      go_roundg (R-(i+1))
      case measure=>go_light;omega
      case rel=>go_light;exact⟨i+1,by omega,rfl,by go_num,rfl,fun p hp=>by rw[HTK.out] at hp;rcases List.mem_append.1 hp with hp | hp;exact hD.out p hp;simp at hp;rw[hp];exact hd.out⟩
    ·have hnone:Aside (rr.any (fun p=>(obAt l p).dead)=false):=by
      show rr.any _=false
      rw[List.any_eq_false];intro p hp;have:=hD.out p (by rw[List.take_of_length_le (by rw[<- HR.out];omega)];exact hp);simp[this]
     by_cases hroom:M' < ((l'.length+R:Nat):Int)
     ·have HS:Aside (trS M l ⟨k,n⟩ M' l'=([],7)):=by
       show trS _ _ _ _ _=_
       rw[HT.out,hnone.out,<- HR.out];simp;omega
      have hz:M' < (l'.length:Int)+(R:Int):=by omega
      go_wp2
      go_ret2
      rw[HS.out];exact⟨none,0,rfl,b1,World.ownsRow_nil _ _ _ _⟩
     ·have HS:Aside (trS M l ⟨k,n⟩ M' l'=(rr,0)):=by
       show trS _ _ _ _ _=_
       rw[HT.out,hnone.out,<- HR.out];simp;omega
      have hz:decide (M' < (l'.length:Int)+(R:Int))=false:=by simp;omega
      go_wp2
      go_ret2
      rw[HS.out];refine⟨ov,oc,by rw[HR.out];rfl,b1,?_⟩;rw[<- HR.out];exact hI3
end
section
open Go.RowKit Go.Maps
def buryR (rows:List (Value × Ob)) (ps:List Int):List (Value × Ob):=ps.foldl (fun r p=>r.set p.toNat (Value.slice none 0 0,(⟨[],true⟩:Ob))) rows
theorem buryR_length (rows:List (Value × Ob)):∀ ps:List Int,(buryR rows ps).length=rows.length:=by
 intro ps
 induction ps generalizing rows with
 | nil=>rfl
 | cons p r ih=>show(buryR _ r).length=_;rw[ih];simp
theorem buryR_obs (rows:List (Value × Ob)):∀ ps:List Int,(buryR rows ps).map (·.2)=buryL (rows.map (·.2)) ps:=by
 intro ps
 induction ps generalizing rows with
 | nil=>rfl
 | cons p r ih=>show(buryR _ r).map _=buryL _ r;rw[ih,List.map_set]
theorem buryR_snoc (rows:List (Value × Ob)) (ps:List Int) (p:Int):buryR rows (ps++[p])=(buryR rows ps).set p.toNat (.slice none 0 0,⟨[],true⟩):=by simp[buryR,List.foldl_append]
theorem grownBy_trans {a b c:World} {r:Option Nat} (h:a.grownBy b r) (k:b.grownBy c r):a.grownBy c r :=
 ⟨k.os.trans h.os,k.tape.trans h.tape,k.output.trans h.output,Nat.le_trans h.size k.size,fun j hj hn=>(k.block j (Nat.lt_of_lt_of_le hj h.size) hn).trans (h.block j hj hn)⟩
theorem grownBy_below {a b:World} (r:Option Nat) (h:Below a.heap.size a b):a.grownBy b r:=⟨h.os,h.tape,h.output,h.size,fun j hj _=>h.block j hj⟩
theorem grownBy_set (w:World) (g j:Nat) (u:Value):w.grownBy (w.setCell ⟨g,j,none⟩ u) (some g) :=
 ⟨rfl,rfl,rfl,by simp[World.setCell],fun k _ hk=>Below.heap_setCell _ _ _ _ (fun e=>hk (by rw[e]))⟩
theorem bury_any (M:Int) (g n cap base b2:Nat) (rows:List (Value × Ob)) (oa:Option Addr) (oc:Nat) (ps:List Int) (w:World) (hO:HeapOwn w base (.slice (some ⟨g,0,none⟩) n cap) rows) (hn:rows.length=n) (hI:IntsOwn w b2 (.slice oa ps.length oc) ps) (hok:Ok n ps) (hn60:n<=60) :
  Calls Tryz.prog 163 #[.agg #[.int .i64 M,.slice (some ⟨g,0,none⟩) n cap],.slice oa ps.length oc] w fun e w' =>
   e=.returned (.tuple #[])/\HeapOwn w' base (.slice (some ⟨g,0,none⟩) n cap) (buryR rows ps)/\w.grownBy w' (some g):=by
 have hlen:=hok.len;obtain⟨P,hP⟩:∃ P,P=ps.length:=⟨_,rfl⟩;have HP:Aside (P=ps.length):=hP;rw[<- hP] at hI hlen ⊢;clear hP;have HOK:Aside (Ok n ps):=hok;have HN:Aside (rows.length=n):=hn;clear hok hn;have N0:=Deep.blk_alloc_new w (Obj.cells #[.int .i64 M,.slice (some ⟨g,0,none⟩) n cap] 47);have hG0:w.grownBy (w.alloc (Obj.cells #[.int .i64 M,.slice (some ⟨g,0,none⟩) n cap] 47)) (some g):=grownBy_below _ (below_box _ _)
 have hO0:=hO.alloc (Obj.cells #[.int .i64 M,.slice (some ⟨g,0,none⟩) n cap] 47);have hI0:=World.ownsRow.alloc hI (Obj.cells #[.int .i64 M,.slice (some ⟨g,0,none⟩) n cap] 47);have hgw:=(World.ownsRow.lt hO.top g rfl).2;clear hO hI
 go_enter Tryz.func163,Tryz.ntmps163
 go_upto_region 1 with fail
 generalize w.alloc (Obj.cells #[.int .i64 M,.slice (some ⟨g,0,none⟩) n cap] 47)=W at *;go_wp2
 go_loopg [8,5] P (fun gg s8 s5 wr=>∃ i:Nat,i<=P/\gg=P-i/\s8=.int .i64 i/\HeapOwn wr base (.slice (some ⟨g,0,none⟩) n cap) (buryR rows (ps.take i))/\IntsOwn wr b2 (.slice oa P oc) ps/\w.grownBy wr (some g)/\wr.heap[w.heap.size]?=some (.cells #[.int .i64 M,.slice (some ⟨g,0,none⟩) n cap] 47 (0,0)))
 case atStart=>exact⟨0,Nat.zero_le _,rfl,rfl,hO0,hI0,hG0,N0⟩
 case round =>
  obtain⟨i,hi,rfl,rfl,hO,hI,hG,hN⟩:=hrel;clear hO0 hI0 hG0 N0
  by_cases hiP:i<P
  ·have hiz:(i:Int)<(P:Int):=by omega
   obtain⟨p,hp⟩:=at_some (l:=ps) (i:=i) (by rw[<- HP.out];exact hiP);have hpb:=HOK.out.2 p (List.mem_of_getElem? hp);obtain⟨q,rfl⟩:=Int.eq_ofNat_of_zero_le hpb.1;have hqz:(q:Int)<(n:Int):=hpb.2;have HTK:Aside (ps.take (i+1)=ps.take i++[(q:Int)]):=by show ps.take (i+1)=_;rw[List.take_add_one,hp];rfl
   obtain⟨ib,io,rfl,d3⟩:=IntsOwn.at hI i _ hp;have c1:=cell_blk hN 1;simp at c1;have hlt:q<(buryR rows (ps.take i)).length:=by rw[buryR_length,HN.out];omega
   obtain⟨⟨rv,ob⟩,hrow⟩:=at_some hlt;have e0:=ownsRow_cell hO.top rfl (j:=q*2) (u:=rv) (by simp[obCells,pairs_fst,hrow,obPair]);have e1:=ownsRow_cell hO.top rfl (j:=q*2+1) (u:=.bool ob.dead) (by simp[obCells,pairs_snd,hrow,obPair]);have e2:∀ j,wr.frozen? ⟨g,j,none⟩=false:=fun j=>ownsRow_frozen hO.top rfl j
   have hO2:=hO.store hlt (.slice none 0 0) ⟨[],true⟩ (World.ownsRow_nil _ _ _ _) (by simp) (fun j q _ _=>Or.inl rfl);have hne:(Value.slice (some ⟨ib,io,none⟩) P oc).ownBlock=none\/(Value.slice (some ⟨ib,io,none⟩) P oc).ownBlock≠some g:=owns_other hI hO.top (by decide);have hI2:=ownsRow_set_other (ownsRow_set_other hI hne (q*2) (.slice none 0 0)) hne (q*2+1) (.bool true);have hG2:=grownBy_trans (grownBy_trans hG (grownBy_set wr g (q*2) (.slice none 0 0))) (grownBy_set _ g (q*2+1) (.bool true))
   have hgn:w.heap.size≠g:=by omega
   have hN2:=((Deep.blk_setCell_other (wr.setCell ⟨g,q*2,none⟩ (.slice none 0 0)) ⟨g,q*2+1,none⟩ (.bool true) w.heap.size hgn).trans (Deep.blk_setCell_other wr ⟨g,q*2,none⟩ (.slice none 0 0) w.heap.size hgn)).trans hN;have HR:Aside ((buryR rows (ps.take i)).set q (Value.slice none 0 0,(⟨[],true⟩:Ob))=buryR rows (ps.take (i+1))):=by show _=_;rw[HTK.out,buryR_snoc];simp
   rw[HR.out] at hO2;have HALL:Aside (HeapOwn ((wr.setCell ⟨g,q*2,none⟩ (.slice none 0 0)).setCell ⟨g,q*2+1,none⟩ (.bool true)) base (.slice (some ⟨g,0,none⟩) n cap) (buryR rows (ps.take (i+1)))/\IntsOwn ((wr.setCell ⟨g,q*2,none⟩ (.slice none 0 0)).setCell ⟨g,q*2+1,none⟩ (.bool true)) b2 (.slice (some ⟨ib,io,none⟩) P oc) ps/\w.grownBy ((wr.setCell ⟨g,q*2,none⟩ (.slice none 0 0)).setCell ⟨g,q*2+1,none⟩ (.bool true)) (some g)/\((wr.setCell ⟨g,q*2,none⟩ (.slice none 0 0)).setCell ⟨g,q*2+1,none⟩ (.bool true)).heap[w.heap.size]?=some (.cells #[.int .i64 M,.slice (some ⟨g,0,none⟩) n cap] 47 (0,0))):=⟨hO2,hI2,hG2,hN2⟩
   clear hO2 hI2 hG2 hN2 hO hI hG hp hrow hN;go_wp2
   go_roundg (P-(i+1))
   case measure=>go_light;omega
   case rel=>go_light;exact⟨i+1,by omega,rfl,by go_num,HALL.out.1,HALL.out.2.1,HALL.out.2.2.1,HALL.out.2.2.2⟩
  ·have HT:Aside (ps.take i=ps):=by show ps.take i=ps;rw[List.take_of_length_le];rw[<- HP.out];omega
   rw[HT.out] at hO;go_wp2
   go_end0
   exact⟨rfl,hO,hG⟩
end
section
open Go.RowKit
theorem obCells_one {w:World} {base:Nat} {v:Value} {rows:List (Value × Ob)} (h:HeapOwn w base v rows):∀ u∈obCells rows,u.oneCell'=true:=by
 refine pairs_one (fun p hp=>?_);obtain⟨q,hq,rfl⟩:=List.mem_map.1 hp;obtain⟨i,hi⟩:=List.getElem?_of_mem hq;obtain⟨fa,fc,hf⟩:=(h.row i q hi).1.form;refine⟨?_,rfl⟩
 show q.1.oneCell'=true
 rw[hf]
 rfl
theorem obCells_append (a b:List (Value × Ob)):obCells (a++b)=obCells a++obCells b:=by simp[obCells,pairs_append]
theorem HeapOwn.cat {w w':World} {base base2:Nat} {v v2 nv:Value} {rows rows2:List (Value × Ob)} (h:HeapOwn w base v rows) (h2:HeapOwn w base2 v2 rows2) (hb:base<=base2)
  (hap:∀ (i j:Nat) p q,rows[i]?=some p->rows2[j]?=some q->p.1.ownBlock=none\/p.1.ownBlock≠q.1.ownBlock) (hm:32*(rows.length+rows2.length)<=140737488351232)
  (htop:w'.ownsRow base 92 2 nv (rows.length+rows2.length) (obCells rows++obCells rows2)) (hg:w.grownBy w' v.ownBlock):HeapOwn w' base nv (rows++rows2):=by
 have part:∀ (j:Nat) p,(rows++rows2)[j]?=some p->(rows[j]?=some p/\j<rows.length)\/(rows2[j-rows.length]?=some p/\rows.length<=j):=fun j p hp=>by
  rw[List.getElem?_append] at hp
  split at hp
  ·rename_i hlt;exact Or.inl ⟨hp,hlt⟩
  ·rename_i hlt;exact Or.inr ⟨hp,by omega⟩
 refine⟨?_,fun j p hp=>?_,fun j k p q hp hq hjk=>?_,by rw[List.length_append];omega⟩
 ·rw[obCells_append,List.length_append]
  exact htop
 ·rcases part j p hp with⟨hp,_⟩ | ⟨hp,_⟩
  ·exact⟨(h.row j p hp).1.kept hg (owns_other (h.row j p hp).1 h.top tne),(h.row j p hp).2⟩
  ·exact⟨ownsRow_le ((h2.row _ p hp).1.kept hg (owns_other (h2.row _ p hp).1 h.top tne)) hb,(h2.row _ p hp).2⟩
 ·rcases part j p hp with⟨hp,hj⟩ | ⟨hp,hj⟩
  ·rcases part k q hq with⟨hq,hk⟩ | ⟨hq,hk⟩
   ·exact h.apart j k p q hp hq hjk
   ·exact hap _ _ p q hp hq
  ·rcases part k q hq with⟨hq,hk⟩ | ⟨hq,hk⟩
   ·rcases hap _ _ q p hq hp with hn | hn
    ·by_cases hpn:p.1.ownBlock=none
     ·exact Or.inl hpn
     ·exact Or.inr (fun e=>hpn (by rw[e];exact hn))
    ·exact Or.inr (fun e=>hn e.symm)
   ·exact h2.apart _ _ p q hp hq (by omega)
theorem step_catObs {w:World} {base base2:Nat} {v:Value} {rows rows2:List (Value × Ob)} {ops:Array Oper} {o:Oper} {a:Act} {K:Act->World->Prop} {Q:Exit->Act->World->Prop} {E:Prop} (hgd:o.guard=none) (s x:Operand)
  (ho:o.op=.call { callee:=.builtin .append,args:=#[s,x],argTypes:=#[45,45] }) (hs:a.eval s=v) (h:HeapOwn w base v rows) (hbw:base<=w.heap.size)
  (g2 n2 c2:Nat) (hn2:n2=rows2.length) (h2:HeapOwn w base2 (.slice (some ⟨g2,0,none⟩) n2 c2) rows2) (hb:base<=base2) (hx:a.eval x=.slice (some ⟨g2,0,none⟩) n2 c2)
  (hap:∀ (i j:Nat) p q,rows[i]?=some p->rows2[j]?=some q->p.1.ownBlock=none\/p.1.ownBlock≠q.1.ownBlock) (hm:32*(rows.length+rows2.length)<=140737488351232)
  (hK:∀ va cap w',HeapOwn w' base (.slice va (rows.length+n2) cap) (rows++rows2)->w.grownBy w' v.ownBlock->((Value.slice va (rows.length+n2) cap).ownBlock=v.ownBlock\/∃ g,(Value.slice va (rows.length+n2) cap).ownBlock=some g/\w.heap.size<=g)->K (a.put o.dst (.slice va (rows.length+n2) cap)) w') :
  if Region.wanted o (yielded ops a.tmps)=true then Oper.wp Tryz.prog o a w K Q else E:=by
 subst hn2;obtain⟨i0,hi0,hzz⟩:=Option.map_eq_some_iff.1 Tryz.infoO;simp only[Prod.mk.injEq] at hzz;obtain⟨hz0,hz1,hz2⟩:=hzz
 by_cases hpos:0<rows2.length
 ·have hsrc:∀ j u,(obCells rows2)[j]?=some u->w.cell? ((⟨g2,0,none⟩:Addr).add j)=some u:=fun j u hu=>h2.top.cells rfl j u hu
  refine step_append_lies _ hgd s x 45 ho base 92 i0 (.agg #[.slice none 0 0,.bool false]) 2 32 Tryz.underlying45 hi0 hz0 hz1 hz2 rfl (by decide) v rows.length (obCells rows) hs h.top ⟨g2,0,none⟩ rows2.length c2 (obCells rows2) hx (obCells_length _) hsrc (obCells_one h2) hpos (by unfold maxLen;omega) (by omega) hbw w.heap.size rfl ?_;intro g cap w' h1 hg h3 _;refine hK _ _ _ (HeapOwn.cat h h2 hb hap hm h1 hg) hg ?_
  rcases h3 with h3 | h3
  ·exact Or.inl h3.symm
  ·exact Or.inr ⟨g,rfl,by omega⟩
 ·have he:rows2=[]:=List.eq_nil_of_length_eq_zero (by omega)
  subst he;obtain⟨va,vc,rfl⟩:=h.form;refine step_append_zero hgd s x ho Tryz.underlying45 hi0 hs h.top _ c2 hx (hK va vc w ?_ ⟨rfl,rfl,rfl,Nat.le_refl _,fun _ _ _=>rfl⟩ (Or.inl rfl));rw[List.append_nil];exact h
theorem HeapOwn.other {w w':World} {base g:Nat} {v:Value} {rows:List (Value × Ob)} (h:HeapOwn w base v rows) (hg:w.grownBy w' (some g)) (hv:v.ownBlock≠some g) {c:Array Value} (hgo:w.heap[g]?=some (.cells c 92 (0,0))):HeapOwn w' base v rows :=
 ⟨h.top.kept hg (Or.inr hv),fun i p hp=>⟨(h.row i p hp).1.kept hg (by
  rcases (h.row i p hp).1.2 with⟨e,_⟩ | ⟨g',cap,cur,e,_,hgg,_⟩
  ·rw[e];exact Or.inl rfl
  ·rw[e]
   refine Or.inr (fun e1=>?_);simp only[Value.ownBlock,Option.some.injEq] at e1;subst e1;rw[hgo] at hgg;simp only[Option.some.injEq,Obj.cells.injEq] at hgg;exact tne hgg.2.1.symm),(h.row i p hp).2⟩,h.apart,h.many⟩
theorem HeapOwn.blk {w:World} {base g n cap:Nat} {rows:List (Value × Ob)} (h:HeapOwn w base (.slice (some ⟨g,0,none⟩) n cap) rows):∃ c,w.heap[g]?=some (.cells c 92 (0,0)):=by
 rcases h.top.2 with⟨e,_⟩ | ⟨g',cap',cur,e,_,hg,_⟩
 ·simp at e
 ·simp only[Value.slice.injEq,Option.some.injEq,Addr.mk.injEq,and_true] at e
  obtain⟨rfl,_,_⟩:=e;exact⟨cur,hg⟩
end
end Go.Proofs.YtepifccbbmdfcaaGreatDoor
