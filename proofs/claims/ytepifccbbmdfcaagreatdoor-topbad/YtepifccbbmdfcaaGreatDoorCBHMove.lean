/- HMove. -/
import Derived.Maps.Own
import Derived.Maps.OwnOps
import Derived.Maps.OwnSet
import Derived.Test.YtepifccbbmdfcaaGreatDoorCBAGet
namespace Go.Proofs.YtepifccbbmdfcaaGreatDoor
set_option maxRecDepth 100000
set_option maxHeartbeats 8000000
section
open Go.RowKit Go.Maps
theorem Tryz.infoN:(Tryz.prog.info? 3).map (fun i=>(i.zero,i.size,i.bytes))=some (some (.int .i64 0),1,8):=by kernel_rfl
theorem Tryz.zeroN (w:World):(zeroValue 3).run Tryz.prog w=.ok (.int .i64 0) w:=by kernel_rfl
theorem keysN:Keyed Tryz.prog 3:=int_keyed Tryz.underlying3
def IntsOwn (w:World) (base:Nat) (v:Value) (l:List Int):Prop:=w.ownsRow base 3 1 v l.length (l.map (Value.int .i64))
structure RState (w:World) (R O m B:Nat) (order:List Int):Prop where
 rbox:w.heap[R]?=some (.cells #[.map (some m)] 64 (0,0))
 own:∃ ov oc,w.heap[O]?=some (.cells #[.slice ov order.length oc] 22 (0,0))/\IntsOwn w B (.slice ov order.length oc) order
 map:∃ D:DataW Unit,w.ownsMap Tryz.prog 3 (plainElem Tryz.prog 3) m order.length D/\∀ z,Maps.has D (.int .i64 z)=decide (z∈order)
 low:B<=R/\B<=O/\B<=m/\B<=w.heap.size
theorem map_not_cells {w:World} {m n:Nat} {D:DataW Unit} {P:Program} {k:TypeId} {Rr:Value->Option (DataW Unit × List MemPlace)} (h:w.ownsMap P k Rr m n D) {g:Nat} {c:Array Value} {t:TypeId} {fr:Nat × Nat} (hg:w.heap[g]?=some (.cells c t fr)):g≠m:=by
 obtain⟨es,clock,hb,_⟩:=h;intro e;subst e;rw[hg] at hb;simp at hb
theorem map_ne_row {w:World} {m n:Nat} {D:DataW Unit} {P:Program} {k:TypeId} {Rr:Value->Option (DataW Unit × List MemPlace)} (h:w.ownsMap P k Rr m n D) {base:Nat} {e:TypeId} {size n':Nat} {v:Value} {xs:List Value} (hv:w.ownsRow base e size v n' xs):v.ownBlock=none\/v.ownBlock≠some m:=by
 rcases hv.2 with⟨rfl,_⟩ | ⟨g,cap,cur,rfl,_,hg,_⟩
 ·exact Or.inl rfl
 ·refine Or.inr (fun e=>?_)
  simp only[Value.ownBlock,Option.some.injEq] at e;exact map_not_cells h hg e
theorem RState.below {w w':World} {R O m B:Nat} {order:List Int} (h:RState w R O m B order) (hb:Below w.heap.size w w'):RState w' R O m B order:=by
 obtain⟨ov,oc,ho,hi⟩:=h.own;obtain⟨D,hD,hh⟩:=h.map;exact⟨(hb.block _ (Array.getElem?_eq_some_iff.1 h.rbox).1).trans h.rbox,⟨ov,oc,(hb.block _ (Array.getElem?_eq_some_iff.1 ho).1).trans ho,ownsRow_below hi hb⟩,
  ⟨D,hD.kept (row:=none) ⟨hb.os,hb.tape,hb.output,hb.size,fun k hk _=>hb.block k hk⟩ (by simp),hh⟩,h.low.1,h.low.2.1,h.low.2.2.1,Nat.le_trans h.low.2.2.2 hb.size⟩
theorem wpList_pushInt {w:World} {base:Nat} {v:Value} {l:List Int} {ops:Array Oper} {rest:List Oper} {o:Oper} {a:Act} {Q:Exit->Act->World->Prop} (hgd:o.guard=none) (s x:Operand)
  (ho:o.op=.call { callee:=.builtin .append,args:=#[s,x],argTypes:=#[22,22] }) (hs:a.eval s=v) (hO:IntsOwn w base v l) (hb:base<=w.heap.size)
  (n:Int) (hx:a.eval x=.slice (some ⟨w.heap.size,0,none⟩) 1 1) (hl:8*l.length+8<=140737488355328)
  (h:∀ g cap w',IntsOwn w' base (.slice (some ⟨g,0,none⟩) (l.length+1) cap) (l++[n])->(w.alloc (.cells #[.int .i64 n] 3)).grownBy w' v.ownBlock->Below base w w'->wpList Tryz.prog ops Q rest (a.put o.dst (.slice (some ⟨g,0,none⟩) (l.length+1) cap)) w') :
  wpList Tryz.prog ops Q (o :: rest) a (w.alloc (.cells #[.int .i64 n] 3)):=by
 obtain⟨i0,hi0,hzz⟩:=Option.map_eq_some_iff.1 Tryz.infoN;simp only[Prod.mk.injEq] at hzz;obtain⟨hz0,hz1,hz2⟩:=hzz;refine wpList_append_lies _ hgd s x 22 ho base 3 i0 (.int .i64 0) 1 8 Tryz.underlying22 hi0 hz0 hz1 hz2 rfl (by decide) v l.length (l.map (Value.int .i64)) hs (World.ownsRow.alloc hO _) ⟨w.heap.size,0,none⟩ 1 1 [.int .i64 n] hx rfl (cell_one_new _ _ _) ?_ (by decide) (by unfold maxLen;omega) (by omega) (by simp;omega) (w.heap.size+1) (by simp) ?_
 ·intro u hu
  simp at hu;subst hu
  rfl
 ·intro g cap w' h1 h2 _ _
  refine h g cap w' ?_ h2 ((below_box_base hb _).trans ((Below.refl _ _).grown h2 (by simp;omega) (fun j hj=>(World.ownsRow.lt hO j hj).1)))
  unfold IntsOwn
  simpa using h1
theorem RState.push {w w1 w2:World} {R O m B:Nat} {order:List Int} {ov:Option Addr} {oc g gc:Nat} {D:DataW Unit} {n:Int} {d:DataW Unit} (h:RState w R O m B order)
  (ho:w.heap[O]?=some (.cells #[.slice ov order.length oc] 22 (0,0))) (hi:IntsOwn w B (.slice ov order.length oc) order)
  (hD:w.ownsMap Tryz.prog 3 (plainElem Tryz.prog 3) m order.length D) (hh:∀ z,Maps.has D (.int .i64 z)=decide (z∈order))
  (hD1:w1.ownsMap Tryz.prog 3 (plainElem Tryz.prog 3) m (order.length+1) (D.put (.int .i64 n) d)) (hg1:w.grownBy w1 (some m))
  (hi2:IntsOwn w2 B (.slice (some ⟨g,0,none⟩) (order.length+1) gc) (order++[n])) (hg2:(w1.alloc (.cells #[.int .i64 n] 3)).grownBy w2 (Value.slice ov order.length oc).ownBlock) :
  RState (w2.setCell ⟨O,0,none⟩ (.slice (some ⟨g,0,none⟩) (order.length+1) gc)) R O m B (order++[n])/\Below B w (w2.setCell ⟨O,0,none⟩ (.slice (some ⟨g,0,none⟩) (order.length+1) gc)):=by
 have hlow:=h.low;have hOlt:=(Array.getElem?_eq_some_iff.1 ho).1;have hRlt:=(Array.getElem?_eq_some_iff.1 h.rbox).1;have hRm:=map_not_cells hD h.rbox;have hOm:=map_not_cells hD ho;have R1:w1.heap[R]?=_:=(hg1.block R hRlt (by simp[hRm])).trans h.rbox;have O1:w1.heap[O]?=_:=(hg1.block O hOlt (by simp[hOm])).trans ho;have hi1:IntsOwn w1 B (.slice ov order.length oc) order:=hi.kept hg1 (map_ne_row hD hi)
 have hs1:=hg1.size;have hia:=World.ownsRow.alloc hi1 (.cells #[.int .i64 n] 3);have R2:w2.heap[R]?=some (.cells #[.map (some m)] 64 (0,0)):=owns_blk hia hg2 ((Deep.blk_alloc_lt _ _ _ (by omega)).trans R1) (by decide);have O2:w2.heap[O]?=some (.cells #[.slice ov order.length oc] 22 (0,0)):=owns_blk hia hg2 ((Deep.blk_alloc_lt _ _ _ (by omega)).trans O1) (by decide);have hD2:=(hD1.alloc (.cells #[.int .i64 n] 3)).kept hg2 (by
  rcases map_ne_row hD1 hi1 with hn | hn
  ·rw[hn];simp
  ·exact Ne.symm hn)
 have hRO:R≠O:=fun e=>by
  have:=h.rbox;rw[e,ho] at this
  simp at this
 have hB1:Below B w w1:=(Below.refl _ _).grown hg1 hlow.2.2.2 (fun k hk=>by cases hk;exact hlow.2.2.1);have hB2:Below B w w2:=(hB1.alloc (by omega) _).grown hg2 (by simp;omega) (fun k hk=>(World.ownsRow.lt hi k hk).1);refine⟨⟨?_,⟨some ⟨g,0,none⟩,gc,?_,?_⟩,⟨D.put (.int .i64 n) d,?_,fun z=>?_⟩,hlow.1,hlow.2.1,hlow.2.2.1,?_⟩,hB2.setCell hlow.2.1 _⟩
 ·rw[Deep.blk_setCell_other _ _ _ _ hRO]
  exact R2
 ·rw[setCell_blk O2 0 _]
  simp
 ·have e:(order++[n]).length=order.length+1:=by simp
  rw[e];refine ownsRow_set_other hi2 ?_ _ _;refine Or.inr (fun e1=>?_);simp only[Value.ownBlock,Option.some.injEq] at e1;subst e1;obtain⟨g',cap',cur,e2,_,hgg,_⟩:=(hi2.2).resolve_left (fun x=>by simp at x);simp only[Value.slice.injEq,Option.some.injEq,Addr.mk.injEq,and_true] at e2;obtain⟨rfl,_,_⟩:=e2;rw[O2] at hgg;simp only[Option.some.injEq,Obj.cells.injEq] at hgg;exact absurd hgg.2.1 (by decide)
 ·rw[show(order++[n]).length=order.length+1 by simp]
  exact hD2.setCell (Ne.symm (map_not_cells hD2 O2)) _
 ·by_cases hz:z=n
  ·subst hz
   rw[has_put_same hD.isMap (by simp[WideAt.IsKeyLit])];simp
  ·rw[has_put_other (by simp[hz]),hh z]
   simp[hz]
 ·simp only[World.setCell,Array.size_modify]
  exact Nat.le_trans hlow.2.2.2 hB2.size
theorem wf64 {n:Int} (h1:-9223372036854775808<=n) (h2:n<=9223372036854775807):(Lit.int .i64 n).wf=true:=WalkArith.wf_i64 ⟨h1,h2⟩
theorem visit_any (k n:Int) (L:Int) (R O m B:Nat) (order:List Int) (w:World) (hst:RState w R O m B order) (hv:vMay L ⟨k,n⟩=true) (hL:L<=60) (hol:order.length<=60) :
  Calls Tryz.prog 104 #[.agg #[.int .i64 k,.int .i64 n],.pointer (some ⟨R,0,none⟩),.pointer (some ⟨O,0,none⟩)] w fun e w'=>e=.returned (.tuple #[])/\RState w' R O m B (visit order ⟨k,n⟩)/\Below B w w':=by
 by_cases hk:k=2
 ·subst hk
  have hn0:0<=n:=by simp[vMay] at hv;omega
  have hn1:n<60:=by simp[vMay] at hv;omega
  clear hv;have hV:Aside (visit order ⟨2,n⟩=if n∈order then order else order++[n]):=rfl;have ha:=hst.below (below_box w (Obj.cells #[.int .i64 2,.int .i64 n] 66));have hlow:=hst.low;obtain⟨ov,oc,ho,hi⟩:=ha.own;obtain⟨D,hD,hh⟩:=ha.map;have c0:=cell_blk ha.rbox 0;have c1:=cell_blk ho 0;simp at c0 c1;have hO0:=fz_blk ho 0;have hkey:=keyOf_int_mk (P:=Tryz.prog) (k:=3) (q:=.i64) (a:=n) Tryz.underlying3 (wf64 (by omega) (by omega))
  by_cases hin:n∈order
  ·have hhas:Maps.has D (.int .i64 n)=true:=by rw[hh];simp[hin]
   go_enter Tryz.func104,Tryz.ntmps104
   go_wp2_with (at_lookup;refine wpList_lookup_own_ok_int _ rfl _ _ 64 rfl 3 3 .i64 keysN Tryz.underlying64 Tryz.underlying3 (Tryz.zeroN _) m order.length D rfl hD _ _ rfl hkey ?_;intro c hat hwc;rw[hhas])
   first
    | go_end0
    | (refine bodyPost_ret (v:=.tuple #[]) (by simp[results,Tryz.results104]) rfl ?_)
   refine⟨rfl,?_,below_box_base hlow.2.2.2 _⟩;rw[hV.out,if_pos hin];exact ha
  ·have hhas:Maps.has D (.int .i64 n)=false:=by rw[hh];simp[hin]
   go_enter Tryz.func104,Tryz.ntmps104
   have hs0:B<=(w.alloc (Obj.cells #[.int .i64 2,.int .i64 n] 66)).heap.size:=by simp;omega
   go_wp2_with (first
    | (at_lookup;refine wpList_lookup_own_ok_int _ rfl _ _ 64 rfl 3 3 .i64 keysN Tryz.underlying64 Tryz.underlying3 (Tryz.zeroN _) m order.length D rfl hD _ _ rfl hkey ?_;intro c hat hwc;rw[hhas])
    | (at_mapUpdate;refine wpList_mapUpdate_own _ rfl _ _ _ 64 rfl 3 3 keysN Tryz.underlying64 _ m order.length D rfl hD ?m1 _ _ _ rfl rfl hkey _ [] (plainElem_int Tryz.underlying3 (wf64 ?m2 ?m3)) ?_;(case m1=>unfold maxLen;omega);(case m2=>omega);(case m3=>omega);intro w1 hD1 hg1;have O1:=(hg1.block O (Array.getElem?_eq_some_iff.1 ho).1 (by simp[map_not_cells hD ho])).trans ho;have hi1:=hi.kept hg1 (map_ne_row hD hi);have c1':=cell_blk O1 0;simp at c1';have V1:=(hg1.block w.heap.size (by simp) (by simp[map_not_cells hD (Deep.blk_alloc_new w _)])).trans (Deep.blk_alloc_new w _);have v1':=cell_blk V1 1;simp at v1';have hs1:B<=w1.heap.size:=Nat.le_trans hs0 hg1.size)
    | (at_builtin;refine wpList_pushInt rfl _ _ (by rfl) (v:=.slice ov order.length oc) (by rfl) hi1 hs1 n (by rfl) ?b1 ?_;(case b1=>omega);intro g gc w2 hi2 hg2 hb2;have O2:=owns_blk (World.ownsRow.alloc hi1 (.cells #[.int .i64 n] 3)) hg2 ((Deep.blk_alloc_lt _ _ _ (Array.getElem?_eq_some_iff.1 O1).1).trans O1) (by decide);have c2:=cell_blk O2 0;have f2:=fz_blk O2 0;simp at c2)
    | fail)
   first
    | go_end0
    | (refine bodyPost_ret (v:=.tuple #[]) (by simp[results,Tryz.results104]) rfl ?_)
   obtain⟨h1,h2⟩:=ha.push ho hi hD hh hD1 hg1 hi2 hg2;refine⟨rfl,?_,(below_box_base hlow.2.2.2 _).trans h2⟩;rw[hV.out,if_neg hin];exact h1
 ·have hV:visit order ⟨k,n⟩=order:=by simp[visit,hk]
  have hkb:(k != 2)=true:=by simp[hk]
  rw[hV];have hlow:=hst.low
  go_enter Tryz.func104,Tryz.ntmps104
  go_wp2
  first
   | go_end0
   | (refine bodyPost_ret (v:=.tuple #[]) (by simp[results,Tryz.results104]) rfl ?_)
  exact⟨rfl,hst.below (below_box _ _),(below_box_base hlow.2.2.2 _)⟩
end
section
open Go.RowKit Go.Maps
theorem each_visit (ra:Option Addr) (rc:Nat) (vs:List Vl) (L:Nat) (R O m B:Nat) (order:List Int) (w:World) (hst:RState w R O m B order) (hok:Ok L order) (hvs:∀ w',Below B w w'->ValsAt w' ra vs) (hvl:16*vs.length<=140737488351232) (hv:vs.all (vMay L)=true) (hL:L<=60) :
  Calls Tryz.prog 105 #[.slice ra vs.length rc,.func (.func 104) #[] #[.pointer (some ⟨R,0,none⟩),.pointer (some ⟨O,0,none⟩)]] w fun e w'=>e=.returned (.tuple #[])/\RState w' R O m B (visits order vs)/\Below B w w':=by
 obtain⟨V,hV⟩:∃ V,V=vs.length:=⟨_,rfl⟩;have HV:Aside (V=vs.length):=hV;rw[<- hV] at hvl ⊢;clear hV
 go_enter Tryz.func105,Tryz.ntmps105
 go_wp2
 go_loopg [8,5] V (fun g s8 s5 wr=>∃ i:Nat,i<=V/\g=V-i/\s8=.int .i64 i/\RState wr R O m B (visits order (vs.take i))/\Below B w wr/\Aside (Ok L (visits order (vs.take i))))
 case atStart=>exact⟨0,Nat.zero_le _,rfl,rfl,hst,Below.refl _ _,hok⟩
 case round =>
  obtain⟨i,hi,rfl,rfl,hr,hb,hoi⟩:=hrel;clear hst hok
  by_cases hiV:i<V
  ·have hiz:(i:Int)<(V:Int):=by omega
   obtain⟨⟨k,n⟩,hx⟩:=at_some (l:=vs) (i:=i) (by rw[<- HV.out];exact hiV);have HT:Aside (visits order (vs.take (i+1))=visit (visits order (vs.take i)) ⟨k,n⟩):=by show visits order (vs.take (i+1))=_;rw[List.take_add_one,hx];exact visits_snoc _ _ _
   have hvm:vMay L ⟨k,n⟩=true:=List.all_eq_true.1 hv _ (List.mem_of_getElem? hx);obtain⟨b,o,rfl,c1,c2⟩:=hvs wr hb i _ hx;simp only at c1 c2;have hlow:=hr.low;have hol:Aside ((visits order (vs.take i)).length<=60):=Nat.le_trans hoi.out.len hL;clear hx
   go_wp2_with fail
   refine(visit_any k n L R O m B _ _ (hr.below (below_box _ _)) hvm (by omega) hol.out).mono ?_;rintro e w1 ⟨rfl,hr1,hb1⟩;have hb2:=(hb.alloc hlow.2.2.2 _).trans hb1;rw[<- HT.out] at hr1;have hoi2:Aside (Ok L (visits order (vs.take (i+1)))):=by show Ok L _;rw[HT.out];exact hoi.out.visit hvm
   clear hr hb hb1 c1 c2 hoi;go_wp2
   go_roundg (V-(i+1))
   case measure=>go_light;omega
   case rel=>go_light;exact⟨i+1,by omega,rfl,by go_num,hr1,hb2,hoi2⟩
  ·have HT:Aside (vs.take i=vs):=by show vs.take i=vs;rw[List.take_of_length_le];rw[<- HV.out];omega
   go_wp2
   first
    | go_end0
    | (refine bodyPost_ret (v:=.tuple #[]) (by simp[results,Tryz.results105]) rfl ?_)
   rw[HT.out] at hr;exact⟨rfl,hr,hb⟩
theorem hMay_bound {M:Int} {l:List Ob} {r:List Vl} (h:hMay M l r=true):l.length<=60:=by
 simp only[hMay,mMay,Bool.and_eq_true,decide_eq_true_eq] at h;omega
theorem reached_any (M:Int) (ao:Option Addr) (cap:Nat) (l:List Ob) (ra:Option Addr) (rc:Nat) (roots:List Vl) (w:World) (h:ObsAt w ao l) (hr:ValsAt w ra roots) (hrl:16*roots.length<=140737488351232) (hmay:hMay M l roots=true) :
  Calls Tryz.prog 69 #[.agg #[.int .i64 M,.slice ao l.length cap],.slice ra roots.length rc] w fun e w'=>∃ ov oc,e=.returned (.slice ov (reach l roots).length oc)/\Below w.heap.size w w'/\IntsOwn w' w.heap.size (.slice ov (reach l roots).length oc) (reach l roots):=by
 have hl60:=hMay_bound hmay;have hrv:roots.all (vMay l.length)=true:=by simp only[hMay,Bool.and_eq_true] at hmay;exact hmay.2
 have HM:Aside (hMay M l roots=true):=hmay;clear hmay;obtain⟨L,hL⟩:∃ L,L=l.length:=⟨_,rfl⟩;have HL:Aside (L=l.length):=hL;rw[<- hL] at hl60 hrv ⊢;clear hL;obtain⟨rr,hrr⟩:∃ rr,rr=reach l roots:=⟨_,rfl⟩;have HR:Aside (rr=reach l roots):=hrr;rw[<- hrr];clear hrr;have hmm:=@run_makeMap Tryz.prog
 go_enter Tryz.func69,Tryz.ntmps69
 go_wp2_with fail
 have HB:=boxes4 w (Obj.cells #[.int .i64 M,.slice ao L cap] 47) (Obj.cells #[.slice none 0 0] 22) (Obj.map #[] 0) (Obj.cells #[.map (some (w.heap.size+1+1))] 64);have hDm:(((w.alloc (Obj.cells #[.int .i64 M,.slice ao L cap] 47)).alloc (Obj.cells #[.slice none 0 0] 22)).alloc (Obj.map #[] 0)).ownsMap Tryz.prog 3 (plainElem (H:=Unit) Tryz.prog 3) (w.heap.size+1+1) 0 (.map []):=by
  have:=World.ownsMap_made (H:=Unit) ((w.alloc (Obj.cells #[.int .i64 M,.slice ao L cap] 47)).alloc (Obj.cells #[.slice none 0 0] 22)) Tryz.prog 3 (plainElem Tryz.prog 3)
  simpa using this
 have hDm2:=hDm.alloc (Obj.cells #[.map (some (w.heap.size+1+1))] 64);clear hDm hmm;generalize (((w.alloc (Obj.cells #[.int .i64 M,.slice ao L cap] 47)).alloc (Obj.cells #[.slice none 0 0] 22)).alloc (Obj.map #[] 0)).alloc (Obj.cells #[.map (some (w.heap.size+1+1))] 64)=W at *;obtain⟨N0,N1,_N2,N3,k1,b1,hs⟩:=HB;have hst:RState W (w.heap.size+1+1+1) (w.heap.size+1) (w.heap.size+1+1) (w.heap.size+1) [] :=
  ⟨N3,⟨none,0,N1,World.ownsRow_nil _ _ _ _⟩,⟨.map [],hDm2,fun z=>rfl⟩,by omega,by omega,by omega,by omega⟩
 have hlow:∀ (i:Nat) v,roots[i]?=some v->∃ b o,ra=some ⟨b,o,none⟩/\b<w.heap.size+1:=fun i v hi=>by
  obtain⟨b,o,e,hb⟩:=hr.low i v hi;exact⟨b,o,e,by omega⟩
 refine(each_visit ra rc roots L _ _ _ _ [] W hst (Ok.nil _) (fun w' hb'=>(hr.keeps k1).keepLow hlow hb') hrl hrv hl60).mono ?_;rintro e w1 ⟨rfl,hs1,hb1⟩;have hk0:Aside (Ok L (visits [] roots)):=(Ok.nil L).visits hrv;have hg0:Aside (rr=bfs l (L+1-0) 0 (visits [] roots)):=by show rr=_;rw[HR.out,HL.out];rfl
 have hW:Below w.heap.size w w1:=b1.trans (hb1.mono (by omega));have NW:Aside (W.heap[w.heap.size]?=some (.cells #[.int .i64 M,.slice ao L cap] 47 (0,0))):=N0;clear hst N0 N1 _N2 N3 hDm2 hlow;go_wp2
 go_loopg [8] (L+1) (fun g s8 wr=>∃ (i:Nat) (order:List Int),i<=order.length/\g=L+1-i/\s8=.int .i64 i/\RState wr (w.heap.size+1+1+1) (w.heap.size+1) (w.heap.size+1+1) (w.heap.size+1) order/\Below (w.heap.size+1) W wr/\Aside (Ok L order)/\Aside (rr=bfs l (L+1-i) i order))
 case atStart=>exact⟨0,_,Nat.zero_le _,rfl,rfl,hs1,hb1,hk0.out,hg0.out⟩
 case round =>
  obtain⟨i,order,hi,rfl,rfl,hr2,hb2,hok,hA⟩:=hrel;clear hs1 hb1 hk0 hg0 hW;obtain⟨ov,oc,ho,hio⟩:=hr2.own;have hoL:=hok.out.len;have hc0:=cell_blk ho 0;simp at hc0;have hN:=(hb2.block _ (by omega:w.heap.size<w.heap.size+1)).trans ((show W.heap[w.heap.size]?=some (.cells #[.int .i64 M,.slice ao L cap] 47 (0,0)) from NW.out));have hc1:=cell_blk hN 1;simp at hc1
  by_cases hiO:i<order.length
  ·have hiz:(i:Int)<(order.length:Int):=by omega
   obtain⟨p,hp⟩:=at_some hiO;have hpb:=hok.out.2 p (List.mem_of_getElem? hp);obtain⟨q,rfl⟩:=Int.eq_ofNat_of_zero_le hpb.1;have hq:q<L:=by omega
   have hqz:(q:Int)<(L:Int):=by omega
   obtain⟨⟨fs,dead⟩,hx⟩:=at_some (l:=l) (i:=q) (by rw[<- HL.out];exact hq);have HF:Aside (fieldsOf l (q:Int)=fs):=by show fieldsOf l (q:Int)=fs;simp[fieldsOf,hx]
   have HN:Aside (rr=bfs l (L+1-(i+1)) (i+1) (visits order fs)):=by
    show rr=_
    rw[hA.out,bfs_step l hp (by omega),HF.out]
    rfl
   have hfm:fs.all (vMay L)=true:=by rw[<- HF.out,HL.out];exact fields_may HM.out _
   obtain⟨b,o,fa,fc,rfl,c1,c2,hfs,hfl⟩:=h.cell q _ hx;simp only at c1 c2 hfs hfl;have hblt:=World.block_lt_of_cell? _ _ c1;simp only at hblt;have d1:=(hb2.cell (p:=⟨b,o+q*2,none⟩) (by show b<_;omega)).trans (k1 _ _ c1);obtain⟨g,hov⟩:∃ g,ov=some ⟨g,0,none⟩:=by
    rcases ownsRow_form hio with⟨_,hn⟩ | ⟨g,gc,hg',_⟩
    ·omega
    ·simp only[Value.slice.injEq] at hg'
     exact⟨g,hg'.1⟩
   subst hov;have d2:wr.cell? ⟨g,i,none⟩=some (.int .i64 q):=ownsRow_cell hio rfl (by simp[hp]);have hlowf:∀ (i:Nat) v,fs[i]?=some v->∃ b o,fa=some ⟨b,o,none⟩/\b<w.heap.size+1:=fun i v hi=>by
    obtain⟨b,o,e,hb⟩:=hfs.low i v hi;exact⟨b,o,e,by omega⟩
   have hfsW:=(hfs.keeps k1).keepLow hlowf hb2;have HFS:Aside (∀ w',Below (w.heap.size+1) wr w'->ValsAt w' fa fs):=fun w' hb'=>hfsW.keepLow hlowf hb'
   clear hA hp hx c1 c2 hfs hfsW hlowf ho hN
   go_wp2_with fail
   refine wp_region_need (fun j=>j != 10) (fun w'=>w'.cell? ⟨w.heap.size,1,none⟩=some (.slice (some ⟨b,o,none⟩) L cap)/\w'.cell? ⟨w.heap.size+1,0,none⟩=some (.slice (some ⟨g,0,none⟩) order.length oc)/\w'.cell? ⟨g,i,none⟩=some (.int .i64 q)/\w'.cell? ⟨b,o+q*2,none⟩=some (.slice fa fs.length fc)) (by kernel_rfl) ⟨hc1,hc0,d2,d1⟩ (fun hS=>?_);refine tkN 0 hS ?_;refine tkN 1 hS ?_;refine tkN 2 hS ?_;refine tkN 3 hS ?_
   refine tkN 4 hS ?_;refine tkN 5 hS ?_;refine tkN 6 hS ?_;refine tkN 7 hS ?_;refine tkN 8 hS ?_;refine tkN 9 hS ?_;refine stN 10 (fun K hK=>?_);go_simp;refine(each_visit fa fc fs L _ _ _ _ order wr.drew (hr2.below (Below.refl _ _).drew) hok.out (fun w' hb'=>HFS.out w' (((Below.refl _ _).drew).trans hb')) hfl hfm hl60).mono ?_;rintro e w2 ⟨rfl,hr3,hb3⟩;refine hK.out _ _ (fun h=>absurd h (by decide)) ?_
   clear hK;refine dnN ?_;have hb4:Below (w.heap.size+1) W w2:=hb2.trans (((Below.refl _ _).drew).trans hb3);have hok2:Aside (Ok L (visits order fs)):=hok.out.visits hfm;have hil:Aside (i+1<=(visits order fs).length):=Nat.le_trans hiO (visits_len _ _);clear hS hc0 hc1 d1 d2 hr2 hb2 hb3 HFS hio hok;go_wp2
   go_roundg (L+1-(i+1))
   case measure=>go_light;omega
   case rel=>go_light;exact⟨i+1,_,hil.out,rfl,by go_num,hr3,hb4,hok2,HN⟩
  ·obtain rfl:i=order.length:=by omega
   have HN:Aside (rr=order):=by show rr=order;rw[hA.out,bfs_end]
   have hbW:Below w.heap.size w wr:=b1.trans (hb2.mono (by omega));clear hA;go_wp2
   go_ret
   exact⟨ov,oc,by rw[HN.out];rfl,hbW,by rw[HN.out];exact ownsRow_le hio (by omega)⟩
def reachS (M:Int) (l:List Ob) (roots:List Vl):List Int × Int:=if hMay M l roots=true then (reach l roots,0) else ([],8)
theorem reach_any (M:Int) (ao:Option Addr) (cap:Nat) (l:List Ob) (ra:Option Addr) (rc:Nat) (roots:List Vl) (w:World) (h:ObsAt w ao l) (hr:ValsAt w ra roots) (hrl:16*roots.length<=140737488351232) :
  Calls Tryz.prog 43 #[.agg #[.int .i64 M,.slice ao l.length cap],.slice ra roots.length rc] w fun e w'=>∃ ov oc,e=.returned (.tuple #[.slice ov (reachS M l roots).1.length oc,.int .i64 (reachS M l roots).2])/\Below w.heap.size w w'/\IntsOwn w' w.heap.size (.slice ov (reachS M l roots).1.length oc) (reachS M l roots).1:=by
 cases hq:hMay M l roots with
 | false =>
  have hS:reachS M l roots=([],8):=by simp[reachS,hq]
  rw[hS]
  go_enter Tryz.func43,Tryz.ntmps43
  go_wp2_with fail
  refine(check_any M ao cap l ra rc roots _ (h.keeps (Keeps.alloc _ _)) (hr.keeps (Keeps.alloc _ _)) hrl).mono ?_;rintro e w1 ⟨rfl,hb⟩;rw[hq];simp only[erS_false];have b1:=(below_box w _).trans (hb.mono (by simp));clear hb;go_wp2
  go_ret2
  exact⟨none,0,rfl,b1,World.ownsRow_nil _ _ _ _⟩
 | true =>
  have hS:reachS M l roots=(reach l roots,0):=by simp[reachS,hq]
  rw[hS];clear hS
  go_enter Tryz.func43,Tryz.ntmps43
  go_wp2_with fail
  have N0:=Deep.blk_alloc_new w (Obj.cells #[.int .i64 M,.slice ao l.length cap] 47);have k0:=Keeps.alloc w (Obj.cells #[.int .i64 M,.slice ao l.length cap] 47);refine(check_any M ao cap l ra rc roots _ (h.keeps k0) (hr.keeps k0) hrl).mono ?_;rintro e w1 ⟨rfl,hb⟩;rw[hq];simp only[erS_true];have b1:=(below_box w (Obj.cells #[.int .i64 M,.slice ao l.length cap] 47)).trans (hb.mono (by simp));have M0:=(hb.block w.heap.size (by simp)).trans N0
  have hs1:w.heap.size+1<=w1.heap.size:=by have:=hb.size;simp at this;omega
  have p0:=cell_blk M0 0;have p1:=cell_blk M0 1;simp at p0 p1;have k1:=k0.trans (Keeps.below hb);clear hb N0 k0
  go_wp2_with fail
  refine(reached_any M ao cap l ra rc roots _ (h.keeps k1) (hr.keeps k1) hrl hq).mono ?_;rintro e w2 ⟨ov,oc,rfl,hb2,hI⟩;have b2:=b1.trans (hb2.mono (by omega));have hI2:=ownsRow_le hI (show w.heap.size<=w1.heap.size by omega);clear hb2 hI p0 p1;go_wp2
  go_ret2
  exact⟨ov,oc,rfl,b2,hI2⟩
end
section
open Go.RowKit Go.Maps
def IntsAt (w:World) (ao:Option Addr) (l:List Int):Prop:=∀ (i:Nat) z,l[i]?=some z->∃ b o,ao=some ⟨b,o,none⟩/\w.cell? ⟨b,o+i,none⟩=some (.int .i64 z)
theorem IntsAt.keeps {w w':World} {ao:Option Addr} {l:List Int} (h:IntsAt w ao l) (k:Keeps w w'):IntsAt w' ao l:=fun i z hi=>by
 obtain⟨b,o,e,h1⟩:=h i z hi;exact⟨b,o,e,k _ _ h1⟩
theorem IntsOwn.at {w:World} {base:Nat} {ao:Option Addr} {n c:Nat} {l:List Int} (h:IntsOwn w base (.slice ao n c) l):IntsAt w ao l:=fun i z hi=>by
 rcases ownsRow_form h with⟨_,hn⟩ | ⟨g,cap,hv,_⟩
 ·have:l=[]:=List.eq_nil_of_length_eq_zero hn
  subst this
  simp at hi
 ·simp only[Value.slice.injEq] at hv
  obtain⟨rfl,rfl,rfl⟩:=hv;exact⟨g,0,rfl,by rw[Nat.zero_add];exact ownsRow_cell h rfl (by simp[hi])⟩
end
section
open Go.RowKit Go.Maps
def PlAt (w:World) (m:Nat) (order:List Int) (b:Int):Prop :=
 ∃ (D:DataW Unit) (n:Nat),w.ownsMap Tryz.prog 3 (plainElem Tryz.prog 3) m n D/\∀ (i:Nat) p,order[i]?=some p->D.atKey (.int .i64 p) (.lit (.int .i64 0))=.lit (.int .i64 (b+i))
theorem PlAt.below {w w':World} {m:Nat} {order:List Int} {b:Int} (h:PlAt w m order b) (hb:Below w.heap.size w w'):PlAt w' m order b:=by
 obtain⟨D,n,hD,hh⟩:=h;exact⟨D,n,hD.kept (row:=none) ⟨hb.os,hb.tape,hb.output,hb.size,fun k hk _=>hb.block k hk⟩ (by simp),hh⟩
theorem run_makeMap_hint (n:Nat) (w:World):(Instr.makeMap 64 (some (.int .i64 (n:Int)))).run Tryz.prog w=.ok (.map (some w.heap.size)) (w.alloc (.map #[] 0)):=by
 simp[Instr.makeMap,run_underlying Tryz.underlying64,asInt,asIntOf,Result.andThen,newObj]
 rfl
theorem newPlaces_any (oa:Option Addr) (oc:Nat) (l:List Int) (b:Int) (w:World) (h:IntsAt w oa l) (hok:Ok 60 l) (hb0:0<=b) (hb1:b<=60) :
  Calls Tryz.prog 118 #[.slice oa l.length oc,.int .i64 b] w fun e w'=>∃ m,e=.returned (.map (some m))/\PlAt w' m l b/\Below w.heap.size w w':=by
 have hl60:=hok.len;obtain⟨L,hL⟩:∃ L,L=l.length:=⟨_,rfl⟩;have HL:Aside (L=l.length):=hL;rw[<- hL] at hl60 ⊢;clear hL;have HOK:Aside (Ok 60 l):=hok;clear hok;have hmm:=run_makeMap_hint L
 go_enter Tryz.func118,Tryz.ntmps118
 go_wp2
 clear hmm;have hD0:Aside ((w.alloc (Obj.map #[] 0)).ownsMap Tryz.prog 3 (plainElem (H:=Unit) Tryz.prog 3) w.heap.size 0 (.map [])):=World.ownsMap_made (H:=Unit) w Tryz.prog 3 (plainElem Tryz.prog 3);have hB0:Aside (Below w.heap.size w (w.alloc (Obj.map #[] 0))):=below_box _ _
 go_loopg [13,6,7] L (fun g s13 s6 s7 wr=>∃ (i:Nat) (D:DataW Unit),i<=L/\g=L-i/\s13=.int .i64 i/\Below w.heap.size w wr/\wr.ownsMap Tryz.prog 3 (plainElem Tryz.prog 3) w.heap.size i D/\Aside (∀ (j:Nat) p,j<i->l[j]?=some p->D.atKey (.int .i64 p) (.lit (.int .i64 0))=.lit (.int .i64 (b+j))))
 case atStart=>exact⟨0,_,Nat.zero_le _,rfl,rfl,hB0.out,hD0.out,fun j p hj=>absurd hj (Nat.not_lt_zero _)⟩
 case round =>
  obtain⟨i,D,hi,rfl,rfl,hb,hD,hA⟩:=hrel;clear hD0 hB0
  by_cases hiL:i<L
  ·have hiz:(i:Int)<(L:Int):=by omega
   obtain⟨p,hp⟩:=at_some (l:=l) (i:=i) (by rw[<- HL.out];exact hiL);have HP:Aside (l[i]?=some p):=hp;have hpb:=HOK.out.2 p (List.mem_of_getElem? hp);obtain⟨bk,o,rfl,c1⟩:=(h.keeps (Keeps.below hb)) i _ hp;have hkey:=keyOf_int_mk (P:=Tryz.prog) (k:=3) (q:=.i64) (a:=p) Tryz.underlying3 (wf64 (by omega) (by omega));clear hp
   go_wp2_with (at_mapUpdate;refine wpList_mapUpdate_own _ rfl _ _ _ 64 rfl 3 3 keysN Tryz.underlying64 _ w.heap.size i D rfl hD ?m1 _ _ _ rfl rfl hkey _ [] (plainElem_int Tryz.underlying3 (wf64 ?m2 ?m3)) ?_;(case m1=>unfold maxLen;omega);(case m2=>omega);(case m3=>omega);intro w1 hD1 hg1)
   have hb2:Below w.heap.size w w1:=hb.grown hg1 hb.size (fun k hk=>by cases hk;exact Nat.le_refl _);have HA2:Aside (∀ (j:Nat) q,j<i+1->l[j]?=some q->(D.put (.int .i64 p) (.lit (.int .i64 (b+i)))).atKey (.int .i64 q) (.lit (.int .i64 0))=.lit (.int .i64 (b+j))):=fun j q hj hq=>by
    by_cases hji:j=i
    ·subst hji
     have:=HP.out;rw[hq] at this
     cases this
     exact atKey_put_same hD.isMap (by simp[WideAt.IsKeyLit]) _ _
    ·have hne:q≠p:=fun e=>by
      subst e;have h1:=idx_of HOK.out.1 hq;have h2:=idx_of HOK.out.1 HP.out;omega
     rw[atKey_put_other (by simp[hne])];exact hA.out j q (by omega) hq
   clear hA hb hD hg1 c1 hkey;go_wp2
   go_roundg (L-(i+1))
   case measure=>go_light;omega
   case rel=>go_light;exact⟨i+1,_,by omega,rfl,by go_num,hb2,hD1,HA2⟩
  ·have HA2:Aside (∀ (j:Nat) q,l[j]?=some q->D.atKey (.int .i64 q) (.lit (.int .i64 0))=.lit (.int .i64 (b+j))):=fun j q hq=>hA.out j q (by have:=(List.getElem?_eq_some_iff.1 hq).1;rw[<- HL.out] at this;omega) hq
   clear hA;go_wp2
   go_ret
   exact⟨_,rfl,⟨D,i,hD,HA2.out⟩,hb⟩
def MvAt (w:World) (B:Nat) (order:List Int) (b:Int):Prop:=∃ m,w.heap[B]?=some (.cells #[.map (some m)] 64 (0,0))/\PlAt w m order b
theorem MvAt.below {w w':World} {B:Nat} {order:List Int} {b:Int} (h:MvAt w B order b) (hb:Below w.heap.size w w'):MvAt w' B order b:=by
 obtain⟨m,h1,h2⟩:=h;exact⟨m,(hb.block _ (Array.getElem?_eq_some_iff.1 h1).1).trans h1,h2.below hb⟩
theorem mover_any (m:Nat) (order:List Int) (b:Int) (w:World) (h:PlAt w m order b) :
  Calls Tryz.prog 117 #[.map (some m)] w fun e w'=>∃ B,e=.returned (.func (.func 158) #[] #[.pointer (some ⟨B,0,none⟩)])/\MvAt w' B order b/\Below w.heap.size w w':=by
 go_enter Tryz.func117,Tryz.ntmps117
 go_wp2
 go_ret
 exact⟨_,rfl,⟨m,Deep.blk_alloc_new _ _,h.below (below_box _ _)⟩,below_box _ _⟩
theorem PlAt.at {w:World} {m:Nat} {order:List Int} {b:Int} (h:PlAt w m order b) {p:Int} (hp:p∈order):∃ (D:DataW Unit) (n:Nat),w.ownsMap Tryz.prog 3 (plainElem Tryz.prog 3) m n D/\D.atKey (.int .i64 p) (.lit (.int .i64 0))=.lit (.int .i64 (b+(order.idxOf p:Nat))):=by
 obtain⟨D,n,hD,hh⟩:=h;exact⟨D,n,hD,hh _ p (idx_at hp)⟩
theorem mover1_any (k n:Int) (B:Nat) (order:List Int) (b:Int) (w:World) (h:MvAt w B order b) (hk:k=2->n∈order) (hn:k=2->0<=n/\n<60) :
  Calls Tryz.prog 158 #[.agg #[.int .i64 k,.int .i64 n],.pointer (some ⟨B,0,none⟩)] w fun e w'=>e=.returned (.agg #[.int .i64 (mvV order b ⟨k,n⟩).k,.int .i64 (mvV order b ⟨k,n⟩).n])/\Below w.heap.size w w':=by
 obtain⟨m,hB,hP⟩:=h
 by_cases h2:k=2
 ·subst h2
  have hnb:=hn rfl;have hb2:Below w.heap.size w ((w.alloc (Obj.cells #[.int .i64 2,.int .i64 n] 66)).alloc (Obj.cells #[.int .i64 0,.int .i64 0] 66)):=(below_box _ _).alloc (by simp) _;obtain⟨D,nn,hD,hat⟩:=(hP.below hb2).at (hk rfl);have hV:mvV order b ⟨2,n⟩=⟨2,b+(order.idxOf n:Nat)⟩:=by simp[mvV]
  rw[hV];clear hV;have hB2:=(hb2.block _ (Array.getElem?_eq_some_iff.1 hB).1).trans hB;have c0:=cell_blk hB2 0;simp at c0;have hkey:=keyOf_int_mk (P:=Tryz.prog) (k:=3) (q:=.i64) (a:=n) Tryz.underlying3 (wf64 (by omega) (by omega));generalize hq:b+(order.idxOf n:Nat)=q at *;clear hb2 hB hP hB2 hk hn
  go_enter Tryz.func158,Tryz.ntmps158
  go_wp2_with (at_lookup;refine wpList_lookup_own_int _ rfl _ _ 64 rfl 3 3 .i64 keysN Tryz.underlying64 Tryz.underlying3 (Tryz.zeroN _) m nn D rfl hD _ _ rfl hkey ?_;intro c hc hwc;obtain rfl:q=c:=by(rw[hat] at hc;simpa using hc))
  refine bodyPost_ret (v:=.agg #[.int .i64 2,.int .i64 q]) (by simp[results,Tryz.results158,go_sem]) rfl ⟨rfl,(below_box _ _).alloc (by simp) _⟩
 ·have hkb:(k == 2)=false:=by simp[h2]
  have hV:mvV order b ⟨k,n⟩=⟨k,n⟩:=by simp[mvV,h2]
  rw[hV];clear hV
  go_enter Tryz.func158,Tryz.ntmps158
  go_wp2
  refine bodyPost_ret (v:=.agg #[.int .i64 k,.int .i64 n]) (by simp[results,Tryz.results158,go_sem]) rfl ⟨rfl,(below_box _ _).alloc (by simp) _⟩
theorem ValsOwn.set {w:World} {base g n cap:Nat} {l:List Vl} (h:ValsOwn w base (.slice (some ⟨g,0,none⟩) n cap) l) (i:Nat) (x:Vl):ValsOwn ((w.setCell ⟨g,i*2,none⟩ (.int .i64 x.k)).setCell ⟨g,i*2+1,none⟩ (.int .i64 x.n)) base (.slice (some ⟨g,0,none⟩) n cap) (l.set i x):=by
 have:=ownsRow_set (ownsRow_set h (g:=g) rfl (i*2) (.int .i64 x.k)) (g:=g) rfl (i*2+1) (.int .i64 x.n)
 unfold ValsOwn
 have e:valCells (l.set i x)=((valCells l).set (i*2) (.int .i64 x.k)).set (i*2+1) (.int .i64 x.n):=by
  rw[valCells,valCells,pairs_set,List.map_set];rfl
 rw[List.length_set,e];exact this
theorem ValsOwn.cells2 {w:World} {base g n cap:Nat} {l:List Vl} (h:ValsOwn w base (.slice (some ⟨g,0,none⟩) n cap) l) {i:Nat} {v:Vl} (hi:l[i]?=some v):w.cell? ⟨g,i*2,none⟩=some (.int .i64 v.k)/\w.cell? ⟨g,i*2+1,none⟩=some (.int .i64 v.n) :=
 ⟨ownsRow_cell h rfl (by simp[valCells,pairs_fst,hi,valPair]),ownsRow_cell h rfl (by simp[valCells,pairs_snd,hi,valPair])⟩
theorem set_mid {α:Type} (a:List α) (z:α) (r:List α) (x:α):(a++z :: r).set a.length x=a++x :: r:=by simp
theorem movedValues_any (la:Option Addr) (lc:Nat) (l:List Vl) (B:Nat) (order:List Int) (b:Int) (w:World) (h:ValsAt w la l) (hl:16*l.length<=140737488351232) (hM:MvAt w B order b) (hld:Leads order l) (hok:Ok 60 order) :
  Calls Tryz.prog 120 #[.slice la l.length lc,.func (.func 158) #[] #[.pointer (some ⟨B,0,none⟩)]] w fun e w'=>∃ va vc,e=.returned (.slice va l.length vc)/\ValsOwn w' w.heap.size (.slice va l.length vc) (l.map (mvV order b))/\Below w.heap.size w w':=by
 obtain⟨L,hL⟩:∃ L,L=l.length:=⟨_,rfl⟩;have HL:Aside (L=l.length):=hL;rw[<- hL] at hl ⊢;clear hL;have HLD:Aside (Leads order l/\Ok 60 order):=⟨hld,hok⟩;clear hld hok;have hmk:=run_make_rowk (P:=Tryz.prog) 2 48 66 _ 16 Tryz.underlying48 Tryz.infoV .i64 .i64 L (by omega) (by omega)
 go_enter Tryz.func120,Tryz.ntmps120
 go_wp2
 clear hmk;have hO0:Aside (ValsOwn (w.alloc (.cells (madeCells #[.int .i64 0,.int .i64 0] (L*2)) 66)) w.heap.size (.slice (some ⟨w.heap.size,0,none⟩) L L) (zeroVals L)):=vals_made w w.heap.size L (Nat.le_refl _) (by unfold maxLen;omega);have hB0:Aside (Below w.heap.size w (w.alloc (.cells (madeCells #[.int .i64 0,.int .i64 0] (L*2)) 66))):=below_box _ _
 go_loopg [13,6,7] L (fun g s13 s6 s7 wr=>∃ i:Nat,i<=L/\g=L-i/\s13=.int .i64 i/\Below w.heap.size w wr/\ValsOwn wr w.heap.size (.slice (some ⟨w.heap.size,0,none⟩) L L) ((l.take i).map (mvV order b)++zeroVals (L-i)))
 case atStart=>exact⟨0,Nat.zero_le _,rfl,rfl,hB0.out,by simpa using hO0.out⟩
 case round =>
  obtain⟨i,hi,rfl,rfl,hb,hO⟩:=hrel;clear hO0 hB0
  by_cases hiL:i<L
  ·have hiz:(i:Int)<(L:Int):=by omega
   obtain⟨⟨k,n⟩,hv⟩:=at_some (l:=l) (i:=i) (by rw[<- HL.out];exact hiL);have HT:Aside (l.take (i+1)=l.take i++[⟨k,n⟩]):=by show l.take (i+1)=_;rw[List.take_add_one,hv];rfl
   have hm:=HLD.out.1 _ (List.mem_of_getElem? hv);have hn60:k=2->0<=n/\n<60:=fun e=>HLD.out.2.2 _ (hm e)
   obtain⟨bk,o,rfl,c1,c2⟩:=(h.keeps (Keeps.below hb)) i _ hv;clear hv;simp only at c1 c2;have hs:=(World.ownsRow.lt hO w.heap.size rfl).2
   go_wp2_with fail
   refine(mover1_any k n B order b _ ((hM.below hb).below (below_box _ _)) hm hn60).mono ?_;rintro e w1 ⟨rfl,hb1⟩;have hO1:=ownsRow_below (ownsRow_below hO (below_box wr (Obj.cells #[Value.int IntKind.i64 k,Value.int IntKind.i64 n] 66))) hb1;have hbw:Below w.heap.size w w1:=(hb.alloc (by omega) _).trans (hb1.mono (by simp;omega));generalize hx:mvV order b ⟨k,n⟩=x;have HX:Aside (mvV order b ⟨k,n⟩=x):=hx
   clear hx;obtain⟨x1,x2⟩:=x;simp only;have hlen:Aside ((l.take i).length=i):=by show(l.take i).length=i;rw[List.length_take,<- HL.out];omega
   obtain⟨z,hz⟩:∃ z,zeroVals (L-i)=⟨0,0⟩ :: z/\z=zeroVals (L-(i+1)):=⟨zeroVals (L-(i+1)),by rw[show L-i=(L-(i+1))+1 by omega];rfl,rfl⟩;obtain⟨q1,q2⟩:=ValsOwn.cells2 hO1 (i:=i) (v:=⟨0,0⟩) (by rw[hz.1,List.getElem?_append_right (by rw[List.length_map,hlen.out];omega),List.length_map,hlen.out,Nat.sub_self];rfl);simp only at q1 q2;have q3:∀ j,w1.frozen? ⟨w.heap.size,j,none⟩=false:=fun j=>ownsRow_frozen hO1 rfl j
   have hO2:=ValsOwn.set hO1 i ⟨x1,x2⟩;have HO3:Aside (ValsOwn ((w1.setCell ⟨w.heap.size,i*2,none⟩ (.int .i64 x1)).setCell ⟨w.heap.size,i*2+1,none⟩ (.int .i64 x2)) w.heap.size (.slice (some ⟨w.heap.size,0,none⟩) L L) ((l.take (i+1)).map (mvV order b)++zeroVals (L-(i+1)))):=by
    have e:((l.take i).map (mvV order b)++zeroVals (L-i)).set i ⟨x1,x2⟩=(l.take (i+1)).map (mvV order b)++zeroVals (L-(i+1)):=by
     have:=set_mid ((l.take i).map (mvV order b)) (⟨0,0⟩:Vl) z ⟨x1,x2⟩;rw[List.length_map,hlen.out] at this
     rw[hz.1,this,HT.out,<- hz.2,List.map_append,<- HX.out];simp
    rw[e] at hO2;exact hO2
   have hb3:Aside (Below w.heap.size w ((w1.setCell ⟨w.heap.size,i*2,none⟩ (.int .i64 x1)).setCell ⟨w.heap.size,i*2+1,none⟩ (.int .i64 x2))):=(hbw.setCell (Nat.le_refl _) _).setCell (Nat.le_refl _) _;clear hO1 hO2 hbw hb1 hO hb c1 c2 hz;go_wp2
   go_roundg (L-(i+1))
   case measure=>go_light;omega
   case rel=>go_light;exact⟨i+1,by omega,rfl,by go_num,hb3.out,HO3.out⟩
  ·obtain rfl:i=L:=by omega
   have HT:Aside ((l.take i).map (mvV order b)++zeroVals (i-i)=l.map (mvV order b)):=by
    show _=_
    rw[List.take_of_length_le (by rw[<- HL.out];omega),Nat.sub_self];simp[zeroVals]
   rw[HT.out] at hO;go_wp2
   go_ret
   exact⟨_,_,rfl,hO,hb⟩
end
end Go.Proofs.YtepifccbbmdfcaaGreatDoor
