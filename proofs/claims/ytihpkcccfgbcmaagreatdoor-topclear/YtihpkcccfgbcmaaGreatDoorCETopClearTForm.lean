/- TForm. -/
import Derived.Deep.Modes
import Derived.Test.YtihpkcccfgbcmaaGreatDoorCBWOwnNew
import Derived.Test.YtihpkcccfgbcmaaGreatDoorCETopClearHForm2
namespace Go.Proofs.YtihpkcccfgbcmaaGreatDoor
set_option maxRecDepth 100000
set_option maxHeartbeats 8000000
section
open Go.RowKit Go.Maps
theorem tell_length (R:List Int) (v:Vl):(tell R v).length=2:=by unfold tell;split <;> rfl
theorem tells_length (R:List Int):∀ l:List Vl,(l.flatMap (tell R)).length=2*l.length
 | []=>rfl
 | v :: r=>by rw[List.flatMap_cons,List.length_append,tell_length,tells_length R r,List.length_cons];omega
theorem tell_prefix {o R t:List Int} {v:Vl} (h:R=o++t) (hk:v.k=2->v.n∈o):tell o v=tell R v:=by
 unfold tell
 by_cases h2:v.k=2
 ·rw[if_pos h2,if_pos h2,h,List.idxOf_append,if_pos (hk h2)]
 ·rw[if_neg h2,if_neg h2]
theorem bfs_ext (l:List Ob):∀ (F i:Nat) (o:List Int),∃ t,bfs l F i o=o++t
 | 0,_,o=>⟨[],by simp[bfs]⟩
 | F+1,i,o=>by
  rw[bfs]
  split
  ·exact⟨[],by simp⟩
  ·rename_i p _
   obtain⟨t,ht⟩:=visits_ext (fieldsOf l p) o;obtain⟨t',ht'⟩:=bfs_ext l F (i+1) (visits o (fieldsOf l p));exact⟨t++t',by rw[ht',ht,List.append_assoc]⟩
theorem tellObs_length {M:Int} {l:List Ob} {r:List Vl} (h:hMay M l r=true) (R:List Int):∀ ps:List Int,(ps.flatMap (fun p=>tellOb R (fieldsOf l p))).length<=10*ps.length
 | []=>by simp
 | p :: ps=>by
  have h1:=tellObs_length h R ps;have h2:=fields_four h p;have h3:(tellOb R (fieldsOf l p)).length=2+2*(fieldsOf l p).length:=by
   unfold tellOb
   rw[List.length_append,tells_length]
   rfl
  rw[List.flatMap_cons,List.length_append,List.length_cons];omega
theorem FState.below {w w1:World} {U P O m B:Nat} {out order:List Int} (h:FState w U P O m B out order) (hb:Below w.heap.size w w1):FState w1 U P O m B out order:=by
 obtain⟨uv,uc,ov,oc,D,hF⟩:=h;exact⟨uv,uc,ov,oc,D,hF.below hb⟩
theorem form_any (M:Int) (ao:Option Addr) (cap:Nat) (l:List Ob) (ra:Option Addr) (rc:Nat) (roots:List Vl) (w:World) (h:ObsAt w ao l) (hr:ValsAt w ra roots) (hrl:roots.length<=1000) (hmay:hMay M l roots=true) :
  Calls Tryz.prog 82 #[.agg #[.int .i64 M,.slice ao l.length cap],.slice ra roots.length rc] w fun e w'=>∃ ov oc,e=.returned (.slice ov (form l roots).length oc)/\Below w.heap.size w w'/\IntsOwn w' w.heap.size (.slice ov (form l roots).length oc) (form l roots):=by
 have hl60:=hMay_bound hmay;have hrv:roots.all (vMay l.length)=true:=by simp only[hMay,Bool.and_eq_true] at hmay;exact hmay.2
 have HM:Aside (hMay M l roots=true):=hmay;clear hmay;obtain⟨L,hL⟩:∃ L,L=l.length:=⟨_,rfl⟩;have HL:Aside (L=l.length):=hL;rw[<- hL] at hl60 hrv ⊢;clear hL;obtain⟨V,hV⟩:∃ V,V=roots.length:=⟨_,rfl⟩;have HV:Aside (V=roots.length):=hV;rw[<- hV] at hrl ⊢;clear hV;obtain⟨rr,hrr⟩:∃ rr,rr=reach l roots:=⟨_,rfl⟩;have HR:Aside (rr=reach l roots):=hrr;have HFo:Aside (form l roots=roots.flatMap (tell rr)++rr.flatMap (fun p=>tellOb rr (fieldsOf l p))):=by show form l roots=_;rw[form,<- hrr]
 have hg0:Aside (rr=bfs l (L+1-0) 0 (visits [] roots)):=by show rr=_;rw[HR.out,HL.out];rfl
 clear hrr;obtain⟨ff,hff⟩:∃ ff,ff=form l roots:=⟨_,rfl⟩;have HFF:Aside (ff=form l roots):=hff;rw[<- hff];clear hff;have hmm:=@run_makeMap Tryz.prog
 go_enter Tryz.func82,Tryz.ntmps82
 go_upto_region 5 with fail
 have HB:=boxes5 w (Obj.cells #[.int .i64 M,.slice ao L cap] 53) (Obj.cells #[.slice none 0 0] 40) (Obj.map #[] 0) (Obj.cells #[.map (some (w.heap.size+1+1))] 64) (Obj.cells #[.slice none 0 0] 40);have hDm:(((w.alloc (Obj.cells #[.int .i64 M,.slice ao L cap] 53)).alloc (Obj.cells #[.slice none 0 0] 40)).alloc (Obj.map #[] 0)).ownsMap Tryz.prog 3 (plainElem (H:=Unit) Tryz.prog 3) (w.heap.size+1+1) 0 (.map []):=by
  have:=World.ownsMap_made (H:=Unit) ((w.alloc (Obj.cells #[.int .i64 M,.slice ao L cap] 53)).alloc (Obj.cells #[.slice none 0 0] 40)) Tryz.prog 3 (plainElem Tryz.prog 3)
  simpa using this
 have hDm2:=(hDm.alloc (Obj.cells #[.map (some (w.heap.size+1+1))] 64)).alloc (Obj.cells #[.slice none 0 0] 40);clear hDm hmm;generalize ((((w.alloc (Obj.cells #[.int .i64 M,.slice ao L cap] 53)).alloc (Obj.cells #[.slice none 0 0] 40)).alloc (Obj.map #[] 0)).alloc (Obj.cells #[.map (some (w.heap.size+1+1))] 64)).alloc (Obj.cells #[.slice none 0 0] 40)=W at *;obtain⟨N0,N1,_N2,N3,N4,k1,b1,hs⟩:=HB;have hst:FState W (w.heap.size+1) (w.heap.size+1+1+1) (w.heap.size+1+1+1+1) (w.heap.size+1+1) (w.heap.size+1) [] [] :=
  ⟨none,0,none,0,.map [],N1,World.ownsRow_nil _ _ _ _,N4,World.ownsRow_nil _ _ _ _,fun g hg=>by simp[Value.ownBlock] at hg,N3,hDm2,fun z=>rfl,fun i q hq=>by simp at hq,⟨by omega,by omega,by omega,by omega,by omega⟩,by omega⟩
 have hlow:∀ (i:Nat) v,roots[i]?=some v->∃ b o,ra=some ⟨b,o,none⟩/\b<w.heap.size+1:=fun i v hi=>by
  obtain⟨b,o,e,hb⟩:=hr.low i v hi;exact⟨b,o,e,by omega⟩
 have hrW:∀ w',Below (w.heap.size+1) W w'->ValsAt w' ra roots:=fun w' hb'=>(hr.keeps k1).keepLow hlow hb'
 have NW:Aside (W.heap[w.heap.size]?=some (.cells #[.int .i64 M,.slice ao L cap] 53 (0,0))):=N0;clear N0 N1 _N2 N3 N4 hDm2 hlow;go_wp2
 go_loopg [19,10] V (fun g s19 s10 wr=>∃ i:Nat,i<=V/\g=V-i/\s19=.int .i64 i/\FState wr (w.heap.size+1) (w.heap.size+1+1+1) (w.heap.size+1+1+1+1) (w.heap.size+1+1) (w.heap.size+1) ((roots.take i).flatMap (tell rr)) (visits [] (roots.take i))/\Below (w.heap.size+1) W wr)
 case atStart=>exact⟨0,Nat.zero_le _,rfl,rfl,hst,Below.refl _ _⟩
 case round =>
  obtain⟨i,hi,rfl,rfl,hr1,hb⟩:=hrel;clear hst
  by_cases hiV:i<V
  ·have hiz:(i:Int)<(V:Int):=by omega
   obtain⟨⟨k,n⟩,hx⟩:=at_some (l:=roots) (i:=i) (by rw[<- HV.out];exact hiV);have HT:Aside (roots.take (i+1)=roots.take i++[⟨k,n⟩]):=by show roots.take (i+1)=_;rw[List.take_add_one,hx];rfl
   have HVV:Aside (visit (visits [] (roots.take i)) ⟨k,n⟩=visits [] (roots.take (i+1))):=by show visit _ _=_;rw[HT.out,visits_snoc]
   have hvm:vMay L ⟨k,n⟩=true:=List.all_eq_true.1 hrv _ (List.mem_of_getElem? hx);have HTT:Aside ((roots.take i).flatMap (tell rr)++tell (visit (visits [] (roots.take i)) ⟨k,n⟩) ⟨k,n⟩=(roots.take (i+1)).flatMap (tell rr)):=by
    show _=_
    have e1:visits [] roots=visits (visits [] (roots.take (i+1))) (roots.drop (i+1)):=by rw[<- visits_append,List.take_append_drop]
    obtain⟨t,ht⟩:=visits_ext (roots.drop (i+1)) (visits [] (roots.take (i+1)));obtain⟨t',ht'⟩:=bfs_ext l (L+1-0) 0 (visits [] roots);rw[<- hg0.out,e1,ht,List.append_assoc] at ht';rw[HVV.out,tell_prefix ht' (fun hk=>by rw[<- HVV.out];exact visit_mem hk),HT.out];simp
   have hou:Aside (((roots.take i).flatMap (tell rr)).length<=1000000):=by show _<=_;rw[tells_length,List.length_take];omega
   have hol:Aside ((visits [] (roots.take i)).length<=60):=Nat.le_trans ((Ok.nil L).visits (vs:=roots.take i) (List.all_eq_true.2 fun v hv=>List.all_eq_true.1 hrv v (List.mem_of_mem_take hv))).len hl60;obtain⟨b,o,rfl,c1,c2⟩:=hrW wr hb i _ hx;simp only at c1 c2;have hlw:w.heap.size+1<=wr.heap.size:=by have:=hb.size;omega
   clear hx
   go_wp2_with fail
   refine(say_any k n L _ _ _ _ _ _ _ _ (hr1.below (below_box _ _)) hvm (by omega) hol.out hou.out).mono ?_;rintro e w1 ⟨rfl,hs1,hb1⟩;rw[HTT.out,HVV.out] at hs1;have hb2:=(hb.alloc hlw _).trans hb1;clear hr1 hb hb1 c1 c2 hou hol HTT HVV HT;go_wp2
   go_roundg (V-(i+1))
   case measure=>go_light;omega
   case rel=>go_light;exact⟨i+1,by omega,rfl,by go_num,hs1,hb2⟩
  ·have HT:Aside (roots.take i=roots):=by show roots.take i=roots;rw[List.take_of_length_le];rw[<- HV.out];omega
   rw[HT.out] at hr1;have hk0:Aside (Ok L (visits [] roots)):=(Ok.nil L).visits hrv;have hst2:FState wr (w.heap.size+1) (w.heap.size+1+1+1) (w.heap.size+1+1+1+1) (w.heap.size+1+1) (w.heap.size+1) (roots.flatMap (tell rr)++((visits [] roots).take 0).flatMap (fun p=>tellOb rr (fieldsOf l p))) (visits [] roots):=by simpa using hr1
   clear hr1 HT hrW;go_wp2
   have hb0:=hb;clear hb;generalize wr=w0 at *
   go_loopg [11,12,14] (L+1) (fun g s11 s12 s14 wr=>∃ (j:Nat) (order:List Int),j<=order.length/\g=L+1-j/\s11=.int .i64 j/\FState wr (w.heap.size+1) (w.heap.size+1+1+1) (w.heap.size+1+1+1+1) (w.heap.size+1+1) (w.heap.size+1) (roots.flatMap (tell rr)++(order.take j).flatMap (fun p=>tellOb rr (fieldsOf l p))) order/\Below (w.heap.size+1) W wr/\Aside (Ok L order)/\Aside (rr=bfs l (L+1-j) j order))
   case atStart=>exact⟨0,_,Nat.zero_le _,rfl,rfl,hst2,hb0,hk0.out,hg0.out⟩
   case round =>
    obtain⟨j,order,hj,rfl,rfl,hr2,hb2,hok,hA⟩:=hrel;clear hst2 hk0 hg0 hb0;obtain⟨uv,uc,ov,oc,D,hF⟩:=hr2;have hoL:=hok.out.len;have o0:=cell_blk hF.o 0;simp at o0;have hN:=(hb2.block _ (by omega:w.heap.size<w.heap.size+1)).trans ((show W.heap[w.heap.size]?=some (.cells #[.int .i64 M,.slice ao L cap] 53 (0,0)) from NW.out));have hc1:=cell_blk hN 1;simp at hc1
    by_cases hjO:j<order.length
    ·have hjz:(j:Int)<(order.length:Int):=by omega
     obtain⟨p,hp⟩:=at_some hjO;have hpb:=hok.out.2 p (List.mem_of_getElem? hp);obtain⟨q,rfl⟩:=Int.eq_ofNat_of_zero_le hpb.1;have hq:q<L:=by omega
     have hqz:(q:Int)<(L:Int):=by omega
     obtain⟨⟨fs,dead⟩,hx⟩:=at_some (l:=l) (i:=q) (by rw[<- HL.out];exact hq);have HF:Aside (fieldsOf l (q:Int)=fs):=by show fieldsOf l (q:Int)=fs;simp[fieldsOf,hx]
     have HN:Aside (rr=bfs l (L+1-(j+1)) (j+1) (visits order fs)):=by
      show rr=_
      rw[hA.out,bfs_step l hp (by omega),HF.out]
      rfl
     have hfm:fs.all (vMay L)=true:=by rw[<- HF.out,HL.out];exact fields_may HM.out _
     have hf4:fs.length<=4:=by rw[<- HF.out];exact fields_four HM.out _
     have HTK:Aside (order.take (j+1)=order.take j++[(q:Int)]):=by show order.take (j+1)=_;rw[List.take_add_one,hp];rfl
     have hou:Aside ((roots.flatMap (tell rr)++(order.take j).flatMap (fun p=>tellOb rr (fieldsOf l p))).length<=2000+600):=by
      show _<=_
      have h1:=tellObs_length HM.out rr (order.take j);rw[List.length_append,tells_length,<- HV.out];rw[List.length_take] at h1;omega
     obtain⟨b,o,fa,fc,rfl,c1,c2,hfs,hfl⟩:=h.cell q _ hx;simp only at c1 c2 hfs hfl;obtain⟨FL,hFL⟩:∃ FL,FL=fs.length:=⟨_,rfl⟩;have HFL:Aside (FL=fs.length):=hFL;rw[<- hFL] at c1 hfl hf4;clear hFL;have hblt:=World.block_lt_of_cell? _ _ c1;simp only at hblt;have d1:=(hb2.cell (p:=⟨b,o+q*2,none⟩) (by show b<_;omega)).trans (k1 _ _ c1);have d3:=(hb2.cell (p:=⟨b,o+q*2+1,none⟩) (by show b<_;omega)).trans (k1 _ _ c2)
     obtain⟨g,hov⟩:∃ g,ov=some ⟨g,0,none⟩:=by
      rcases ownsRow_form hF.oi with⟨_,hn⟩ | ⟨g,gc,hg',_⟩
      ·omega
      ·simp only[Value.slice.injEq] at hg'
       exact⟨g,hg'.1⟩
     subst hov;have d2:wr.cell? ⟨g,j,none⟩=some (.int .i64 q):=ownsRow_cell hF.oi rfl (by simp[hp]);have hlowf:∀ (i:Nat) v,fs[i]?=some v->∃ b o,fa=some ⟨b,o,none⟩/\b<w.heap.size+1:=fun i v hi=>by
      obtain⟨b,o,e,hb⟩:=hfs.low i v hi;exact⟨b,o,e,by omega⟩
     have HFS:Aside (∀ w',Below (w.heap.size+1) W w'->ValsAt w' fa fs):=fun w' hb'=>(hfs.keeps k1).keepLow hlowf hb'
     have hlw:w.heap.size+1<=wr.heap.size:=by have:=hb2.size;omega
     clear hA hp hx c1 c2 hfs hlowf hN;have a0:=fun X=>Keeps.alloc wr X _ _ o0
     have a1:=fun X=>Keeps.alloc wr X _ _ hc1
     have a2:=fun X=>Keeps.alloc wr X _ _ d1
     have a3:=fun X=>Keeps.alloc wr X _ _ d2
     have a4:=fun X=>Keeps.alloc wr X _ _ d3
     go_upto_region 13 with fail
     go_region
     clear a0 a1 a2 a3 a4;have hB1:Below wr.heap.size wr (wr.alloc (Obj.cells #[.slice fa FL fc,.bool dead] 91)).drew:=(below_box wr _).drew;have hX:(wr.alloc (Obj.cells #[.slice fa FL fc,.bool dead] 91)).drew.heap[wr.heap.size]?=some (.cells #[.slice fa FL fc,.bool dead] 91 (0,0)):=Deep.blk_alloc_new wr _;have hF1:=hF.below hB1;have hb3:Below (w.heap.size+1) W (wr.alloc (Obj.cells #[.slice fa FL fc,.bool dead] 91)).drew:=hb2.trans (hB1.mono hlw)
     obtain⟨X,hXe⟩:∃ X,X=wr.heap.size:=⟨_,rfl⟩;rw[<- hXe] at hX ⊢;clear hXe hB1 hF hb2 o0 hc1 d1 d2 d3 hlw;generalize (wr.alloc (Obj.cells #[.slice fa FL fc,.bool dead] 91)).drew=w1 at *;obtain⟨out,hout⟩:∃ out,out=roots.flatMap (tell rr)++(order.take j).flatMap (fun p=>tellOb rr (fieldsOf l p)):=⟨_,rfl⟩;have HOUT:Aside (out=roots.flatMap (tell rr)++(order.take j).flatMap (fun p=>tellOb rr (fieldsOf l p))):=hout
     rw[<- hout] at hF1 hou;clear hout;have u0:=cell_blk hF1.u 0;have x0:=cell_blk hX 0;simp at u0 x0;have hs1:=hF1.low.2.2.2.2;have hou1:=hou.out
     go_upto_region 15 with(at_builtin;refine wpList_tellInt2 rfl _ _ (by rfl) (v:=.slice uv out.length uc) (by rfl) hF1.ui hs1 (-1) FL (by rfl) ?b1 ?_;(case b1=>omega);intro g2 gc2 w2 hi2 hg2 hgg2;have U2:=hF1.tell_keep _ hg2 hF1.u (by decide);have c2:=cell_blk U2 0;have f2:=fz_blk U2 0;simp at c2)
     have hX2:=hF1.tell_keep _ hg2 hX (by decide);obtain⟨hF3,hB3⟩:=hF1.tell _ (n:=out.length+2) (by simp) hi2 hg2 hgg2;have hXU:X≠w.heap.size+1:=fun e=>by
      rw[<- e,hX2] at U2;simp at U2
     have hX3:=(Deep.blk_setCell_other w2 ⟨w.heap.size+1,0,none⟩ (.slice (some ⟨g2,0,none⟩) (out.length+2) gc2) X hXU).trans hX2;have hb4:Below (w.heap.size+1) W (w2.setCell ⟨w.heap.size+1,0,none⟩ (.slice (some ⟨g2,0,none⟩) (out.length+2) gc2)):=hb3.trans hB3;clear hX2 hB3 hb3 U2 c2 f2 hi2 hg2 hgg2 hF1 hX u0 x0 hXU hs1;generalize w2.setCell ⟨w.heap.size+1,0,none⟩ (.slice (some ⟨g2,0,none⟩) (out.length+2) gc2)=w3 at *
     have x3:=cell_blk hX3 0;simp at x3;have hst3:FState w3 (w.heap.size+1) (w.heap.size+1+1+1) (w.heap.size+1+1+1+1) (w.heap.size+1+1) (w.heap.size+1) (out++[-1,(FL:Int)]++(fs.take 0).flatMap (tell rr)) (visits order (fs.take 0)):=by
      simp only[List.take_zero,List.flatMap_nil,List.append_nil];exact⟨_,_,_,_,_,hF3⟩
     have HOO:Aside (Ok L (visits order fs)):=hok.out.visits hfm;have HEXT:Aside (∃ t,rr=visits order fs++t):=by
      show ∃ t,rr=visits order fs++t
      obtain⟨t,ht⟩:=bfs_ext l (L+1-(j+1)) (j+1) (visits order fs);exact⟨t,by rw[HN.out];exact ht⟩
     have HOLD:Aside (∀ t,Ok L (visits order (fs.take t))):=fun t=>hok.out.visits (List.all_eq_true.2 fun v hv=>List.all_eq_true.1 hfm v (List.mem_of_mem_take hv))
     clear hF3 hX3 hok;go_wp2
     clear x3
     go_loopg [50,14] FL (fun g s50 s14 wq=>∃ t:Nat,t<=FL/\g=FL-t/\s50=.int .i64 t/\FState wq (w.heap.size+1) (w.heap.size+1+1+1) (w.heap.size+1+1+1+1) (w.heap.size+1+1) (w.heap.size+1) (out++[-1,(FL:Int)]++(fs.take t).flatMap (tell rr)) (visits order (fs.take t))/\Below (w.heap.size+1) W wq)
     case atStart=>exact⟨0,Nat.zero_le _,rfl,rfl,hst3,hb4⟩
     case round =>
      obtain⟨t,ht,rfl,rfl,hr1,hb⟩:=hrel;clear hst3 hb4
      by_cases htF:t<FL
      ·have htz:(t:Int)<(FL:Int):=by omega
       obtain⟨⟨k,n⟩,hx⟩:=at_some (l:=fs) (i:=t) (by rw[<- HFL.out];exact htF);have HT:Aside (fs.take (t+1)=fs.take t++[⟨k,n⟩]):=by show fs.take (t+1)=_;rw[List.take_add_one,hx];rfl
       have HVV:Aside (visit (visits order (fs.take t)) ⟨k,n⟩=visits order (fs.take (t+1))):=by show visit _ _=_;rw[HT.out,visits_snoc]
       have hvm:vMay L ⟨k,n⟩=true:=List.all_eq_true.1 hfm _ (List.mem_of_getElem? hx);have HTT:Aside (out++[-1,(FL:Int)]++(fs.take t).flatMap (tell rr)++tell (visit (visits order (fs.take t)) ⟨k,n⟩) ⟨k,n⟩=out++[-1,(FL:Int)]++(fs.take (t+1)).flatMap (tell rr)):=by
        show _=_
        have e1:visits order fs=visits (visits order (fs.take (t+1))) (fs.drop (t+1)):=by rw[<- visits_append,List.take_append_drop]
        obtain⟨y,hy⟩:=visits_ext (fs.drop (t+1)) (visits order (fs.take (t+1)));obtain⟨y',hy'⟩:=HEXT.out;rw[e1,hy,List.append_assoc] at hy';rw[HVV.out,tell_prefix hy' (fun hk=>by rw[<- HVV.out];exact visit_mem hk),HT.out];simp
       have hou2:Aside ((out++[-1,(FL:Int)]++(fs.take t).flatMap (tell rr)).length<=1000000):=by
        show _<=_
        rw[List.length_append,List.length_append,tells_length,List.length_take];simp;omega
       have hol:Aside ((visits order (fs.take t)).length<=60):=Nat.le_trans (HOLD.out t).len hl60;obtain⟨b,o,rfl,c1,c2⟩:=HFS.out wr hb t _ hx;simp only at c1 c2;have hlw:w.heap.size+1<=wr.heap.size:=by have:=hb.size;omega
       clear hx
       go_wp2_with fail
       refine(say_any k n L _ _ _ _ _ _ _ _ (hr1.below (below_box _ _)) hvm (by omega) hol.out hou2.out).mono ?_;rintro e w4 ⟨rfl,hs4,hb4⟩;rw[HTT.out,HVV.out] at hs4;have hb5:=(hb.alloc hlw _).trans hb4;clear hr1 hb hb4 c1 c2 hou2 hol HTT HVV HT;go_wp2
       go_roundg (FL-(t+1))
       case measure=>go_light;omega
       case rel=>go_light;exact⟨t+1,by omega,rfl,by go_num,hs4,hb5⟩
      ·have HT:Aside (fs.take t=fs):=by show fs.take t=fs;rw[List.take_of_length_le];rw[<- HFL.out];omega
       rw[HT.out] at hr1;have hst4:FState wr (w.heap.size+1) (w.heap.size+1+1+1) (w.heap.size+1+1+1+1) (w.heap.size+1+1) (w.heap.size+1) (roots.flatMap (tell rr)++((visits order fs).take (j+1)).flatMap (fun p=>tellOb rr (fieldsOf l p))) (visits order fs):=by
        have e:(visits order fs).take (j+1)=order.take j++[(q:Int)]:=by
         obtain⟨y,hy⟩:=visits_ext fs order;rw[hy,List.take_append_of_le_length (by omega),HTK.out]
        rw[e,List.flatMap_append,<- List.append_assoc,<- HOUT.out];have e2:([(q:Int)]).flatMap (fun p=>tellOb rr (fieldsOf l p))=[-1,(FL:Int)]++fs.flatMap (tell rr):=by
         simp[HF.out,tellOb,HFL.out]
        rw[e2,<- List.append_assoc];exact hr1
       have hjl:Aside (j+1<=(visits order fs).length):=Nat.le_trans hjO (visits_len _ _);clear hr1 HT HFS;go_wp2
       go_roundg (L+1-(j+1))
       case measure=>go_light;omega
       case rel=>go_light;exact⟨j+1,_,hjl.out,rfl,by go_num,hst4,hb,HOO,HN⟩
    ·obtain rfl:j=order.length:=by omega
     have HN:Aside (rr=order):=by show rr=order;rw[hA.out,bfs_end]
     have hbW:Below w.heap.size w wr:=b1.trans (hb2.mono (by omega));have HE:Aside (roots.flatMap (tell rr)++(order.take order.length).flatMap (fun p=>tellOb rr (fieldsOf l p))=ff):=by
      show _=ff
      rw[HFF.out,HFo.out,List.take_length,<- HN.out]
     rw[HE.out] at hF;have u0:=cell_blk hF.u 0;simp at u0;have hui:=hF.ui;clear hA hF;go_wp2
     go_ret
     exact⟨uv,uc,rfl,hbW,ownsRow_le hui (by omega)⟩
end
section
open Go.RowKit
theorem equalInts_any (aa ab:Option Addr) (ca cb:Nat) (l:List Int) (w:World) (ha:IntsAt w aa l) (hb:IntsAt w ab l) (hl:l.length<=8796093022208) :
  Calls Tryz.prog 49 #[.slice aa l.length ca,.slice ab l.length cb] w fun e w'=>e=.returned (.bool true)/\∃ n,w'=w.drewN n:=by
 obtain⟨L,hL⟩:∃ L,L=l.length:=⟨_,rfl⟩;have HL:Aside (L=l.length):=hL;rw[<- hL] at hl ⊢;clear hL
 go_enter Tryz.func49,Tryz.ntmps49
 go_wp2
 go_loopg [13,5] L (fun g s13 s5 wr=>∃ i n:Nat,i<=L/\g=L-i/\s13=.int .i64 i/\wr=w.drewN n)
 case atStart=>exact⟨0,0,Nat.zero_le _,rfl,rfl,rfl⟩
 case round =>
  obtain⟨i,n,hi,rfl,rfl,rfl⟩:=hrel
  by_cases hiL:i<L
  ·have hiz:(i:Int)<(L:Int):=by omega
   obtain⟨z,hv⟩:=at_some (l:=l) (i:=i) (by rw[<- HL.out];exact hiL);obtain⟨ba,oa,rfl,a1⟩:=ha i _ hv;obtain⟨bb,ob,rfl,b1⟩:=hb i _ hv;clear hv;go_wp2
   go_quiet (fail)
   go_wp2
   go_roundg (L-(i+1))
   case measure=>go_light;omega
   case rel=>go_light;exact⟨i+1,_,by omega,rfl,by go_num,rfl⟩
  ·go_wp2
   go_ret
   exact⟨rfl,_,rfl⟩
end
section
open Go.RowKit
theorem equalTold_any (aa ab:Option Addr) (ca cb:Nat) (l:List (Int × Int)) (w:World) (ha:ToldAt w aa l) (hb:ToldAt w ab l) :
  Calls Tryz.prog 19 #[.slice aa l.length ca,.slice ab l.length cb] w fun e w'=>e=.returned (.bool true)/\∃ n,w'=w.drewN n:=by
 have hl:=ha.many;obtain⟨L,hL⟩:∃ L,L=l.length:=⟨_,rfl⟩;have HL:Aside (L=l.length):=hL;rw[<- hL] at hl ⊢;clear hL
 go_enter Tryz.func19,Tryz.ntmps19
 go_wp2
 go_loopg [13,5] L (fun g s13 s5 wr=>∃ i n:Nat,i<=L/\g=L-i/\s13=.int .i64 i/\wr=w.drewN n)
 case atStart=>exact⟨0,0,Nat.zero_le _,rfl,rfl,rfl⟩
 case round =>
  obtain⟨i,n,hi,rfl,rfl,rfl⟩:=hrel
  by_cases hiL:i<L
  ·have hiz:(i:Int)<(L:Int):=by omega
   obtain⟨⟨vk,vn⟩,hv⟩:=at_some (l:=l) (i:=i) (by rw[<- HL.out];exact hiL);obtain⟨ba,oa,rfl,a1,a2⟩:=ha.cell i _ hv;obtain⟨bb,ob,rfl,b1,b2⟩:=hb.cell i _ hv;simp only at a1 a2 b1 b2;clear hv;go_wp2
   go_quiet (fail)
   go_wp2
   go_roundg (L-(i+1))
   case measure=>go_light;omega
   case rel=>go_light;exact⟨i+1,_,by omega,rfl,by go_num,rfl⟩
  ·go_wp2
   go_ret
   exact⟨rfl,_,rfl⟩
end
section
open Go.RowKit
def fIn (z:Int):List Value:=[.int .i64 z]
theorem Tryz.rowIn:RowT Tryz.prog fIn 1 40 3 8:=⟨fun _=>rfl,fun x v hv=>by simp[fIn] at hv;rw[hv];rfl,by decide,Tryz.underlying40,_,(show(Tryz.prog.info? 3).map (fun i=>(i.zero,i.size,i.bytes))=some (some (.int .i64 0),1,8) by kernel_rfl),rfl⟩
def formL (x:Ac):List Int:=[x.kind,x.par,x.pc,x.fin,(x.box.length:Int)]++form x.obs (x.regs++x.box)
theorem ints_seq {w:World} {a:Option Addr} {l:List Int} (h:IntsAt w a l):SeqAt fIn 1 w a l:=fun i z hi=>by
 obtain⟨b,o,e,hc⟩:=h i z hi;refine⟨b,o,e,fun j u hu=>?_⟩
 match j,hu with
 | 0,hu=>simp[fIn] at hu;subst hu;simpa using hc
 | j+1,hu=>simp[fIn] at hu
theorem seq_ints {w:World} {a:Option Addr} {l:List Int} (h:SeqAt fIn 1 w a l):IntsAt w a l:=fun i z hi=>by
 obtain⟨b,o,e,hc⟩:=h i z hi;have:=hc 0 _ rfl;exact⟨b,o,e,by simpa using this⟩
theorem formL_len {x:Ac} (hm:hMay x.M x.obs (x.regs++x.box)=true) (h8:x.regs.length=8) (h6:x.box.length<=6):(formL x).length<=1000000:=by
 have h0:=tellObs_length hm (reach x.obs (x.regs++x.box)) (reach x.obs (x.regs++x.box));have h1:=(reach_ok hm _ (hMay_roots hm)).len;have h2:=hMay_bound hm;rw[formL,List.length_append,form,List.length_append,tells_length,List.length_append];simp only[List.length_cons,List.length_nil];omega
theorem tform_any (x:Ac) (oa ra ba:Option Addr) (oc rc bc:Nat) (w:World) (h1:ObsAt w oa x.obs) (h2:ValsAt w ra x.regs) (h3:ValsAt w ba x.box) (h8:x.regs.length=8) (h6:x.box.length<=6) (hm:hMay x.M x.obs (x.regs++x.box)=true) :
  Calls Tryz.prog 50 #[.agg #[.int .i64 x.kind,.int .i64 x.par,.int .i64 x.M,.slice oa x.obs.length oc,.slice ra x.regs.length rc,.int .i64 x.pc,.slice ba x.box.length bc,.int .i64 x.fin]] w fun e w'=>∃ ov oc,e=.returned (.slice ov (formL x).length oc)/\Below w.heap.size w w'/\IntsAt w' ov (formL x):=by
 obtain⟨F,hF⟩:∃ F,F=formL x:=⟨_,rfl⟩;have HF:Aside (F=[x.kind,x.par,x.pc,x.fin,(x.box.length:Int)]++form x.obs (x.regs++x.box)):=hF;rw[<- hF];clear hF;have hcat:=fun(b:Nat) (w':World) (c0:w'.cell? ⟨b,0,none⟩=some (.slice ra x.regs.length rc)) (c1:w'.cell? ⟨b,1,none⟩=some (.slice ba x.box.length bc)) (hk:Keeps w w')=>concat_any b ra ba rc bc x.regs x.box w' c0 c1 (h2.keeps hk) (h3.keeps hk) (by omega) h6
 have hform:=fun(va:Option Addr) (vc:Nat) (w':World) (hk:Keeps w w') (hv:ValsAt w' va (x.regs++x.box))=>form_any x.M oa oc x.obs va vc (x.regs++x.box) w' (h1.keeps hk) hv (by rw[List.length_append];omega) hm
 have hfl:(form x.obs (x.regs++x.box)).length<=1000000:=by
  have h0:=tellObs_length hm (reach x.obs (x.regs++x.box)) (reach x.obs (x.regs++x.box));have h1:=(reach_ok hm _ (hMay_roots hm)).len;have h2:=hMay_bound hm;rw[form,List.length_append,tells_length,List.length_append];omega
 have hfp:0<(form x.obs (x.regs++x.box)).length:=by
  rw[form,List.length_append,tells_length,List.length_append];omega
 obtain⟨N0,k1,b1,s1⟩:=boxes1 w (.cells #[.int .i64 x.kind,.int .i64 x.par,.int .i64 x.M,.slice oa x.obs.length oc,.slice ra x.regs.length rc,.int .i64 x.pc,.slice ba x.box.length bc,.int .i64 x.fin] 56);obtain⟨kind,par,M,obs,regs,pc,box,fin⟩:=x;simp only at HF hcat hform N0 k1 b1 s1 h1 h2 h3 h8 h6 hm hfl hfp ⊢;rw[List.length_append] at hform;generalize form obs (regs++box)=FF at *;have hmx:maxLen=9223372036854775807:=rfl
 generalize hOL:obs.length=OL at *;generalize hRL:regs.length=RL at *;generalize hXL:box.length=XL at *;subst h8;clear hm h1 h2 h3
 go_enter Tryz.func50,Tryz.ntmps50
 go_upto_region 1 with fail
 generalize w.alloc (.cells #[.int .i64 kind,.int .i64 par,.int .i64 M,.slice oa OL oc,.slice ra 8 rc,.int .i64 pc,.slice ba XL bc,.int .i64 fin] 56)=W at *;have c0:W.cell? ⟨w.heap.size,0,none⟩=some (.int .i64 kind):=cell_blk N0 0;have c1:W.cell? ⟨w.heap.size,1,none⟩=some (.int .i64 par):=cell_blk N0 1;have c5:W.cell? ⟨w.heap.size,5,none⟩=some (.int .i64 pc):=cell_blk N0 5;have c7:W.cell? ⟨w.heap.size,7,none⟩=some (.int .i64 fin):=cell_blk N0 7
 have c6:W.cell? ⟨w.heap.size,6,none⟩=some (.slice ba XL bc):=cell_blk N0 6;obtain⟨N1,k2,b2,s2⟩:=boxes1 W (.cells #[.int .i64 kind,.int .i64 par,.int .i64 pc,.int .i64 fin,.int .i64 XL] 3);have hB5w:w.heap.size<W.heap.size:=by omega
 clear s1 s2
 go_upto_region 2 with fail
 have b12:=b1.trans (b2.mono b1.size);have hO5:SeqOwn fIn 1 3 (W.alloc (.cells #[.int .i64 kind,.int .i64 par,.int .i64 pc,.int .i64 fin,.int .i64 XL] 3)) w.heap.size (.slice (some ⟨W.heap.size,0,none⟩) 5 5) [kind,par,pc,fin,(XL:Int)]:=ownsRow_lit (n:=5) N1 b1.size rfl (by omega);replace N0:=(b2.block _ (Array.getElem?_eq_some_iff.1 N0).1).trans N0;have hK2:=k1.trans k2;clear c0 c1 c5 c7 c6 N1 k1 k2
 generalize W.alloc (.cells #[.int .i64 kind,.int .i64 par,.int .i64 pc,.int .i64 fin,.int .i64 XL] 3)=W2 at *;have c2:W2.cell? ⟨w.heap.size,2,none⟩=some (.int .i64 M):=cell_blk N0 2;have c3:W2.cell? ⟨w.heap.size,3,none⟩=some (.slice oa OL oc):=cell_blk N0 3;have c4:W2.cell? ⟨w.heap.size,4,none⟩=some (.slice ra 8 rc):=cell_blk N0 4;have c6:W2.cell? ⟨w.heap.size,6,none⟩=some (.slice ba XL bc):=cell_blk N0 6
 generalize W.heap.size=B5 at *;have hSof:∀ w',Below W2.heap.size W2 w'->(w'.cell? ⟨w.heap.size,2,none⟩=some (.int .i64 M)/\w'.cell? ⟨w.heap.size,3,none⟩=some (.slice oa OL oc)/\w'.cell? ⟨w.heap.size,4,none⟩=some (.slice ra 8 rc)/\w'.cell? ⟨w.heap.size,6,none⟩=some (.slice ba XL bc)):=fun w' hb =>
  have k:=Keeps.below hb
  ⟨k _ _ c2,k _ _ c3,k _ _ c4,k _ _ c6⟩
 have hB:Below W2.heap.size W2 W2.drew:=(Below.refl _ _).drew;refine wp_region_need (fun _=>true) (fun w'=>w'.cell? ⟨w.heap.size,2,none⟩=some (.int .i64 M)/\w'.cell? ⟨w.heap.size,3,none⟩=some (.slice oa OL oc)/\w'.cell? ⟨w.heap.size,4,none⟩=some (.slice ra 8 rc)/\w'.cell? ⟨w.heap.size,6,none⟩=some (.slice ba XL bc)) (by kernel_rfl) (hSof _ hB) (fun hS=>?_);generalize W2.drew=wc0 at hB hS ⊢;refine tkN 0 hS ?_
 refine tkN 1 hS ?_;refine tkN 2 hS ?_;refine tkN 3 hS ?_;refine tkN 4 hS ?_;refine tkN 5 hS ?_;refine tkN 6 hS ?_;refine stN 7 (fun K hK=>?_);go_simp;obtain⟨N3,k3,b3,s3⟩:=boxes1 wc0 (.cells #[.slice ra 8 rc,.slice ba XL bc] 54);have hB2:=hB.trans (b3.mono hB.size);have hcatW:=hcat wc0.heap.size _ (cell_blk N3 0) (cell_blk N3 1) (hK2.trans (Keeps.below hB2));refine otN hK (hSof _ hB2) ?_;clear hK;replace hS:=hSof _ hB2
 generalize wc0.alloc (.cells #[.slice ra 8 rc,.slice ba XL bc] 54)=wc1 at *;refine stN 8 (fun K hK=>?_);go_simp;refine hcatW.mono ?_;rintro e w5 ⟨va,vc,rfl,hv,hb5⟩;have hB5:=hB2.trans (hb5.mono hB2.size);refine otN hK (hSof _ hB5) ?_;clear hK;replace hS:=hSof _ hB5;refine stN 9 (fun K hK=>?_);go_simp;refine(hform va vc w5 (hK2.trans (Keeps.below hB5)) hv).mono ?_;rintro e w6 ⟨ov,oc2,rfl,hb6,hI⟩;have hB6:=hB5.trans (hb6.mono hB5.size)
 refine otN hK (hSof _ hB6) ?_;clear hK;replace hS:=hSof _ hB6;have hO6:=hO5.below hB6;have hB6w:w.heap.size<=w6.heap.size:=Nat.le_trans b12.size hB6.size;refine stN 10 (fun K hK=>?_);refine step_seq Tryz.rowIn rfl _ _ rfl (v:=.slice (some ⟨B5,0,none⟩) 5 5) (by simp[Act.eval]) hO6 hB6w FF ov oc2 (by simp[Act.eval]) (ints_seq hI.at) hfp (by simp;omega) (by simp;omega) ?_;rintro g2 c2' w7 hO7 hg7 hb7 _
 have hNl:=(Array.getElem?_eq_some_iff.1 N0).1;have N6:=(hB6.block _ hNl).trans N0;have N7:=(hg7.block w.heap.size (Array.getElem?_eq_some_iff.1 N6).1 (by simp[Value.ownBlock];omega)).trans N6;have hS7:w7.cell? ⟨w.heap.size,2,none⟩=some (.int .i64 M)/\w7.cell? ⟨w.heap.size,3,none⟩=some (.slice oa OL oc)/\w7.cell? ⟨w.heap.size,4,none⟩=some (.slice ra 8 rc)/\w7.cell? ⟨w.heap.size,6,none⟩=some (.slice ba XL bc):=⟨cell_blk N7 2,cell_blk N7 3,cell_blk N7 4,cell_blk N7 6⟩
 refine otN hK (hS7) ?_;clear hK;replace hS:=hS7;have hBz:=(b12.trans (hB6.mono b12.size)).trans hb7;have hI7:IntsAt w7 (some ⟨g2,0,none⟩) F:=by rw[HF.out];exact seq_ints (hO7.at Tryz.rowIn.len)
 have hFl:F.length=5+FF.length:=by rw[HF.out,List.length_append];rfl
 refine tkN 11 hS ?_;refine dnN ?_;go_wp2
 go_ret
 exact⟨_,_,by rw[hFl];rfl,hBz,hI7⟩
end
end Go.Proofs.YtihpkcccfgbcmaaGreatDoor
