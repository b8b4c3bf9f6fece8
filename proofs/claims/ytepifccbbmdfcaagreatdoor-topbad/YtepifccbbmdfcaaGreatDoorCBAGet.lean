/- AGet. -/
import Derived.Test.YtepifccbbmdfcaaGreatDoorCBHGet
namespace Go.Proofs.YtepifccbbmdfcaaGreatDoor
set_option maxRecDepth 100000
set_option maxHeartbeats 8000000
section
open Go.RowKit
variable {P:Program}
theorem run_make_rowk (k:Nat) (t e:TypeId) (z:Value) (bytes:Nat) (ht:P.underlying t=some (.slice e)) (hinfo:(P.info? e).map (fun i=>(i.zero,i.size,i.bytes))=some (some z,k,bytes))
  (kl kc:IntKind) (n:Nat) (hbytes:bytes*n<=281474976710656) (h63:n<=9223372036854775807) (w:World) :
  (Instr.makeSlice t (.int kl (n:Int)) (.int kc (n:Int))).run P w=.ok (.slice (some ⟨w.heap.size,0,none⟩) n n) (w.alloc (.cells (madeCells z.cells (n*k)) e)):=by
 obtain⟨i,hi,hzz⟩:=Option.map_eq_some_iff.1 hinfo;simp only[Prod.mk.injEq] at hzz;obtain⟨hz,hs,hb⟩:=hzz;have hb':(i.bytes:Int)*(n:Int)<=281474976710656:=by
  have h:((i.bytes*n:Nat):Int)<=281474976710656:=by rw[hb];omega
  rwa [Int.natCast_mul] at h
 have hr:=run_make (P:=P) w t e i z ht hi hz kl kc n n (by omega) (Int.le_refl _) hb' (by omega);simp only[Int.toNat_natCast,hs] at hr;exact hr
theorem toList_madeCells_two (a b:Value):∀ n:Nat,(madeCells #[a,b] (n*2)).toList=pairs (List.replicate n (a,b)):=by
 intro n;refine List.ext_getElem? fun j=>?_
 have hlen:(pairs (List.replicate n (a,b))).length=n*2:=by simp[pairs_length]
 by_cases hj:j<n*2
 ·have h1:(madeCells #[a,b] (n*2)).toList[j]?=some (if j % 2=0 then a else b):=by
   simp only[madeCells,Array.toList_map,Array.toList_range,List.getElem?_map,List.getElem?_range hj,Option.map_some]
   rcases Nat.mod_two_eq_zero_or_one j with h | h <;> simp[h]
  rw[h1]
  rcases Nat.mod_two_eq_zero_or_one j with h | h
  ·have e:j=j / 2*2:=by omega
   rw[if_pos h,e,pairs_fst,List.getElem?_replicate,if_pos (by omega)]
   rfl
  ·have e:j=j / 2*2+1:=by omega
   rw[if_neg (by omega),e,pairs_snd,List.getElem?_replicate,if_pos (by omega)]
   rfl
 ·rw[List.getElem?_eq_none (by simp[size_madeCells];omega),List.getElem?_eq_none (by rw[hlen];omega)]
theorem Tryz.infoO:(Tryz.prog.info? 92).map (fun i=>(i.zero,i.size,i.bytes))=some (some (.agg #[.slice none 0 0,.bool false]),2,32):=by kernel_rfl
theorem Tryz.infoV:(Tryz.prog.info? 66).map (fun i=>(i.zero,i.size,i.bytes))=some (some (.agg #[.int .i64 0,.int .i64 0]),2,16):=by kernel_rfl
theorem Tryz.sizeV:(Tryz.prog.info? 66).map (·.size)=some 2:=by kernel_rfl
theorem zeroVals_cells (n:Nat):(madeCells #[.int .i64 0,.int .i64 0] (n*2)).toList=valCells (zeroVals n):=by
 rw[toList_madeCells_two,valCells,zeroVals,List.map_replicate];rfl
theorem vals_made (w:World) (base n:Nat) (hb:base<=w.heap.size) (hn:n<=maxLen):ValsOwn (w.alloc (.cells (madeCells #[.int .i64 0,.int .i64 0] (n*2)) 66)) base (.slice (some ⟨w.heap.size,0,none⟩) n n) (zeroVals n) :=
 ⟨by simp[valCells_length],.inr ⟨w.heap.size,n,_,by simp[zeroVals],hb,Deep.blk_alloc_new w _,by simp[zeroVals],hn,by simp[size_madeCells],by rw[List.take_of_length_le (by simp[size_madeCells,zeroVals]),zeroVals_cells]⟩⟩
theorem heap_made (w:World) (base n:Nat) (hb:base<=w.heap.size) (hn:32*n<=140737488351232) :
  HeapOwn (w.alloc (.cells (madeCells #[.slice none 0 0,.bool false] (n*2)) 92)) base (.slice (some ⟨w.heap.size,0,none⟩) n n) (List.replicate n (.slice none 0 0,⟨[],false⟩)):=by
 refine⟨⟨by simp[obCells_length],.inr ⟨w.heap.size,n,_,by simp,hb,Deep.blk_alloc_new w _,by simp,by unfold maxLen;omega,by simp[size_madeCells],?_⟩⟩,fun i p hp=>?_,fun i j p q hp hq _=>?_,by simpa using hn⟩
 ·rw[List.take_of_length_le (by simp[size_madeCells]),toList_madeCells_two,obCells,List.map_replicate];rfl
 ·rw[List.getElem?_replicate] at hp
  split at hp
  ·simp at hp
   subst hp;exact⟨World.ownsRow_nil _ _ _ _,by simp⟩
  ·cases hp
 ·rw[List.getElem?_replicate] at hp
  split at hp
  ·simp at hp
   subst hp;exact Or.inl rfl
  ·cases hp
theorem vals_src {w:World} {ao:Option Addr} {l:List Vl} (h:ValsAt w ao l) (hn:0<l.length):∃ ad,ao=some ad/\∀ j v,(valCells l)[j]?=some v->w.cell? (ad.add j)=some v:=by
 obtain⟨x,hx⟩:=at_some hn;obtain⟨b,o,rfl,_,_⟩:=h 0 x hx;refine⟨_,rfl,fun j v hv=>?_⟩;have hj:j<l.length*2:=by
  have:=(List.getElem?_eq_some_iff.1 hv).1
  rwa [valCells_length] at this
 obtain⟨y,hy⟩:=at_some (l:=l) (i:=j / 2) (by omega);obtain⟨b',o',e,c1,c2⟩:=h (j / 2) y hy;simp only[Option.some.injEq,Addr.mk.injEq,and_true] at e;obtain⟨rfl,rfl⟩:=e;have hadd:(⟨b,o,none⟩:Addr).add j=⟨b,o+j,none⟩:=by unfold Addr.add;split <;> simp_all
 rw[hadd]
 rcases Nat.mod_two_eq_zero_or_one j with h2 | h2
 ·have e:j=j / 2*2:=by omega
  rw[e,valCells,pairs_fst] at hv;simp[hy,valPair] at hv;rw[e,c1,hv]
 ·have e:j=j / 2*2+1:=by omega
  rw[e,valCells,pairs_snd] at hv;simp[hy,valPair] at hv;rw[e,<- Nat.add_assoc,c2,hv]
theorem cells2_new (w:World) (a b:Value) (t:TypeId) (m:Nat) (hm:m=w.heap.size):∀ j u,[a,b][j]?=some u->(w.alloc (.cells #[a,b] t)).cell? ((⟨m,0,none⟩:Addr).add j)=some u:=by
 subst hm;intro j u hj;have hb:=Deep.blk_alloc_new w (.cells #[a,b] t);have e:(⟨w.heap.size,0,none⟩:Addr).add j=⟨w.heap.size,j,none⟩:=by unfold Addr.add;split <;> simp_all
 rw[e];simp only[World.cell?,hb]
 simpa using hj
theorem step_pushOb {w:World} {base:Nat} {v:Value} {rows:List (Value × Ob)} {ops:Array Oper} {o:Oper} {a:Act} {K:Act->World->Prop} {Q:Exit->Act->World->Prop} {E:Prop} (hgd:o.guard=none) (s x:Operand)
  (ho:o.op=.call { callee:=.builtin .append,args:=#[s,x],argTypes:=#[45,45] }) (hs:a.eval s=v) (hO:HeapOwn w base v rows) (hb:base<=w.heap.size)
  (nv:Value) (ob:Ob) (h1:nv.oneCell'=true) (hv:ValsOwn w base nv ob.fs) (hl:16*ob.fs.length<=140737488351232) (hap:∀ (j:Nat) q,rows[j]?=some q->nv.ownBlock=none\/nv.ownBlock≠q.1.ownBlock) (hm:32*rows.length+32<=140737488351232)
  (hx:a.eval x=.slice (some ⟨w.heap.size,0,none⟩) 1 1)
  (h:∀ g cap w',HeapOwn w' base (.slice (some ⟨g,0,none⟩) (rows.length+1) cap) (rows++[(nv,ob)])->Below base w w'->(w.alloc (.cells #[nv,.bool ob.dead] 92)).grownBy w' v.ownBlock->K (a.put o.dst (.slice (some ⟨g,0,none⟩) (rows.length+1) cap)) w') :
  if Region.wanted o (yielded ops a.tmps)=true then Oper.wp Tryz.prog o a (w.alloc (.cells #[nv,.bool ob.dead] 92)) K Q else E:=by
 obtain⟨i0,hi0,hzz⟩:=Option.map_eq_some_iff.1 Tryz.infoO;simp only[Prod.mk.injEq] at hzz;obtain⟨hz0,hz1,hz2⟩:=hzz;refine step_append_lies _ hgd s x 45 ho base 92 i0 (.agg #[.slice none 0 0,.bool false]) 2 32 Tryz.underlying45 hi0 hz0 hz1 hz2 rfl (by decide) v rows.length (obCells rows) hs (hO.alloc _).top ⟨w.heap.size,0,none⟩ 1 1 [nv,.bool ob.dead] hx rfl (cells2_new _ _ _ _ _ rfl) ?_ (by decide) (by unfold maxLen;omega) (by omega) (by simp;omega) (w.heap.size+1) (by simp) ?_
 ·intro u hu
  simp at hu
  rcases hu with rfl | rfl
  ·exact h1
  ·rfl
 ·intro g cap w' hown hg _ _
  refine h g cap w' ((hO.alloc _).push nv ob (World.ownsRow.alloc hv _) hl hap hm hown hg) ((below_box_base hb _).trans ((Below.refl _ _).grown hg (by simp;omega) (fun j hj=>(World.ownsRow.lt hO.top j hj).1))) hg
theorem run_append_zero {w:World} {base:Nat} {t ty e:TypeId} {i:TypeInfo} {size n:Nat} {v:Value} {xs:List Value} (ht:P.underlying t=some (.slice e)) (hi:P.info? e=some i) (hown:w.ownsRow base e size v n xs) (fa:Option Addr) (fc:Nat) :
  (Builtin.append_ #[t,t] ty #[v,.slice fa 0 fc]).run P w=.ok v w:=by
 have hsrc:Src P i.size t (.slice fa 0 fc) 0 [] w:=by
  cases fa with
  | none=>exact Src.ofNil w ht fc
  | some a=>exact Src.ofSlice w ht a 0 fc [] (by simp) (by simp) (by simp)
 rcases hown.2 with⟨rfl,rfl⟩ | ⟨g,cap,cur,rfl,_,_,h1,_⟩
 ·cases fa <;> simp[Builtin.append_,run_underlying ht,sizeOf,typeInfo,hi,Builtin.lenOf,Builtin.firstCells,loadCells,loadCellsFrom]
 ·have:=run_append_room_src (P:=P) w t t ty e i ht hi g 0 n cap (.slice fa 0 fc) 0 [] hsrc (by omega) (by simp) (by simp)
  rw[this];simp[World.setCells]
theorem step_append_zero {w:World} {base:Nat} {t e:TypeId} {i:TypeInfo} {size n:Nat} {v:Value} {xs:List Value} {ops:Array Oper} {o:Oper} {a:Act} {K:Act->World->Prop} {Q:Exit->Act->World->Prop} {E:Prop} (hgd:o.guard=none) (s x:Operand)
  (ho:o.op=.call { callee:=.builtin .append,args:=#[s,x],argTypes:=#[t,t] }) (ht:P.underlying t=some (.slice e)) (hi:P.info? e=some i) (hs:a.eval s=v) (hown:w.ownsRow base e size v n xs) (fa:Option Addr) (fc:Nat) (hx:a.eval x=.slice fa 0 fc)
  (h:K (a.put o.dst v) w):if Region.wanted o (yielded ops a.tmps)=true then Oper.wp P o a w K Q else E:=by
 have hw:Region.wanted o (yielded ops a.tmps)=true:=by simp[Region.wanted,hgd]
 rw[if_pos hw];have hr:=run_append_zero (P:=P) (ty:=o.type) ht hi hown fa fc
 unfold Oper.wp execOp
 simp only[ho,resolve,invoke,builtin,Sem.run_bind,Sem.run_pure,Result.andThen_ok,List.map_toArray,List.map_cons,List.map_nil,hs,hx,hr];exact h
end
section
open Go.RowKit
theorem two_cells {W:World} {N1:Nat} {a0 a1:Value} {t1:TypeId} (h1:W.heap[N1]?=some (.cells #[a0,a1] t1 (0,0))) (x y:Value) :
  ((W.setCell ⟨N1,0,none⟩ x).setCell ⟨N1,1,none⟩ y).cell? ⟨N1,0,none⟩=some x/\((W.setCell ⟨N1,0,none⟩ x).setCell ⟨N1,1,none⟩ y).cell? ⟨N1,1,none⟩=some y:=by
 have m1:=setCell_blk (setCell_blk h1 0 x) 1 y;exact⟨by simp[World.cell?,m1],by simp[World.cell?,m1]⟩
theorem vals_one (w:World) (k n:Int) (t:TypeId):ValsAt (w.alloc (.cells #[.int .i64 k,.int .i64 n] t)) (some ⟨w.heap.size,0,none⟩) [⟨k,n⟩]:=fun i v hi=>by
 match i,hi with
 | 0,hi =>
  simp at hi;subst hi;exact⟨_,_,rfl,by simp,by simp⟩
theorem get_any (M:Int) (ao:Option Addr) (cap:Nat) (l:List Ob) (k n f:Int) (w:World) (h:ObsAt w ao l) :
  Calls Tryz.prog 150 #[.agg #[.int .i64 M,.slice ao l.length cap],.agg #[.int .i64 k,.int .i64 n],.int .i64 f] w fun e w' =>
   e=.returned (.tuple #[.agg #[.int .i64 (getS M l ⟨k,n⟩ f).1.k,.int .i64 (getS M l ⟨k,n⟩ f).1.n],.int .i64 (getS M l ⟨k,n⟩ f).2])/\Below w.heap.size w w':=by
 obtain⟨r,hr⟩:∃ r,r=getS M l ⟨k,n⟩ f:=⟨_,rfl⟩;have HR:Aside (r=getS M l ⟨k,n⟩ f):=hr;rw[<- hr];clear hr
 go_enter Tryz.func150,Tryz.ntmps150
 go_wp2_with fail
 have HB:=boxes4 w (Obj.cells #[.int .i64 M,.slice ao l.length cap] 47) (Obj.cells #[.int .i64 k,.int .i64 n] 66) (Obj.cells #[.int .i64 0,.int .i64 0] 66) (Obj.cells #[.int .i64 k,.int .i64 n] 66);have hv1:=vals_one (((w.alloc (Obj.cells #[.int .i64 M,.slice ao l.length cap] 47)).alloc (Obj.cells #[.int .i64 k,.int .i64 n] 66)).alloc (Obj.cells #[.int .i64 0,.int .i64 0] 66)) k n 66;simp only[Deep.nblk_alloc] at hv1
 generalize (((w.alloc (Obj.cells #[.int .i64 M,.slice ao l.length cap] 47)).alloc (Obj.cells #[.int .i64 k,.int .i64 n] 66)).alloc (Obj.cells #[.int .i64 0,.int .i64 0] 66)).alloc (Obj.cells #[.int .i64 k,.int .i64 n] 66)=W at *;obtain⟨N0,N1,N2,N3,k1,b1,hs⟩:=HB;clear N3;refine(check_any M ao cap l _ 1 [⟨k,n⟩] W (h.keeps k1) hv1 (by simp)).mono ?_;rintro e w1 ⟨rfl,hb⟩;replace N0:=(hb.block _ (by omega)).trans N0
 replace N1:=(hb.block _ (by omega)).trans N1;replace N2:=(hb.block _ (by omega)).trans N2;replace b1:=b1.trans (hb.mono (by omega));replace k1:=k1.trans (Keeps.below hb);replace hs:w.heap.size+1+1+1<=w1.heap.size:=by have:=hb.size;omega
 clear hb hv1;clear W;have c2:w1.cell? ⟨w.heap.size+1+1,0,none⟩=some (.int .i64 0):=by simp[World.cell?,N2]
 have c3:w1.cell? ⟨w.heap.size+1+1,1,none⟩=some (.int .i64 0):=by simp[World.cell?,N2]
 have f2:∀ j,w1.frozen? ⟨w.heap.size+1+1,j,none⟩=false:=fun j=>by simp[World.frozen?,N2]
 cases hq:hMay M l [⟨k,n⟩] with
 | false =>
  have HE:Aside (r=(⟨0,0⟩,8)):=by show r=_;rw[HR.out,getS,if_pos hq]
  clear HR;simp only[erS_false];go_wp2
  obtain⟨m1,m2⟩:=two_cells N2 (.int .i64 0) (.int .i64 0);refine bodyPost_ret (v:=.tuple #[.agg #[.int .i64 0,.int .i64 0],.int .i64 8]) (by simp[results,Tryz.results150,go_sem,m1,m2]) rfl ⟨by rw[HE.out],?_⟩;exact(b1.setCell (by show w.heap.size<=w.heap.size+1+1;omega) _).setCell (by show w.heap.size<=w.heap.size+1+1;omega) _
 | true =>
  simp only[erS_true];have hvm:=hMay_vMay hq (v:=⟨k,n⟩) (by simp);have p0:w1.cell? ⟨w.heap.size,0,none⟩=some (.int .i64 M):=by simp[World.cell?,N0]
  have p1:w1.cell? ⟨w.heap.size,1,none⟩=some (.slice ao l.length cap):=by simp[World.cell?,N0]
  have p2:w1.cell? ⟨w.heap.size+1,0,none⟩=some (.int .i64 k):=by simp[World.cell?,N1]
  have p3:w1.cell? ⟨w.heap.size+1,1,none⟩=some (.int .i64 n):=by simp[World.cell?,N1]
  go_wp2_with fail
  refine(checkField_any M ao cap l k n f w1 (h.keeps k1) hvm).mono ?_;rintro e w2 ⟨rfl,hb2⟩;replace N0:=(hb2.block _ (by omega)).trans N0;replace N1:=(hb2.block _ (by omega)).trans N1;replace N2:=(hb2.block _ (by omega)).trans N2;replace b1:=b1.trans (hb2.mono (by omega));replace k1:=k1.trans (Keeps.below hb2);clear hb2 p0 p1 p2 p3 c2 c3 f2;have p1:w2.cell? ⟨w.heap.size,1,none⟩=some (.slice ao l.length cap):=by simp[World.cell?,N0]
  have p3:w2.cell? ⟨w.heap.size+1,1,none⟩=some (.int .i64 n):=by simp[World.cell?,N1]
  have c2:w2.cell? ⟨w.heap.size+1+1,0,none⟩=some (.int .i64 0):=by simp[World.cell?,N2]
  have c3:w2.cell? ⟨w.heap.size+1+1,1,none⟩=some (.int .i64 0):=by simp[World.cell?,N2]
  have f2:∀ j,w2.frozen? ⟨w.heap.size+1+1,j,none⟩=false:=fun j=>by simp[World.frozen?,N2]
  by_cases he:fieldErr l ⟨k,n⟩ f=0
  ·obtain⟨hk2,p,q,ob,x,hp,hqf,hob,hx,_⟩:=field_there hvm he
   simp only at hk2 hp;have HE:Aside (r=(x,0)):=by show r=_;rw[HR.out,getS,if_neg (by simp[hq]),if_neg (by simp[he])];simp[hp,hqf,hob,hx]
   rw[he];clear he hq HR hvm;subst hk2 hp hqf;obtain⟨xk,xn⟩:=x;obtain⟨fs,dead⟩:=ob;obtain⟨b,o,fa,fc,rfl,d1,d2,hfs,hfl⟩:=(h.keeps k1).cell p _ hob;simp only at d1 d2 hfs hx hfl;obtain⟨fb,fo,rfl,e1,e2⟩:=hfs q _ hx;simp only at e1 e2;have hpz:(p:Int)<(l.length:Int):=by have:=(List.getElem?_eq_some_iff.1 hob).1;omega
   have hqz:(q:Int)<(fs.length:Int):=by have:=(List.getElem?_eq_some_iff.1 hx).1;omega
   clear hob hx hfs;go_wp2
   obtain⟨m1,m2⟩:=two_cells N2 (.int .i64 xk) (.int .i64 xn);refine bodyPost_ret (v:=.tuple #[.agg #[.int .i64 xk,.int .i64 xn],.int .i64 0]) (by simp[results,Tryz.results150,go_sem,m1,m2]) rfl ⟨by rw[HE.out],?_⟩;exact(b1.setCell (by show w.heap.size<=w.heap.size+1+1;omega) _).setCell (by show w.heap.size<=w.heap.size+1+1;omega) _
  ·have HE:Aside (r=(⟨0,0⟩,fieldErr l ⟨k,n⟩ f)):=by show r=_;rw[HR.out,getS,if_neg (by simp[hq]),if_pos he]
   have hne:(fieldErr l ⟨k,n⟩ f != 0)=true:=by simp[he]
   clear HR he hq;go_wp2
   obtain⟨m1,m2⟩:=two_cells N2 (.int .i64 0) (.int .i64 0);refine bodyPost_ret (v:=.tuple #[.agg #[.int .i64 0,.int .i64 0],.int .i64 (fieldErr l ⟨k,n⟩ f)]) (by simp[results,Tryz.results150,go_sem,m1,m2]) rfl ⟨by rw[HE.out],?_⟩;exact(b1.setCell (by show w.heap.size<=w.heap.size+1+1;omega) _).setCell (by show w.heap.size<=w.heap.size+1+1;omega) _
end
section
open Go.RowKit
theorem WdOwn.heapAt {w:World} {base Bw:Nat} {V:Wd} {av pv:Value} {fl:List Fa} {rs:List (List (Value × Ob))} (h:WdOwn w base Bw V av pv fl rs) {g nn c:Nat} (hav:av=.slice (some ⟨g,0,none⟩) nn c) {j:Nat} {x:Ac} (hx:V.acts[j]?=some x) :
  ∃ oa oc fa r,fl[j]?=some fa/\rs[j]?=some r/\fa.oa=oa/\w.cell? ⟨g,j*8+2,none⟩=some (.int .i64 x.M)/\w.cell? ⟨g,j*8+3,none⟩=some (.slice oa x.obs.length oc)/\ObsAt w oa x.obs:=by
 obtain⟨fa,r,g',c',R,hfa,hr,hA,hav2,_,_,_,k2,k3,_,_,_,_⟩:=h.cells hx;rw[hav] at hav2;simp only[Value.slice.injEq,Option.some.injEq,Addr.mk.injEq,and_true] at hav2;obtain⟨rfl,_,_⟩:=hav2;have hH:=hA.heap.obs.2;rw[hA.obs] at hH;exact⟨fa.oa,fa.oc,fa,r,hfa,hr,rfl,k2,k3,hH⟩
theorem aget_any (op a b n kind way:Int) (w:World) {base Bw:Nat} {V:Wd} {av pv:Value} {fl:List Fa} {rs:List (List (Value × Ob))} (h:WdOwn w base Bw V av pv fl rs) {j:Nat} {x:Ac} (hx:V.acts[j]?=some x) {g nn c:Nat} (hav:av=.slice (some ⟨g,0,none⟩) nn c) (h8:x.regs.length=8) (ha:0<=a/\a<=7) (hb:0<=b/\b<=7) :
  Calls Tryz.prog 111 #[.pointer (some ⟨g,j*8,none⟩),.agg #[.int .i64 op,.int .i64 a,.int .i64 b,.int .i64 n],.int .i64 kind,.int .i64 way] w fun e w'=>e=.returned (.int .i64 (getsS x ⟨op,a,b,n⟩ kind way).2)/\WdOwn w' base Bw { V with acts:=V.acts.set j (getsS x ⟨op,a,b,n⟩ kind way).1 } av pv fl rs/\Moved w w' (wdFoot Bw av pv fl rs) (wdFoot Bw av pv fl rs):=by
 obtain⟨qa,va,rfl,hqa,hva,era⟩:=reg_of ha h8;obtain⟨qb,vb,rfl,hqb,hvb,erb⟩:=reg_of hb h8;obtain⟨N0,k1,b1,s1⟩:=boxes1 w (.cells #[.int .i64 op,.int .i64 qa,.int .i64 qb,.int .i64 n] 43);have h1:=h.below b1;obtain⟨R,fa,r,rc,hfa,hr,hra,k4,kq,kf,hRl,_⟩:=h1.regAt hav hx h8;obtain⟨oa,oc,_,_,_,_,_,k2,k3,hO⟩:=h1.heapAt hav hx;obtain⟨ra1,ra2⟩:=kq qa _ hva;obtain⟨rb1,rb2⟩:=kq qb _ hvb;have HRK:Aside (getsS x ⟨op,qa,qb,n⟩ kind way=if (getS x.M x.obs vb n).2≠0 then (x,faultS (getS x.M x.obs vb n).2) else if (getS x.M x.obs vb n).1.k≠kind then (x,way) else (x.put qa (getS x.M x.obs vb n).1,0)):=by
  show getsS x ⟨op,qa,qb,n⟩ kind way=_
  simp only[getsS,erb]
 generalize getsS x ⟨op,qa,qb,n⟩ kind way=RK at *;have hza:(qa:Int)<8:=by omega
 have hzb:(qb:Int)<8:=by omega
 have HW:Aside (WdOwn w base Bw V av pv fl rs):=h;have HAV:Aside (av=.slice (some ⟨g,0,none⟩) nn c):=hav;have HM:Aside (∀ w',Below w.heap.size w w'->Moved w w' (wdFoot Bw av pv fl rs) (wdFoot Bw av pv fl rs)):=fun w' hb'=>Moved.of_below hb'
 go_enter Tryz.func111,Tryz.ntmps111
 go_upto_region 1 with fail
 generalize w.alloc (.cells #[.int .i64 op,.int .i64 qa,.int .i64 qb,.int .i64 n] 43)=W at *;have e1:W.cell? ⟨w.heap.size,1,none⟩=some (.int .i64 qa):=cell_blk N0 1;have e2:W.cell? ⟨w.heap.size,2,none⟩=some (.int .i64 qb):=cell_blk N0 2;have e3:W.cell? ⟨w.heap.size,3,none⟩=some (.int .i64 n):=cell_blk N0 3;obtain⟨yk,yn⟩:=vb;obtain⟨xk,xn⟩:=va;simp only at ra1 ra2 rb1 rb2;clear h h1 N0 hav kq;obtain⟨GR,hGR⟩:∃ GR,GR=getS x.M x.obs ⟨yk,yn⟩ n:=⟨_,rfl⟩
 have HG:Aside (GR=getS x.M x.obs ⟨yk,yn⟩ n):=hGR;rw[<- hGR] at HRK;have hget:=fun w' (hb:Below W.heap.size W w')=>get_any x.M oa oc x.obs yk yn n w' (hO.keeps (Keeps.below hb))
 rw[<- hGR] at hget;clear hGR;generalize x.M=XM at *;generalize x.obs.length=XL at *;obtain⟨⟨gk,gn⟩,ge⟩:=GR;simp only at hget HRK;have hSof:∀ w',Below W.heap.size W w'->(w'.cell? ⟨w.heap.size,2,none⟩=some (.int .i64 qb)/\w'.cell? ⟨w.heap.size,3,none⟩=some (.int .i64 n)/\w'.cell? ⟨g,j*8+2,none⟩=some (.int .i64 XM)/\w'.cell? ⟨g,j*8+3,none⟩=some (.slice oa XL oc)/\w'.cell? ⟨g,j*8+4,none⟩=some (.slice (some ⟨R,0,none⟩) 8 rc)/\w'.cell? ⟨R,qb*2,none⟩=some (.int .i64 yk)/\w'.cell? ⟨R,qb*2+1,none⟩=some (.int .i64 yn)):=fun w' hb'=>⟨Keeps.below hb' _ _ e2,Keeps.below hb' _ _ e3,Keeps.below hb' _ _ k2,Keeps.below hb' _ _ k3,Keeps.below hb' _ _ k4,Keeps.below hb' _ _ rb1,Keeps.below hb' _ _ rb2⟩
 go_cut [9,10] (fun s9 s10 wc=>∃ G:Nat,s9=.pointer (some ⟨G,0,none⟩)/\s10=.int .i64 ge/\Below W.heap.size W wc/\W.heap.size<=G/\wc.heap[G]?=some (.cells #[.int .i64 gk,.int .i64 gn] 66 (0,0)))
 case first =>
  have hB:Below W.heap.size W W.drew:=(Below.refl _ _).drew;refine wp_region_need (fun _=>true) (fun w'=>w'.cell? ⟨w.heap.size,2,none⟩=some (.int .i64 qb)/\w'.cell? ⟨w.heap.size,3,none⟩=some (.int .i64 n)/\w'.cell? ⟨g,j*8+2,none⟩=some (.int .i64 XM)/\w'.cell? ⟨g,j*8+3,none⟩=some (.slice oa XL oc)/\w'.cell? ⟨g,j*8+4,none⟩=some (.slice (some ⟨R,0,none⟩) 8 rc)/\w'.cell? ⟨R,qb*2,none⟩=some (.int .i64 yk)/\w'.cell? ⟨R,qb*2+1,none⟩=some (.int .i64 yn)) (by kernel_rfl) (hSof _ hB) (fun hS=>?_)
  generalize W.drew=wc0 at hS hB  ⊢;refine tkN 0 hS ?_;refine tkN 1 hS ?_;refine tkN 2 hS ?_;refine tkN 3 hS ?_;refine tkN 4 hS ?_;refine tkN 5 hS ?_;refine tkN 6 hS ?_;refine tkN 7 hS ?_;refine tkN 8 hS ?_;refine tkN 9 hS ?_;refine tkN 10 hS ?_;refine tkN 11 hS ?_;refine tkN 12 hS ?_;refine tkN 13 hS ?_;refine twN 14 18 (fun K hK=>?_) (fun K hK=>?_)
  ·go_simp
   refine(hget wc0 hB).mono ?_;rintro e wc1 ⟨rfl,hbn⟩;have hBn:Below W.heap.size W wc1:=hB.trans (hbn.mono hB.size);refine otN hK (hSof _ hBn) ?_;replace hS:=hSof _ hBn;clear hK;replace hB:=hBn;clear hBn hbn;refine tkN 15 hS ?_;refine tkN 16 hS ?_;refine tkN 17 hS ?_;refine stN 18 (fun K hK=>?_);go_simp;have hbn:=below_box wc1 (Obj.cells #[.int .i64 0,.int .i64 0] 66);have mG:=Deep.blk_alloc_new wc1 (Obj.cells #[.int .i64 0,.int .i64 0] 66)
   have xG:W.heap.size<=wc1.heap.size:=hB.size
   try have daG:TT<=wc1.heap.size:=sT
   generalize wc1.alloc (Obj.cells #[.int .i64 0,.int .i64 0] 66)=wc2 at hbn mG ⊢;obtain⟨G,hG⟩:∃ G,G=wc1.heap.size:=⟨_,rfl⟩;rw[<- hG] at mG xG ⊢
   try rw[<- hG] at daG
   clear hG;have hBn:Below W.heap.size W wc2:=hB.trans (hbn.mono hB.size);refine otN hK (hSof _ hBn) ?_;replace hS:=hSof _ hBn;clear hK;replace hB:=hBn;clear hBn hbn;refine stN 19 (fun K hK=>?_);have c0:=cellBlk mG 0;have c1:=cellBlk mG 1;have cf:∀ j,wc2.frozen? ⟨G,j,none⟩=false:=fun j=>by simp[World.frozen?,mG]
   simp at c0 c1;go_simp;have hBn:=two_below hB xG 0 1 (.int .i64 gk) (.int .i64 gn);replace mG:=two_blk mG 0 1 (.int .i64 gk) (.int .i64 gn);clear c0 c1 cf;generalize (wc2.setCell ⟨G,0,none⟩ (.int .i64 gk)).setCell ⟨G,1,none⟩ (.int .i64 gn)=wc3 at *;refine otN hK (hSof _ hBn) ?_;replace hS:=hSof _ hBn;clear hK;replace hB:=hBn;clear hBn;refine tkN 20 hS ?_;refine dnN ?_
   go_wp2_with fail
   go_meet
   case rel=>exact⟨G,rfl,rfl,hB,xG,mG⟩
  ·go_simp
   have hbn:=below_box wc0 (Obj.cells #[.int .i64 0,.int .i64 0] 66);have mG:=Deep.blk_alloc_new wc0 (Obj.cells #[.int .i64 0,.int .i64 0] 66);have xG:W.heap.size<=wc0.heap.size:=hB.size
   try have daG:TT<=wc0.heap.size:=sT
   generalize wc0.alloc (Obj.cells #[.int .i64 0,.int .i64 0] 66)=wc1 at hbn mG ⊢;obtain⟨G,hG⟩:∃ G,G=wc0.heap.size:=⟨_,rfl⟩;rw[<- hG] at mG xG ⊢
   try rw[<- hG] at daG
   clear hG;have hBn:Below W.heap.size W wc1:=hB.trans (hbn.mono hB.size);refine otN hK (hSof _ hBn) ?_;replace hS:=hSof _ hBn;clear hK;replace hB:=hBn;clear hBn hbn;refine stN 14 (fun K hK=>?_);go_simp;refine(hget wc1 hB).mono ?_;rintro e wc2 ⟨rfl,hbn⟩;have hBn:Below W.heap.size W wc2:=hB.trans (hbn.mono hB.size);refine otN hK (hSof _ hBn) ?_;replace hS:=hSof _ hBn;clear hK;replace mG:=(hbn.block _ (Array.getElem?_eq_some_iff.1 mG).1).trans mG
   replace hB:=hBn;clear hBn hbn;refine tkN 15 hS ?_;refine tkN 16 hS ?_;refine tkN 17 hS ?_;refine stN 19 (fun K hK=>?_);have c0:=cellBlk mG 0;have c1:=cellBlk mG 1;have cf:∀ j,wc2.frozen? ⟨G,j,none⟩=false:=fun j=>by simp[World.frozen?,mG]
   simp at c0 c1;go_simp;have hBn:=two_below hB xG 0 1 (.int .i64 gk) (.int .i64 gn);replace mG:=two_blk mG 0 1 (.int .i64 gk) (.int .i64 gn);clear c0 c1 cf;generalize (wc2.setCell ⟨G,0,none⟩ (.int .i64 gk)).setCell ⟨G,1,none⟩ (.int .i64 gn)=wc3 at *;refine otN hK (hSof _ hBn) ?_;replace hS:=hSof _ hBn;clear hK;replace hB:=hBn;clear hBn;refine tkN 20 hS ?_;refine dnN ?_
   go_wp2_with fail
   go_meet
   case rel=>exact⟨G,rfl,rfl,hB,xG,mG⟩
 case rest =>
  obtain⟨G,rfl,rfl,hBc,xG,mG⟩:=hcut;have HB:Aside (Below w.heap.size w wc):=b1.trans (hBc.mono b1.size);have f1:=Keeps.below hBc _ _ e1;have g0:wc.cell? ⟨G,0,none⟩=some (.int .i64 gk):=cell_blk mG 0;have g1:wc.cell? ⟨G,1,none⟩=some (.int .i64 gn):=cell_blk mG 1;clear e1 e2 e3 ra1 ra2 rb1 rb2 k2 k3 k4 kf hBc mG hSof hO hget
  by_cases hge:ge=0
  rotate_left
  ·have q0:(ge != 0)=true:=by simp[hge]
   have hRK:RK=(x,faultS ge):=by rw[HRK.out,if_pos hge]
   subst hRK;have HF:Aside ((if ge=2 then (4:Int) else 8)=faultS ge):=rfl
   go_wp2_with (go_at_call 151;refine(fault_any _ _).mono ?_;rintro e w' ⟨rfl,hw'⟩;replace hw':=hw'.symm;subst hw';rw[HF.out])
   go_ret
   exact⟨rfl,HW.out.same hx HB.out,HM.out _ HB.out⟩
  subst hge
  by_cases hgk:gk=kind
  rotate_left
  ·have q0:(gk != kind)=true:=by simp[hgk]
   have hRK:RK=(x,way):=by rw[HRK.out,if_neg (by simp),if_pos hgk]
   subst hRK;go_wp2
   go_ret
   exact⟨rfl,HW.out.same hx HB.out,HM.out _ HB.out⟩
  subst hgk;have hRK:RK=(x.put qa ⟨gk,gn⟩,0):=by rw[HRK.out,if_neg (by simp),if_neg (by simp)]
  subst hRK
  go_upto_region 6 with fail
  obtain⟨R,fb,rb,rc,hfb,hrb,hra,k4,kq,kf,hRl,_⟩:=(HW.out.below HB.out).regAt HAV.out hx h8;obtain⟨q1,q2⟩:=kq qa _ hva;have hSof:∀ w2,Below wc.heap.size wc w2->(w2.cell? ⟨w.heap.size,1,none⟩=some (.int .i64 qa)/\w2.cell? ⟨g,j*8+4,none⟩=some (.slice (some ⟨R,0,none⟩) 8 rc)/\w2.cell? ⟨G,0,none⟩=some (.int .i64 gk)/\w2.cell? ⟨G,1,none⟩=some (.int .i64 gn)):=fun w2 hb'=>⟨Keeps.below hb' _ _ f1,Keeps.below hb' _ _ k4,Keeps.below hb' _ _ g0,Keeps.below hb' _ _ g1⟩
  have hBd:Below wc.heap.size wc wc.drew:=(Below.refl _ _).drew;refine wp_region_need (fun j=>j != 8) (fun w2=>w2.cell? ⟨w.heap.size,1,none⟩=some (.int .i64 qa)/\w2.cell? ⟨g,j*8+4,none⟩=some (.slice (some ⟨R,0,none⟩) 8 rc)/\w2.cell? ⟨G,0,none⟩=some (.int .i64 gk)/\w2.cell? ⟨G,1,none⟩=some (.int .i64 gn)) (by kernel_rfl) (hSof _ hBd) (fun hS=>?_);generalize wc.drew=wn at hS hBd ⊢;replace q1:=Keeps.below hBd _ _ q1
  replace q2:=Keeps.below hBd _ _ q2;have kf':∀ i,wn.frozen? ⟨R,i,none⟩=false:=fun i=>(hBd.frozen hRl).trans (kf i)
  refine tkN 0 hS ?_;refine tkN 1 hS ?_;refine tkN 2 hS ?_;refine tkN 3 hS ?_;refine tkN 4 hS ?_;refine tkN 5 hS ?_;refine tkN 6 hS ?_;refine tkN 7 hS ?_;refine stN 8 (fun K hK=>?_);go_simp;refine laN hK ?_;clear hK;have hBz:=HB.out.trans (hBd.mono HB.out.size);have hS1:=(HW.out.below hBz).setReg hfb hrb hx hra (q:=qa) (by omega) ⟨gk,gn⟩;have hM1:=(HM.out _ hBz).trans hS1.2;have HZ:Aside (WdOwn ((wn.setCell ⟨R,qa*2,none⟩ (.int .i64 gk)).setCell ⟨R,qa*2+1,none⟩ (.int .i64 gn)) base Bw { V with acts:=V.acts.set j (x.put qa ⟨gk,gn⟩) } av pv fl rs/\Moved w ((wn.setCell ⟨R,qa*2,none⟩ (.int .i64 gk)).setCell ⟨R,qa*2+1,none⟩ (.int .i64 gn)) (wdFoot Bw av pv fl rs) (wdFoot Bw av pv fl rs)):=⟨hS1.1,hM1⟩
  clear hS1 hM1 hS hSof q1 q2 kf' kq;generalize (wn.setCell ⟨R,qa*2,none⟩ (.int .i64 gk)).setCell ⟨R,qa*2+1,none⟩ (.int .i64 gn)=wz at HZ ⊢;go_wp2
  go_ret
  exact⟨rfl,HZ.out.1,HZ.out.2⟩
end
end Go.Proofs.YtepifccbbmdfcaaGreatDoor
