/- APerf3. -/
import Derived.Test.YtepifccbbmdfcaaGreatDoorCBASend
import Derived.Test.YtepifccbbmdfcaaGreatDoorCBASpawn
namespace Go.Proofs.YtepifccbbmdfcaaGreatDoor
set_option maxRecDepth 100000
set_option maxHeartbeats 8000000
section
open Go.RowKit
theorem perf13_any (who:Nat) (a b n:Int) (w:World) {base Bw:Nat} {V:Wd} {av pv:Value} {fl:List Fa} {rs:List (List (Value × Ob))} (h:WdOwn w base Bw V av pv fl rs) {x:Ac} (hx:V.acts[who]?=some x) (ok:PerfOk V x a b) :
  Calls Tryz.prog 76 #[.pointer (some ⟨Bw,0,none⟩),.int .i64 who,.agg #[.int .i64 13,.int .i64 a,.int .i64 b,.int .i64 n]] w fun e w'=>e=.returned (.int .i64 (performS V who ⟨13,a,b,n⟩).2)/\∃ av' pv' fl' rs',WdOwn w' base Bw (performS V who ⟨13,a,b,n⟩).1 av' pv' fl' rs'/\Moved w w' (wdFoot Bw av pv fl rs) (wdFoot Bw av' pv' fl' rs'):=by
 obtain⟨fa,r,g,c,hfa,hr,hA,hav⟩:=h.at hx;have hwl:=(List.getElem?_eq_some_iff.1 hx).1;have hwz:(who:Int)<(V.acts.length:Int):=by omega
 have h8:=(ok.shp who x hx).1;have h6:=(ok.shp who x hx).2;obtain⟨N0,_,b1,s1⟩:=boxes1 w (.cells #[.int .i64 13,.int .i64 a,.int .i64 b,.int .i64 n] 43);have h1:=h.below b1;have c0:=h1.bw.1;rw[hav] at c0;have hC:=send_any who 13 a b n _ h1 ok.shp hx (.inl rfl) ok.a ok.b ok.may;have HAV:Aside (av=.slice (some ⟨g,0,none⟩) V.acts.length c):=hav;clear hav;clear hA hfa hr;generalize V.acts.length=VL at *
 go_enter Tryz.func76,Tryz.ntmps76
 go_upto_region 1 with fail
 generalize w.alloc (.cells #[.int .i64 13,.int .i64 a,.int .i64 b,.int .i64 n] 43)=W at *;have d0:W.cell? ⟨w.heap.size,0,none⟩=some (.int .i64 13):=cell_blk N0 0;have d1:W.cell? ⟨w.heap.size,1,none⟩=some (.int .i64 a):=cell_blk N0 1;have d2:W.cell? ⟨w.heap.size,2,none⟩=some (.int .i64 b):=cell_blk N0 2;have d3:W.cell? ⟨w.heap.size,3,none⟩=some (.int .i64 n):=cell_blk N0 3
 go_wp2_with (go_at_call 113;refine hC.mono ?_;rintro e w2 ⟨rfl,fl2,rs2,hW2,hM2⟩)
 go_ret
 exact⟨rfl,_,_,_,_,hW2,(Moved.of_below b1).trans hM2⟩
theorem perf14_any (who:Nat) (a b n:Int) (w:World) {base Bw:Nat} {V:Wd} {av pv:Value} {fl:List Fa} {rs:List (List (Value × Ob))} (h:WdOwn w base Bw V av pv fl rs) {x:Ac} (hx:V.acts[who]?=some x) (ok:PerfOk V x a b) :
  Calls Tryz.prog 76 #[.pointer (some ⟨Bw,0,none⟩),.int .i64 who,.agg #[.int .i64 14,.int .i64 a,.int .i64 b,.int .i64 n]] w fun e w'=>e=.returned (.int .i64 (performS V who ⟨14,a,b,n⟩).2)/\∃ av' pv' fl' rs',WdOwn w' base Bw (performS V who ⟨14,a,b,n⟩).1 av' pv' fl' rs'/\Moved w w' (wdFoot Bw av pv fl rs) (wdFoot Bw av' pv' fl' rs'):=by
 obtain⟨fa,r,g,c,hfa,hr,hA,hav⟩:=h.at hx;have hwl:=(List.getElem?_eq_some_iff.1 hx).1;have hwz:(who:Int)<(V.acts.length:Int):=by omega
 have h8:=(ok.shp who x hx).1;have h6:=(ok.shp who x hx).2;obtain⟨N0,_,b1,s1⟩:=boxes1 w (.cells #[.int .i64 14,.int .i64 a,.int .i64 b,.int .i64 n] 43);have h1:=h.below b1;have c0:=h1.bw.1;rw[hav] at c0;have hC:=send_any who 14 a b n _ h1 ok.shp hx (.inr rfl) ok.a ok.b ok.may;have HAV:Aside (av=.slice (some ⟨g,0,none⟩) V.acts.length c):=hav;clear hav;clear hA hfa hr;generalize V.acts.length=VL at *
 go_enter Tryz.func76,Tryz.ntmps76
 go_upto_region 1 with fail
 generalize w.alloc (.cells #[.int .i64 14,.int .i64 a,.int .i64 b,.int .i64 n] 43)=W at *;have d0:W.cell? ⟨w.heap.size,0,none⟩=some (.int .i64 14):=cell_blk N0 0;have d1:W.cell? ⟨w.heap.size,1,none⟩=some (.int .i64 a):=cell_blk N0 1;have d2:W.cell? ⟨w.heap.size,2,none⟩=some (.int .i64 b):=cell_blk N0 2;have d3:W.cell? ⟨w.heap.size,3,none⟩=some (.int .i64 n):=cell_blk N0 3
 go_wp2_with (go_at_call 113;refine hC.mono ?_;rintro e w2 ⟨rfl,fl2,rs2,hW2,hM2⟩)
 go_ret
 exact⟨rfl,_,_,_,_,hW2,(Moved.of_below b1).trans hM2⟩
theorem perf15_any (who:Nat) (a b n:Int) (w:World) {base Bw:Nat} {V:Wd} {av pv:Value} {fl:List Fa} {rs:List (List (Value × Ob))} (h:WdOwn w base Bw V av pv fl rs) {x:Ac} (hx:V.acts[who]?=some x) (ok:PerfOk V x a b) :
  Calls Tryz.prog 76 #[.pointer (some ⟨Bw,0,none⟩),.int .i64 who,.agg #[.int .i64 15,.int .i64 a,.int .i64 b,.int .i64 n]] w fun e w'=>e=.returned (.int .i64 (performS V who ⟨15,a,b,n⟩).2)/\∃ av' pv' fl' rs',WdOwn w' base Bw (performS V who ⟨15,a,b,n⟩).1 av' pv' fl' rs'/\Moved w w' (wdFoot Bw av pv fl rs) (wdFoot Bw av' pv' fl' rs'):=by
 obtain⟨fa,r,g,c,hfa,hr,hA,hav⟩:=h.at hx;have hwl:=(List.getElem?_eq_some_iff.1 hx).1;have hwz:(who:Int)<(V.acts.length:Int):=by omega
 have h8:=(ok.shp who x hx).1;have h6:=(ok.shp who x hx).2;obtain⟨N0,_,b1,s1⟩:=boxes1 w (.cells #[.int .i64 15,.int .i64 a,.int .i64 b,.int .i64 n] 43);have h1:=h.below b1;have c0:=h1.bw.1;rw[hav] at c0;have hC:=report_any who 15 a b n _ h1 hx h8 ok.a ok.prints;have HAV:Aside (av=.slice (some ⟨g,0,none⟩) V.acts.length c):=hav;clear hav;clear hA hfa hr;generalize V.acts.length=VL at *
 go_enter Tryz.func76,Tryz.ntmps76
 go_upto_region 1 with fail
 generalize w.alloc (.cells #[.int .i64 15,.int .i64 a,.int .i64 b,.int .i64 n] 43)=W at *;have d0:W.cell? ⟨w.heap.size,0,none⟩=some (.int .i64 15):=cell_blk N0 0;have d1:W.cell? ⟨w.heap.size,1,none⟩=some (.int .i64 a):=cell_blk N0 1;have d2:W.cell? ⟨w.heap.size,2,none⟩=some (.int .i64 b):=cell_blk N0 2;have d3:W.cell? ⟨w.heap.size,3,none⟩=some (.int .i64 n):=cell_blk N0 3
 go_wp2_with (go_at_call 114;refine hC.mono ?_;rintro e w2 ⟨rfl,av2,pv2,fl2,rs2,hW2,hM2⟩)
 go_ret
 exact⟨rfl,_,_,_,_,hW2,(Moved.of_below b1).trans hM2⟩
theorem perf17_any (who:Nat) (a b n:Int) (w:World) {base Bw:Nat} {V:Wd} {av pv:Value} {fl:List Fa} {rs:List (List (Value × Ob))} (h:WdOwn w base Bw V av pv fl rs) {x:Ac} (hx:V.acts[who]?=some x) (ok:PerfOk V x a b) :
  Calls Tryz.prog 76 #[.pointer (some ⟨Bw,0,none⟩),.int .i64 who,.agg #[.int .i64 17,.int .i64 a,.int .i64 b,.int .i64 n]] w fun e w'=>e=.returned (.int .i64 (performS V who ⟨17,a,b,n⟩).2)/\∃ av' pv' fl' rs',WdOwn w' base Bw (performS V who ⟨17,a,b,n⟩).1 av' pv' fl' rs'/\Moved w w' (wdFoot Bw av pv fl rs) (wdFoot Bw av' pv' fl' rs'):=by
 obtain⟨fa,r,g,c,hfa,hr,hA,hav⟩:=h.at hx;have hwl:=(List.getElem?_eq_some_iff.1 hx).1;have hwz:(who:Int)<(V.acts.length:Int):=by omega
 have h8:=(ok.shp who x hx).1;have h6:=(ok.shp who x hx).2;obtain⟨N0,_,b1,s1⟩:=boxes1 w (.cells #[.int .i64 17,.int .i64 a,.int .i64 b,.int .i64 n] 43);have h1:=h.below b1;have c0:=h1.bw.1;rw[hav] at c0;have hC:=spawn_any who 17 a b n _ h1 ok.shp hx ok.a ok.b ok.acts;have HAV:Aside (av=.slice (some ⟨g,0,none⟩) V.acts.length c):=hav;clear hav;clear hA hfa hr;generalize V.acts.length=VL at *
 go_enter Tryz.func76,Tryz.ntmps76
 go_upto_region 1 with fail
 generalize w.alloc (.cells #[.int .i64 17,.int .i64 a,.int .i64 b,.int .i64 n] 43)=W at *;have d0:W.cell? ⟨w.heap.size,0,none⟩=some (.int .i64 17):=cell_blk N0 0;have d1:W.cell? ⟨w.heap.size,1,none⟩=some (.int .i64 a):=cell_blk N0 1;have d2:W.cell? ⟨w.heap.size,2,none⟩=some (.int .i64 b):=cell_blk N0 2;have d3:W.cell? ⟨w.heap.size,3,none⟩=some (.int .i64 n):=cell_blk N0 3
 go_wp2_with (go_at_call 115;refine hC.mono ?_;rintro e w2 ⟨rfl,av2,pv2,fl2,rs2,hW2,hM2⟩)
 go_ret
 exact⟨rfl,_,_,_,_,hW2,(Moved.of_below b1).trans hM2⟩
theorem perf6_any (who:Nat) (a b n:Int) (w:World) {base Bw:Nat} {V:Wd} {av pv:Value} {fl:List Fa} {rs:List (List (Value × Ob))} (h:WdOwn w base Bw V av pv fl rs) {x:Ac} (hx:V.acts[who]?=some x) (ok:PerfOk V x a b) :
  Calls Tryz.prog 76 #[.pointer (some ⟨Bw,0,none⟩),.int .i64 who,.agg #[.int .i64 6,.int .i64 a,.int .i64 b,.int .i64 n]] w fun e w'=>e=.returned (.int .i64 (performS V who ⟨6,a,b,n⟩).2)/\∃ av' pv' fl' rs',WdOwn w' base Bw (performS V who ⟨6,a,b,n⟩).1 av' pv' fl' rs'/\Moved w w' (wdFoot Bw av pv fl rs) (wdFoot Bw av' pv' fl' rs'):=by
 obtain⟨fa,r,g,c,hfa,hr,hA,hav⟩:=h.at hx;have hwl:=(List.getElem?_eq_some_iff.1 hx).1;have hwz:(who:Int)<(V.acts.length:Int):=by omega
 have h8:=(ok.shp who x hx).1;have h6:=(ok.shp who x hx).2;obtain⟨N0,_,b1,s1⟩:=boxes1 w (.cells #[.int .i64 6,.int .i64 a,.int .i64 b,.int .i64 n] 43);have h1:=h.below b1;have c0:=h1.bw.1;rw[hav] at c0;have HP:Aside (performS V who ⟨6,a,b,n⟩=({ V with acts:=V.acts.set who (((x,0):Ac × Int)).1 },(((x,0):Ac × Int)).2)):=by
  show performS V who ⟨6,a,b,n⟩=_
  unfold performS
  rw[at_of hx]
  rfl
 rw[HP.out];have HAV:Aside (av=.slice (some ⟨g,0,none⟩) V.acts.length c):=hav;clear hav;clear hA hfa hr;generalize V.acts.length=VL at *
 go_enter Tryz.func76,Tryz.ntmps76
 go_upto_region 1 with fail
 generalize w.alloc (.cells #[.int .i64 6,.int .i64 a,.int .i64 b,.int .i64 n] 43)=W at *;have d0:W.cell? ⟨w.heap.size,0,none⟩=some (.int .i64 6):=cell_blk N0 0;have d1:W.cell? ⟨w.heap.size,1,none⟩=some (.int .i64 a):=cell_blk N0 1;have d2:W.cell? ⟨w.heap.size,2,none⟩=some (.int .i64 b):=cell_blk N0 2;have d3:W.cell? ⟨w.heap.size,3,none⟩=some (.int .i64 n):=cell_blk N0 3;go_wp2
 go_ret
 exact⟨rfl,_,_,_,_,h.same hx b1,Moved.of_below b1⟩
theorem perf19_any (who:Nat) (a b n:Int) (w:World) {base Bw:Nat} {V:Wd} {av pv:Value} {fl:List Fa} {rs:List (List (Value × Ob))} (h:WdOwn w base Bw V av pv fl rs) {x:Ac} (hx:V.acts[who]?=some x) (ok:PerfOk V x a b) :
  Calls Tryz.prog 76 #[.pointer (some ⟨Bw,0,none⟩),.int .i64 who,.agg #[.int .i64 19,.int .i64 a,.int .i64 b,.int .i64 n]] w fun e w'=>e=.returned (.int .i64 (performS V who ⟨19,a,b,n⟩).2)/\∃ av' pv' fl' rs',WdOwn w' base Bw (performS V who ⟨19,a,b,n⟩).1 av' pv' fl' rs'/\Moved w w' (wdFoot Bw av pv fl rs) (wdFoot Bw av' pv' fl' rs'):=by
 obtain⟨fa,r,g,c,hfa,hr,hA,hav⟩:=h.at hx;have hwl:=(List.getElem?_eq_some_iff.1 hx).1;have hwz:(who:Int)<(V.acts.length:Int):=by omega
 have h8:=(ok.shp who x hx).1;have h6:=(ok.shp who x hx).2;obtain⟨N0,_,b1,s1⟩:=boxes1 w (.cells #[.int .i64 19,.int .i64 a,.int .i64 b,.int .i64 n] 43);have h1:=h.below b1;have c0:=h1.bw.1;rw[hav] at c0;have HP:Aside (performS V who ⟨19,a,b,n⟩=({ V with acts:=V.acts.set who (((x,1):Ac × Int)).1 },(((x,1):Ac × Int)).2)):=by
  show performS V who ⟨19,a,b,n⟩=_
  unfold performS
  rw[at_of hx]
  rfl
 rw[HP.out];have HAV:Aside (av=.slice (some ⟨g,0,none⟩) V.acts.length c):=hav;clear hav;clear hA hfa hr;generalize V.acts.length=VL at *
 go_enter Tryz.func76,Tryz.ntmps76
 go_upto_region 1 with fail
 generalize w.alloc (.cells #[.int .i64 19,.int .i64 a,.int .i64 b,.int .i64 n] 43)=W at *;have d0:W.cell? ⟨w.heap.size,0,none⟩=some (.int .i64 19):=cell_blk N0 0;have d1:W.cell? ⟨w.heap.size,1,none⟩=some (.int .i64 a):=cell_blk N0 1;have d2:W.cell? ⟨w.heap.size,2,none⟩=some (.int .i64 b):=cell_blk N0 2;have d3:W.cell? ⟨w.heap.size,3,none⟩=some (.int .i64 n):=cell_blk N0 3;go_wp2
 go_ret
 exact⟨rfl,_,_,_,_,h.same hx b1,Moved.of_below b1⟩
theorem perf1_any (who:Nat) (a b n:Int) (w:World) {base Bw:Nat} {V:Wd} {av pv:Value} {fl:List Fa} {rs:List (List (Value × Ob))} (h:WdOwn w base Bw V av pv fl rs) {x:Ac} (hx:V.acts[who]?=some x) (ok:PerfOk V x a b) :
  Calls Tryz.prog 76 #[.pointer (some ⟨Bw,0,none⟩),.int .i64 who,.agg #[.int .i64 1,.int .i64 a,.int .i64 b,.int .i64 n]] w fun e w'=>e=.returned (.int .i64 (performS V who ⟨1,a,b,n⟩).2)/\∃ av' pv' fl' rs',WdOwn w' base Bw (performS V who ⟨1,a,b,n⟩).1 av' pv' fl' rs'/\Moved w w' (wdFoot Bw av pv fl rs) (wdFoot Bw av' pv' fl' rs'):=by
 obtain⟨fa,r,g,c,hfa,hr,hA,hav⟩:=h.at hx;have hwl:=(List.getElem?_eq_some_iff.1 hx).1;have hwz:(who:Int)<(V.acts.length:Int):=by omega
 have h8:=(ok.shp who x hx).1;have h6:=(ok.shp who x hx).2;obtain⟨qa,va,rfl,hqa,hva,era⟩:=reg_of ok.a h8;obtain⟨N0,_,b1,s1⟩:=boxes1 w (.cells #[.int .i64 1,.int .i64 qa,.int .i64 b,.int .i64 n] 43);have h1:=h.below b1;have c0:=h1.bw.1;rw[hav] at c0;have HP:Aside (performS V who ⟨1,qa,b,n⟩=({ V with acts:=V.acts.set who (x.put qa (numV n)) },0)):=by
  show performS V who ⟨1,qa,b,n⟩=_
  unfold performS
  rw[at_of hx]
  rfl
 rw[HP.out];obtain⟨R,fb,rb,rc,hfb,hrb,hra,k4,kq,kf,hRl,_,hrc⟩:=h1.regAt hav hx h8;clear hrc;obtain⟨q1,q2⟩:=kq qa _ hva;have hza:(qa:Int)<8:=by omega
 have HAV:Aside (av=.slice (some ⟨g,0,none⟩) V.acts.length c):=hav;have HH1:Aside (WdOwn _ base Bw V av pv fl rs):=h1;clear hav h1 kq;clear hA hfa hr;generalize V.acts.length=VL at *
 go_enter Tryz.func76,Tryz.ntmps76
 go_upto_region 1 with fail
 generalize w.alloc (.cells #[.int .i64 1,.int .i64 qa,.int .i64 b,.int .i64 n] 43)=W at *;have d0:W.cell? ⟨w.heap.size,0,none⟩=some (.int .i64 1):=cell_blk N0 0;have d1:W.cell? ⟨w.heap.size,1,none⟩=some (.int .i64 qa):=cell_blk N0 1;have d2:W.cell? ⟨w.heap.size,2,none⟩=some (.int .i64 b):=cell_blk N0 2;have d3:W.cell? ⟨w.heap.size,3,none⟩=some (.int .i64 n):=cell_blk N0 3
 go_upto_region 6 with fail
 have hSof:∀ w',Below W.heap.size W w'->(w'.cell? ⟨w.heap.size,1,none⟩=some (.int .i64 qa)/\w'.cell? ⟨w.heap.size,3,none⟩=some (.int .i64 n)/\w'.cell? ⟨g,who*8+4,none⟩=some (.slice (some ⟨R,0,none⟩) 8 rc)):=fun w' hb'=>⟨Keeps.below hb' _ _ d1,Keeps.below hb' _ _ d3,Keeps.below hb' _ _ k4⟩
 have hB:Below W.heap.size W W.drew:=(Below.refl _ _).drew;refine wp_region_need (fun j=>j != 10) (fun w'=>w'.cell? ⟨w.heap.size,1,none⟩=some (.int .i64 qa)/\w'.cell? ⟨w.heap.size,3,none⟩=some (.int .i64 n)/\w'.cell? ⟨g,who*8+4,none⟩=some (.slice (some ⟨R,0,none⟩) 8 rc)) (by kernel_rfl) (hSof _ hB) (fun hS=>?_);generalize W.drew=wn at hS hB ⊢;refine tkN 0 hS ?_;refine tkN 1 hS ?_;refine tkN 2 hS ?_
 refine tkN 3 hS ?_;refine tkN 4 hS ?_;refine tkN 5 hS ?_;refine tkN 6 hS ?_;refine tkN 7 hS ?_;refine stN 8 (fun K hK=>?_);go_simp;refine(num_any n wn).mono ?_;rintro e w2 ⟨rfl,hb2⟩;have hB2:Below W.heap.size W w2:=hB.trans (hb2.mono hB.size);refine otN hK (hSof _ hB2) ?_;clear hK;replace hS:=hSof _ hB2;refine tkN 9 hS ?_;replace q1:=Keeps.below hB2 _ _ q1;replace q2:=Keeps.below hB2 _ _ q2;have kf':∀ i,w2.frozen? ⟨R,i,none⟩=false:=fun i=>(hB2.frozen hRl).trans (kf i)
 refine stN 10 (fun K hK=>?_);go_simp;refine laN hK ?_;clear hK;have hs:=(HH1.out.below hB2).setReg hfb hrb hx hra (q:=qa) (by omega) (numV n);have hM:=((Moved.of_below (F:=wdFoot Bw av pv fl rs) b1).trans (Moved.of_below hB2)).trans hs.2;replace hs:=hs.1;have HZ:Aside (∃ av' pv' fl' rs',WdOwn ((w2.setCell ⟨R,qa*2,none⟩ (.int .i64 (numV n).k)).setCell ⟨R,qa*2+1,none⟩ (.int .i64 (numV n).n)) base Bw { V with acts:=V.acts.set who (x.put qa (numV n)) } av' pv' fl' rs'/\Moved w ((w2.setCell ⟨R,qa*2,none⟩ (.int .i64 (numV n).k)).setCell ⟨R,qa*2+1,none⟩ (.int .i64 (numV n).n)) (wdFoot Bw av pv fl rs) (wdFoot Bw av' pv' fl' rs')):=⟨_,_,_,_,hs,hM⟩
 clear hs hM;go_wp2
 go_ret
 exact⟨rfl,HZ.out⟩
theorem perf16_any (who:Nat) (a b n:Int) (w:World) {base Bw:Nat} {V:Wd} {av pv:Value} {fl:List Fa} {rs:List (List (Value × Ob))} (h:WdOwn w base Bw V av pv fl rs) {x:Ac} (hx:V.acts[who]?=some x) (ok:PerfOk V x a b) :
  Calls Tryz.prog 76 #[.pointer (some ⟨Bw,0,none⟩),.int .i64 who,.agg #[.int .i64 16,.int .i64 a,.int .i64 b,.int .i64 n]] w fun e w'=>e=.returned (.int .i64 (performS V who ⟨16,a,b,n⟩).2)/\∃ av' pv' fl' rs',WdOwn w' base Bw (performS V who ⟨16,a,b,n⟩).1 av' pv' fl' rs'/\Moved w w' (wdFoot Bw av pv fl rs) (wdFoot Bw av' pv' fl' rs'):=by
 obtain⟨fa,r,g,c,hfa,hr,hA,hav⟩:=h.at hx;have hwl:=(List.getElem?_eq_some_iff.1 hx).1;have hwz:(who:Int)<(V.acts.length:Int):=by omega
 have h8:=(ok.shp who x hx).1;have h6:=(ok.shp who x hx).2;obtain⟨qa,va,rfl,hqa,hva,era⟩:=reg_of ok.a h8;obtain⟨N0,_,b1,s1⟩:=boxes1 w (.cells #[.int .i64 16,.int .i64 qa,.int .i64 b,.int .i64 n] 43);have h1:=h.below b1;have c0:=h1.bw.1;rw[hav] at c0;have HP:Aside (performS V who ⟨16,qa,b,n⟩=({ V with acts:=V.acts.set who (x.put qa (numV who)) },0)):=by
  show performS V who ⟨16,qa,b,n⟩=_
  unfold performS
  rw[at_of hx]
  rfl
 rw[HP.out];obtain⟨R,fb,rb,rc,hfb,hrb,hra,k4,kq,kf,hRl,_,hrc⟩:=h1.regAt hav hx h8;clear hrc;obtain⟨q1,q2⟩:=kq qa _ hva;have hza:(qa:Int)<8:=by omega
 have HAV:Aside (av=.slice (some ⟨g,0,none⟩) V.acts.length c):=hav;have HH1:Aside (WdOwn _ base Bw V av pv fl rs):=h1;clear hav h1 kq;clear hA hfa hr;generalize V.acts.length=VL at *
 go_enter Tryz.func76,Tryz.ntmps76
 go_upto_region 1 with fail
 generalize w.alloc (.cells #[.int .i64 16,.int .i64 qa,.int .i64 b,.int .i64 n] 43)=W at *;have d0:W.cell? ⟨w.heap.size,0,none⟩=some (.int .i64 16):=cell_blk N0 0;have d1:W.cell? ⟨w.heap.size,1,none⟩=some (.int .i64 qa):=cell_blk N0 1;have d2:W.cell? ⟨w.heap.size,2,none⟩=some (.int .i64 b):=cell_blk N0 2;have d3:W.cell? ⟨w.heap.size,3,none⟩=some (.int .i64 n):=cell_blk N0 3
 go_upto_region 31 with fail
 have hSof:∀ w',Below W.heap.size W w'->(w'.cell? ⟨w.heap.size,1,none⟩=some (.int .i64 qa)/\w'.cell? ⟨w.heap.size,3,none⟩=some (.int .i64 n)/\w'.cell? ⟨g,who*8+4,none⟩=some (.slice (some ⟨R,0,none⟩) 8 rc)):=fun w' hb'=>⟨Keeps.below hb' _ _ d1,Keeps.below hb' _ _ d3,Keeps.below hb' _ _ k4⟩
 have hB:Below W.heap.size W W.drew:=(Below.refl _ _).drew;refine wp_region_need (fun j=>j != 9) (fun w'=>w'.cell? ⟨w.heap.size,1,none⟩=some (.int .i64 qa)/\w'.cell? ⟨w.heap.size,3,none⟩=some (.int .i64 n)/\w'.cell? ⟨g,who*8+4,none⟩=some (.slice (some ⟨R,0,none⟩) 8 rc)) (by kernel_rfl) (hSof _ hB) (fun hS=>?_);generalize W.drew=wn at hS hB ⊢;refine tkN 0 hS ?_;refine tkN 1 hS ?_;refine tkN 2 hS ?_
 refine tkN 3 hS ?_;refine tkN 4 hS ?_;refine tkN 5 hS ?_;refine tkN 6 hS ?_;refine stN 7 (fun K hK=>?_);go_simp;refine(num_any who wn).mono ?_;rintro e w2 ⟨rfl,hb2⟩;have hB2:Below W.heap.size W w2:=hB.trans (hb2.mono hB.size);refine otN hK (hSof _ hB2) ?_;clear hK;replace hS:=hSof _ hB2;refine tkN 8 hS ?_;replace q1:=Keeps.below hB2 _ _ q1;replace q2:=Keeps.below hB2 _ _ q2;have kf':∀ i,w2.frozen? ⟨R,i,none⟩=false:=fun i=>(hB2.frozen hRl).trans (kf i)
 refine stN 9 (fun K hK=>?_);go_simp;refine laN hK ?_;clear hK;have hs:=(HH1.out.below hB2).setReg hfb hrb hx hra (q:=qa) (by omega) (numV who);have hM:=((Moved.of_below (F:=wdFoot Bw av pv fl rs) b1).trans (Moved.of_below hB2)).trans hs.2;replace hs:=hs.1;have HZ:Aside (∃ av' pv' fl' rs',WdOwn ((w2.setCell ⟨R,qa*2,none⟩ (.int .i64 (numV who).k)).setCell ⟨R,qa*2+1,none⟩ (.int .i64 (numV who).n)) base Bw { V with acts:=V.acts.set who (x.put qa (numV who)) } av' pv' fl' rs'/\Moved w ((w2.setCell ⟨R,qa*2,none⟩ (.int .i64 (numV who).k)).setCell ⟨R,qa*2+1,none⟩ (.int .i64 (numV who).n)) (wdFoot Bw av pv fl rs) (wdFoot Bw av' pv' fl' rs')):=⟨_,_,_,_,hs,hM⟩
 clear hs hM;go_wp2
 go_ret
 exact⟨rfl,HZ.out⟩
theorem perf18_any (who:Nat) (a b n:Int) (w:World) {base Bw:Nat} {V:Wd} {av pv:Value} {fl:List Fa} {rs:List (List (Value × Ob))} (h:WdOwn w base Bw V av pv fl rs) {x:Ac} (hx:V.acts[who]?=some x) (ok:PerfOk V x a b) :
  Calls Tryz.prog 76 #[.pointer (some ⟨Bw,0,none⟩),.int .i64 who,.agg #[.int .i64 18,.int .i64 a,.int .i64 b,.int .i64 n]] w fun e w'=>e=.returned (.int .i64 (performS V who ⟨18,a,b,n⟩).2)/\∃ av' pv' fl' rs',WdOwn w' base Bw (performS V who ⟨18,a,b,n⟩).1 av' pv' fl' rs'/\Moved w w' (wdFoot Bw av pv fl rs) (wdFoot Bw av' pv' fl' rs'):=by
 obtain⟨fa,r,g,c,hfa,hr,hA,hav⟩:=h.at hx;have hwl:=(List.getElem?_eq_some_iff.1 hx).1;have hwz:(who:Int)<(V.acts.length:Int):=by omega
 have h8:=(ok.shp who x hx).1;have h6:=(ok.shp who x hx).2;obtain⟨qa,va,rfl,hqa,hva,era⟩:=reg_of ok.a h8;obtain⟨N0,_,b1,s1⟩:=boxes1 w (.cells #[.int .i64 18,.int .i64 qa,.int .i64 b,.int .i64 n] 43);have h1:=h.below b1;have c0:=h1.bw.1;rw[hav] at c0;have HP:Aside (performS V who ⟨18,qa,b,n⟩=({ V with acts:=V.acts.set who (x.put qa nilV) },0)):=by
  show performS V who ⟨18,qa,b,n⟩=_
  unfold performS
  rw[at_of hx]
  rfl
 rw[HP.out];obtain⟨R,fb,rb,rc,hfb,hrb,hra,k4,kq,kf,hRl,_,hrc⟩:=h1.regAt hav hx h8;clear hrc;obtain⟨q1,q2⟩:=kq qa _ hva;have hza:(qa:Int)<8:=by omega
 have HAV:Aside (av=.slice (some ⟨g,0,none⟩) V.acts.length c):=hav;have HH1:Aside (WdOwn _ base Bw V av pv fl rs):=h1;clear hav h1 kq;clear hA hfa hr;generalize V.acts.length=VL at *
 go_enter Tryz.func76,Tryz.ntmps76
 go_upto_region 1 with fail
 generalize w.alloc (.cells #[.int .i64 18,.int .i64 qa,.int .i64 b,.int .i64 n] 43)=W at *;have d0:W.cell? ⟨w.heap.size,0,none⟩=some (.int .i64 18):=cell_blk N0 0;have d1:W.cell? ⟨w.heap.size,1,none⟩=some (.int .i64 qa):=cell_blk N0 1;have d2:W.cell? ⟨w.heap.size,2,none⟩=some (.int .i64 b):=cell_blk N0 2;have d3:W.cell? ⟨w.heap.size,3,none⟩=some (.int .i64 n):=cell_blk N0 3
 go_upto_region 35 with fail
 have hSof:∀ w',Below W.heap.size W w'->(w'.cell? ⟨w.heap.size,1,none⟩=some (.int .i64 qa)/\w'.cell? ⟨w.heap.size,3,none⟩=some (.int .i64 n)/\w'.cell? ⟨g,who*8+4,none⟩=some (.slice (some ⟨R,0,none⟩) 8 rc)):=fun w' hb'=>⟨Keeps.below hb' _ _ d1,Keeps.below hb' _ _ d3,Keeps.below hb' _ _ k4⟩
 have hB:Below W.heap.size W W.drew:=(Below.refl _ _).drew;refine wp_region_need (fun j=>j != 8) (fun w'=>w'.cell? ⟨w.heap.size,1,none⟩=some (.int .i64 qa)/\w'.cell? ⟨w.heap.size,3,none⟩=some (.int .i64 n)/\w'.cell? ⟨g,who*8+4,none⟩=some (.slice (some ⟨R,0,none⟩) 8 rc)) (by kernel_rfl) (hSof _ hB) (fun hS=>?_);generalize W.drew=wn at hS hB ⊢;refine tkN 0 hS ?_;refine tkN 1 hS ?_;refine tkN 2 hS ?_
 refine tkN 3 hS ?_;refine tkN 4 hS ?_;refine tkN 5 hS ?_;refine tkN 6 hS ?_;refine tkN 7 hS ?_;replace q1:=Keeps.below hB _ _ q1;replace q2:=Keeps.below hB _ _ q2;have kf':∀ i,wn.frozen? ⟨R,i,none⟩=false:=fun i=>(hB.frozen hRl).trans (kf i)
 refine stN 8 (fun K hK=>?_);go_simp;refine laN hK ?_;clear hK;have hs:=(HH1.out.below hB).setReg hfb hrb hx hra (q:=qa) (by omega) nilV;have hM:=((Moved.of_below (F:=wdFoot Bw av pv fl rs) b1).trans (Moved.of_below hB)).trans hs.2;replace hs:=hs.1;have HZ:Aside (∃ av' pv' fl' rs',WdOwn ((wn.setCell ⟨R,qa*2,none⟩ (.int .i64 nilV.k)).setCell ⟨R,qa*2+1,none⟩ (.int .i64 nilV.n)) base Bw { V with acts:=V.acts.set who (x.put qa nilV) } av' pv' fl' rs'/\Moved w ((wn.setCell ⟨R,qa*2,none⟩ (.int .i64 nilV.k)).setCell ⟨R,qa*2+1,none⟩ (.int .i64 nilV.n)) (wdFoot Bw av pv fl rs) (wdFoot Bw av' pv' fl' rs')):=⟨_,_,_,_,hs,hM⟩
 clear hs hM;go_wp2
 go_ret
 exact⟨rfl,HZ.out⟩
theorem perf12_any (who:Nat) (a b n:Int) (w:World) {base Bw:Nat} {V:Wd} {av pv:Value} {fl:List Fa} {rs:List (List (Value × Ob))} (h:WdOwn w base Bw V av pv fl rs) {x:Ac} (hx:V.acts[who]?=some x) (ok:PerfOk V x a b) :
  Calls Tryz.prog 76 #[.pointer (some ⟨Bw,0,none⟩),.int .i64 who,.agg #[.int .i64 12,.int .i64 a,.int .i64 b,.int .i64 n]] w fun e w'=>e=.returned (.int .i64 (performS V who ⟨12,a,b,n⟩).2)/\∃ av' pv' fl' rs',WdOwn w' base Bw (performS V who ⟨12,a,b,n⟩).1 av' pv' fl' rs'/\Moved w w' (wdFoot Bw av pv fl rs) (wdFoot Bw av' pv' fl' rs'):=by
 obtain⟨fa,r,g,c,hfa,hr,hA,hav⟩:=h.at hx;have hwl:=(List.getElem?_eq_some_iff.1 hx).1;have hwz:(who:Int)<(V.acts.length:Int):=by omega
 have h8:=(ok.shp who x hx).1;have h6:=(ok.shp who x hx).2;obtain⟨qa,va,rfl,hqa,hva,era⟩:=reg_of ok.a h8;obtain⟨qb,vb,rfl,hqb,hvb,erb⟩:=reg_of ok.b h8;obtain⟨N0,_,b1,s1⟩:=boxes1 w (.cells #[.int .i64 12,.int .i64 qa,.int .i64 qb,.int .i64 n] 43);have h1:=h.below b1;have c0:=h1.bw.1;rw[hav] at c0;have HP:Aside (performS V who ⟨12,qa,qb,n⟩=({ V with acts:=V.acts.set who (x.put qa vb) },0)):=by
  show performS V who ⟨12,qa,qb,n⟩=_
  unfold performS
  rw[at_of hx]
  show(V.put who (x.put qa (x.reg qb)),0)=_
  rw[erb]
  rfl
 rw[HP.out];obtain⟨R,fb,rb,rc,hfb,hrb,hra,k4,kq,kf,hRl,_,hrc⟩:=h1.regAt hav hx h8;clear hrc;obtain⟨q1,q2⟩:=kq qa _ hva;obtain⟨qb1,qb2⟩:=kq qb _ hvb;have hzb:(qb:Int)<8:=by omega
 have hza:(qa:Int)<8:=by omega
 have HAV:Aside (av=.slice (some ⟨g,0,none⟩) V.acts.length c):=hav;have HH1:Aside (WdOwn _ base Bw V av pv fl rs):=h1;clear hav h1 kq;clear hA hfa hr;generalize V.acts.length=VL at *
 go_enter Tryz.func76,Tryz.ntmps76
 go_upto_region 1 with fail
 generalize w.alloc (.cells #[.int .i64 12,.int .i64 qa,.int .i64 qb,.int .i64 n] 43)=W at *;have d0:W.cell? ⟨w.heap.size,0,none⟩=some (.int .i64 12):=cell_blk N0 0;have d1:W.cell? ⟨w.heap.size,1,none⟩=some (.int .i64 qa):=cell_blk N0 1;have d2:W.cell? ⟨w.heap.size,2,none⟩=some (.int .i64 qb):=cell_blk N0 2;have d3:W.cell? ⟨w.heap.size,3,none⟩=some (.int .i64 n):=cell_blk N0 3
 go_upto_region 24 with fail
 have hSof:∀ w',Below W.heap.size W w'->(w'.cell? ⟨w.heap.size,1,none⟩=some (.int .i64 qa)/\w'.cell? ⟨w.heap.size,2,none⟩=some (.int .i64 qb)/\w'.cell? ⟨g,who*8+4,none⟩=some (.slice (some ⟨R,0,none⟩) 8 rc)/\w'.cell? ⟨R,qb*2,none⟩=some (.int .i64 vb.k)/\w'.cell? ⟨R,qb*2+1,none⟩=some (.int .i64 vb.n)):=fun w' hb'=>⟨Keeps.below hb' _ _ d1,Keeps.below hb' _ _ d2,Keeps.below hb' _ _ k4,Keeps.below hb' _ _ qb1,Keeps.below hb' _ _ qb2⟩
 have hB:Below W.heap.size W W.drew:=(Below.refl _ _).drew;refine wp_region_need (fun j=>j != 15) (fun w'=>w'.cell? ⟨w.heap.size,1,none⟩=some (.int .i64 qa)/\w'.cell? ⟨w.heap.size,2,none⟩=some (.int .i64 qb)/\w'.cell? ⟨g,who*8+4,none⟩=some (.slice (some ⟨R,0,none⟩) 8 rc)/\w'.cell? ⟨R,qb*2,none⟩=some (.int .i64 vb.k)/\w'.cell? ⟨R,qb*2+1,none⟩=some (.int .i64 vb.n)) (by kernel_rfl) (hSof _ hB) (fun hS=>?_)
 generalize W.drew=wn at hS hB ⊢;refine tkN 0 hS ?_;refine tkN 1 hS ?_;refine tkN 2 hS ?_;refine tkN 3 hS ?_;refine tkN 4 hS ?_;refine tkN 5 hS ?_;refine tkN 6 hS ?_;refine tkN 7 hS ?_;refine tkN 8 hS ?_;refine tkN 9 hS ?_;refine tkN 10 hS ?_;refine tkN 11 hS ?_;refine tkN 12 hS ?_;refine tkN 13 hS ?_;refine tkN 14 hS ?_;replace q1:=Keeps.below hB _ _ q1;replace q2:=Keeps.below hB _ _ q2;have kf':∀ i,wn.frozen? ⟨R,i,none⟩=false:=fun i=>(hB.frozen hRl).trans (kf i)
 refine stN 15 (fun K hK=>?_);go_simp;refine laN hK ?_;clear hK;have hs:=(HH1.out.below hB).setReg hfb hrb hx hra (q:=qa) (by omega) vb;have hM:=((Moved.of_below (F:=wdFoot Bw av pv fl rs) b1).trans (Moved.of_below hB)).trans hs.2;replace hs:=hs.1;have HZ:Aside (∃ av' pv' fl' rs',WdOwn ((wn.setCell ⟨R,qa*2,none⟩ (.int .i64 vb.k)).setCell ⟨R,qa*2+1,none⟩ (.int .i64 vb.n)) base Bw { V with acts:=V.acts.set who (x.put qa vb) } av' pv' fl' rs'/\Moved w ((wn.setCell ⟨R,qa*2,none⟩ (.int .i64 vb.k)).setCell ⟨R,qa*2+1,none⟩ (.int .i64 vb.n)) (wdFoot Bw av pv fl rs) (wdFoot Bw av' pv' fl' rs')):=⟨_,_,_,_,hs,hM⟩
 clear hs hM;go_wp2
 go_ret
 exact⟨rfl,HZ.out⟩
theorem perf5_any (who:Nat) (a b n:Int) (w:World) {base Bw:Nat} {V:Wd} {av pv:Value} {fl:List Fa} {rs:List (List (Value × Ob))} (h:WdOwn w base Bw V av pv fl rs) {x:Ac} (hx:V.acts[who]?=some x) (ok:PerfOk V x a b) :
  Calls Tryz.prog 76 #[.pointer (some ⟨Bw,0,none⟩),.int .i64 who,.agg #[.int .i64 5,.int .i64 a,.int .i64 b,.int .i64 n]] w fun e w'=>e=.returned (.int .i64 (performS V who ⟨5,a,b,n⟩).2)/\∃ av' pv' fl' rs',WdOwn w' base Bw (performS V who ⟨5,a,b,n⟩).1 av' pv' fl' rs'/\Moved w w' (wdFoot Bw av pv fl rs) (wdFoot Bw av' pv' fl' rs'):=by
 obtain⟨fa,r,g,c,hfa,hr,hA,hav⟩:=h.at hx;have hwl:=(List.getElem?_eq_some_iff.1 hx).1;have hwz:(who:Int)<(V.acts.length:Int):=by omega
 have h8:=(ok.shp who x hx).1;have h6:=(ok.shp who x hx).2;obtain⟨qa,va,rfl,hqa,hva,era⟩:=reg_of ok.a h8;obtain⟨N0,_,b1,s1⟩:=boxes1 w (.cells #[.int .i64 5,.int .i64 qa,.int .i64 b,.int .i64 n] 43);have h1:=h.below b1;have c0:=h1.bw.1;rw[hav] at c0;obtain⟨RES,hRES⟩:∃ RES:Int,RES=if va.k≠1 then 8 else 0:=⟨_,rfl⟩
 have hnn:∀ w,Calls Tryz.prog 109 #[.agg #[.int .i64 va.k,.int .i64 va.n]] w fun e w'=>e=.returned (.int .i64 RES)/\Below w.heap.size w w':=fun w=>by
  rw[hRES];exact needNumber_any va.k va.n w
 have HP:Aside (performS V who ⟨5,qa,b,n⟩=({ V with acts:=V.acts.set who x },RES)):=by
  show performS V who ⟨5,qa,b,n⟩=_
  unfold performS
  rw[at_of hx]
  show(V.put who x,if (x.reg qa).k≠1 then 8 else 0)=_
  rw[era,hRES]
  rfl
 clear hRES;rw[HP.out];obtain⟨R,fb,rb,rc,hfb,hrb,hra,k4,kq,kf,hRl,_,hrc⟩:=h1.regAt hav hx h8;clear hrc;obtain⟨q1,q2⟩:=kq qa _ hva;have hza:(qa:Int)<8:=by omega
 have HAV:Aside (av=.slice (some ⟨g,0,none⟩) V.acts.length c):=hav;have HH:Aside (WdOwn w base Bw V av pv fl rs):=h;clear hav h1 kq h;clear hA hfa hr;generalize V.acts.length=VL at *
 go_enter Tryz.func76,Tryz.ntmps76
 go_upto_region 1 with fail
 generalize w.alloc (.cells #[.int .i64 5,.int .i64 qa,.int .i64 b,.int .i64 n] 43)=W at *;have d0:W.cell? ⟨w.heap.size,0,none⟩=some (.int .i64 5):=cell_blk N0 0;have d1:W.cell? ⟨w.heap.size,1,none⟩=some (.int .i64 qa):=cell_blk N0 1;have d2:W.cell? ⟨w.heap.size,2,none⟩=some (.int .i64 b):=cell_blk N0 2;have d3:W.cell? ⟨w.heap.size,3,none⟩=some (.int .i64 n):=cell_blk N0 3
 go_upto_region 12 with fail
 have hSof:∀ w',Below W.heap.size W w'->(w'.cell? ⟨w.heap.size,1,none⟩=some (.int .i64 qa)/\w'.cell? ⟨g,who*8+4,none⟩=some (.slice (some ⟨R,0,none⟩) 8 rc)/\w'.cell? ⟨R,qa*2,none⟩=some (.int .i64 va.k)/\w'.cell? ⟨R,qa*2+1,none⟩=some (.int .i64 va.n)):=fun w' hb'=>⟨Keeps.below hb' _ _ d1,Keeps.below hb' _ _ k4,Keeps.below hb' _ _ q1,Keeps.below hb' _ _ q2⟩
 have hB:Below W.heap.size W W.drew:=(Below.refl _ _).drew;refine wp_region_need (fun _=>true) (fun w'=>w'.cell? ⟨w.heap.size,1,none⟩=some (.int .i64 qa)/\w'.cell? ⟨g,who*8+4,none⟩=some (.slice (some ⟨R,0,none⟩) 8 rc)/\w'.cell? ⟨R,qa*2,none⟩=some (.int .i64 va.k)/\w'.cell? ⟨R,qa*2+1,none⟩=some (.int .i64 va.n)) (by kernel_rfl) (hSof _ hB) (fun hS=>?_);generalize W.drew=wn at hS hB ⊢;refine tkN 0 hS ?_
 refine tkN 1 hS ?_;refine tkN 2 hS ?_;refine tkN 3 hS ?_;refine tkN 4 hS ?_;refine tkN 5 hS ?_;refine tkN 6 hS ?_;refine tkN 7 hS ?_;refine stN 8 (fun K hK=>?_);go_simp;refine(hnn wn).mono ?_;rintro e w2 ⟨rfl,hb2⟩;have hB2:Below W.heap.size W w2:=hB.trans (hb2.mono hB.size);refine otN hK (hSof _ hB2) ?_;clear hK;replace hS:=hSof _ hB2;refine tkN 9 hS ?_;refine dnN ?_;have hBw:=b1.trans (hB2.mono b1.size)
 go_wp2
 go_ret
 exact⟨rfl,_,_,_,_,HH.out.same hx hBw,Moved.of_below hBw⟩
end
section
open Go.RowKit
theorem perform_any (who:Nat) (op a b n:Int) (w:World) {base Bw:Nat} {V:Wd} {av pv:Value} {fl:List Fa} {rs:List (List (Value × Ob))} (h:WdOwn w base Bw V av pv fl rs) {x:Ac} (hx:V.acts[who]?=some x) (ok:PerfOk V x a b) (hop:0<=op/\op<=19) :
  Calls Tryz.prog 76 #[.pointer (some ⟨Bw,0,none⟩),.int .i64 who,.agg #[.int .i64 op,.int .i64 a,.int .i64 b,.int .i64 n]] w fun e w'=>e=.returned (.int .i64 (performS V who ⟨op,a,b,n⟩).2)/\∃ av' pv' fl' rs',WdOwn w' base Bw (performS V who ⟨op,a,b,n⟩).1 av' pv' fl' rs'/\Moved w w' (wdFoot Bw av pv fl rs) (wdFoot Bw av' pv' fl' rs'):=by
 have:op=0\/op=1\/op=2\/op=3\/op=4\/op=5\/op=6\/op=7\/op=8\/op=9\/op=10\/op=11\/op=12\/op=13\/op=14\/op=15\/op=16\/op=17\/op=18\/op=19:=by omega
 rcases this with rfl | rfl | rfl | rfl | rfl | rfl | rfl | rfl | rfl | rfl | rfl | rfl | rfl | rfl | rfl | rfl | rfl | rfl | rfl | rfl
 ·exact perf0_any who a b n w h hx ok
 ·exact perf1_any who a b n w h hx ok
 ·exact perf2_any who a b n w h hx ok
 ·exact perf3_any who a b n w h hx ok
 ·exact perf4_any who a b n w h hx ok
 ·exact perf5_any who a b n w h hx ok
 ·exact perf6_any who a b n w h hx ok
 ·exact perf7_any who a b n w h hx ok
 ·exact perf8_any who a b n w h hx ok
 ·exact perf9_any who a b n w h hx ok
 ·exact perf10_any who a b n w h hx ok
 ·exact perf11_any who a b n w h hx ok
 ·exact perf12_any who a b n w h hx ok
 ·exact perf13_any who a b n w h hx ok
 ·exact perf14_any who a b n w h hx ok
 ·exact perf15_any who a b n w h hx ok
 ·exact perf16_any who a b n w h hx ok
 ·exact perf17_any who a b n w h hx ok
 ·exact perf18_any who a b n w h hx ok
 ·exact perf19_any who a b n w h hx ok
end
end Go.Proofs.YtepifccbbmdfcaaGreatDoor
