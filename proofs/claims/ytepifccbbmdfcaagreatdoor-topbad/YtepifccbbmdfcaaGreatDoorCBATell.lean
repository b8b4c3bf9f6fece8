/- ATell. -/
import Derived.Test.YtepifccbbmdfcaaGreatDoorCBAFinish
namespace Go.Proofs.YtepifccbbmdfcaaGreatDoor
set_option maxRecDepth 100000
set_option maxHeartbeats 8000000
section
open Go.RowKit
theorem perf0_any (who:Nat) (a b n:Int) (w:World) {base Bw:Nat} {V:Wd} {av pv:Value} {fl:List Fa} {rs:List (List (Value × Ob))} (h:WdOwn w base Bw V av pv fl rs) {x:Ac} (hx:V.acts[who]?=some x) (ok:PerfOk V x a b) :
  Calls Tryz.prog 76 #[.pointer (some ⟨Bw,0,none⟩),.int .i64 who,.agg #[.int .i64 0,.int .i64 a,.int .i64 b,.int .i64 n]] w fun e w'=>e=.returned (.int .i64 (performS V who ⟨0,a,b,n⟩).2)/\∃ av' pv' fl' rs',WdOwn w' base Bw (performS V who ⟨0,a,b,n⟩).1 av' pv' fl' rs'/\Moved w w' (wdFoot Bw av pv fl rs) (wdFoot Bw av' pv' fl' rs'):=by
 obtain⟨fa,r,g,c,hfa,hr,hA,hav⟩:=h.at hx;have hwl:=(List.getElem?_eq_some_iff.1 hx).1;have hwz:(who:Int)<(V.acts.length:Int):=by omega
 have h8:=(ok.shp who x hx).1;have h6:=(ok.shp who x hx).2;obtain⟨N0,_,b1,s1⟩:=boxes1 w (.cells #[.int .i64 0,.int .i64 a,.int .i64 b,.int .i64 n] 43);have h1:=h.below b1;have c0:=h1.bw.1;rw[hav] at c0;have hC:=finish_any _ h1 hx hav h8;have HP:Aside (performS V who ⟨0,a,b,n⟩=({ V with acts:=V.acts.set who (finishS x).1 },(finishS x).2)):=by
  show performS V who ⟨0,a,b,n⟩=_
  unfold performS
  rw[at_of hx]
  rfl
 rw[HP.out];have HAV:Aside (av=.slice (some ⟨g,0,none⟩) V.acts.length c):=hav;clear hav;clear hA hfa hr;generalize V.acts.length=VL at *
 go_enter Tryz.func76,Tryz.ntmps76
 go_upto_region 1 with fail
 generalize w.alloc (.cells #[.int .i64 0,.int .i64 a,.int .i64 b,.int .i64 n] 43)=W at *;have d0:W.cell? ⟨w.heap.size,0,none⟩=some (.int .i64 0):=cell_blk N0 0;have d1:W.cell? ⟨w.heap.size,1,none⟩=some (.int .i64 a):=cell_blk N0 1;have d2:W.cell? ⟨w.heap.size,2,none⟩=some (.int .i64 b):=cell_blk N0 2;have d3:W.cell? ⟨w.heap.size,3,none⟩=some (.int .i64 n):=cell_blk N0 3
 go_wp2_with (go_at_call 107;refine hC.mono ?_;rintro e w2 ⟨rfl,hW2,hM2⟩)
 go_ret
 exact⟨rfl,_,_,_,_,hW2,(Moved.of_below b1).trans hM2⟩
theorem perf2_any (who:Nat) (a b n:Int) (w:World) {base Bw:Nat} {V:Wd} {av pv:Value} {fl:List Fa} {rs:List (List (Value × Ob))} (h:WdOwn w base Bw V av pv fl rs) {x:Ac} (hx:V.acts[who]?=some x) (ok:PerfOk V x a b) :
  Calls Tryz.prog 76 #[.pointer (some ⟨Bw,0,none⟩),.int .i64 who,.agg #[.int .i64 2,.int .i64 a,.int .i64 b,.int .i64 n]] w fun e w'=>e=.returned (.int .i64 (performS V who ⟨2,a,b,n⟩).2)/\∃ av' pv' fl' rs',WdOwn w' base Bw (performS V who ⟨2,a,b,n⟩).1 av' pv' fl' rs'/\Moved w w' (wdFoot Bw av pv fl rs) (wdFoot Bw av' pv' fl' rs'):=by
 obtain⟨fa,r,g,c,hfa,hr,hA,hav⟩:=h.at hx;have hwl:=(List.getElem?_eq_some_iff.1 hx).1;have hwz:(who:Int)<(V.acts.length:Int):=by omega
 have h8:=(ok.shp who x hx).1;have h6:=(ok.shp who x hx).2;obtain⟨N0,_,b1,s1⟩:=boxes1 w (.cells #[.int .i64 2,.int .i64 a,.int .i64 b,.int .i64 n] 43);have h1:=h.below b1;have c0:=h1.bw.1;rw[hav] at c0;have hC:=reckon_any 2 a b n _ h1 hx hav h8 ok.a ok.b ok.words;have HP:Aside (performS V who ⟨2,a,b,n⟩=({ V with acts:=V.acts.set who (reckonS x ⟨2,a,b,n⟩).1 },(reckonS x ⟨2,a,b,n⟩).2)):=by
  show performS V who ⟨2,a,b,n⟩=_
  unfold performS
  rw[at_of hx]
  rfl
 rw[HP.out];have HAV:Aside (av=.slice (some ⟨g,0,none⟩) V.acts.length c):=hav;clear hav;clear hA hfa hr;generalize V.acts.length=VL at *
 go_enter Tryz.func76,Tryz.ntmps76
 go_upto_region 1 with fail
 generalize w.alloc (.cells #[.int .i64 2,.int .i64 a,.int .i64 b,.int .i64 n] 43)=W at *;have d0:W.cell? ⟨w.heap.size,0,none⟩=some (.int .i64 2):=cell_blk N0 0;have d1:W.cell? ⟨w.heap.size,1,none⟩=some (.int .i64 a):=cell_blk N0 1;have d2:W.cell? ⟨w.heap.size,2,none⟩=some (.int .i64 b):=cell_blk N0 2;have d3:W.cell? ⟨w.heap.size,3,none⟩=some (.int .i64 n):=cell_blk N0 3
 go_wp2_with (go_at_call 108;refine hC.mono ?_;rintro e w2 ⟨rfl,hW2,hM2⟩)
 go_ret
 exact⟨rfl,_,_,_,_,hW2,(Moved.of_below b1).trans hM2⟩
theorem perf3_any (who:Nat) (a b n:Int) (w:World) {base Bw:Nat} {V:Wd} {av pv:Value} {fl:List Fa} {rs:List (List (Value × Ob))} (h:WdOwn w base Bw V av pv fl rs) {x:Ac} (hx:V.acts[who]?=some x) (ok:PerfOk V x a b) :
  Calls Tryz.prog 76 #[.pointer (some ⟨Bw,0,none⟩),.int .i64 who,.agg #[.int .i64 3,.int .i64 a,.int .i64 b,.int .i64 n]] w fun e w'=>e=.returned (.int .i64 (performS V who ⟨3,a,b,n⟩).2)/\∃ av' pv' fl' rs',WdOwn w' base Bw (performS V who ⟨3,a,b,n⟩).1 av' pv' fl' rs'/\Moved w w' (wdFoot Bw av pv fl rs) (wdFoot Bw av' pv' fl' rs'):=by
 obtain⟨fa,r,g,c,hfa,hr,hA,hav⟩:=h.at hx;have hwl:=(List.getElem?_eq_some_iff.1 hx).1;have hwz:(who:Int)<(V.acts.length:Int):=by omega
 have h8:=(ok.shp who x hx).1;have h6:=(ok.shp who x hx).2;obtain⟨N0,_,b1,s1⟩:=boxes1 w (.cells #[.int .i64 3,.int .i64 a,.int .i64 b,.int .i64 n] 43);have h1:=h.below b1;have c0:=h1.bw.1;rw[hav] at c0;have hC:=reckon_any 3 a b n _ h1 hx hav h8 ok.a ok.b ok.words;have HP:Aside (performS V who ⟨3,a,b,n⟩=({ V with acts:=V.acts.set who (reckonS x ⟨3,a,b,n⟩).1 },(reckonS x ⟨3,a,b,n⟩).2)):=by
  show performS V who ⟨3,a,b,n⟩=_
  unfold performS
  rw[at_of hx]
  rfl
 rw[HP.out];have HAV:Aside (av=.slice (some ⟨g,0,none⟩) V.acts.length c):=hav;clear hav;clear hA hfa hr;generalize V.acts.length=VL at *
 go_enter Tryz.func76,Tryz.ntmps76
 go_upto_region 1 with fail
 generalize w.alloc (.cells #[.int .i64 3,.int .i64 a,.int .i64 b,.int .i64 n] 43)=W at *;have d0:W.cell? ⟨w.heap.size,0,none⟩=some (.int .i64 3):=cell_blk N0 0;have d1:W.cell? ⟨w.heap.size,1,none⟩=some (.int .i64 a):=cell_blk N0 1;have d2:W.cell? ⟨w.heap.size,2,none⟩=some (.int .i64 b):=cell_blk N0 2;have d3:W.cell? ⟨w.heap.size,3,none⟩=some (.int .i64 n):=cell_blk N0 3
 go_wp2_with (go_at_call 108;refine hC.mono ?_;rintro e w2 ⟨rfl,hW2,hM2⟩)
 go_ret
 exact⟨rfl,_,_,_,_,hW2,(Moved.of_below b1).trans hM2⟩
theorem perf4_any (who:Nat) (a b n:Int) (w:World) {base Bw:Nat} {V:Wd} {av pv:Value} {fl:List Fa} {rs:List (List (Value × Ob))} (h:WdOwn w base Bw V av pv fl rs) {x:Ac} (hx:V.acts[who]?=some x) (ok:PerfOk V x a b) :
  Calls Tryz.prog 76 #[.pointer (some ⟨Bw,0,none⟩),.int .i64 who,.agg #[.int .i64 4,.int .i64 a,.int .i64 b,.int .i64 n]] w fun e w'=>e=.returned (.int .i64 (performS V who ⟨4,a,b,n⟩).2)/\∃ av' pv' fl' rs',WdOwn w' base Bw (performS V who ⟨4,a,b,n⟩).1 av' pv' fl' rs'/\Moved w w' (wdFoot Bw av pv fl rs) (wdFoot Bw av' pv' fl' rs'):=by
 obtain⟨fa,r,g,c,hfa,hr,hA,hav⟩:=h.at hx;have hwl:=(List.getElem?_eq_some_iff.1 hx).1;have hwz:(who:Int)<(V.acts.length:Int):=by omega
 have h8:=(ok.shp who x hx).1;have h6:=(ok.shp who x hx).2;obtain⟨N0,_,b1,s1⟩:=boxes1 w (.cells #[.int .i64 4,.int .i64 a,.int .i64 b,.int .i64 n] 43);have h1:=h.below b1;have c0:=h1.bw.1;rw[hav] at c0;have hC:=reckon_any 4 a b n _ h1 hx hav h8 ok.a ok.b ok.words;have HP:Aside (performS V who ⟨4,a,b,n⟩=({ V with acts:=V.acts.set who (reckonS x ⟨4,a,b,n⟩).1 },(reckonS x ⟨4,a,b,n⟩).2)):=by
  show performS V who ⟨4,a,b,n⟩=_
  unfold performS
  rw[at_of hx]
  rfl
 rw[HP.out];have HAV:Aside (av=.slice (some ⟨g,0,none⟩) V.acts.length c):=hav;clear hav;clear hA hfa hr;generalize V.acts.length=VL at *
 go_enter Tryz.func76,Tryz.ntmps76
 go_upto_region 1 with fail
 generalize w.alloc (.cells #[.int .i64 4,.int .i64 a,.int .i64 b,.int .i64 n] 43)=W at *;have d0:W.cell? ⟨w.heap.size,0,none⟩=some (.int .i64 4):=cell_blk N0 0;have d1:W.cell? ⟨w.heap.size,1,none⟩=some (.int .i64 a):=cell_blk N0 1;have d2:W.cell? ⟨w.heap.size,2,none⟩=some (.int .i64 b):=cell_blk N0 2;have d3:W.cell? ⟨w.heap.size,3,none⟩=some (.int .i64 n):=cell_blk N0 3
 go_wp2_with (go_at_call 108;refine hC.mono ?_;rintro e w2 ⟨rfl,hW2,hM2⟩)
 go_ret
 exact⟨rfl,_,_,_,_,hW2,(Moved.of_below b1).trans hM2⟩
theorem perf7_any (who:Nat) (a b n:Int) (w:World) {base Bw:Nat} {V:Wd} {av pv:Value} {fl:List Fa} {rs:List (List (Value × Ob))} (h:WdOwn w base Bw V av pv fl rs) {x:Ac} (hx:V.acts[who]?=some x) (ok:PerfOk V x a b) :
  Calls Tryz.prog 76 #[.pointer (some ⟨Bw,0,none⟩),.int .i64 who,.agg #[.int .i64 7,.int .i64 a,.int .i64 b,.int .i64 n]] w fun e w'=>e=.returned (.int .i64 (performS V who ⟨7,a,b,n⟩).2)/\∃ av' pv' fl' rs',WdOwn w' base Bw (performS V who ⟨7,a,b,n⟩).1 av' pv' fl' rs'/\Moved w w' (wdFoot Bw av pv fl rs) (wdFoot Bw av' pv' fl' rs'):=by
 obtain⟨fa,r,g,c,hfa,hr,hA,hav⟩:=h.at hx;have hwl:=(List.getElem?_eq_some_iff.1 hx).1;have hwz:(who:Int)<(V.acts.length:Int):=by omega
 have h8:=(ok.shp who x hx).1;have h6:=(ok.shp who x hx).2;obtain⟨N0,_,b1,s1⟩:=boxes1 w (.cells #[.int .i64 7,.int .i64 a,.int .i64 b,.int .i64 n] 43);have h1:=h.below b1;have c0:=h1.bw.1;rw[hav] at c0;have hC:=amake_any 7 a b n _ h1 hx hav h8 h6 ok.a;have HP:Aside (performS V who ⟨7,a,b,n⟩=({ V with acts:=V.acts.set who (makeS x ⟨7,a,b,n⟩).1 },(makeS x ⟨7,a,b,n⟩).2)):=by
  show performS V who ⟨7,a,b,n⟩=_
  unfold performS
  rw[at_of hx]
  rfl
 rw[HP.out];have HAV:Aside (av=.slice (some ⟨g,0,none⟩) V.acts.length c):=hav;clear hav;clear hA hfa hr;generalize V.acts.length=VL at *
 go_enter Tryz.func76,Tryz.ntmps76
 go_upto_region 1 with fail
 generalize w.alloc (.cells #[.int .i64 7,.int .i64 a,.int .i64 b,.int .i64 n] 43)=W at *;have d0:W.cell? ⟨w.heap.size,0,none⟩=some (.int .i64 7):=cell_blk N0 0;have d1:W.cell? ⟨w.heap.size,1,none⟩=some (.int .i64 a):=cell_blk N0 1;have d2:W.cell? ⟨w.heap.size,2,none⟩=some (.int .i64 b):=cell_blk N0 2;have d3:W.cell? ⟨w.heap.size,3,none⟩=some (.int .i64 n):=cell_blk N0 3
 go_wp2_with (go_at_call 110;refine hC.mono ?_;rintro e w2 ⟨rfl,fl2,rs2,hW2,hM2⟩)
 go_ret
 exact⟨rfl,_,_,_,_,hW2,(Moved.of_below b1).trans hM2⟩
theorem perf8_any (who:Nat) (a b n:Int) (w:World) {base Bw:Nat} {V:Wd} {av pv:Value} {fl:List Fa} {rs:List (List (Value × Ob))} (h:WdOwn w base Bw V av pv fl rs) {x:Ac} (hx:V.acts[who]?=some x) (ok:PerfOk V x a b) :
  Calls Tryz.prog 76 #[.pointer (some ⟨Bw,0,none⟩),.int .i64 who,.agg #[.int .i64 8,.int .i64 a,.int .i64 b,.int .i64 n]] w fun e w'=>e=.returned (.int .i64 (performS V who ⟨8,a,b,n⟩).2)/\∃ av' pv' fl' rs',WdOwn w' base Bw (performS V who ⟨8,a,b,n⟩).1 av' pv' fl' rs'/\Moved w w' (wdFoot Bw av pv fl rs) (wdFoot Bw av' pv' fl' rs'):=by
 obtain⟨fa,r,g,c,hfa,hr,hA,hav⟩:=h.at hx;have hwl:=(List.getElem?_eq_some_iff.1 hx).1;have hwz:(who:Int)<(V.acts.length:Int):=by omega
 have h8:=(ok.shp who x hx).1;have h6:=(ok.shp who x hx).2;obtain⟨N0,_,b1,s1⟩:=boxes1 w (.cells #[.int .i64 8,.int .i64 a,.int .i64 b,.int .i64 n] 43);have h1:=h.below b1;have c0:=h1.bw.1;rw[hav] at c0;have hC:=aget_any 8 a b n 1 2 _ h1 hx hav h8 ok.a ok.b;have HP:Aside (performS V who ⟨8,a,b,n⟩=({ V with acts:=V.acts.set who (getsS x ⟨8,a,b,n⟩ 1 2).1 },(getsS x ⟨8,a,b,n⟩ 1 2).2)):=by
  show performS V who ⟨8,a,b,n⟩=_
  unfold performS
  rw[at_of hx]
  rfl
 rw[HP.out];have HAV:Aside (av=.slice (some ⟨g,0,none⟩) V.acts.length c):=hav;clear hav;clear hA hfa hr;generalize V.acts.length=VL at *
 go_enter Tryz.func76,Tryz.ntmps76
 go_upto_region 1 with fail
 generalize w.alloc (.cells #[.int .i64 8,.int .i64 a,.int .i64 b,.int .i64 n] 43)=W at *;have d0:W.cell? ⟨w.heap.size,0,none⟩=some (.int .i64 8):=cell_blk N0 0;have d1:W.cell? ⟨w.heap.size,1,none⟩=some (.int .i64 a):=cell_blk N0 1;have d2:W.cell? ⟨w.heap.size,2,none⟩=some (.int .i64 b):=cell_blk N0 2;have d3:W.cell? ⟨w.heap.size,3,none⟩=some (.int .i64 n):=cell_blk N0 3
 go_wp2_with (go_at_call 111;refine hC.mono ?_;rintro e w2 ⟨rfl,hW2,hM2⟩)
 go_ret
 exact⟨rfl,_,_,_,_,hW2,(Moved.of_below b1).trans hM2⟩
theorem perf10_any (who:Nat) (a b n:Int) (w:World) {base Bw:Nat} {V:Wd} {av pv:Value} {fl:List Fa} {rs:List (List (Value × Ob))} (h:WdOwn w base Bw V av pv fl rs) {x:Ac} (hx:V.acts[who]?=some x) (ok:PerfOk V x a b) :
  Calls Tryz.prog 76 #[.pointer (some ⟨Bw,0,none⟩),.int .i64 who,.agg #[.int .i64 10,.int .i64 a,.int .i64 b,.int .i64 n]] w fun e w'=>e=.returned (.int .i64 (performS V who ⟨10,a,b,n⟩).2)/\∃ av' pv' fl' rs',WdOwn w' base Bw (performS V who ⟨10,a,b,n⟩).1 av' pv' fl' rs'/\Moved w w' (wdFoot Bw av pv fl rs) (wdFoot Bw av' pv' fl' rs'):=by
 obtain⟨fa,r,g,c,hfa,hr,hA,hav⟩:=h.at hx;have hwl:=(List.getElem?_eq_some_iff.1 hx).1;have hwz:(who:Int)<(V.acts.length:Int):=by omega
 have h8:=(ok.shp who x hx).1;have h6:=(ok.shp who x hx).2;obtain⟨N0,_,b1,s1⟩:=boxes1 w (.cells #[.int .i64 10,.int .i64 a,.int .i64 b,.int .i64 n] 43);have h1:=h.below b1;have c0:=h1.bw.1;rw[hav] at c0;have hC:=aget_any 10 a b n 2 3 _ h1 hx hav h8 ok.a ok.b;have HP:Aside (performS V who ⟨10,a,b,n⟩=({ V with acts:=V.acts.set who (getsS x ⟨10,a,b,n⟩ 2 3).1 },(getsS x ⟨10,a,b,n⟩ 2 3).2)):=by
  show performS V who ⟨10,a,b,n⟩=_
  unfold performS
  rw[at_of hx]
  rfl
 rw[HP.out];have HAV:Aside (av=.slice (some ⟨g,0,none⟩) V.acts.length c):=hav;clear hav;clear hA hfa hr;generalize V.acts.length=VL at *
 go_enter Tryz.func76,Tryz.ntmps76
 go_upto_region 1 with fail
 generalize w.alloc (.cells #[.int .i64 10,.int .i64 a,.int .i64 b,.int .i64 n] 43)=W at *;have d0:W.cell? ⟨w.heap.size,0,none⟩=some (.int .i64 10):=cell_blk N0 0;have d1:W.cell? ⟨w.heap.size,1,none⟩=some (.int .i64 a):=cell_blk N0 1;have d2:W.cell? ⟨w.heap.size,2,none⟩=some (.int .i64 b):=cell_blk N0 2;have d3:W.cell? ⟨w.heap.size,3,none⟩=some (.int .i64 n):=cell_blk N0 3
 go_wp2_with (go_at_call 111;refine hC.mono ?_;rintro e w2 ⟨rfl,hW2,hM2⟩)
 go_ret
 exact⟨rfl,_,_,_,_,hW2,(Moved.of_below b1).trans hM2⟩
theorem perf9_any (who:Nat) (a b n:Int) (w:World) {base Bw:Nat} {V:Wd} {av pv:Value} {fl:List Fa} {rs:List (List (Value × Ob))} (h:WdOwn w base Bw V av pv fl rs) {x:Ac} (hx:V.acts[who]?=some x) (ok:PerfOk V x a b) :
  Calls Tryz.prog 76 #[.pointer (some ⟨Bw,0,none⟩),.int .i64 who,.agg #[.int .i64 9,.int .i64 a,.int .i64 b,.int .i64 n]] w fun e w'=>e=.returned (.int .i64 (performS V who ⟨9,a,b,n⟩).2)/\∃ av' pv' fl' rs',WdOwn w' base Bw (performS V who ⟨9,a,b,n⟩).1 av' pv' fl' rs'/\Moved w w' (wdFoot Bw av pv fl rs) (wdFoot Bw av' pv' fl' rs'):=by
 obtain⟨fa,r,g,c,hfa,hr,hA,hav⟩:=h.at hx;have hwl:=(List.getElem?_eq_some_iff.1 hx).1;have hwz:(who:Int)<(V.acts.length:Int):=by omega
 have h8:=(ok.shp who x hx).1;have h6:=(ok.shp who x hx).2;obtain⟨N0,_,b1,s1⟩:=boxes1 w (.cells #[.int .i64 9,.int .i64 a,.int .i64 b,.int .i64 n] 43);have h1:=h.below b1;have c0:=h1.bw.1;rw[hav] at c0;have hC:=aput_any 9 a b n 1 _ h1 hx hav h8 ok.a ok.b;have HP:Aside (performS V who ⟨9,a,b,n⟩=({ V with acts:=V.acts.set who (putsS x ⟨9,a,b,n⟩ 1).1 },(putsS x ⟨9,a,b,n⟩ 1).2)):=by
  show performS V who ⟨9,a,b,n⟩=_
  unfold performS
  rw[at_of hx]
  rfl
 rw[HP.out];have HAV:Aside (av=.slice (some ⟨g,0,none⟩) V.acts.length c):=hav;clear hav;clear hA hfa hr;generalize V.acts.length=VL at *
 go_enter Tryz.func76,Tryz.ntmps76
 go_upto_region 1 with fail
 generalize w.alloc (.cells #[.int .i64 9,.int .i64 a,.int .i64 b,.int .i64 n] 43)=W at *;have d0:W.cell? ⟨w.heap.size,0,none⟩=some (.int .i64 9):=cell_blk N0 0;have d1:W.cell? ⟨w.heap.size,1,none⟩=some (.int .i64 a):=cell_blk N0 1;have d2:W.cell? ⟨w.heap.size,2,none⟩=some (.int .i64 b):=cell_blk N0 2;have d3:W.cell? ⟨w.heap.size,3,none⟩=some (.int .i64 n):=cell_blk N0 3
 go_wp2_with (go_at_call 112;refine hC.mono ?_;rintro e w2 ⟨rfl,fl2,rs2,hW2,hM2⟩)
 go_ret
 exact⟨rfl,_,_,_,_,hW2,(Moved.of_below b1).trans hM2⟩
theorem perf11_any (who:Nat) (a b n:Int) (w:World) {base Bw:Nat} {V:Wd} {av pv:Value} {fl:List Fa} {rs:List (List (Value × Ob))} (h:WdOwn w base Bw V av pv fl rs) {x:Ac} (hx:V.acts[who]?=some x) (ok:PerfOk V x a b) :
  Calls Tryz.prog 76 #[.pointer (some ⟨Bw,0,none⟩),.int .i64 who,.agg #[.int .i64 11,.int .i64 a,.int .i64 b,.int .i64 n]] w fun e w'=>e=.returned (.int .i64 (performS V who ⟨11,a,b,n⟩).2)/\∃ av' pv' fl' rs',WdOwn w' base Bw (performS V who ⟨11,a,b,n⟩).1 av' pv' fl' rs'/\Moved w w' (wdFoot Bw av pv fl rs) (wdFoot Bw av' pv' fl' rs'):=by
 obtain⟨fa,r,g,c,hfa,hr,hA,hav⟩:=h.at hx;have hwl:=(List.getElem?_eq_some_iff.1 hx).1;have hwz:(who:Int)<(V.acts.length:Int):=by omega
 have h8:=(ok.shp who x hx).1;have h6:=(ok.shp who x hx).2;obtain⟨N0,_,b1,s1⟩:=boxes1 w (.cells #[.int .i64 11,.int .i64 a,.int .i64 b,.int .i64 n] 43);have h1:=h.below b1;have c0:=h1.bw.1;rw[hav] at c0;have hC:=aput_any 11 a b n 2 _ h1 hx hav h8 ok.a ok.b;have HP:Aside (performS V who ⟨11,a,b,n⟩=({ V with acts:=V.acts.set who (putsS x ⟨11,a,b,n⟩ 2).1 },(putsS x ⟨11,a,b,n⟩ 2).2)):=by
  show performS V who ⟨11,a,b,n⟩=_
  unfold performS
  rw[at_of hx]
  rfl
 rw[HP.out];have HAV:Aside (av=.slice (some ⟨g,0,none⟩) V.acts.length c):=hav;clear hav;clear hA hfa hr;generalize V.acts.length=VL at *
 go_enter Tryz.func76,Tryz.ntmps76
 go_upto_region 1 with fail
 generalize w.alloc (.cells #[.int .i64 11,.int .i64 a,.int .i64 b,.int .i64 n] 43)=W at *;have d0:W.cell? ⟨w.heap.size,0,none⟩=some (.int .i64 11):=cell_blk N0 0;have d1:W.cell? ⟨w.heap.size,1,none⟩=some (.int .i64 a):=cell_blk N0 1;have d2:W.cell? ⟨w.heap.size,2,none⟩=some (.int .i64 b):=cell_blk N0 2;have d3:W.cell? ⟨w.heap.size,3,none⟩=some (.int .i64 n):=cell_blk N0 3
 go_wp2_with (go_at_call 112;refine hC.mono ?_;rintro e w2 ⟨rfl,fl2,rs2,hW2,hM2⟩)
 go_ret
 exact⟨rfl,_,_,_,_,hW2,(Moved.of_below b1).trans hM2⟩
end
section
open Go.RowKit
theorem allocS_ok {M n:Int} {l:List Ob} (h:(allocS M l n).e=0):(allocS M l n).obs=l++[⟨zeroVals n.toNat,false⟩]/\(allocS M l n).k=2/\(allocS M l n).n=l.length:=by
 unfold allocS at h ⊢
 split at h
 ·simp at h
 ·split at h
  ·simp at h
  ·split at h
   ·simp at h
   ·rename_i h1 h2 h3
    rw[if_neg h1,if_neg h2,if_neg h3];exact⟨rfl,rfl,rfl⟩
theorem giveS_some {a y:Ac} {n:Int} {v:Vl} (h:giveS a n=(y,some v)):∃ l,y.obs=l++[⟨zeroVals n.toNat,false⟩]/\v=⟨2,l.length⟩:=by
 unfold giveS at h
 split at h
 ·rename_i h1
  obtain⟨e1,e2,e3⟩:=allocS_ok h1;simp only[Prod.mk.injEq,Option.some.injEq] at h;obtain⟨rfl,rfl⟩:=h;exact⟨_,e1,by rw[e2,e3]⟩
 ·split at h
  ·split at h
   ·rename_i h1
    obtain⟨e1,e2,e3⟩:=allocS_ok h1;simp only[Prod.mk.injEq,Option.some.injEq] at h;obtain⟨rfl,rfl⟩:=h;exact⟨_,e1,by rw[e2,e3]⟩
   ·simp at h
  ·simp at h
theorem tell_any (tq n m:Int) (w:World) {base Bw:Nat} {V:Wd} {av pv:Value} {fl:List Fa} {rs:List (List (Value × Ob))} (h:WdOwn w base Bw V av pv fl rs) (hsh:Shp V) :
  Calls Tryz.prog 51 #[.pointer (some ⟨Bw,0,none⟩),.int .i64 tq,.int .i64 n,.int .i64 m] w fun e w'=>e=.returned (.tuple #[])/\∃ fl' rs',WdOwn w' base Bw (tellS V tq n m) av pv fl' rs'/\Moved w w' (wdFoot Bw av pv fl rs) (wdFoot Bw av pv fl' rs'):=by
 have ht:=takes_any tq w h (fun j x hx=>by have:=(hsh j x hx).2;omega);have HT:Aside (tellS V tq n m=if takesS V tq=true then V.put tq (toldS (V.at tq) n m) else V):=rfl;have HTK:Aside (takesS V tq=true->0<=tq/\tq<(V.acts.length:Int)/\(V.at tq).box.length<6):=fun h0=>by
  simp only[takesS,livesS,Bool.and_eq_true,decide_eq_true_eq] at h0;exact⟨h0.1.1.1,h0.1.1.2,h0.2⟩
 generalize tellS V tq n m=RT at *;generalize takesS V tq=TK at *;have HW:Aside (WdOwn w base Bw V av pv fl rs):=h
 cases TK with
 | false =>
  have hRT:RT=V:=by rw[HT.out];rfl
  subst hRT;clear h
  go_enter Tryz.func51,Tryz.ntmps51
  go_wp2_with fail
  refine ht.mono ?_;rintro e w' ⟨rfl,hw'⟩;replace hw':=hw'.symm;subst hw';go_wp2
  exact bodyPost_ret (v:=.tuple #[]) (by simp[results,Tryz.results51,go_sem]) rfl ⟨rfl,_,_,HW.out,Moved.of_below (Below.refl _ _)⟩
 | true =>
  obtain⟨h1,h2,h3⟩:=HTK.out rfl;have hRT:RT=V.put tq (toldS (V.at tq) n m):=by rw[HT.out];rfl
  obtain⟨j,rfl⟩:=Int.eq_ofNat_of_zero_le h1;obtain⟨x,hx⟩:=at_some (l:=V.acts) (i:=j) (by omega);rw[at_of hx] at h3 hRT;have hRT2:RT={ V with acts:=V.acts.set j (toldS x n m) }:=hRT;subst hRT2;obtain⟨h8,h6⟩:=hsh j x hx;obtain⟨fa,r,g,c,hfa,hr,hA,hav⟩:=h.at hx;have HAV:Aside (av=.slice (some ⟨g,0,none⟩) V.acts.length c):=hav;have c0:=h.bw.1;rw[hav] at c0;have hgv:=give_any 2 w h hx hav h8 h6;have hl8:=giveS_regs (a:=x) (n:=2)
  have hl6:=giveS_box (a:=x) (n:=2);rw[h8] at hl8;replace hl6:(giveS x 2).1.box.length<6:=by rw[hl6];exact h3
  have HTL:Aside (toldS x n m=match giveS x 2 with
   | (b,none)=>b
   | (b,some v)=>{ b with obs:=setObs (setObs b.obs v.n.toNat 0 (numV n)) v.n.toNat 1 (numV m),box:=b.box++[v] }):=rfl
  have HSM:Aside (∀ y v,giveS x 2=(y,some v)->∃ l,y.obs=l++[⟨zeroVals 2,false⟩]/\v=⟨2,l.length⟩):=fun y v e=>giveS_some e
  generalize toldS x n m=TX at *;generalize giveS x 2=RG at *;obtain⟨y,ov⟩:=RG;simp only at hgv HTL hl8 hl6;have hjv:j<V.acts.length:=(List.getElem?_eq_some_iff.1 hx).1;generalize V.acts.length=VL at *;clear h3 h6;clear h hav hA hfa hr HTK HT hRT
  go_enter Tryz.func51,Tryz.ntmps51
  go_wp2_with fail
  refine ht.mono ?_;rintro e w' ⟨rfl,hw'⟩;replace hw':=hw'.symm;subst hw'
  go_wp2_with fail
  refine hgv.mono ?_;rintro e w2 ⟨rfl,fl1,rs1,hW2,hM2⟩;clear hgv ht
  cases ov with
  | none =>
   have hTX:TX=y:=by rw[HTL.out]
   subst hTX;clear c0;go_wp2
   exact bodyPost_ret (v:=.tuple #[]) (by simp[results,Tryz.results51,go_sem]) rfl ⟨rfl,_,_,hW2.below (below_box _ _),hM2.trans (Moved.of_below (below_box _ _))⟩
  | some v =>
   obtain⟨l,hyo,rfl⟩:=HSM.out y v rfl;have hTX:TX={ y with obs:=setObs (setObs y.obs l.length 0 (numV n)) l.length 1 (numV m),box:=y.box++[⟨2,l.length⟩] }:=by rw[HTL.out];rfl
   subst hTX;simp only[optV]
   go_upto_region 4 with fail
   obtain⟨NV,_,bV,sV⟩:=boxes1 w2 (.cells #[.int .i64 2,.int .i64 l.length] 66);generalize w2.alloc (.cells #[.int .i64 2,.int .i64 l.length] 66)=wc at *;have hWc:=hW2.below bV;have hMc:=hM2.trans (Moved.of_below bV);have hGn:w2.heap.size∉wdFoot Bw av pv fl1 rs1:=fun hb=>by have:=hW2.blk_lt _ hb;omega
   have hGs:w.heap.size<=w2.heap.size:=hM2.size;clear hW2 hM2 bV c0;generalize w2.heap.size=G at *;have hx1:(V.acts.set j y)[j]?=some y:=by rw[List.getElem?_set,if_pos rfl,if_pos (List.getElem?_eq_some_iff.1 hx).1]
   obtain⟨fb,rb,hfb,hrb,hA,u0,u1,u2,k3,u4,u5,k6,u7⟩:=hWc.cellsAt HAV.out hx1;clear u0 u1 u2 u4 u5 u7;have hrl:rb.length=l.length+1:=by
    have:=congrArg List.length hA.obs;rw[hyo] at this
    simpa using this
   obtain⟨⟨rv,ob⟩,hrow⟩:=at_some (l:=rb) (i:=l.length) (by omega);have hob:ob=⟨zeroVals 2,false⟩:=by
    have h1:(rb.map (·.2))[l.length]?=some ob:=by rw[List.getElem?_map,hrow];rfl
    rw[hA.obs,hyo] at h1
    simpa using h1.symm
   subst hob;have hRow:=(hA.heap.row _ _ hrow).1;obtain⟨Fb,fc,rfl⟩:∃ Fb fc,rv=.slice (some ⟨Fb,0,none⟩) 2 fc:=by
    rcases ownsRow_form hRow with⟨_,h0⟩ | ⟨Fb,fc,e,_⟩
    ·simp[zeroVals] at h0
    ·exact⟨Fb,fc,e⟩
   obtain⟨O,hoa⟩:∃ O,fb.oa=some ⟨O,0,none⟩:=by
    rcases ownsRow_form hA.heap.top with⟨_,h0⟩ | ⟨O,cc,e,_⟩
    ·omega
    ·simp only[Value.slice.injEq] at e
     exact⟨O,e.1⟩
   have e0:wc.cell? ⟨O,l.length*2,none⟩=some (.slice (some ⟨Fb,0,none⟩) 2 fc):=ownsRow_cell hA.heap.top (by rw[hoa];rfl) (by simp[obCells,pairs_fst,hrow,obPair]);rw[hoa] at k3;have hyl:y.obs.length=l.length+1:=by rw[hyo];simp
   have hz:(l.length:Int)<(y.obs.length:Int):=by omega
   have HYL:Aside (y.obs.length=l.length+1):=hyl;clear hyl;have G0:wc.cell? ⟨G,0,none⟩=some (.int .i64 2):=cell_blk NV 0;have G1:wc.cell? ⟨G,1,none⟩=some (.int .i64 l.length):=cell_blk NV 1;generalize y.obs.length=YL at *
   go_quiet (fail)
   have bq:Below wc.heap.size wc (wc.drewN nq):=below_drewN (Below.refl _ _) nq
   go_wp2_with fail
   refine(num_any n _).mono ?_;rintro e w3 ⟨rfl,b3⟩
   go_wp2_with fail
   refine(num_any m _).mono ?_;rintro e w4 ⟨rfl,b4⟩;have b34:Below wc.heap.size wc w4:=(bq.trans (b3.mono bq.size)).trans (b4.mono (Nat.le_trans bq.size b3.size));have hW4:=hWc.below b34;have hM4:=hMc.trans (Moved.of_below b34);have hRow4:ValsOwn w4 base (.slice (some ⟨Fb,0,none⟩) 2 fc) (zeroVals 2):=hRow.below b34;obtain⟨z0,z1⟩:=hRow4.cells2 (i:=0) (v:=⟨0,0⟩) rfl;obtain⟨z2,z3⟩:=hRow4.cells2 (i:=1) (v:=⟨0,0⟩) rfl
   simp only[Nat.zero_mul,Nat.one_mul,Nat.zero_add] at z0 z1 z2 z3;have zf:∀ i,w4.frozen? ⟨Fb,i,none⟩=false:=fun i=>ownsRow_frozen hRow4 rfl i
   replace NV:=(b34.block G (by omega)).trans NV;have hS1:=hW4.setField hfb hrb hx1 hrow 0 (numV n);have hjr:j<rs1.length:=(List.getElem?_eq_some_iff.1 hrb).1;have hjl:=(List.getElem?_eq_some_iff.1 hx).1;have hS2:=hS1.1.setField (i:=l.length) (B:=Fb) (n:=2) (cap:=fc) (ob:=⟨(zeroVals 2).set 0 (numV n),false⟩) hfb (by rw[List.getElem?_set,if_pos rfl,if_pos hjr]) (x:={ y with obs:=setObs y.obs l.length 0 (numV n) }) (by simp only[List.set_set];rw[List.getElem?_set,if_pos rfl,if_pos hjl]) (by rw[List.getElem?_set,if_pos rfl,if_pos (by omega)]) 1 (numV m)
   have hM5:=(hM4.trans hS1.2).trans hS2.2;have hMS:=hS1.2.trans hS2.2;have hW5:=hS2.1;simp only[List.set_set,Nat.zero_mul,Nat.one_mul,Nat.zero_add,numV] at hW5 hM5 hMS;clear hS1 hS2 hM4 hW4 hRow4 hRow b3 b4 bq k3 e0 G0 G1 hA
   go_upto_region 6 with fail
   simp only[Nat.reduceAdd] at hW5 hM5 hMS;have hG4:G<w4.heap.size:=(Array.getElem?_eq_some_iff.1 NV).1;have NG:=((two_other (w:=(w4.setCell ⟨Fb,0,none⟩ (.int .i64 1)).setCell ⟨Fb,1,none⟩ (.int .i64 n)) 2 3 (.int .i64 1) (.int .i64 m) (show G≠Fb from fun e=>hGn (by rw[e];exact List.mem_append_right _ (mem_actsFoot hfb hrb (List.mem_append_left _ (List.mem_append_right _ (List.mem_flatMap.2 ⟨_,List.mem_of_getElem? hrow,by rw[mem_vB];rfl⟩))))))).trans (two_other (w:=w4) 0 1 (.int .i64 1) (.int .i64 n) (show G≠Fb from fun e=>hGn (by rw[e];exact List.mem_append_right _ (mem_actsFoot hfb hrb (List.mem_append_left _ (List.mem_append_right _ (List.mem_flatMap.2 ⟨_,List.mem_of_getElem? hrow,by rw[mem_vB];rfl⟩)))))))).trans NV
   clear z0 z1 z2 z3 zf NV;generalize (((w4.setCell ⟨Fb,0,none⟩ (.int .i64 1)).setCell ⟨Fb,1,none⟩ (.int .i64 n)).setCell ⟨Fb,2,none⟩ (.int .i64 1)).setCell ⟨Fb,3,none⟩ (.int .i64 m)=W5 at *;have hGw:=(Array.getElem?_eq_some_iff.1 NG).1;have hx5:(V.acts.set j { y with obs:=setObs (setObs y.obs l.length 0 ⟨1,n⟩) l.length 1 ⟨1,m⟩ })[j]?=some { y with obs:=setObs (setObs y.obs l.length 0 ⟨1,n⟩) l.length 1 ⟨1,m⟩ }:=by rw[List.getElem?_set,if_pos rfl,if_pos hjl]
   clear hrb hfb;obtain⟨fd,rd,hfd,hrd,hA5,u0,u1,u2,u3,u4,u5,k6,u7⟩:=hW5.cellsAt HAV.out hx5;clear u0 u1 u2 u3 u4 u5 u7;generalize rs1.set j _=rs5 at hW5 hM5 hrd hMS;have hG5:G∉wdFoot Bw av pv fl1 rs5:=fun hb=>by
    rcases hMS.sub G hb with q | q
    ·exact hGn q
    ·omega
   have hgn:g∉vB (.slice fd.ba fd.bn fd.bc):=fun hb=>(hW5.apart1 j fd rd hfd hrd).2 g (List.mem_append_right _ (List.mem_append_right _ hb)) (by simp[mem_vB,HAV.out,Value.ownBlock])
   have hgw5:g<W5.heap.size:=hW5.blk_lt g (List.mem_append_left _ (by simp[mem_vB,HAV.out,Value.ownBlock]));have hfz:=hW5.fz HAV.out;have hbT:=NG;have hGb:G∉vB (.slice fd.ba fd.bn fd.bc):=fun hb=>hG5 (List.mem_append_right _ (mem_actsFoot hfd hrd (List.mem_append_right _ (List.mem_append_right _ hb))))
   have hBd:Below W5.heap.size W5 W5.drew:=(Below.refl _ _).drew;have hSof:∀ w',Below W5.heap.size W5 w'->(w'.cell? ⟨g,j*8+6,none⟩=some (.slice fd.ba y.box.length fd.bc)/\w'.cell? ⟨G,0,none⟩=some (.int .i64 2)/\w'.cell? ⟨G,1,none⟩=some (.int .i64 l.length)):=fun w' hb=>⟨Keeps.below hb _ _ k6,Keeps.below hb _ _ (cell_blk NG 0),Keeps.below hb _ _ (cell_blk NG 1)⟩
   refine wp_region_need (fun j=>j != 10) (fun w'=>w'.cell? ⟨g,j*8+6,none⟩=some (.slice fd.ba y.box.length fd.bc)/\w'.cell? ⟨G,0,none⟩=some (.int .i64 2)/\w'.cell? ⟨G,1,none⟩=some (.int .i64 l.length)) (by kernel_rfl) (hSof _ hBd) (fun hS=>?_);generalize W5.drew=wn at hS hBd ⊢;refine tkN 0 hS ?_;refine tkN 1 hS ?_;refine tkN 2 hS ?_;refine tkN 3 hS ?_;refine tkN 4 hS ?_;refine tkN 5 hS ?_;refine stN 6 (fun K hK=>?_)
   go_simp;have hBe:Below W5.heap.size W5 (wn.alloc (.cells #[.int .i64 2,.int .i64 l.length] 66)):=hBd.alloc hBd.size _;have NB:=Deep.blk_alloc_new wn (.cells #[.int .i64 2,.int .i64 l.length] 66);refine otN hK (hSof _ hBe) ?_;clear hK;replace hS:=hSof _ hBe;generalize wn.alloc (.cells #[.int .i64 2,.int .i64 l.length] 66)=we at *;generalize wn.heap.size=NN at *;have hbx:SeqOwn fVl 2 66 we base (.slice fd.ba y.box.length fd.bc) y.box:=by
    have:=(hW5.below hBe).each j fd rd _ hfd hrd hx5;have h1:=this.box;rw[this.bn] at h1;exact h1
   refine wpAnyN_one (i:=7) (by kernel_rfl) rfl (fun K hK=>?_);refine step_seq Tryz.rowVl (by rfl) _ _ (by rfl) (v:=.slice fd.ba y.box.length fd.bc) (by rfl) hbx (Nat.le_trans (hW5.base_le HAV.out) hBe.size) [⟨2,l.length⟩] (some ⟨NN,0,none⟩) 1 (by rfl) (seqVl_of ?_) (by simp) (by simp;omega) (by simp[maxLen];omega) ?_
   ·intro i v hi
    have e:i=0:=by
     have:=(List.getElem?_eq_some_iff.1 hi).1
     simpa using this
    subst e;simp at hi;subst hi;exact⟨NN,0,rfl,cell_blk NB 0,cell_blk NB 1⟩
   intro B cap w6 hO6 hg6 _ hB6;have hS6:w6.cell? ⟨g,j*8+6,none⟩=some (.slice fd.ba y.box.length fd.bc)/\w6.cell? ⟨G,0,none⟩=some (.int .i64 2)/\w6.cell? ⟨G,1,none⟩=some (.int .i64 l.length):=by
    have hkeep:∀ b,b<W5.heap.size->b∉vB (.slice fd.ba fd.bn fd.bc)->w6.heap[b]?=we.heap[b]?:=fun b hb hb'=>hg6.block b (Nat.lt_of_lt_of_le hb hBe.size) (fun e=>hb' (by rw[(hW5.each j fd rd _ hfd hrd hx5).bn];exact mem_vB.2 e.symm))
    have c1:=hSof _ hBe;exact⟨(World.cell?_of_block (a:=⟨g,j*8+6,none⟩) (hkeep g hgw5 hgn)).trans c1.1,(World.cell?_of_block (a:=⟨G,0,none⟩) (hkeep G hGw hGb)).trans c1.2.1,(World.cell?_of_block (a:=⟨G,1,none⟩) (hkeep G hGw hGb)).trans c1.2.2⟩
   refine otN hK hS6 ?_;clear hK hS;have hS:=hS6;refine tkN 8 hS ?_;refine tkN 9 hS ?_;have hfz6:∀ i,w6.frozen? ⟨g,i,none⟩=false:=fun i=>by
    have e:w6.heap[g]?=W5.heap[g]?:=(hg6.block g (Nat.lt_of_lt_of_le hgw5 hBe.size) (fun e=>hgn (by rw[(hW5.each j fd rd _ hfd hrd hx5).bn];exact mem_vB.2 e.symm))).trans (hBe.block g hgw5);have:=hfz i;simp only[World.frozen?,e] at this ⊢
    exact this
   have hg6c:=hS6.1;refine stN 10 (fun K hK=>?_);go_simp;refine laN hK ?_;clear hK;have hz:=(hW5.below hBe).pushBox hfd hrd hx5 HAV.out (by rw[(hW5.each j fd rd _ hfd hrd hx5).bn];exact hg6) hO6 (by simp) (by rw[(hW5.each j fd rd _ hfd hrd hx5).bn];exact hB6);have hzM:=(hM5.trans (Moved.of_below hBe)).trans hz.2;replace hz:=hz.1;simp only[List.set_set,hyo] at hz;go_wp2
   go_end0
   exact⟨rfl,_,_,hz,hzM⟩
end
end Go.Proofs.YtepifccbbmdfcaaGreatDoor
