/- ASend. -/
import Derived.Test.YtepifccbbmdfcaaGreatDoorCBADeliver
namespace Go.Proofs.YtepifccbbmdfcaaGreatDoor
set_option maxRecDepth 100000
set_option maxHeartbeats 8000000
section
open Go.RowKit Go.Maps
theorem leadsToDead_any (M:Int) (ao:Option Addr) (cap:Nat) (l:List Ob) (k n:Int) (w:World) (h:ObsAt w ao l) (hA:hMay M l [⟨k,n⟩]=true) :
  Calls Tryz.prog 153 #[.agg #[.int .i64 M,.slice ao l.length cap],.agg #[.int .i64 k,.int .i64 n]] w fun e w'=>e=.returned (.bool ((reach l [⟨k,n⟩]).any fun p=>(obAt l p).dead))/\Below w.heap.size w w':=by
 have hE:∀ wy,Keeps w wy->ObsAt wy ao l:=fun wy hk=>h.keeps hk
 have hone:Aside (∀ wy:World,ValsAt (wy.alloc (.cells #[.int .i64 k,.int .i64 n] 66)) (some ⟨wy.heap.size,0,none⟩) [⟨k,n⟩]):=fun wy=>vals_one wy k n _
 clear h;obtain⟨N0,N1,k1,b1,hs'⟩:=boxes2 w (Obj.cells #[.int .i64 M,.slice ao l.length cap] 47) (Obj.cells #[.int .i64 k,.int .i64 n] 66);have hl60:=hMay_bound hA;have hok:=reach_ok hA [⟨k,n⟩] (hMay_roots' hA);have hol:=hok.len
 go_enter Tryz.func153,Tryz.ntmps153
 go_upto_region 1 with fail
 generalize (w.alloc (Obj.cells #[.int .i64 M,.slice ao l.length cap] 47)).alloc (Obj.cells #[.int .i64 k,.int .i64 n] 66)=W at *;have hs:w.heap.size+1+1<=W.heap.size:=Nat.le_of_eq hs'.symm;clear hs';have c0:=cell_blk N0 0;have c1:=cell_blk N0 1;have c2:=cell_blk N1 0;have c3:=cell_blk N1 1;simp at c0 c1 c2 c3
 go_wp2_with fail
 obtain⟨-,ka,ba,-⟩:=boxes1 W (Obj.cells #[.int .i64 k,.int .i64 n] 66);have hv1:=hone.out W;generalize W.alloc (Obj.cells #[.int .i64 k,.int .i64 n] 66)=Wa at *;refine(reach_any M ao cap l _ 1 [⟨k,n⟩] Wa (hE _ (k1.trans ka)) hv1 (by simp)).mono ?_;have hRS:reachS M l [⟨k,n⟩]=(reach l [⟨k,n⟩],0):=by rw[reachS,if_pos hA]
 rw[hRS];simp only;rintro e w3 ⟨ov,oc,rfl,hb3,hI⟩;have bb:Below W.heap.size W w3:=ba.trans (hb3.mono ba.size);have hA3:=hI.at;have hob:=hE _ (k1.trans (Keeps.below bb));replace c1:=Keeps.below bb _ _ c1;replace b1:=b1.trans (bb.mono b1.size);clear hb3 bb hv1 ka ba c0 c2 c3 N0 N1 hI hRS hone;obtain⟨rr,hrr⟩:∃ rr,rr=reach l [⟨k,n⟩]:=⟨_,rfl⟩;have HRR:Aside (rr=reach l [⟨k,n⟩]):=hrr;rw[<- hrr] at hA3 hok hol ⊢
 clear hrr;obtain⟨R,hR⟩:∃ R,R=rr.length:=⟨_,rfl⟩;have HR:Aside (R=rr.length):=hR;rw[<- hR] at hol ⊢;clear hR;go_wp2
 go_loopg [18,8] R (fun g s18 s8 wr=>∃ i:Nat,i<=R/\g=R-i/\s18=.int .i64 i/\wr=w3/\Aside (∀ p∈rr.take i,(obAt l p).dead=false))
 case atStart=>exact⟨0,Nat.zero_le _,rfl,rfl,rfl,fun p hp=>by simp at hp⟩
 case round =>
  obtain⟨i,hi,rfl,rfl,rfl,hD⟩:=hrel
  by_cases hiR:i<R
  ·have hiz:(i:Int)<(R:Int):=by omega
   obtain⟨p,hp⟩:=at_some (l:=rr) (i:=i) (by rw[<- HR.out];exact hiR);have hpm:=List.mem_of_getElem? hp;have hpb:=hok.2 p hpm;obtain⟨q,rfl⟩:=Int.eq_ofNat_of_zero_le hpb.1;have hqz:(q:Int)<(l.length:Int):=hpb.2;obtain⟨⟨fs,dead⟩,hx⟩:=at_some (l:=l) (i:=q) (by omega);have hd:Aside ((obAt l (q:Int)).dead=dead):=by show(obAt l (q:Int)).dead=dead;simp[obAt,hx]
   have HTK:Aside (rr.take (i+1)=rr.take i++[(q:Int)]):=by show rr.take (i+1)=_;rw[List.take_add_one,hp];rfl
   obtain⟨b,o,fa,fc,rfl,d1,d2,_,_⟩:=hob.cell q _ hx;obtain⟨ib,io,rfl,d3⟩:=hA3 i _ hp;simp only at d1 d2;have HPM:Aside ((q:Int)∈rr):=hpm;clear hp hx hpm
   cases dead with
   | true =>
    have HS:Aside (rr.any (fun p=>(obAt l p).dead)=true):=List.any_eq_true.2 ⟨_,HPM.out,hd.out⟩;go_wp2
    go_ret
    exact⟨by rw[<- HRR.out,HS.out];rfl,b1⟩
   | false =>
    go_wp2
    go_roundg (R-(i+1))
    case measure=>go_light;omega
    case rel=>go_light;exact⟨i+1,by omega,rfl,by go_num,rfl,fun p hp=>by rw[HTK.out] at hp;rcases List.mem_append.1 hp with hp | hp;exact hD.out p hp;simp at hp;rw[hp];exact hd.out⟩
  ·have hnone:Aside (rr.any (fun p=>(obAt l p).dead)=false):=by
    show rr.any _=false
    rw[List.any_eq_false];intro p hp;have:=hD.out p (by rw[List.take_of_length_le (by rw[<- HR.out];omega)];exact hp);simp[this]
   go_wp2
   go_ret
   exact⟨by rw[<- HRR.out,hnone.out];rfl,b1⟩
end
section
theorem wpAnyN_drop {P:Program} {ops:Array Oper} {Q:Exit->Act->World->Prop} {md:Region.Mode} {S:World->Prop} {need:Nat->Bool} {i:Nat} {oi:Oper} {fuel:Nat} {listed:Array Bool} {a:Act} {w:World} (hi:ops[i]?=some oi)
  (hs:Region.noSelect ops=true) (hf:Region.free md ops listed i=true) (hr:(Region.ready md ops listed).contains i=true) (hn:(waits md ops need i && closedB md ops listed)=true)
  (hQ:∀ c a w,Q (.panic c) (a.put oi.dst undef) w->Q (.panic c) a w) (hw:Region.wanted oi (yielded ops a.tmps)=false) (hS:S w)
  (h:wpAnyN P md ops Q S need fuel (listed.setIfInBounds i true) (a.put oi.dst undef) w):wpAnyN P md ops Q S need (fuel+1) listed a w :=
 have hn':=Bool.and_eq_true_iff.1 hn
 wpAnyN_first hi (Region.noSelect_spec hs) hQ (waits_spec hn'.1) fuel listed a w (closed_spec hn'.2) (Region.free_spec hi hf) (by simpa using hr) (Or.inr ⟨hw,rfl⟩) hS h
open Go.RowKit in
theorem skN {P:Program} {ops:Array Oper} {Q:Exit->Act->World->Prop} {md:Region.Mode} {S:World->Prop} {need:Nat->Bool} (i:Nat) {oi:Oper} {fuel:Nat} {listed:Array Bool} {a a':Act} {w:World} (hS:S w) (h:wpAnyN P md ops Q S need fuel (listed.setIfInBounds i true) a' w)
  (hi:ops[i]?=some oi:=by rfl) (hs:Region.noSelect ops=true:=by kernel_rfl) (hf:Region.free md ops listed i=true:=by kernel_rfl) (hr:(Region.ready md ops listed).contains i=true:=by kernel_rfl)
  (hn:(waits md ops need i && closedB md ops listed)=true:=by kernel_rfl) (hw:Region.wanted oi (yielded ops a.tmps)=false:=by rfl)
  (hp:a.put oi.dst undef=a':=by simp only[Act.put,List.getElem_toArray,List.getElem_cons_zero,List.getElem_cons_succ,List.setIfInBounds_toArray,List.set_cons_zero,List.set_cons_succ];exact rfl)
  (hQ:∀ c a w,Q (.panic c) (a.put oi.dst undef) w->Q (.panic c) a w:=by exact fun _ _ _ h=>h) :
  wpAnyN P md ops Q S need (fuel+1) listed a w :=
 wpAnyN_drop hi hs hf hr hn hQ hw hS (hp ▸ h)
end
section
open Go.RowKit
theorem hMay_one {M:Int} {l:List Ob} {r:List Vl} (h:hMay M l r=true) {v:Vl} (hv:v∈r):hMay M l [v]=true:=by
 simp only[hMay,Bool.and_eq_true] at h ⊢;exact⟨h.1,by simpa using List.all_eq_true.1 h.2 v hv⟩
def Rg (V:Wd):Prop:=∀ (j:Nat) x,V.acts[j]?=some x->x.regs.length=8
theorem Shp.rg {V:Wd} (h:Shp V):Rg V:=fun j x hx=>(h j x hx).1
theorem Rg.put {V:Wd} (h:Rg V) {n:Int} {y:Ac} (hy:∀ x,V.acts[n.toNat]?=some x->y.regs.length=8):Rg (V.put n y):=fun i z hz=>by
 simp only[Wd.put] at hz;rw[List.getElem?_set] at hz
 split at hz
 ·rename_i e
  split at hz
  ·rename_i hl
   simp only[Option.some.injEq] at hz;subst hz;obtain⟨x,hx⟩:=at_some hl;exact hy x hx
  ·cases hz
 ·exact h i z hz
theorem at_get {V:Wd} {n:Int} {x:Ac} (h:V.acts[n.toNat]?=some x):V.at n=x:=by
 unfold Wd.at
 rw[h]
 rfl
theorem Rg.arrive {V:Wd} (h:Rg V) {who:Nat} {tq:Int} {T:TrR}:Rg (arriveS V who tq T):=by
 unfold arriveS
 split
 ·exact h
 ·have h1:Rg (V.put who ((V.at who).heap T.M1 T.o1)):=h.put (fun x hx=>by rw[at_get hx];exact h _ x hx)
  exact h1.put (fun x hx=>by rw[at_get hx];exact h1 _ x hx)
theorem Rg.deliver {V:Wd} (h:Rg V) {who:Nat} {r tq:Int} {mv:Bool}:Rg (deliverS V who r tq mv):=by
 unfold deliverS
 split
 ·exact Rg.arrive (h.put (fun x hx=>by rw[at_get hx];exact clearS_regs.trans (h _ x hx)))
 ·exact h.arrive
theorem put_len (V:Wd) (n:Int) (y:Ac):(V.put n y).acts.length=V.acts.length:=by simp[Wd.put]
theorem arrive_len (V:Wd) (who:Nat) (tq:Int) (T:TrR):(arriveS V who tq T).acts.length=V.acts.length:=by
 unfold arriveS
 split
 ·rfl
 ·rw[put_len,put_len]
theorem deliver_len (V:Wd) (who:Nat) (r tq:Int) (mv:Bool):(deliverS V who r tq mv).acts.length=V.acts.length:=by
 unfold deliverS
 split
 ·rw[arrive_len,put_len]
 ·rw[arrive_len]
theorem send_any (who:Nat) (op a b n:Int) (w:World) {base Bw:Nat} {V:Wd} {av pv:Value} {fl:List Fa} {rs:List (List (Value × Ob))} (h:WdOwn w base Bw V av pv fl rs) (hsh:Shp V) {x:Ac} (hx:V.acts[who]?=some x) (hop:op=13\/op=14) (ha:0<=a/\a<=7) (hb:0<=b/\b<=7) (hm:hMay x.M x.obs x.roots=true) :
  Calls Tryz.prog 113 #[.pointer (some ⟨Bw,0,none⟩),.int .i64 who,.agg #[.int .i64 op,.int .i64 a,.int .i64 b,.int .i64 n]] w fun e w'=>e=.returned (.int .i64 (sendS V who ⟨op,a,b,n⟩).2)/\∃ fl' rs',WdOwn w' base Bw (sendS V who ⟨op,a,b,n⟩).1 av pv fl' rs'/\Moved w w' (wdFoot Bw av pv fl rs) (wdFoot Bw av pv fl' rs'):=by
 obtain⟨h8,h6⟩:=hsh who x hx;obtain⟨qa,va,rfl,hqa,hva,era⟩:=reg_of ha h8;obtain⟨qb,vb,rfl,hqb,hvb,erb⟩:=reg_of hb h8;obtain⟨fa0,r0,g,c,hfa0,hr0,hA0,hav⟩:=h.at hx;have HAV:Aside (av=.slice (some ⟨g,0,none⟩) V.acts.length c):=hav;have hwl:=(List.getElem?_eq_some_iff.1 hx).1;have hwz:(who:Int)<(V.acts.length:Int):=by omega
 obtain⟨N0,N1,_,b1,s1⟩:=boxes2 w (.cells #[.int .i64 op,.int .i64 qa,.int .i64 qb,.int .i64 n] 43) (.cells #[.pointer (some ⟨g,who*8,none⟩)] 105);have h1:=h.below b1;have c0':=h.bw.1;rw[hav] at c0';have c0:=Keeps.below b1 _ _ c0';obtain⟨R,_,_,rc,_,_,_,k4,kq,_,_,_,_⟩:=h1.regAt hav hx h8;obtain⟨oa,oc,_,_,_,_,_,k2,k3,hO⟩:=h1.heapAt hav hx;obtain⟨ra1,ra2⟩:=kq qa _ hva;obtain⟨rb1,rb2⟩:=kq qb _ hvb;have hma:hMay x.M x.obs [va]=true:=hMay_one hm (List.mem_append_left _ (List.mem_of_getElem? hva))
 have HS:Aside (sendS V who ⟨op,qa,qb,n⟩=if va.k≠2\/vb.k≠1\/(reach x.obs [va]).any (fun p=>(obAt x.obs p).dead)=true then (V,8) else if op=13 then ((goneS V who ⟨op,qa,qb,n⟩).put who (((goneS V who ⟨op,qa,qb,n⟩).at who).put qa nilV),0) else (goneS V who ⟨op,qa,qb,n⟩,0)):=by
  show sendS V who ⟨op,qa,qb,n⟩=_
  unfold sendS
  rw[at_of hx,era,erb]
  rfl
 have HG:Aside (goneS V who ⟨op,qa,qb,n⟩=if takesS V vb.n=false then V else if op=13/\vb.n=who then V.put who (x.push va) else deliverS V who qa vb.n (decide (op=13))):=by
  show goneS V who ⟨op,qa,qb,n⟩=_
  unfold goneS
  rw[at_of hx,era,erb]
 generalize sendS V who ⟨op,qa,qb,n⟩=RS at *;generalize goneS V who ⟨op,qa,qb,n⟩=RG at *;obtain⟨xk,xn⟩:=va;obtain⟨yk,yn⟩:=vb;simp only at ra1 ra2 rb1 rb2 HS HG;have HW:Aside (WdOwn w base Bw V av pv fl rs):=h;have HSH:Aside (Shp V):=hsh;have hza:(qa:Int)<8:=by omega
 have hzb:(qb:Int)<8:=by omega
 have hdd:=fun w' (hb:Below _ _ w')=>leadsToDead_any x.M oa oc x.obs xk xn w' (hO.keeps (Keeps.below hb)) hma
 generalize hDD:(reach x.obs [⟨xk,xn⟩]).any (fun p=>(obAt x.obs p).dead)=DD at *;clear hDD;generalize x.M=XM at *;generalize x.obs.length=XL at *;have hlt:∀ b∈wdFoot Bw av pv fl rs,b<w.heap.size:=fun b hb=>h.blk_lt b hb
 have hmf:∀ (fn:Fn) (first cap:Array Value) (w:World),(Instr.makeFunc fn first cap).run Tryz.prog w=.ok (.func fn first cap) w:=fun _ _ _ _=>rfl
 clear h h1 hA0 hfa0 hr0 hav kq era erb hO hm hma hsh hvb;have HVL:Aside (∀ tq:Nat,V.acts[tq]?≠none->tq<V.acts.length):=fun tq h0=>Nat.lt_of_not_le (fun h1=>h0 (List.getElem?_eq_none h1))
 generalize V.acts.length=VL at *
 go_enter_defers Tryz.func113,Tryz.ntmps113
 go_upto_region 1 with fail
 have c00:=Keeps.below (below_box w (.cells #[.int .i64 op,.int .i64 qa,.int .i64 qb,.int .i64 n] 43)) _ _ c0'
 go_upto_region 2 with fail
 clear c00;generalize (w.alloc (.cells #[.int .i64 op,.int .i64 qa,.int .i64 qb,.int .i64 n] 43)).alloc (.cells #[.pointer (some ⟨g,who*8,none⟩)] 105)=W at *;have d0:W.cell? ⟨w.heap.size,0,none⟩=some (.int .i64 op):=cell_blk N0 0;have d1:W.cell? ⟨w.heap.size,1,none⟩=some (.int .i64 qa):=cell_blk N0 1;have d2:W.cell? ⟨w.heap.size,2,none⟩=some (.int .i64 qb):=cell_blk N0 2;have p0:W.cell? ⟨w.heap.size+1,0,none⟩=some (.pointer (some ⟨g,who*8,none⟩)):=cell_blk N1 0
 have hSof:∀ w',Below W.heap.size W w'->(w'.cell? ⟨w.heap.size+1,0,none⟩=some (.pointer (some ⟨g,who*8,none⟩))/\w'.cell? ⟨w.heap.size,1,none⟩=some (.int .i64 qa)/\w'.cell? ⟨w.heap.size,2,none⟩=some (.int .i64 qb)/\w'.cell? ⟨g,who*8+4,none⟩=some (.slice (some ⟨R,0,none⟩) 8 rc)/\w'.cell? ⟨R,qa*2,none⟩=some (.int .i64 xk)/\w'.cell? ⟨R,qa*2+1,none⟩=some (.int .i64 xn)/\w'.cell? ⟨R,qb*2,none⟩=some (.int .i64 yk)/\w'.cell? ⟨R,qb*2+1,none⟩=some (.int .i64 yn)/\w'.cell? ⟨g,who*8+2,none⟩=some (.int .i64 XM)/\w'.cell? ⟨g,who*8+3,none⟩=some (.slice oa XL oc)):=fun w' hb'=>⟨Keeps.below hb' _ _ p0,Keeps.below hb' _ _ d1,Keeps.below hb' _ _ d2,Keeps.below hb' _ _ k4,Keeps.below hb' _ _ ra1,Keeps.below hb' _ _ ra2,Keeps.below hb' _ _ rb1,Keeps.below hb' _ _ rb2,Keeps.below hb' _ _ k2,Keeps.below hb' _ _ k3⟩
 have hB:Below W.heap.size W W.drew:=(Below.refl _ _).drew;refine wp_region_need (fun _=>true) (fun w'=>w'.cell? ⟨w.heap.size+1,0,none⟩=some (.pointer (some ⟨g,who*8,none⟩))/\w'.cell? ⟨w.heap.size,1,none⟩=some (.int .i64 qa)/\w'.cell? ⟨w.heap.size,2,none⟩=some (.int .i64 qb)/\w'.cell? ⟨g,who*8+4,none⟩=some (.slice (some ⟨R,0,none⟩) 8 rc)/\w'.cell? ⟨R,qa*2,none⟩=some (.int .i64 xk)/\w'.cell? ⟨R,qa*2+1,none⟩=some (.int .i64 xn)/\w'.cell? ⟨R,qb*2,none⟩=some (.int .i64 yk)/\w'.cell? ⟨R,qb*2+1,none⟩=some (.int .i64 yn)/\w'.cell? ⟨g,who*8+2,none⟩=some (.int .i64 XM)/\w'.cell? ⟨g,who*8+3,none⟩=some (.slice oa XL oc)) (by kernel_rfl) (hSof _ hB) (fun hS=>?_)
 generalize W.drew=wn at hS hB ⊢;refine tkN 0 hS ?_;refine tkN 1 hS ?_;refine tkN 2 hS ?_;refine tkN 3 hS ?_;refine tkN 4 hS ?_;refine tkN 5 hS ?_;refine tkN 6 hS ?_;refine tkN 7 hS ?_;refine stN 8 (fun K hK=>?_);go_simp;refine(isNoObject_any xk xn wn).mono ?_;rintro e w2 ⟨rfl,hb2⟩;have hB2:Below W.heap.size W w2:=hB.trans (hb2.mono hB.size);have hS2:=hSof w2 hB2;refine otN hK (hS2) ?_;clear hK;replace hS:=hS2
 refine tkN 9 hS ?_
 by_cases hxk:xk=2
 rotate_left
 ·have e1:(xk != 2)=true:=by simp[hxk]
  rw[e1];refine skN 10 hS ?_;refine skN 11 hS ?_;refine skN 12 hS ?_;refine skN 13 hS ?_;refine skN 14 hS ?_;refine skN 15 hS ?_;refine skN 16 hS ?_;refine skN 17 hS ?_;refine skN 18 hS ?_;refine tkN 19 hS ?_;refine tkN 20 hS ?_;refine skN 21 hS ?_;refine skN 22 hS ?_;refine skN 23 hS ?_;refine skN 24 hS ?_;refine skN 25 hS ?_;refine skN 26 hS ?_;refine skN 27 hS ?_;refine skN 28 hS ?_;refine skN 29 hS ?_
  refine skN 30 hS ?_;refine skN 31 hS ?_;refine skN 32 hS ?_;refine skN 33 hS ?_;refine tkN 34 hS ?_;refine dnN ?_;have hRS:RS=(V,8):=by rw[HS.out,if_pos (.inl hxk)]
  have hBw:=b1.trans (hB2.mono b1.size);have HZ:Aside (∃ fl' rs',WdOwn w2 base Bw RS.1 av pv fl' rs'/\Moved w w2 (wdFoot Bw av pv fl rs) (wdFoot Bw av pv fl' rs')):=⟨fl,rs,by rw[hRS];exact HW.out.below hBw,Moved.of_below hBw⟩;have H8:Aside (RS.2=8):=by show RS.2=8;rw[hRS]
  clear hRS;go_wp2
  exact⟨_,results_tmp rfl _ _ _,by rw[H8.out];rfl,HZ.out⟩
 subst hxk;have e1:((2:Int) != 2)=false:=rfl;rw[e1];refine tkN 10 hS ?_;refine tkN 11 hS ?_;refine tkN 12 hS ?_;refine tkN 13 hS ?_;refine tkN 14 hS ?_;refine tkN 15 hS ?_;refine tkN 16 hS ?_;refine tkN 17 hS ?_;refine stN 18 (fun K hK=>?_);go_simp;refine(isNoNumber_any yk yn w2).mono ?_;rintro e w3 ⟨rfl,hb3⟩;have hB3:Below W.heap.size W w3:=hB2.trans (hb3.mono hB2.size);have hS3:=hSof w3 hB3;refine otN hK (hS3) ?_
 clear hK;replace hS:=hS3;refine tkN 19 hS ?_;refine tkN 20 hS ?_
 by_cases hyk:yk=1
 rotate_left
 ·have e2:(yk != 1)=true:=by simp[hyk]
  rw[e2];refine skN 21 hS ?_;refine skN 22 hS ?_;refine skN 23 hS ?_;refine skN 24 hS ?_;refine skN 25 hS ?_;refine skN 26 hS ?_;refine skN 27 hS ?_;refine skN 28 hS ?_;refine skN 29 hS ?_;refine skN 30 hS ?_;refine skN 31 hS ?_;refine skN 32 hS ?_;refine skN 33 hS ?_;refine tkN 34 hS ?_;refine dnN ?_;have hRS:RS=(V,8):=by rw[HS.out,if_pos (.inr (.inl hyk))]
  have hBw:=b1.trans (hB3.mono b1.size);have HZ:Aside (∃ fl' rs',WdOwn w3 base Bw RS.1 av pv fl' rs'/\Moved w w3 (wdFoot Bw av pv fl rs) (wdFoot Bw av pv fl' rs')):=⟨fl,rs,by rw[hRS];exact HW.out.below hBw,Moved.of_below hBw⟩;have H8:Aside (RS.2=8):=by show RS.2=8;rw[hRS]
  clear hRS;go_wp2
  exact⟨_,results_tmp rfl _ _ _,by rw[H8.out];rfl,HZ.out⟩
 subst hyk;have e2:((1:Int) != 1)=false:=rfl;rw[e2];refine tkN 21 hS ?_;refine tkN 22 hS ?_;refine tkN 23 hS ?_;refine tkN 24 hS ?_;refine tkN 25 hS ?_;refine tkN 26 hS ?_;refine tkN 27 hS ?_;refine tkN 28 hS ?_;refine tkN 29 hS ?_;refine tkN 30 hS ?_;refine tkN 31 hS ?_;refine tkN 32 hS ?_;refine stN 33 (fun K hK=>?_);go_simp;refine(hdd w3 hB3).mono ?_;rintro e w4 ⟨rfl,hb4⟩;have hB4:Below W.heap.size W w4:=hB3.trans (hb4.mono hB3.size)
 have hS4:=hSof w4 hB4;refine otN hK (hS4) ?_;clear hK;replace hS:=hS4
 cases DD with
 | true =>
  refine tkN 34 hS ?_;refine dnN ?_;have hRS:RS=(V,8):=by rw[HS.out,if_pos (.inr (.inr rfl))]
  have hBw:=b1.trans (hB4.mono b1.size);have HZ:Aside (∃ fl' rs',WdOwn w4 base Bw RS.1 av pv fl' rs'/\Moved w w4 (wdFoot Bw av pv fl rs) (wdFoot Bw av pv fl' rs')):=⟨fl,rs,by rw[hRS];exact HW.out.below hBw,Moved.of_below hBw⟩;have H8:Aside (RS.2=8):=by show RS.2=8;rw[hRS]
  clear hRS;go_wp2
  exact⟨_,results_tmp rfl _ _ _,by rw[H8.out];rfl,HZ.out⟩
 | false =>
  refine tkN 34 hS ?_;refine dnN ?_;clear hb2 hb3 hb4 hS2 hS3 hS hB hB2 hB3 hdd;obtain⟨p0',d1',d2',k4',_,_,rb1',rb2',_,_⟩:=hS4;have d0':=Keeps.below hB4 _ _ d0;have c0'':=Keeps.below hB4 _ _ c0;have HRS:Aside (RS=if op=13 then (RG.put who ((RG.at who).put qa nilV),0) else (RG,0)):=by
   show RS=_
   rw[HS.out,if_neg (by simp)]
  clear HS
  go_upto_region 4 with fail
  go_quiet (fail)
  have bq:Below w4.heap.size w4 (w4.drewN nq):=below_drewN (Below.refl _ _) nq;have hB5:=hB4.trans (bq.mono hB4.size);have hBw5:=b1.trans (hB5.mono b1.size);have hW5:=HW.out.below hBw5;have p5:=Keeps.below bq _ _ p0';have d5:=Keeps.below bq _ _ d1';have o5:=Keeps.below bq _ _ d0';have c5:=Keeps.below bq _ _ c0'';have k5:=Keeps.below bq _ _ k4';have sP5:w.heap.size+1<(w4.drewN nq).heap.size:=by have:=hB5.size;omega
  clear p0' d1' d2' k4' rb1' rb2' d0' c0'' bq hB4;generalize w4.drewN nq=w5 at *;have ht:=takes_any yn w5 hW5 (fun j z hz=>by have:=(HSH.out j z hz).2;omega);have HWL:Aside (who<V.acts.length):=(List.getElem?_eq_some_iff.1 hx).1;have HTK:Aside (takesS V yn=true->∃ (tq:Nat) (y:Ac),yn=tq/\V.acts[tq]?=some y/\y.box.length<6):=fun h0=>by
   simp only[takesS,livesS,Bool.and_eq_true,decide_eq_true_eq] at h0;obtain⟨tq,rfl⟩:=Int.eq_ofNat_of_zero_le h0.1.1.1;obtain⟨y,hy⟩:=at_some (l:=V.acts) (i:=tq) (by have:=h0.1.1.2;omega);refine⟨tq,y,rfl,hy,?_⟩;have:=h0.2
   rwa [at_of hy] at this
  generalize takesS V yn=TK at *
  rcases hop with rfl | rfl
  ·have HR13:Aside (RS=(RG.put who ((RG.at who).put qa nilV),0)):=by
    show RS=_
    rw[HRS.out]
    rfl
   cases TK with
   | false =>
    have hRG:RG=V:=by rw[HG.out,if_pos rfl]
    have hWz:WdOwn w5 base Bw RG av pv fl rs:=by rw[hRG];exact hW5
    have hMz:Moved w w5 (wdFoot Bw av pv fl rs) (wdFoot Bw av pv fl rs):=Moved.of_below hBw5;have hPz:=p5;have hIz:=d5;have HLEN:Aside (RG.acts.length=V.acts.length):=by show _=_;rw[hRG]
    have HRG8:Aside (Rg RG):=by show Rg RG;rw[hRG];exact HSH.out.rg
    clear hRG
    go_wp2_with fail
    refine ht.mono ?_;rintro e w6 ⟨rfl,hw6⟩;replace hw6:=hw6.symm;subst hw6;obtain⟨xz,hxz⟩:=at_some (l:=RG.acts) (i:=who) (by rw[HLEN.out];exact HWL.out);have h8z:=HRG8.out who xz hxz;have HR2:Aside (RS=({ RG with acts:=RG.acts.set who (xz.put qa nilV) },0)):=by
     show RS=_
     rw[HR13.out,at_of hxz]
     rfl
    go_wp2
    refine leaves_cons (f:=154) (args:=#[.pointer (some ⟨w.heap.size+1,0,none⟩),.pointer (some ⟨w.heap.size,0,none⟩)]) (by simp) (by simp[go_sem]) ?_;refine(send1_any (w.heap.size+1) w.heap.size qa who _ hWz hxz HAV.out h8z hqa hPz hIz).mono ?_;rintro e u' w'' ⟨rfl,rfl,fl2,rs2,hW2,hM2⟩;exact⟨_,results_tmp rfl _ _ _,by rw[HR2.out];rfl,fl2,rs2,by rw[HR2.out];exact hW2,hMz.trans hM2⟩
   | true =>
    obtain⟨tq,y,rfl,hy,hy6⟩:=HTK.out rfl;have htz:(tq:Int)<(VL:Int):=by have:=HVL.out tq (by rw[hy];simp);omega
    by_cases hself:tq=who
    ·subst hself
     have hxy:y=x:=by
      rw[hx] at hy
      simpa using hy.symm
     subst hxy;have HRGs:Aside (RG={ V with acts:=V.acts.set tq (y.push ⟨2,xn⟩) }):=by
      show RG=_
      rw[HG.out,if_neg (by simp),if_pos ⟨rfl,rfl⟩]
      rfl
     obtain⟨R5,fd,rd,rc5,hfd,hrd,hra5,k45,kq5,_,hRl5,_,hrc5⟩:=hW5.regAt HAV.out hx h8;obtain⟨ra5,ra6⟩:=kq5 qa _ hva;obtain⟨_,_,hfd',hrd',hA5,_,_,_,_,_,_,k6,_⟩:=hW5.cellsAt HAV.out hx;rw[hfd] at hfd';rw[hrd] at hrd';simp only[Option.some.injEq] at hfd' hrd';subst hfd' hrd';have HBN:Aside (fd.bn=y.box.length):=hA5.bn;have hgn:g∉vB (.slice fd.ba fd.bn fd.bc):=fun hb=>(hW5.apart1 tq fd rd hfd hrd).2 g (List.mem_append_right _ (List.mem_append_right _ hb)) (by simp[mem_vB,HAV.out,Value.ownBlock])
     have hRn:R5∉vB (.slice fd.ba fd.bn fd.bc):=fun hb=>by
      have hn1:=List.nodup_append.1 (hW5.apart1 tq fd rd hfd hrd).1;have hn2:=List.nodup_append.1 hn1.2.1;exact hn2.2.2 R5 (by rw[mem_vB,hra5];rfl) R5 hb rfl
     have hPn:w.heap.size+1∉vB (.slice fd.ba fd.bn fd.bc):=fun hb=>by have:=hlt _ (List.mem_append_right _ (mem_actsFoot hfd hrd (List.mem_append_right _ (List.mem_append_right _ hb))));omega
     have hIn:w.heap.size∉vB (.slice fd.ba fd.bn fd.bc):=fun hb=>by have:=hlt _ (List.mem_append_right _ (mem_actsFoot hfd hrd (List.mem_append_right _ (List.mem_append_right _ hb))));omega
     have hgw5:g<w5.heap.size:=hW5.blk_lt g (List.mem_append_left _ (by simp[mem_vB,HAV.out,Value.ownBlock]));have hfz:=hW5.fz HAV.out;clear hrc5 hA5 kq5;have hsb:((tq:Int) == (tq:Int))=true:=by simp
     go_upto_region 11 with(go_at_call 80;refine ht.mono ?_;rintro e w6 ⟨rfl,hw6⟩;replace hw6:=hw6.symm;subst hw6)
     have hBd:Below w5.heap.size w5 w5.drew:=(Below.refl _ _).drew;have hSof2:∀ w',Below w5.heap.size w5 w'->(w'.cell? ⟨w.heap.size+1,0,none⟩=some (.pointer (some ⟨g,tq*8,none⟩))/\w'.cell? ⟨w.heap.size,1,none⟩=some (.int .i64 qa)/\w'.cell? ⟨g,tq*8+4,none⟩=some (.slice (some ⟨R5,0,none⟩) 8 rc5)/\w'.cell? ⟨g,tq*8+6,none⟩=some (.slice fd.ba y.box.length fd.bc)/\w'.cell? ⟨R5,qa*2,none⟩=some (.int .i64 2)/\w'.cell? ⟨R5,qa*2+1,none⟩=some (.int .i64 xn)):=fun w' hb'=>⟨Keeps.below hb' _ _ p5,Keeps.below hb' _ _ d5,Keeps.below hb' _ _ k45,Keeps.below hb' _ _ k6,Keeps.below hb' _ _ ra5,Keeps.below hb' _ _ ra6⟩
     refine wp_region_need (fun j=>j != 17) (fun w'=>w'.cell? ⟨w.heap.size+1,0,none⟩=some (.pointer (some ⟨g,tq*8,none⟩))/\w'.cell? ⟨w.heap.size,1,none⟩=some (.int .i64 qa)/\w'.cell? ⟨g,tq*8+4,none⟩=some (.slice (some ⟨R5,0,none⟩) 8 rc5)/\w'.cell? ⟨g,tq*8+6,none⟩=some (.slice fd.ba y.box.length fd.bc)/\w'.cell? ⟨R5,qa*2,none⟩=some (.int .i64 2)/\w'.cell? ⟨R5,qa*2+1,none⟩=some (.int .i64 xn)) (by kernel_rfl) (hSof2 _ hBd) (fun hS=>?_)
     generalize w5.drew=wd at hS hBd ⊢;refine tkN 0 hS ?_;refine tkN 1 hS ?_;refine tkN 2 hS ?_;refine tkN 3 hS ?_;refine tkN 4 hS ?_;refine tkN 5 hS ?_;refine tkN 6 hS ?_;refine tkN 7 hS ?_;refine tkN 8 hS ?_;refine tkN 9 hS ?_;refine tkN 10 hS ?_;refine tkN 11 hS ?_;refine tkN 12 hS ?_;refine stN 13 (fun K hK=>?_);go_simp;have hBe:Below w5.heap.size w5 (wd.alloc (.cells #[.int .i64 2,.int .i64 xn] 66)):=hBd.alloc hBd.size _
     have NB:=Deep.blk_alloc_new wd (.cells #[.int .i64 2,.int .i64 xn] 66);refine otN hK (hSof2 _ hBe) ?_;clear hK;replace hS:=hSof2 _ hBe;generalize wd.alloc (.cells #[.int .i64 2,.int .i64 xn] 66)=we at *;generalize wd.heap.size=NN at *;have hbx:SeqOwn fVl 2 66 we base (.slice fd.ba y.box.length fd.bc) y.box:=by
      have h1:=((hW5.below hBe).each tq fd rd _ hfd hrd hx).box;rw[HBN.out] at h1;exact h1
     refine wpAnyN_one (i:=14) (by kernel_rfl) rfl (fun K hK=>?_);refine step_seq Tryz.rowVl (by rfl) _ _ (by rfl) (v:=.slice fd.ba y.box.length fd.bc) (by rfl) hbx (Nat.le_trans (hW5.base_le HAV.out) hBe.size) [⟨2,xn⟩] (some ⟨NN,0,none⟩) 1 (by rfl) (seqVl_of ?_) (by simp) (by simp;omega) (by simp[maxLen];omega) ?_
     ·intro i v hi
      have e:i=0:=by
       have:=(List.getElem?_eq_some_iff.1 hi).1
       simpa using this
      subst e;simp at hi;subst hi;exact⟨NN,0,rfl,cell_blk NB 0,cell_blk NB 1⟩
     intro B cap w6 hO6 hg6 _ hB6;have hkeep:∀ b,b<w5.heap.size->b∉vB (.slice fd.ba fd.bn fd.bc)->w6.heap[b]?=we.heap[b]?:=fun b hb hb'=>hg6.block b (Nat.lt_of_lt_of_le hb hBe.size) (fun e=>hb' (by rw[HBN.out];exact mem_vB.2 e.symm))
     have hS6:w6.cell? ⟨w.heap.size+1,0,none⟩=some (.pointer (some ⟨g,tq*8,none⟩))/\w6.cell? ⟨w.heap.size,1,none⟩=some (.int .i64 qa)/\w6.cell? ⟨g,tq*8+4,none⟩=some (.slice (some ⟨R5,0,none⟩) 8 rc5)/\w6.cell? ⟨g,tq*8+6,none⟩=some (.slice fd.ba y.box.length fd.bc)/\w6.cell? ⟨R5,qa*2,none⟩=some (.int .i64 2)/\w6.cell? ⟨R5,qa*2+1,none⟩=some (.int .i64 xn):=by
      obtain⟨q1,q2,q3,q4,q5,q6⟩:=hSof2 _ hBe;have hg:=hkeep g hgw5 hgn;have hR:=hkeep R5 hRl5 hRn;exact⟨(World.cell?_of_block (a:=⟨w.heap.size+1,0,none⟩) (hkeep _ sP5 hPn)).trans q1,(World.cell?_of_block (a:=⟨w.heap.size,1,none⟩) (hkeep _ (Nat.lt_of_succ_lt sP5) hIn)).trans q2,(World.cell?_of_block (a:=⟨g,tq*8+4,none⟩) hg).trans q3,(World.cell?_of_block (a:=⟨g,tq*8+6,none⟩) hg).trans q4,(World.cell?_of_block (a:=⟨R5,qa*2,none⟩) hR).trans q5,(World.cell?_of_block (a:=⟨R5,qa*2+1,none⟩) hR).trans q6⟩
     refine otN hK hS6 ?_;clear hK hS;have hS:=hS6;refine tkN 15 hS ?_;refine tkN 16 hS ?_;have hfz6:∀ i,w6.frozen? ⟨g,i,none⟩=false:=fun i=>by
      have e:w6.heap[g]?=w5.heap[g]?:=(hkeep g hgw5 hgn).trans (hBe.block g hgw5);have:=hfz i;simp only[World.frozen?,e] at this ⊢
      exact this
     have hg6c:=hS6.2.2.2.1;refine stN 17 (fun K hK=>?_);go_simp;refine laN hK ?_;clear hK;have hz:=(hW5.below hBe).pushBox hfd hrd hx HAV.out (by rw[HBN.out];exact hg6) hO6 (by simp) (by rw[HBN.out];exact hB6);obtain⟨flz,rsz,hz1,hz2⟩:∃ flz rsz,WdOwn (w6.setCell ⟨g,tq*8+6,none⟩ (.slice (some ⟨B,0,none⟩) (y.box.length+1) cap)) base Bw { V with acts:=V.acts.set tq (y.push ⟨2,xn⟩) } av pv flz rsz/\Moved we (w6.setCell ⟨g,tq*8+6,none⟩ (.slice (some ⟨B,0,none⟩) (y.box.length+1) cap)) (wdFoot Bw av pv fl rs) (wdFoot Bw av pv flz rsz):=⟨_,_,hz.1,hz.2⟩
     have hMz:=((Moved.of_below hBw5).trans (Moved.of_below hBe)).trans hz2;have hWz:WdOwn (w6.setCell ⟨g,tq*8+6,none⟩ (.slice (some ⟨B,0,none⟩) (y.box.length+1) cap)) base Bw RG av pv flz rsz:=by rw[HRGs.out];exact hz1
     have nPg:w.heap.size+1≠g:=fun e=>by have:=hlt g (List.mem_append_left _ (by simp[mem_vB,HAV.out,Value.ownBlock]));omega
     have nIg:w.heap.size≠g:=fun e=>by have:=hlt g (List.mem_append_left _ (by simp[mem_vB,HAV.out,Value.ownBlock]));omega
     have hPz:=(World.cell?_of_block (a:=⟨w.heap.size+1,0,none⟩) (Deep.blk_setCell_other w6 ⟨g,tq*8+6,none⟩ (.slice (some ⟨B,0,none⟩) (y.box.length+1) cap) _ nPg)).trans hS6.1;have hIz:=(World.cell?_of_block (a:=⟨w.heap.size,1,none⟩) (Deep.blk_setCell_other w6 ⟨g,tq*8+6,none⟩ (.slice (some ⟨B,0,none⟩) (y.box.length+1) cap) _ nIg)).trans hS6.2.1;have HLEN:Aside (RG.acts.length=V.acts.length):=by show _=_;rw[HRGs.out];simp
     have HRG8:Aside (Rg RG):=by show Rg RG;rw[HRGs.out];exact(HSH.out.set (j:=tq) (y:=y.push ⟨2,xn⟩) h8 (by simp[Ac.push];omega)).rg
     clear hz hS6 hS hSof2;obtain⟨xz,hxz⟩:=at_some (l:=RG.acts) (i:=tq) (by rw[HLEN.out];exact HWL.out);have h8z:=HRG8.out tq xz hxz;have HR2:Aside (RS=({ RG with acts:=RG.acts.set tq (xz.put qa nilV) },0)):=by
      show RS=_
      rw[HR13.out,at_of hxz]
      rfl
     go_wp2
     refine leaves_cons (f:=154) (args:=#[.pointer (some ⟨w.heap.size+1,0,none⟩),.pointer (some ⟨w.heap.size,0,none⟩)]) (by simp) (by simp[go_sem]) ?_;refine(send1_any (w.heap.size+1) w.heap.size qa tq _ hWz hxz HAV.out h8z hqa hPz hIz).mono ?_;rintro e u' w'' ⟨rfl,rfl,fl2,rs2,hW2,hM2⟩;exact⟨_,results_tmp rfl _ _ _,by rw[HR2.out];rfl,fl2,rs2,by rw[HR2.out];exact hW2,hMz.trans hM2⟩
    ·have hsb:((tq:Int) == (who:Int))=false:=by simp;omega
     have HRGd:Aside (RG=deliverS V who qa tq true):=by
      show RG=_
      rw[HG.out,if_neg (by simp),if_neg (by omega)]
      rfl
     go_upto_region 8 with(go_at_call 80;refine ht.mono ?_;rintro e w6 ⟨rfl,hw6⟩;replace hw6:=hw6.symm;subst hw6)
     have hBd:Below w5.heap.size w5 w5.drew:=(Below.refl _ _).drew;have hSof2:∀ w',Below w5.heap.size w5 w'->(w'.cell? ⟨w.heap.size+1,0,none⟩=some (.pointer (some ⟨g,who*8,none⟩))/\w'.cell? ⟨w.heap.size,1,none⟩=some (.int .i64 qa)/\w'.cell? ⟨Bw,0,none⟩=some (.slice (some ⟨g,0,none⟩) VL c)):=fun w' hb'=>⟨Keeps.below hb' _ _ p5,Keeps.below hb' _ _ d5,Keeps.below hb' _ _ c5⟩
     refine wp_region_need (fun j=>j != 10) (fun w'=>w'.cell? ⟨w.heap.size+1,0,none⟩=some (.pointer (some ⟨g,who*8,none⟩))/\w'.cell? ⟨w.heap.size,1,none⟩=some (.int .i64 qa)/\w'.cell? ⟨Bw,0,none⟩=some (.slice (some ⟨g,0,none⟩) VL c)) (by kernel_rfl) (hSof2 _ hBd) (fun hS=>?_);generalize w5.drew=wd at hS hBd ⊢;refine tkN 0 hS ?_;refine tkN 1 hS ?_;refine tkN 2 hS ?_;refine tkN 3 hS ?_;refine tkN 4 hS ?_
     refine tkN 5 hS ?_;refine tkN 6 hS ?_;refine tkN 7 hS ?_;refine tkN 8 hS ?_;refine tkN 9 hS ?_;refine stN 10 (fun K hK=>?_);go_simp;refine(deliver_any who tq qa true wd (hW5.below hBd) HSH.out hx hy HAV.out hqa).mono ?_;rintro e w7 ⟨rfl,fl',rs',hW7,hM7⟩;refine laN hK ?_;clear hK;have hWz:WdOwn w7 base Bw RG av pv fl' rs':=by rw[HRGd.out];exact hW7
     have hMz:Moved w w7 (wdFoot Bw av pv fl rs) (wdFoot Bw av pv fl' rs'):=((Moved.of_below hBw5).trans (Moved.of_below hBd)).trans hM7;have hPz:=(World.cell?_of_block (a:=⟨w.heap.size+1,0,none⟩) (hM7.keep (w.heap.size+1) (Nat.lt_of_lt_of_le sP5 hBd.size) (fun hb=>by have:=hlt _ hb;omega))).trans (hSof2 _ hBd).1;have hIz:=(World.cell?_of_block (a:=⟨w.heap.size,1,none⟩) (hM7.keep w.heap.size (Nat.lt_of_lt_of_le (Nat.lt_of_succ_lt sP5) hBd.size) (fun hb=>by have:=hlt _ hb;omega))).trans (hSof2 _ hBd).2.1
     have HLEN:Aside (RG.acts.length=V.acts.length):=by show _=_;rw[HRGd.out,deliver_len]
     have HRG8:Aside (Rg RG):=by show Rg RG;rw[HRGd.out];exact HSH.out.rg.deliver
     clear hW7 hM7 hS hSof2;obtain⟨xz,hxz⟩:=at_some (l:=RG.acts) (i:=who) (by rw[HLEN.out];exact HWL.out);have h8z:=HRG8.out who xz hxz;have HR2:Aside (RS=({ RG with acts:=RG.acts.set who (xz.put qa nilV) },0)):=by
      show RS=_
      rw[HR13.out,at_of hxz]
      rfl
     go_wp2
     refine leaves_cons (f:=154) (args:=#[.pointer (some ⟨w.heap.size+1,0,none⟩),.pointer (some ⟨w.heap.size,0,none⟩)]) (by simp) (by simp[go_sem]) ?_;refine(send1_any (w.heap.size+1) w.heap.size qa who _ hWz hxz HAV.out h8z hqa hPz hIz).mono ?_;rintro e u' w'' ⟨rfl,rfl,fl2,rs2,hW2,hM2⟩;exact⟨_,results_tmp rfl _ _ _,by rw[HR2.out];rfl,fl2,rs2,by rw[HR2.out];exact hW2,hMz.trans hM2⟩
  ·cases TK with
   | false =>
    have hRG:RG=V:=by rw[HG.out,if_pos rfl]
    have hWz:WdOwn w5 base Bw RG av pv fl rs:=by rw[hRG];exact hW5
    have hMz:Moved w w5 (wdFoot Bw av pv fl rs) (wdFoot Bw av pv fl rs):=Moved.of_below hBw5;have hPz:=p5;have hIz:=d5;have HLEN:Aside (RG.acts.length=V.acts.length):=by show _=_;rw[hRG]
    have HRG8:Aside (Rg RG):=by show Rg RG;rw[hRG];exact HSH.out.rg
    clear hRG
    go_wp2_with fail
    refine ht.mono ?_;rintro e w6 ⟨rfl,hw6⟩;replace hw6:=hw6.symm;subst hw6;have HR2:Aside (RS=(RG,0)):=by
     show RS=_
     rw[HRS.out,if_neg (by decide)]
    go_wp2
    exact⟨_,results_tmp rfl _ _ _,by rw[HR2.out];rfl,_,_,by rw[HR2.out];exact hWz,hMz⟩
   | true =>
    obtain⟨tq,y,rfl,hy,hy6⟩:=HTK.out rfl;have htz:(tq:Int)<(VL:Int):=by have:=HVL.out tq (by rw[hy];simp);omega
    have HRGd:Aside (RG=deliverS V who qa tq false):=by
     show RG=_
     rw[HG.out,if_neg (by simp),if_neg (by omega)]
     rfl
    go_upto_region 8 with(go_at_call 80;refine ht.mono ?_;rintro e w6 ⟨rfl,hw6⟩;replace hw6:=hw6.symm;subst hw6)
    have hBd:Below w5.heap.size w5 w5.drew:=(Below.refl _ _).drew;have hSof2:∀ w',Below w5.heap.size w5 w'->(w'.cell? ⟨w.heap.size+1,0,none⟩=some (.pointer (some ⟨g,who*8,none⟩))/\w'.cell? ⟨w.heap.size,1,none⟩=some (.int .i64 qa)/\w'.cell? ⟨Bw,0,none⟩=some (.slice (some ⟨g,0,none⟩) VL c)):=fun w' hb'=>⟨Keeps.below hb' _ _ p5,Keeps.below hb' _ _ d5,Keeps.below hb' _ _ c5⟩
    refine wp_region_need (fun j=>j != 10) (fun w'=>w'.cell? ⟨w.heap.size+1,0,none⟩=some (.pointer (some ⟨g,who*8,none⟩))/\w'.cell? ⟨w.heap.size,1,none⟩=some (.int .i64 qa)/\w'.cell? ⟨Bw,0,none⟩=some (.slice (some ⟨g,0,none⟩) VL c)) (by kernel_rfl) (hSof2 _ hBd) (fun hS=>?_);generalize w5.drew=wd at hS hBd ⊢;refine tkN 0 hS ?_;refine tkN 1 hS ?_;refine tkN 2 hS ?_;refine tkN 3 hS ?_;refine tkN 4 hS ?_
    refine tkN 5 hS ?_;refine tkN 6 hS ?_;refine tkN 7 hS ?_;refine tkN 8 hS ?_;refine tkN 9 hS ?_;refine stN 10 (fun K hK=>?_);go_simp;refine(deliver_any who tq qa false wd (hW5.below hBd) HSH.out hx hy HAV.out hqa).mono ?_;rintro e w7 ⟨rfl,fl',rs',hW7,hM7⟩;refine laN hK ?_;clear hK;have hWz:WdOwn w7 base Bw RG av pv fl' rs':=by rw[HRGd.out];exact hW7
    have hMz:Moved w w7 (wdFoot Bw av pv fl rs) (wdFoot Bw av pv fl' rs'):=((Moved.of_below hBw5).trans (Moved.of_below hBd)).trans hM7;have hPz:=(World.cell?_of_block (a:=⟨w.heap.size+1,0,none⟩) (hM7.keep (w.heap.size+1) (Nat.lt_of_lt_of_le sP5 hBd.size) (fun hb=>by have:=hlt _ hb;omega))).trans (hSof2 _ hBd).1;have hIz:=(World.cell?_of_block (a:=⟨w.heap.size,1,none⟩) (hM7.keep w.heap.size (Nat.lt_of_lt_of_le (Nat.lt_of_succ_lt sP5) hBd.size) (fun hb=>by have:=hlt _ hb;omega))).trans (hSof2 _ hBd).2.1
    have HLEN:Aside (RG.acts.length=V.acts.length):=by show _=_;rw[HRGd.out,deliver_len]
    have HRG8:Aside (Rg RG):=by show Rg RG;rw[HRGd.out];exact HSH.out.rg.deliver
    clear hW7 hM7 hS hSof2;have HR2:Aside (RS=(RG,0)):=by
     show RS=_
     rw[HRS.out,if_neg (by decide)]
    go_wp2
    exact⟨_,results_tmp rfl _ _ _,by rw[HR2.out];rfl,_,_,by rw[HR2.out];exact hWz,hMz⟩
end
end Go.Proofs.YtepifccbbmdfcaaGreatDoor
