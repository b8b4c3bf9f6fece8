/- TSolo. -/
import Derived.Test.YtihpkcccfgbcmaaGreatDoorCBASound3
import Derived.Test.YtihpkcccfgbcmaaGreatDoorCETopClearTForm
namespace Go.Proofs.YtihpkcccfgbcmaaGreatDoor
set_option maxRecDepth 100000
set_option maxHeartbeats 8000000
section
open Go.RowKit
def FormOk (x:Ac):Prop:=x.regs.length=8/\x.box.length<=6/\hMay x.M x.obs (x.regs++x.box)=true
theorem alikeAc_any (x y:Ac) (oa ra ba yoa yra yba:Option Addr) (oc rc bc yoc yrc ybc:Nat) (w:World) (h1:ObsAt w oa x.obs) (h2:ValsAt w ra x.regs) (h3:ValsAt w ba x.box) (k1:ObsAt w yoa y.obs) (k2:ValsAt w yra y.regs) (k3:ValsAt w yba y.box) (hx:FormOk x) (hy:FormOk y) (he:formL y=formL x) :
  Calls Tryz.prog 48 #[.agg #[.int .i64 x.kind,.int .i64 x.par,.int .i64 x.M,.slice oa x.obs.length oc,.slice ra x.regs.length rc,.int .i64 x.pc,.slice ba x.box.length bc,.int .i64 x.fin],.agg #[.int .i64 y.kind,.int .i64 y.par,.int .i64 y.M,.slice yoa y.obs.length yoc,.slice yra y.regs.length yrc,.int .i64 y.pc,.slice yba y.box.length ybc,.int .i64 y.fin]] w fun e w'=>e=.returned (.bool true)/\Below w.heap.size w w':=by
 obtain⟨N0,N1,kk,b1,s1⟩:=boxes2 w (.cells #[.int .i64 x.kind,.int .i64 x.par,.int .i64 x.M,.slice oa x.obs.length oc,.slice ra x.regs.length rc,.int .i64 x.pc,.slice ba x.box.length bc,.int .i64 x.fin] 56) (.cells #[.int .i64 y.kind,.int .i64 y.par,.int .i64 y.M,.slice yoa y.obs.length yoc,.slice yra y.regs.length yrc,.int .i64 y.pc,.slice yba y.box.length ybc,.int .i64 y.fin] 56);have hf1:=fun w' (hb:Keeps w w')=>tform_any x oa ra ba oc rc bc w' (h1.keeps hb) (h2.keeps hb) (h3.keeps hb) hx.1 hx.2.1 hx.2.2
 have hf2:=fun w' (hb:Keeps w w')=>tform_any y yoa yra yba yoc yrc ybc w' (k1.keeps hb) (k2.keeps hb) (k3.keeps hb) hy.1 hy.2.1 hy.2.2
 rw[he] at hf2;have hfl:=formL_len hx.2.2 hx.1 hx.2.1;generalize formL x=FL at *;clear h1 h2 h3 k1 k2 k3 hx hy he
 go_enter Tryz.func48,Tryz.ntmps48
 go_upto_region 1 with fail
 generalize (w.alloc (.cells #[.int .i64 x.kind,.int .i64 x.par,.int .i64 x.M,.slice oa x.obs.length oc,.slice ra x.regs.length rc,.int .i64 x.pc,.slice ba x.box.length bc,.int .i64 x.fin] 56)).alloc (.cells #[.int .i64 y.kind,.int .i64 y.par,.int .i64 y.M,.slice yoa y.obs.length yoc,.slice yra y.regs.length yrc,.int .i64 y.pc,.slice yba y.box.length ybc,.int .i64 y.fin] 56)=W at *;have hSof:∀ w',Below W.heap.size W w'->(w'.cell? ⟨w.heap.size,0,none⟩=some (.int .i64 x.kind)/\w'.cell? ⟨w.heap.size,1,none⟩=some (.int .i64 x.par)/\w'.cell? ⟨w.heap.size,2,none⟩=some (.int .i64 x.M)/\w'.cell? ⟨w.heap.size,3,none⟩=some (.slice oa x.obs.length oc)/\w'.cell? ⟨w.heap.size,4,none⟩=some (.slice ra x.regs.length rc)/\w'.cell? ⟨w.heap.size,5,none⟩=some (.int .i64 x.pc)/\w'.cell? ⟨w.heap.size,6,none⟩=some (.slice ba x.box.length bc)/\w'.cell? ⟨w.heap.size,7,none⟩=some (.int .i64 x.fin)/\w'.cell? ⟨w.heap.size+1,0,none⟩=some (.int .i64 y.kind)/\w'.cell? ⟨w.heap.size+1,1,none⟩=some (.int .i64 y.par)/\w'.cell? ⟨w.heap.size+1,2,none⟩=some (.int .i64 y.M)/\w'.cell? ⟨w.heap.size+1,3,none⟩=some (.slice yoa y.obs.length yoc)/\w'.cell? ⟨w.heap.size+1,4,none⟩=some (.slice yra y.regs.length yrc)/\w'.cell? ⟨w.heap.size+1,5,none⟩=some (.int .i64 y.pc)/\w'.cell? ⟨w.heap.size+1,6,none⟩=some (.slice yba y.box.length ybc)/\w'.cell? ⟨w.heap.size+1,7,none⟩=some (.int .i64 y.fin)):=fun w' hb =>
  have k:=Keeps.below hb
  ⟨k _ _ (cell_blk N0 0),k _ _ (cell_blk N0 1),k _ _ (cell_blk N0 2),k _ _ (cell_blk N0 3),k _ _ (cell_blk N0 4),k _ _ (cell_blk N0 5),k _ _ (cell_blk N0 6),k _ _ (cell_blk N0 7),k _ _ (cell_blk N1 0),k _ _ (cell_blk N1 1),k _ _ (cell_blk N1 2),k _ _ (cell_blk N1 3),k _ _ (cell_blk N1 4),k _ _ (cell_blk N1 5),k _ _ (cell_blk N1 6),k _ _ (cell_blk N1 7)⟩
 have hB:Below W.heap.size W W.drew:=(Below.refl _ _).drew;refine wp_region_need (fun _=>true) (fun w'=>w'.cell? ⟨w.heap.size,0,none⟩=some (.int .i64 x.kind)/\w'.cell? ⟨w.heap.size,1,none⟩=some (.int .i64 x.par)/\w'.cell? ⟨w.heap.size,2,none⟩=some (.int .i64 x.M)/\w'.cell? ⟨w.heap.size,3,none⟩=some (.slice oa x.obs.length oc)/\w'.cell? ⟨w.heap.size,4,none⟩=some (.slice ra x.regs.length rc)/\w'.cell? ⟨w.heap.size,5,none⟩=some (.int .i64 x.pc)/\w'.cell? ⟨w.heap.size,6,none⟩=some (.slice ba x.box.length bc)/\w'.cell? ⟨w.heap.size,7,none⟩=some (.int .i64 x.fin)/\w'.cell? ⟨w.heap.size+1,0,none⟩=some (.int .i64 y.kind)/\w'.cell? ⟨w.heap.size+1,1,none⟩=some (.int .i64 y.par)/\w'.cell? ⟨w.heap.size+1,2,none⟩=some (.int .i64 y.M)/\w'.cell? ⟨w.heap.size+1,3,none⟩=some (.slice yoa y.obs.length yoc)/\w'.cell? ⟨w.heap.size+1,4,none⟩=some (.slice yra y.regs.length yrc)/\w'.cell? ⟨w.heap.size+1,5,none⟩=some (.int .i64 y.pc)/\w'.cell? ⟨w.heap.size+1,6,none⟩=some (.slice yba y.box.length ybc)/\w'.cell? ⟨w.heap.size+1,7,none⟩=some (.int .i64 y.fin)) (by kernel_rfl) (hSof _ hB) (fun hS=>?_)
 generalize W.drew=wc0 at hB hS ⊢;refine tkN 0 hS ?_;refine tkN 2 hS ?_;refine stN 1 (fun K hK=>?_);go_simp;refine(hf1 wc0 (kk.trans (Keeps.below hB))).mono ?_;rintro e wa ⟨u1,v1,rfl,hba,hI1⟩;have hBa:=hB.trans (hba.mono hB.size);refine otN hK (hSof _ hBa) ?_;clear hK;replace hS:=hSof _ hBa;refine stN 3 (fun K hK=>?_);go_simp;refine(hf2 wa (kk.trans (Keeps.below hBa))).mono ?_;rintro e wb ⟨u2,v2,rfl,hbb,hI2⟩
 have hBb:=hBa.trans (hbb.mono hBa.size);refine otN hK (hSof _ hBb) ?_;clear hK;replace hS:=hSof _ hBb;refine stN 4 (fun K hK=>?_);go_simp;refine(equalInts_any u1 u2 v1 v2 FL wb (hI1.keeps (Keeps.below hbb)) hI2 (by omega)).mono ?_;rintro e wd ⟨rfl,nd,rfl⟩;have hBd:=below_drewN hBb nd;refine otN hK (hSof _ hBd) ?_;clear hK;replace hS:=hSof _ hBd;refine tkN 5 hS ?_;refine dnN ?_;have hBz:=b1.trans (hBd.mono b1.size)
 go_wp2
 go_ret
 exact⟨rfl,hBz⟩
theorem alikeActs_any (aa ab:Option Addr) (ca cb:Nat) (l m:List Ac) (w:World) (ha:ActsAt w aa l) (hb:ActsAt w ab m) (hlen:m.length=l.length) (hF:∀ (i:Nat) x y,l[i]?=some x->m[i]?=some y->FormOk x/\FormOk y/\formL y=formL x) :
  Calls Tryz.prog 47 #[.slice aa l.length ca,.slice ab l.length cb,.func (.func 48) #[] #[]] w fun e w'=>e=.returned (.bool true)/\Below w.heap.size w w':=by
 have hl:=ha.many;obtain⟨L,hL⟩:∃ L,L=l.length:=⟨_,rfl⟩;have HL:Aside (L=l.length/\L=m.length):=⟨hL,hL.trans hlen.symm⟩;rw[<- hL] at hl ⊢;clear hL hlen
 go_enter Tryz.func47,Tryz.ntmps47
 go_wp2
 go_loopg [17,7,8,9] L (fun g s17 s7 s8 s9 wr=>∃ i:Nat,i<=L/\g=L-i/\s17=.int .i64 i/\Below w.heap.size w wr)
 case atStart=>exact⟨0,Nat.zero_le _,rfl,rfl,Below.refl _ _⟩
 case round =>
  obtain⟨i,hi,rfl,rfl,hbr⟩:=hrel
  by_cases hiL:i<L
  ·have hiz:(i:Int)<(L:Int):=by omega
   obtain⟨x,hx⟩:=at_some (l:=l) (i:=i) (by rw[<- HL.out.1];exact hiL);obtain⟨y,hy⟩:=at_some (l:=m) (i:=i) (by rw[<- HL.out.2];exact hiL);obtain⟨fx,fy,fe⟩:=hF i x y hx hy;obtain⟨b1,o1,oa,oc,ra,rc,ba,bc,rfl,A1⟩:=(ha.keeps (Keeps.below hbr)).cell i _ hx;obtain⟨b2,o2,yoa,yoc,yra,yrc,yba,ybc,rfl,A2⟩:=(hb.keeps (Keeps.below hbr)).cell i _ hy;clear hx hy;obtain⟨x0,x1,x2,x3,x4,x5,x6,x7,xo,xr,xb,_,_⟩:=A1;obtain⟨y0,y1,y2,y3,y4,y5,y6,y7,yo,yr,yb,_,_⟩:=A2
   obtain⟨N0,N1,k1,bW,s1⟩:=boxes2 wr (.cells #[.int .i64 x.kind,.int .i64 x.par,.int .i64 x.M,.slice oa x.obs.length oc,.slice ra x.regs.length rc,.int .i64 x.pc,.slice ba x.box.length bc,.int .i64 x.fin] 56) (.cells #[.int .i64 y.kind,.int .i64 y.par,.int .i64 y.M,.slice yoa y.obs.length yoc,.slice yra y.regs.length yrc,.int .i64 y.pc,.slice yba y.box.length ybc,.int .i64 y.fin] 56);have ka:=Keeps.alloc wr (.cells #[.int .i64 x.kind,.int .i64 x.par,.int .i64 x.M,.slice oa x.obs.length oc,.slice ra x.regs.length rc,.int .i64 x.pc,.slice ba x.box.length bc,.int .i64 x.fin] 56)
   replace y0:=ka _ _ y0;replace y1:=ka _ _ y1;replace y2:=ka _ _ y2;replace y3:=ka _ _ y3;replace y4:=ka _ _ y4;replace y5:=ka _ _ y5;replace y6:=ka _ _ y6;replace y7:=ka _ _ y7;have hc:=alikeAc_any x y oa ra ba yoa yra yba oc rc bc yoc yrc ybc _ (xo.keeps k1) (xr.keeps k1) (xb.keeps k1) (yo.keeps k1) (yr.keeps k1) (yb.keeps k1) fx fy fe;have hB2:=hbr.trans (bW.mono hbr.size);clear xo xr xb yo yr yb ka fx fy fe
   obtain⟨xk,xp,xM,xO,xR,xpc,xB,xf⟩:=x;obtain⟨yk,yp,yM,yO,yR,ypc,yB,yf⟩:=y;simp only at x0 x1 x2 x3 x4 x5 x6 x7 y0 y1 y2 y3 y4 y5 y6 y7 hc hB2 N0 N1 k1 bW s1;generalize xO.length=xO at *;generalize xR.length=xR at *;generalize xB.length=xB at *;generalize yO.length=yO at *;generalize yR.length=yR at *;generalize yB.length=yB at *
   go_upto_region 7 with fail
   clear x0 x1 x2 x3 x4 x5 x6 x7 y0 y1 y2 y3 y4 y5 y6 y7;generalize (wr.alloc (.cells #[.int .i64 xk,.int .i64 xp,.int .i64 xM,.slice oa xO oc,.slice ra xR rc,.int .i64 xpc,.slice ba xB bc,.int .i64 xf] 56)).alloc (.cells #[.int .i64 yk,.int .i64 yp,.int .i64 yM,.slice yoa yO yoc,.slice yra yR yrc,.int .i64 ypc,.slice yba yB ybc,.int .i64 yf] 56)=W at *;have c0:=cell_blk N0 0;have c1:=cell_blk N0 1
   have c2:=cell_blk N0 2;have c3:=cell_blk N0 3;have c4:=cell_blk N0 4;have c5:=cell_blk N0 5;have c6:=cell_blk N0 6;have c7:=cell_blk N0 7;have d0:=cell_blk N1 0;have d1:=cell_blk N1 1;have d2:=cell_blk N1 2;have d3:=cell_blk N1 3;have d4:=cell_blk N1 4;have d5:=cell_blk N1 5;have d6:=cell_blk N1 6;have d7:=cell_blk N1 7;simp at c0 c1 c2 c3 c4 c5 c6 c7 d0 d1 d2 d3 d4 d5 d6 d7
   go_wp2_with fail
   refine hc.mono ?_;rintro e w' ⟨rfl,hb'⟩;have hB3:=hB2.trans (hb'.mono hB2.size);go_wp2
   go_roundg (L-(i+1))
   case measure=>go_light;omega
   case rel=>go_light;exact⟨i+1,by omega,rfl,by go_num,hB3⟩
  ·have hiz:¬ (i:Int)<(L:Int):=by omega
   go_wp2
   go_ret
   exact⟨rfl,hbr⟩
theorem alike_any (aa ab pa pb:Option Addr) (ca cb da db:Nat) (V V':Wd) (w:World) (ha:ActsAt w aa V.acts) (hb:ActsAt w ab V'.acts) (hp:ToldAt w pa V.prints) (hq:ToldAt w pb V.prints) (hlen:V'.acts.length=V.acts.length) (hF:∀ (i:Nat) x y,V.acts[i]?=some x->V'.acts[i]?=some y->FormOk x/\FormOk y/\formL y=formL x) :
  Calls Tryz.prog 25 #[.agg #[.slice aa V.acts.length ca,.slice pa V.prints.length da],.agg #[.slice ab V.acts.length cb,.slice pb V.prints.length db]] w fun e w'=>e=.returned (.bool true)/\Below w.heap.size w w':=by
 obtain⟨N0,N1,kk,b1,s1⟩:=boxes2 w (.cells #[.slice aa V.acts.length ca,.slice pa V.prints.length da] 28) (.cells #[.slice ab V.acts.length cb,.slice pb V.prints.length db] 28);have hT:=equalTold_any pa pb da db V.prints _ (hp.keeps kk) (hq.keeps kk);have hA:=fun(w:World) (ha:ActsAt w aa V.acts) (hb:ActsAt w ab V'.acts)=>alikeActs_any aa ab ca cb V.acts V'.acts w ha hb hlen hF
 have HV:Aside (∀ w',Keeps w w'->ActsAt w' aa V.acts/\ActsAt w' ab V'.acts):=fun w' q=>⟨ha.keeps q,hb.keeps q⟩
 clear ha hb hp hq hlen hF;generalize V.acts.length=L at *;generalize V.prints.length=K at *
 go_enter Tryz.func25,Tryz.ntmps25
 go_upto_region 1 with fail
 generalize (w.alloc (.cells #[.slice aa L ca,.slice pa K da] 28)).alloc (.cells #[.slice ab L cb,.slice pb K db] 28)=W at *;have c0:=cell_blk N0 0;have c1:=cell_blk N0 1;have d0:=cell_blk N1 0;have d1:=cell_blk N1 1;simp at c0 c1 d0 d1
 go_wp2_with fail
 refine hT.mono ?_;rintro e w' ⟨rfl,n,rfl⟩;have kn:=Keeps.drewN W n;have hbn:=below_drewN b1 n;replace c0:=kn _ _ c0;replace d0:=kn _ _ d0;have hV:=HV.out _ (kk.trans kn);generalize W.drewN n=W1 at *
 go_wp2_with fail
 refine(hA W1 hV.1 hV.2).mono ?_;rintro e w' ⟨rfl,hb'⟩;have hB3:=hbn.trans (hb'.mono hbn.size);go_wp2
 go_ret
 exact⟨rfl,hB3⟩
end
section
def VR (R:Int->Int->Prop) (u v:Vl):Prop:=v.k=u.k/\(u.k=2->R u.n v.n)/\(u.k≠2->v.n=u.n)
def VRs (R:Int->Int->Prop) (a b:List Vl):Prop:=b.length=a.length/\∀ (i:Nat) u v,a[i]?=some u->b[i]?=some v->VR R u v
section
variable {R Q:Int->Int->Prop} {u v:Vl} {a b c d:List Vl}
theorem VR.mono (h:VR R u v) (hs:∀ p q,R p q->Q p q):VR Q u v:=⟨h.1,fun e=>hs _ _ (h.2.1 e),h.2.2⟩
theorem VR.symm (h:VR R u v):VR (fun p q=>R q p) v u:=⟨h.1.symm,fun e=>h.2.1 (h.1 ▸ e),fun e=>(h.2.2 (fun x=>e (h.1.trans x))).symm⟩
theorem VR.plain (hk:u.k≠2):VR R u u:=⟨rfl,fun e=>absurd e hk,fun _=>rfl⟩
theorem VR.eq (h:VR R u v) (hk:u.k≠2):v=u:=by
 obtain⟨k,n⟩:=u;obtain⟨k',n'⟩:=v;have h1:=h.1;have h2:=h.2.2 hk;simp only at h1 h2;rw[h1,h2]
theorem VRs.mono (h:VRs R a b) (hs:∀ p q,R p q->Q p q):VRs Q a b:=⟨h.1,fun i u v h1 h2=>(h.2 i u v h1 h2).mono hs⟩
theorem VRs.symm (h:VRs R a b):VRs (fun p q=>R q p) b a:=⟨h.1.symm,fun i u v h1 h2=>(h.2 i v u h2 h1).symm⟩
theorem VRs.nil:VRs R [] []:=⟨rfl,fun i u v h=>by simp at h⟩
theorem VRs.get (h:VRs R a b) {i:Nat} (hu:a[i]?=some u):∃ v,b[i]?=some v/\VR R u v:=by
 have hi:i<b.length:=by rw[h.1];exact(List.getElem?_eq_some_iff.1 hu).1
 exact⟨b[i],List.getElem?_eq_getElem hi,h.2 i u _ hu (List.getElem?_eq_getElem hi)⟩
theorem VRs.mem (h:VRs R a b) (hu:u∈a):∃ v∈b,VR R u v:=by
 obtain⟨i,hi⟩:=List.mem_iff_getElem?.1 hu;obtain⟨v,hv,hr⟩:=h.get hi;exact⟨v,List.mem_of_getElem? hv,hr⟩
theorem VRs.app (h:VRs R a b) (k:VRs R c d):VRs R (a++c) (b++d):=by
 refine⟨by simp[h.1,k.1],fun i u v h1 h2=>?_⟩
 by_cases hi:i<a.length
 ·rw[List.getElem?_append_left hi] at h1
  rw[List.getElem?_append_left (by rw[h.1];exact hi)] at h2;exact h.2 i u v h1 h2
 ·rw[List.getElem?_append_right (by omega)] at h1
  rw[List.getElem?_append_right (by rw[h.1];omega),h.1] at h2;exact k.2 _ u v h1 h2
theorem VRs.one (h:VR R u v):VRs R [u] [v]:=⟨rfl,fun i x y h1 h2=>by
 cases i with
 | zero=>simp at h1 h2;subst h1 h2;exact h
 | succ i=>simp at h1⟩
theorem VRs.set (h:VRs R a b) (k:VR R u v) (n:Nat):VRs R (a.set n u) (b.set n v):=by
 refine⟨by simp[h.1],fun i x y h1 h2=>?_⟩;rw[List.getElem?_set] at h1 h2
 by_cases e:n=i
 ·rw[if_pos e] at h1 h2
  split at h1
  ·split at h2
   ·simp at h1 h2;subst h1 h2;exact k
   ·cases h2
  ·cases h1
 ·rw[if_neg e] at h1 h2
  exact h.2 i x y h1 h2
theorem VRs.nils (h:b.length=a.length):VRs R (a.map fun _=>nilV) (b.map fun _=>nilV):=by
 refine⟨by simp[h],fun i x y h1 h2=>?_⟩;simp only[List.getElem?_map,Option.map_eq_some_iff] at h1 h2;obtain⟨_,_,rfl⟩:=h1;obtain⟨_,_,rfl⟩:=h2;exact VR.plain (by decide)
theorem VRs.tail {x y:Vl} (h:VRs R (x :: a) (y :: b)):VR R x y/\VRs R a b :=
 ⟨h.2 0 x y rfl rfl,by have:=h.1;simpa using this,fun i u v h1 h2=>h.2 (i+1) u v (by simpa using h1) (by simpa using h2)⟩
end
structure Bis (l m:List Ob) (R:Int->Int->Prop):Prop where
 left:∀ p q,R p q->0<=p/\p<(l.length:Int)
 right:∀ p q,R p q->0<=q/\q<(m.length:Int)
 fn:∀ p q q',R p q->R p q'->q=q'
 inj:∀ p p' q,R p q->R p' q->p=p'
 dead:∀ p q,R p q->(obAt m q).dead=(obAt l p).dead
 fields:∀ p q,R p q->VRs R (obAt l p).fs (obAt m q).fs
section
variable {R Q:Int->Int->Prop} {l m l' m':List Ob} {u v:Vl}
theorem Bis.symm (h:Bis l m R):Bis m l (fun p q=>R q p) :=
 ⟨fun p q k=>h.right q p k,fun p q k=>h.left q p k,fun p q q' k k'=>h.inj q q' p k k',fun p p' q k k'=>h.fn q p p' k k',fun p q k=>(h.dead q p k).symm,fun p q k=>(h.fields q p k).symm⟩
theorem Bis.rc (h:Bis l m R) (hv:VR R u v) {p:Int} (hp:Rc l u p):∃ q,R p q/\Rc m v q:=by
 induction hp using Rc.ind with
 | root hk=>exact⟨v.n,hv.2.1 hk,.root (hv.1.trans hk)⟩
 | @step p x _ hx hk ih =>
  obtain⟨q,hq,hr⟩:=ih;rw[fieldsOf_obAt] at hx;obtain⟨y,hy,hxy⟩:=(h.fields p q hq).mem hx;exact⟨y.n,hxy.2.1 hk,.step hr (by rw[fieldsOf_obAt];exact hy) (hxy.1.trans hk)⟩
theorem Bis.sim (h:Bis l m R):∃ (f:Int->Int) (S:Int->Prop),Sim l m f S/\(∀ p q,R p q->S p/\f p=q)/\∀ vs us,VRs R vs us->us=vs.map (ren f)/\∀ x∈vs,x.k=2->S x.n:=by
 classical
 refine⟨fun p=>if e:∃ q,R p q then Classical.choose e else 0,fun p=>∃ q,R p q,?_⟩;have hf:∀ p q,R p q->(if e:∃ q,R p q then Classical.choose e else 0)=q:=fun p q k=>by
  rw[dif_pos ⟨q,k⟩];exact h.fn p _ q (Classical.choose_spec (⟨q,k⟩:∃ q,R p q)) k
 have hvs:∀ vs us,VRs R vs us->us=vs.map (ren fun p=>if e:∃ q,R p q then Classical.choose e else 0)/\∀ x∈vs,x.k=2->∃ q,R x.n q:=fun vs us k=>by
  refine⟨List.ext_getElem? fun i=>?_,fun x hx hk=>?_⟩
  ·rw[List.getElem?_map]
   by_cases hi:i<vs.length
   ·obtain⟨y,hy,hr⟩:=k.get (List.getElem?_eq_getElem hi)
    rw[hy,List.getElem?_eq_getElem hi];simp only[Option.map_some,Option.some.injEq]
    unfold ren
    by_cases hk:(vs[i]).k=2
    ·rw[if_pos hk]
     show y=⟨2,(if e:∃ q,R (vs[i]).n q then Classical.choose e else 0)⟩
     rw[hf _ _ (hr.2.1 hk)];obtain⟨yk,yn⟩:=y;have:=hr.1;simp only at this
     rw[this,hk]
    ·rw[if_neg hk]
     exact hr.eq hk
   ·rw[List.getElem?_eq_none (l:=us) (by rw[k.1];omega),List.getElem?_eq_none (l:=vs) (by omega)]
    rfl
  ·obtain⟨y,_,hr⟩:=k.mem hx
   exact⟨y.n,hr.2.1 hk⟩
 refine⟨⟨fun p q ⟨x,hx⟩ ⟨y,hy⟩ e=>?_,fun p ⟨x,hx⟩=>?_,fun p ⟨x,hx⟩ z hz hk=>?_⟩,fun p q k=>⟨⟨q,k⟩,hf p q k⟩,hvs⟩
 ·rw[hf p x hx,hf q y hy] at e
  subst e;exact h.inj p q x hx hy
 ·rw[hf p x hx,fieldsOf_obAt,fieldsOf_obAt]
  exact(hvs _ _ (h.fields p x hx)).1
 ·rw[fieldsOf_obAt] at hz
  exact(hvs _ _ (h.fields p x hx)).2 z hz hk
theorem Bis.led (h:Bis l m R) {M M':Int} {vs us:List Vl} (hm:hMay M l vs=true) (hm':hMay M' m us=true) (hv:VRs R vs us) :
  (reach m us).length=(reach l vs).length/\(∀ p q,R p q->(p∈reach l vs↔q∈reach m us))/\(∀ p q,R p q->p∈reach l vs->(reach m us).idxOf q=(reach l vs).idxOf p)/\∀ p∈reach l vs,∃ q,R p q:=by
 obtain⟨f,S,hs,hf,hvs⟩:=h.sim;obtain⟨e,hr⟩:=hvs vs us hv;subst e;have key:=reach_ren hs hm hm' hr;have hall:=reach_all hs hr;have hto:∀ p∈reach l vs,∃ q,R p q:=fun p hp=>by
  obtain⟨x,hx,hrc⟩:=rc_of_reach hp;obtain⟨y,_,hxy⟩:=hv.mem hx;obtain⟨q,hq,_⟩:=h.rc hxy hrc;exact⟨q,hq⟩
 refine⟨by rw[key,List.length_map],fun p q k=>?_,fun p q k hp=>?_,hto⟩
 ·obtain⟨hS,hq⟩:=hf p q k
  rw[key,<- hq];exact(mem_ren hs hall hS).symm
 ·obtain⟨hS,hq⟩:=hf p q k
  rw[key,<- hq];exact idxOf_map_inj (fun x hx e=>hs.inj x p (hall x hx) hS e)
theorem Bis.forms (h:Bis l m R) {M M':Int} {vs us:List Vl} (hm:hMay M l vs=true) (hm':hMay M' m us=true) (hv:VRs R vs us):form m us=form l vs:=by
 obtain⟨f,S,hs,hf,hvs⟩:=h.sim;obtain⟨e,hr⟩:=hvs vs us hv;subst e;exact form_ren hs hm hm' hr
theorem Bis.set (h:Bis l m R) {p q:Nat} (hr:R p q) {o o':Ob} (ho:l[p]?=some o) (ho':m[q]?=some o') {x y:Vl} (hxy:VR R x y) (f:Nat):Bis (l.set p ⟨o.fs.set f x,o.dead⟩) (m.set q ⟨o'.fs.set f y,o'.dead⟩) R:=by
 have hp:p<l.length:=(List.getElem?_eq_some_iff.1 ho).1;have hq:q<m.length:=(List.getElem?_eq_some_iff.1 ho').1;have e1:=obAt_some ho;have e2:=obAt_some ho';have hd:=h.dead _ _ hr;have hF:=h.fields _ _ hr;rw[e1,e2] at hd hF;refine⟨by simpa using h.left,by simpa using h.right,h.fn,h.inj,fun a b k=>?_,fun a b k=>?_⟩
 ·rw[obAt_set hp _ _ (h.left a b k).1,obAt_set hq _ _ (h.right a b k).1]
  by_cases e:a=p
  ·subst e
   rw[h.fn _ _ _ k hr,if_pos rfl,if_pos rfl];exact hd
  ·rw[if_neg e,if_neg (fun e'=>e (h.inj _ _ _ k (by rw[e'];exact hr)))]
   exact h.dead a b k
 ·rw[obAt_set hp _ _ (h.left a b k).1,obAt_set hq _ _ (h.right a b k).1]
  by_cases e:a=p
  ·subst e
   rw[h.fn _ _ _ k hr,if_pos rfl,if_pos rfl];exact hF.set hxy f
  ·rw[if_neg e,if_neg (fun e'=>e (h.inj _ _ _ k (by rw[e'];exact hr)))]
   exact h.fields a b k
theorem Bis.app (h:Bis l m R) {T:Int->Int->Prop} (hl:∀ p q,T p q->(l.length:Int)<=p/\p<((l++l').length:Int)) (hm:∀ p q,T p q->(m.length:Int)<=q/\q<((m++m').length:Int))
  (fn:∀ p q q',T p q->T p q'->q=q') (inj:∀ p p' q,T p q->T p' q->p=p') (dead:∀ p q,T p q->(obAt m' (q-m.length)).dead=(obAt l' (p-l.length)).dead) (fields:∀ p q,T p q->VRs T (obAt l' (p-l.length)).fs (obAt m' (q-m.length)).fs) :
  Bis (l++l') (m++m') (fun p q=>R p q\/T p q):=by
 refine⟨fun p q k=>?_,fun p q k=>?_,fun p q q' k k'=>?_,fun p p' q k k'=>?_,fun p q k=>?_,fun p q k=>?_⟩
 ·rcases k with k | k
  ·have:=h.left p q k
   rw[List.length_append];omega
  ·have:=hl p q k;omega
 ·rcases k with k | k
  ·have:=h.right p q k
   rw[List.length_append];omega
  ·have:=hm p q k;omega
 ·rcases k with k | k <;> rcases k' with k' | k'
  ·exact h.fn p q q' k k'
  ·have:=h.left p q k;have:=hl p q' k';omega
  ·have:=h.left p q' k';have:=hl p q k;omega
  ·exact fn p q q' k k'
 ·rcases k with k | k <;> rcases k' with k' | k'
  ·exact h.inj p p' q k k'
  ·have:=h.right p q k;have:=hm p' q k';omega
  ·have:=h.right p' q k';have:=hm p q k;omega
  ·exact inj p p' q k k'
 ·rcases k with k | k
  ·rw[obAt_app (h.left p q k),obAt_app (h.right p q k)]
   exact h.dead p q k
  ·rw[obAt_app_right (hl p q k).1,obAt_app_right (hm p q k).1]
   exact dead p q k
 ·rcases k with k | k
  ·rw[obAt_app (h.left p q k),obAt_app (h.right p q k)]
   exact(h.fields p q k).mono (fun _ _=>Or.inl)
  ·rw[obAt_app_right (hl p q k).1,obAt_app_right (hm p q k).1]
   exact(fields p q k).mono (fun _ _=>Or.inr)
theorem Bis.new (h:Bis l m R) {o:Ob} (ho:∀ x∈o.fs,x.k≠2):Bis (l++[o]) (m++[o]) (fun p q=>R p q\/(p=l.length/\q=m.length)):=by
 refine h.app (T:=fun p q=>p=l.length/\q=m.length) (fun p q ⟨e,_⟩=>by subst e;simp;omega) (fun p q ⟨_,e⟩=>by subst e;simp;omega) (fun p q q' k k'=>k.2.trans k'.2.symm) (fun p p' q k k'=>k.1.trans k'.1.symm) (fun p q ⟨e,e'⟩=>by subst e e';simp) (fun p q ⟨e,e'⟩=>?_);subst e e';simp only[Int.sub_self];exact⟨rfl,fun i x y h1 h2=>by
  rw[h1] at h2;simp at h2;subst h2;exact VR.plain (ho x (List.mem_of_getElem? h1))⟩
theorem Bis.recv (h:Bis l m R) (hv:VR R u v) {M M':Int} (hm:hMay M l [u]=true) (hm':hMay M' m [v]=true) (hB:Bis l' m' Q) :
  ∃ Q',Bis (l'++mvObs l (reach l [u]) l'.length (reach l [u])) (m'++mvObs m (reach m [v]) m'.length (reach m [v])) Q'/\(∀ p q,Q p q->Q' p q)/\VR Q' (mvV (reach l [u]) l'.length u) (mvV (reach m [v]) m'.length v):=by
 obtain⟨hlen,hmem,hidx,hto⟩:=h.led hm hm' (VRs.one hv);have hok:=reach_ok hm _ (hMay_roots hm);have hok':=reach_ok hm' _ (hMay_roots hm');generalize hA:reach l [u]=A at *;generalize hC:reach m [v]=C at *;have at_:∀ {p:Int},p∈A->obAt (mvObs l A l'.length A) (((l'.length:Int)+(A.idxOf p:Nat))-l'.length)=mvO A l'.length (obAt l p):=fun {p} hp=>by
  have:=obAt_mv (l:=l) (pre:=[]) (order:=A) (b:=l'.length) hp;simp only[List.nil_append,List.length_nil] at this
  rw[show((l'.length:Int)+(A.idxOf p:Nat))-l'.length=(((0:Nat):Int)+(A.idxOf p:Nat)) by omega];exact this
 have at':∀ {q:Int},q∈C->obAt (mvObs m C m'.length C) (((m'.length:Int)+(C.idxOf q:Nat))-m'.length)=mvO C m'.length (obAt m q):=fun {q} hq=>by
  have:=obAt_mv (l:=m) (pre:=[]) (order:=C) (b:=m'.length) hq;simp only[List.nil_append,List.length_nil] at this
  rw[show((m'.length:Int)+(C.idxOf q:Nat))-m'.length=(((0:Nat):Int)+(C.idxOf q:Nat)) by omega];exact this
 have hvr:∀ x y:Vl,VR R x y->(x.k=2->x.n∈A)->VR (fun p q=>∃ a c,R a c/\a∈A/\p=(l'.length:Int)+(A.idxOf a:Nat)/\q=(m'.length:Int)+(C.idxOf c:Nat)) (mvV A l'.length x) (mvV C m'.length y):=fun x y hxy hx=>by
  by_cases hk:x.k=2
  ·have hk':y.k=2:=hxy.1.trans hk
   unfold mvV
   rw[if_pos hk,if_pos hk'];exact⟨rfl,fun _=>⟨x.n,y.n,hxy.2.1 hk,hx hk,rfl,rfl⟩,fun e=>absurd rfl e⟩
  ·have e:=hxy.eq hk
   subst e
   unfold mvV
   rw[if_neg hk,if_neg hk];exact VR.plain hk
 have hB2:=hB.app (l':=mvObs l A l'.length A) (m':=mvObs m C m'.length C) (T:=fun p q=>∃ a c,R a c/\a∈A/\p=(l'.length:Int)+(A.idxOf a:Nat)/\q=(m'.length:Int)+(C.idxOf c:Nat))
  (fun p q ⟨a,c,_,ha,e,_⟩=>by
   subst e;have:=List.idxOf_lt_length_iff.2 ha;rw[List.length_append,mvObs_length];omega)
  (fun p q ⟨a,c,hr,ha,_,e⟩=>by
   subst e;have:=List.idxOf_lt_length_iff.2 ((hmem a c hr).1 ha);rw[List.length_append,mvObs_length];omega)
  (fun p q q' ⟨a,c,hr,ha,e,e'⟩ ⟨a2,c2,hr2,ha2,e2,e2'⟩=>by
   have:=hidx a c hr ha;have:=hidx a2 c2 hr2 ha2;omega)
  (fun p p' q ⟨a,c,hr,ha,e,e'⟩ ⟨a2,c2,hr2,ha2,e2,e2'⟩=>by
   have:=hidx a c hr ha;have:=hidx a2 c2 hr2 ha2;omega)
  (fun p q ⟨a,c,hr,ha,e,e'⟩=>by
   subst e e';rw[at_ ha,at' ((hmem a c hr).1 ha)];exact h.dead a c hr)
  (fun p q ⟨a,c,hr,ha,e,e'⟩=>by
   subst e e';rw[at_ ha,at' ((hmem a c hr).1 ha)];have hF:=h.fields a c hr;have hcl:∀ x∈(obAt l a).fs,x.k=2->x.n∈A:=fun x hx hk=>by
    rw[<- hA] at ha ⊢;exact reach_closed hm (hMay_roots hm) ha (by rw[fieldsOf_obAt];exact hx) hk
   refine⟨by simp[mvO,hF.1],fun i x y h1 h2=>?_⟩;simp only[mvO,List.getElem?_map,Option.map_eq_some_iff] at h1 h2;obtain⟨x0,h1,rfl⟩:=h1;obtain⟨y0,h2,rfl⟩:=h2;exact hvr x0 y0 (hF.2 i x0 y0 h1 h2) (hcl x0 (List.mem_of_getElem? h1)))
 refine⟨_,hB2,fun p q k=>Or.inl k,(hvr u v hv (fun hk=>?_)).mono (fun _ _=>Or.inr)⟩;rw[<- hA];exact reach_root (by simp) hk
theorem Bis.bury (h:Bis l m R) {ps qs:List Int} (hp:∀ p∈ps,0<=p) (hq:∀ q∈qs,0<=q) (hpq:∀ p q,R p q->(p∈ps↔q∈qs)):Bis (buryL l ps) (buryL m qs) R:=by
 have key:∀ (l:List Ob) (ps:List Int),(∀ p∈ps,0<=p)->∀ p:Int,0<=p/\p<(l.length:Int)->obAt (buryL l ps) p=if p∈ps then ⟨[],true⟩ else obAt l p:=fun l ps hp p hi=>by
  unfold obAt
  rw[buryL_at l ps hp,show((p.toNat:Nat):Int)=p by omega]
  by_cases e:p∈ps
  ·rw[if_pos ⟨e,by omega⟩,if_pos e];rfl
  ·rw[if_neg (fun c=>e c.1),if_neg e]
 refine⟨by rw[buryL_length];exact h.left,by rw[buryL_length];exact h.right,h.fn,h.inj,fun p q k=>?_,fun p q k=>?_⟩
 ·rw[key l ps hp p (h.left p q k),key m qs hq q (h.right p q k)]
  by_cases e:p∈ps
  ·rw[if_pos e,if_pos ((hpq p q k).1 e)]
  ·rw[if_neg e,if_neg (fun c=>e ((hpq p q k).2 c))]
   exact h.dead p q k
 ·rw[key l ps hp p (h.left p q k),key m qs hq q (h.right p q k)]
  by_cases e:p∈ps
  ·rw[if_pos e,if_pos ((hpq p q k).1 e)]
   exact VRs.nil
  ·rw[if_neg e,if_neg (fun c=>e ((hpq p q k).2 c))]
   exact h.fields p q k
theorem Bis.keep (h:Bis l m R) {ks:List Int} (hcl:∀ p∈ks,∀ x∈(obAt l p).fs,x.k=2->x.n∈ks) :
  Bis (mvObs l ks 0 ks) m (fun p q=>∃ a,a∈ks/\R a q/\p=(ks.idxOf a:Nat))/\∀ vs us,VRs R vs us->(∀ x∈vs,x.k=2->x.n∈ks)->VRs (fun p q=>∃ a,a∈ks/\R a q/\p=(ks.idxOf a:Nat)) (vs.map (mvV ks 0)) us:=by
 have hvs:∀ vs us,VRs R vs us->(∀ x∈vs,x.k=2->x.n∈ks)->VRs (fun p q=>∃ a,a∈ks/\R a q/\p=(ks.idxOf a:Nat)) (vs.map (mvV ks 0)) us:=fun vs us k hk=>by
  refine⟨by simp[k.1],fun i x y h1 h2=>?_⟩;simp only[List.getElem?_map,Option.map_eq_some_iff] at h1;obtain⟨z,hz,rfl⟩:=h1;have hzy:=k.2 i z y hz h2
  by_cases hk2:z.k=2
  ·unfold mvV
   rw[if_pos hk2];exact⟨hzy.1.trans hk2,fun _=>⟨z.n,hk z (List.mem_of_getElem? hz) hk2,hzy.2.1 hk2,by simp⟩,fun e=>absurd rfl e⟩
  ·have e:=hzy.eq hk2
   subst e
   unfold mvV
   rw[if_neg hk2];exact VR.plain hk2
 have at_:∀ {p:Int},p∈ks->obAt (mvObs l ks 0 ks) (ks.idxOf p:Nat)=mvO ks 0 (obAt l p):=fun {p} hp=>by
  have:=obAt_mv (l:=l) (pre:=[]) (order:=ks) (b:=0) hp
  simpa using this
 have same:∀ {a c:Int},a∈ks->c∈ks->ks.idxOf a=ks.idxOf c->a=c:=fun {a c} ha hc e=>by
  have h1:=idx_at ha;have h2:=idx_at hc;rw[e,h2] at h1
  simpa using h1.symm
 refine⟨⟨fun p q ⟨a,ha,hr,e⟩=>?_,fun p q ⟨a,ha,hr,e⟩=>h.right a q hr,fun p q q' ⟨a,ha,hr,e⟩ ⟨c,hc,hr',e'⟩=>?_,fun p p' q ⟨a,ha,hr,e⟩ ⟨c,hc,hr',e'⟩=>?_,fun p q ⟨a,ha,hr,e⟩=>?_,fun p q ⟨a,ha,hr,e⟩=>?_⟩,hvs⟩
 ·subst e
  have:=List.idxOf_lt_length_iff.2 ha;rw[mvObs_length];omega
 ·have:=same ha hc (by omega)
  subst this
  exact h.fn a q q' hr hr'
 ·have:=h.inj a c q hr hr'
  subst this
  exact e.trans e'.symm
 ·subst e
  rw[at_ ha];exact h.dead a q hr
 ·subst e
  rw[at_ ha];exact hvs _ _ (h.fields a q hr) (hcl a ha)
end
end
section
theorem arrive_rest (w:Wd) (who:Nat) (tq:Int) (t:TrR):(arriveS w who tq t).prints=w.prints/\(arriveS w who tq t).acts.length=w.acts.length:=by
 unfold arriveS
 split
 ·exact⟨rfl,rfl⟩
 ·exact⟨rfl,by rw[put_len,put_len]⟩
theorem gone_rest (w:Wd) (who:Nat) (i:Ins):(goneS w who i).prints=w.prints/\(goneS w who i).acts.length=w.acts.length:=by
 unfold goneS
 split
 ·exact⟨rfl,rfl⟩
 split
 ·exact⟨rfl,put_len _ _ _⟩
 ·unfold deliverS
  split
  ·have:=arrive_rest (w.put ((w.at who).reg i.b).n (clearS (w.at ((w.at who).reg i.b).n))) who ((w.at who).reg i.b).n (trW (w.put ((w.at who).reg i.b).n (clearS (w.at ((w.at who).reg i.b).n))) who i.a ((w.at who).reg i.b).n (decide (i.op=13)))
   exact⟨this.1,this.2.trans (put_len _ _ _)⟩
  ·exact arrive_rest _ _ _ _
theorem perform_rest (w:Wd) (who:Nat) (i:Ins):(w.prints <+: (performS w who i).1.prints/\(performS w who i).1.prints.length<=w.prints.length+1)/\w.acts.length<=(performS w who i).1.acts.length/\(performS w who i).1.acts.length<=w.acts.length+1:=by
 unfold performS
 split
 ·unfold sendS
  split
  ·exact⟨⟨List.prefix_refl _,Nat.le_succ _⟩,Nat.le_refl _,Nat.le_succ _⟩
  have hg:=gone_rest w who i
  split
  ·refine⟨by show w.prints <+: (goneS w who i).prints/\(goneS w who i).prints.length<=_;rw[hg.1];exact⟨List.prefix_refl _,Nat.le_succ _⟩,?_,?_⟩ <;> (show _<=_;rw[put_len,hg.2];omega)
  ·exact⟨by rw[hg.1];exact⟨List.prefix_refl _,Nat.le_succ _⟩,by rw[hg.2];exact Nat.le_refl _,by rw[hg.2];omega⟩
 split
 ·unfold reportS
  split
  ·exact⟨⟨List.prefix_refl _,Nat.le_succ _⟩,Nat.le_refl _,Nat.le_succ _⟩
  split
  ·exact⟨⟨List.prefix_append _ _,by simp⟩,Nat.le_refl _,Nat.le_succ _⟩
  ·exact⟨⟨List.prefix_refl _,Nat.le_succ _⟩,Nat.le_refl _,Nat.le_succ _⟩
 split
 ·unfold spawnS
  split
  ·exact⟨⟨List.prefix_refl _,Nat.le_succ _⟩,Nat.le_refl _,Nat.le_succ _⟩
  split
  ·exact⟨⟨List.prefix_refl _,Nat.le_succ _⟩,Nat.le_refl _,Nat.le_succ _⟩
  split
  ·exact⟨⟨List.prefix_refl _,Nat.le_succ _⟩,Nat.le_refl _,Nat.le_succ _⟩
  ·refine⟨⟨List.prefix_refl _,Nat.le_succ _⟩,?_,?_⟩ <;> (show _<=_;rw[List.length_append,put_len];simp)
 ·exact⟨⟨List.prefix_refl _,Nat.le_succ _⟩,by rw[put_len];exact Nat.le_refl _,by rw[put_len];omega⟩
end
end Go.Proofs.YtihpkcccfgbcmaaGreatDoor
