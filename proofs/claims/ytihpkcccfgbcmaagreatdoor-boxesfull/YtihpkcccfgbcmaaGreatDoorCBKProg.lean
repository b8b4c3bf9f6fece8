/- KProg. -/
import Derived.Test.YtihpkcccfgbcmaaGreatDoorCBWOwnNew
import Derived.Test.YtihpkcccfgbcmaaGreatDoorCBASound3
namespace Go.Proofs.YtihpkcccfgbcmaaGreatDoor
set_option maxRecDepth 100000
set_option maxHeartbeats 8000000
section
open Go.RowKit
def AxsAt (w:World) (ao:Option Addr) (l:List Ax):Prop :=
 ∀ (i:Nat) a,l[i]?=some a->∃ b o,ao=some ⟨b,o,none⟩/\w.cell? ⟨b,o+i*4,none⟩=some (.int .i64 a.kind)/\w.cell? ⟨b,o+i*4+1,none⟩=some (.int .i64 a.who)/\w.cell? ⟨b,o+i*4+2,none⟩=some (.int .i64 a.n)/\w.cell? ⟨b,o+i*4+3,none⟩=some (.int .i64 a.m)
theorem AxsAt.keeps {w w':World} {ao:Option Addr} {l:List Ax} (h:AxsAt w ao l) (k:Keeps w w'):AxsAt w' ao l:=fun i a hi=>by
 obtain⟨b,o,e,h1,h2,h3,h4⟩:=h i a hi;exact⟨b,o,e,k _ _ h1,k _ _ h2,k _ _ h3,k _ _ h4⟩
def runWS (G:Nat) (L:Nat->Nat) (X:Nat->Nat->Nat->Int) (most:Int) (l:List Ax):Wd × Int :=
 if wnewE G L X most≠0 then (⟨[],[]⟩,wnewE G L X most) else if 3000<l.length then (⟨[],[]⟩,1) else runS X (newW most) l
theorem WdOwn.base_all {w:World} {base Bw:Nat} {V:Wd} {av pv:Value} {fl:List Fa} {rs:List (List (Value × Ob))} (h:WdOwn w base Bw V av pv fl rs) (hB:base<=Bw):∀ b∈wdFoot Bw av pv fl rs,base<=b:=fun b hb=>by
 simp only[wdFoot,List.mem_append,List.mem_cons] at hb
 rcases hb with(rfl | hb | hb) | hb
 ·exact hB
 ·exact(World.ownsRow.lt h.acts b (mem_vB.1 hb)).1
 ·exact(World.ownsRow.lt h.prints b (mem_vB.1 hb)).1
 ·obtain⟨⟨fa,r⟩,hp,hb⟩:=List.mem_flatMap.1 hb
  obtain⟨j,hj,e⟩:=List.mem_iff_getElem.1 hp;have hz:(List.zip fl rs)[j]?=some (fa,r):=by rw[List.getElem?_eq_getElem hj,e]
  obtain⟨h1,h2⟩:=List.getElem?_zip_eq_some.1 hz;have hjl:j<V.acts.length:=by rw[<- h.flen];exact(List.getElem?_eq_some_iff.1 h1).1
  obtain⟨x,hx⟩:=at_some hjl;have hA:=h.each j fa r x h1 h2 hx;simp only[acFoot,List.mem_append] at hb
  rcases hb with hb | hb | hb
  ·exact(hA.heap.blk_le b (List.mem_append.2 hb)).1
  ·exact(World.ownsRow.lt hA.regs b (mem_vB.1 hb)).1
  ·exact(World.ownsRow.lt hA.box b (mem_vB.1 hb)).1
theorem ownsRow_cap {w:World} {base:Nat} {e:TypeId} {s n c:Nat} {a:Option Addr} {xs:List Value} (h:w.ownsRow base e s (.slice a n c) n xs):n<=c:=by
 rcases h.2 with⟨_,h0⟩ | ⟨g,cap,cur,e1,_,_,hc,_⟩
 ·omega
 ·simp only[Value.slice.injEq] at e1
  omega
theorem WdOwn.views2 {w:World} {base Bw:Nat} {V:Wd} {av pv:Value} {fl:List Fa} {rs:List (List (Value × Ob))} (h:WdOwn w base Bw V av pv fl rs) (hf:Shp V) (hn:V.acts.length<=1000) (hp5:V.prints.length<=1000) :
  ∃ aa ac pa pc,av=.slice aa V.acts.length ac/\pv=.slice pa V.prints.length pc/\ActsAt w aa V.acts/\ToldAt w pa V.prints/\V.prints.length<=pc:=by
 obtain⟨aa,ac,ea⟩:=h.acts.form;obtain⟨pa,pc,ep⟩:=h.prints.form;rw[h.flen] at ea;refine⟨aa,ac,pa,pc,ea,ep,⟨fun i x hi=>?_,by omega⟩,?_⟩
 ·obtain⟨fa,r,g,c,hfa,hr,hA,hav⟩:=h.at hi
  obtain⟨_,_,hfa',hr',_,k0,k1,k2,k3,k4,k5,k6,k7⟩:=h.cellsAt hav hi;rw[hfa] at hfa';rw[hr] at hr';simp only[Option.some.injEq] at hfa' hr';subst hfa' hr';rw[hav] at ea;simp only[Value.slice.injEq] at ea;obtain⟨h8,h6⟩:=hf i x hi;exact⟨g,0,fa.oa,fa.oc,fa.ra,fa.rc,fa.ba,fa.bc,ea.1.symm,⟨by rw[Nat.zero_add];exact k0,by rw[Nat.zero_add];exact k1,by rw[Nat.zero_add];exact k2,by rw[Nat.zero_add];exact k3,by rw[Nat.zero_add];exact k4,by rw[Nat.zero_add];exact k5,by rw[Nat.zero_add];exact k6,by rw[Nat.zero_add];exact k7,hA.obsAt,hA.regVals,hA.boxVals,by omega,by omega⟩⟩
 ·have hp:=h.prints
  rw[ep] at hp;exact⟨seqTl_to (SeqOwn.at (f:=fTl) (s:=2) (fun _=>rfl) hp) (by omega),ownsRow_cap hp⟩
theorem WdOwn.views {w:World} {base Bw:Nat} {V:Wd} {av pv:Value} {fl:List Fa} {rs:List (List (Value × Ob))} (h:WdOwn w base Bw V av pv fl rs) {G:Nat} {L:Nat->Nat} (hf:WFit G L V) :
  ∃ aa ac pa pc,av=.slice aa V.acts.length ac/\pv=.slice pa V.prints.length pc/\ActsAt w aa V.acts/\ToldAt w pa V.prints/\V.prints.length<=pc:=h.views2 hf.shp (by have:=hf.acts;omega) (by have:=hf.prints;omega)
theorem runS_step {X:Nat->Nat->Nat->Int} {V:Wd} {l:List Ax} {i:Nat} {a:Ax} (h:l[i]?=some a):runS X V (l.drop i)=if axFault a≠0 then (⟨[],[]⟩,axFault a) else runS X (actS X V a) (l.drop (i+1)):=by
 have e:l.drop i=a :: l.drop (i+1):=by
  obtain⟨hi,e⟩:=List.getElem?_eq_some_iff.1 h;rw[List.drop_eq_getElem_cons hi,e]
 rw[e]
 rfl
def WAns (w w':World) (R:Wd × Int) (e:Ending):Prop:=∃ aa ac pa pc,
 e=.returned (.tuple #[.agg #[.slice aa R.1.acts.length ac,.slice pa R.1.prints.length pc],.int .i64 R.2])/\Below w.heap.size w w'/\ActsAt w' aa R.1.acts/\ToldAt w' pa R.1.prints/\R.1.prints.length<=pc
theorem run_any (ao:Option Addr) (G cap:Nat) (A:Nat->Option Addr) (L C:Nat->Nat) (X:Nat->Nat->Nat->Int) (most:Int) (la:Option Addr) (lc:Nat) (l:List Ax) (w:World) (hT:TabAt 0 w) (hP:ProgAt w ao G A L C X) (hl:AxsAt w la l) (hll:l.length<=1000000) :
  Calls Tryz.prog 15 #[.agg #[.slice ao G cap],.int .i64 most,.slice la l.length lc] w fun e w'=>WAns w w' (runWS G L X most l) e:=by
 obtain⟨N0,N1,k1,b1,s1⟩:=boxes2 w (.cells #[.slice ao G cap] 24) (.cells #[.slice none 0 0,.slice none 0 0] 28);have hnew:=anewB_any ao G cap A L C X most _ (hT.keeps k1) (hP.keeps k1);have HP:Aside (∀ w',Below _ _ w'->ProgAt w' ao G A L C X):=fun w' hb=>(hP.keeps k1).keeps (Keeps.below hb)
 have HAX:Aside (∀ w',Below _ _ w'->AxsAt w' la l):=fun w' hb=>(hl.keeps k1).keeps (Keeps.below hb)
 have HR:Aside (runWS G L X most l=if wnewE G L X most≠0 then (⟨[],[]⟩,wnewE G L X most) else if 3000<l.length then (⟨[],[]⟩,1) else runS X (newW most) l):=rfl;generalize runWS G L X most l=RR at *;have HWN:Aside (wnew G L X most=if wnewE G L X most=0 then newW most else ⟨[],[]⟩):=rfl;have HWE:Aside (wnewE G L X most=if (ckS G L X).2.2≠0 then (ckS G L X).2.2 else if most<2\/60<most then 2 else 0):=rfl
 generalize wnew G L X most=VN at *;generalize wnewE G L X most=EN at *;generalize hLL:l.length=LL at *;have HLL:Aside (l.length=LL):=hLL;clear hLL hT hP hl k1
 go_enter Tryz.func15,Tryz.ntmps15
 go_upto_region 1 with fail
 generalize (w.alloc (.cells #[.slice ao G cap] 24)).alloc (.cells #[.slice none 0 0,.slice none 0 0] 28)=W at *;have p0:W.cell? ⟨w.heap.size,0,none⟩=some (.slice ao G cap):=cell_blk N0 0
 go_wp2_with fail
 refine hnew.mono ?_;rintro e w1 ⟨aa,ca,rfl,hb1,hva,hvp,hNA⟩;clear hnew;have hW1:W.heap.size<=w1.heap.size:=hb1.size;have M1:=(hb1.block _ (by omega)).trans N1
 by_cases hEN:EN=0
 rotate_left
 ·have q0:(EN != 0)=true:=by simp[hEN]
  have HRR:Aside (RR=(⟨[],[]⟩,EN)):=by show RR=_;rw[HR.out,if_pos hEN]
  have hVN:VN=⟨[],[]⟩:=by rw[HWN.out,if_neg hEN]
  subst hVN;simp only[List.length_nil]
  go_upto_region 2 with fail
  obtain⟨_,_,c2,s2⟩:=boxes1 w1 (.cells #[.slice aa 0 ca,.slice none 0 0] 28);have M2:=(c2.block _ (Array.getElem?_eq_some_iff.1 M1).1).trans M1;generalize w1.alloc (.cells #[.slice aa 0 ca,.slice none 0 0] 28)=W2 at *;have hB2:=b1.trans ((hb1.trans (c2.mono hb1.size)).mono b1.size);have NZ:=two_blk M2 0 1 (.slice none 0 0) (.slice none 0 0);have hBz:=two_below hB2 (show w.heap.size<=w.heap.size+1 by omega) 0 1 (.slice none 0 0) (.slice none 0 0)
  have r0:W2.cell? ⟨w.heap.size+1,0,none⟩=some (.slice none 0 0):=cell_blk M2 0;have r1:W2.cell? ⟨w.heap.size+1,1,none⟩=some (.slice none 0 0):=cell_blk M2 1;have rf:∀ i,W2.frozen? ⟨w.heap.size+1,i,none⟩=false:=fun i=>fz_blk M2 i
  go_wp2
  have y0:=cell_blk NZ 0;have y1:=cell_blk NZ 1;simp at y0 y1;exact bodyPost_ret (v:=.tuple #[.agg #[.slice none 0 0,.slice none 0 0],.int .i64 EN]) (by simp[results,Tryz.results15,go_sem,y0,y1]) rfl (by rw[HRR.out];exact⟨none,0,none,0,rfl,hBz,ActsAt.nil _ _,ToldAt.nil _ _,Nat.zero_le _⟩)
 subst hEN;obtain⟨a,f,o,g,rfl,rfl,mA,mF,mO,mG,la1,lf1,lo1,lg1,hnd⟩:=hNA rfl;have hVN:VN=newW most:=by rw[HWN.out,if_pos rfl]
 subst hVN;simp only[newW,List.length_cons,List.length_nil]
 go_upto_region 2 with fail
 have hla:=(Array.getElem?_eq_some_iff.1 mA).1;have hlf:=(Array.getElem?_eq_some_iff.1 mF).1;have hlo:=(Array.getElem?_eq_some_iff.1 mO).1;have hlg:=(Array.getElem?_eq_some_iff.1 mG).1;obtain⟨NB,_,c2,s2⟩:=boxes1 w1 (.cells #[.slice (some ⟨a,0,none⟩) 1 1,.slice none 0 0] 28);replace mA:=(c2.block _ hla).trans mA;replace mF:=(c2.block _ hlf).trans mF;replace mO:=(c2.block _ hlo).trans mO;replace mG:=(c2.block _ hlg).trans mG
 have hB2:Below W.heap.size W (w1.alloc (.cells #[.slice (some ⟨a,0,none⟩) 1 1,.slice none 0 0] 28)):=hb1.trans (c2.mono hb1.size);generalize w1.alloc (.cells #[.slice (some ⟨a,0,none⟩) 1 1,.slice none 0 0] 28)=W2 at *;have hBw:W.heap.size<=w1.heap.size:=hb1.size;generalize w1.heap.size=Bw at *;have hW2:WdOwn W2 W.heap.size Bw (newW most) (.slice (some ⟨a,0,none⟩) 1 1) (.slice none 0 0) [newFa most o g 8] [newRs f]:=wdown_new NB mA mF mO mG la1 lf1 lo1 lg1 (List.nodup_cons.2 ⟨by simp only[List.mem_cons,List.not_mem_nil,or_false];omega,hnd⟩)
 have hck:(ckS G L X).2.2=0:=by
  have:=HWE.out
  split at this
  ·omega
  ·rename_i hh;simpa using hh
 have hmb:2<=most/\most<=60:=by
  have:=HWE.out;rw[if_neg (by simp[hck])] at this
  split at this
  ·omega
  ·omega
 obtain⟨hpf,hver⟩:=ver_of hck;obtain⟨hG,hLb,_⟩:=progV_ok hpf;have HV:Aside (Ver G L X (fun r=>flowS (X r) (L r))):=hver;have HLB:Aside (∀ k,k<G->L k<=1000000):=fun k hk=>by have:=(hLb k hk).2;omega
 have hok0:WOk G L (fun r=>flowS (X r) (L r)) (newW most):=wok_new hver (by omega) hmb;have M2:=(hB2.block _ (by omega)).trans N1;have hBw2:=b1.trans (hB2.mono b1.size);clear hNA mA mF mO mG HWN HWE hva hvp hck hmb hpf hver hG hLb hnd hb1 M1 c2 NB
 by_cases hll3:3000<LL
 ·have hllz:(3000:Int)<(LL:Int):=by omega
  have HRR:Aside (RR=(⟨[],[]⟩,1)):=by show RR=_;rw[HR.out,if_neg (by simp),if_pos hll3]
  have NZ:=two_blk M2 0 1 (.slice none 0 0) (.slice none 0 0);have hBz:=two_below hBw2 (show w.heap.size<=w.heap.size+1 by omega) 0 1 (.slice none 0 0) (.slice none 0 0);have r0:W2.cell? ⟨w.heap.size+1,0,none⟩=some (.slice none 0 0):=cell_blk M2 0;have r1:W2.cell? ⟨w.heap.size+1,1,none⟩=some (.slice none 0 0):=cell_blk M2 1;have rf:∀ i,W2.frozen? ⟨w.heap.size+1,i,none⟩=false:=fun i=>fz_blk M2 i
  go_wp2
  have y0:=cell_blk NZ 0;have y1:=cell_blk NZ 1;simp at y0 y1;exact bodyPost_ret (v:=.tuple #[.agg #[.slice none 0 0,.slice none 0 0],.int .i64 1]) (by simp[results,Tryz.results15,go_sem,y0,y1]) rfl (by rw[HRR.out];exact⟨none,0,none,0,rfl,hBz,ActsAt.nil _ _,ToldAt.nil _ _,Nat.zero_le _⟩)
 have hllz:¬ (3000:Int)<(LL:Int):=by omega
 have HR2:Aside (RR=runS X (newW most) l):=by
  show RR=_
  rw[HR.out,if_neg (by simp),if_neg hll3]
 clear HR;go_wp2
 go_loopg [29,11,12] LL (fun gg s29 s11 s12 wr=>∃ (i:Nat) (V:Wd) (av pv:Value) (fl:List Fa) (rs:List (List (Value × Ob))),i<=LL/\gg=LL-i/\s29=.int .i64 i/\Aside (WdOwn wr W.heap.size Bw V av pv fl rs)/\Aside (Below W.heap.size W wr)/\Aside (WOk G L (fun r=>flowS (X r) (L r)) V)/\Aside (RR=runS X V (l.drop i)))
 case atStart=>exact⟨0,newW most,_,_,_,_,Nat.zero_le _,rfl,rfl,hW2,hB2,hok0,by show RR=_;rw[HR2.out];rfl⟩
 case round =>
  obtain⟨i,V,av,pv,fl,rs,hi,rfl,rfl,HO,HBr,HOK,HRI⟩:=hrel;clear hW2 hok0 M2 hBw2 hB2 p0
  by_cases hiL:i<LL
  ·have hiz:(i:Int)<(LL:Int):=by omega
   obtain⟨ax,hax⟩:=at_some (l:=l) (i:=i) (by rw[HLL.out];exact hiL);obtain⟨lb,lo,rfl,e0,e1,e2,e3⟩:=HAX.out wr HBr.out i ax hax;have HST:Aside (RR=if axFault ax≠0 then (⟨[],[]⟩,axFault ax) else runS X (actS X V ax) (l.drop (i+1))):=by show RR=_;rw[HRI.out,runS_step hax]
   obtain⟨ak,aw,an,am⟩:=ax;simp only at e0 e1 e2 e3;obtain⟨NQ,_,cq,sq⟩:=boxes1 wr (.cells #[.int .i64 ak,.int .i64 aw,.int .i64 an,.int .i64 am] 30);have hBq:Below W.heap.size W (wr.alloc (.cells #[.int .i64 ak,.int .i64 aw,.int .i64 an,.int .i64 am] 30)):=HBr.out.trans (cq.mono HBr.out.size);have hWq:=HO.out.below cq
   go_upto_region 9 with fail
   generalize wr.alloc (.cells #[.int .i64 ak,.int .i64 aw,.int .i64 an,.int .i64 am] 30)=wq at *;have q0:wq.cell? ⟨wr.heap.size,0,none⟩=some (.int .i64 ak):=cell_blk NQ 0;have q1:wq.cell? ⟨wr.heap.size,1,none⟩=some (.int .i64 aw):=cell_blk NQ 1;have q2:wq.cell? ⟨wr.heap.size,2,none⟩=some (.int .i64 an):=cell_blk NQ 2;have q3:wq.cell? ⟨wr.heap.size,3,none⟩=some (.int .i64 am):=cell_blk NQ 3
   go_wp2_with fail
   refine(checkAct_any ⟨ak,aw,an,am⟩ wq).mono ?_;rintro e w3 ⟨rfl,hb3⟩;have hB3:Below W.heap.size W w3:=hBq.trans (hb3.mono hBq.size);have hW3:=hWq.below hb3;have M3:=(hB3.block _ (by omega)).trans N1;have HB3w:Aside (Below w.heap.size w w3):=b1.trans (hB3.mono b1.size);replace q0:=Keeps.below hb3 _ _ q0;replace q1:=Keeps.below hb3 _ _ q1;replace q2:=Keeps.below hb3 _ _ q2;replace q3:=Keeps.below hb3 _ _ q3
   have p0:w3.cell? ⟨w.heap.size,0,none⟩=some (.slice ao G cap):=Keeps.below hB3 _ _ (cell_blk N0 0);generalize hAF:axFault ⟨ak,aw,an,am⟩=AF at *
   by_cases hAF0:AF=0
   rotate_left
   ·have qf:(AF != 0)=true:=by simp[hAF0]
    have HRR:Aside (RR=(⟨[],[]⟩,AF)):=by show RR=_;rw[HST.out,if_pos hAF0]
    have hBw3:=HB3w.out;have NZ:=two_blk M3 0 1 (.slice none 0 0) (.slice none 0 0);have hBz:=two_below hBw3 (show w.heap.size<=w.heap.size+1 by omega) 0 1 (.slice none 0 0) (.slice none 0 0);have r0:w3.cell? ⟨w.heap.size+1,0,none⟩=some (.slice none 0 0):=cell_blk M3 0;have r1:w3.cell? ⟨w.heap.size+1,1,none⟩=some (.slice none 0 0):=cell_blk M3 1;have rf:∀ i,w3.frozen? ⟨w.heap.size+1,i,none⟩=false:=fun i=>fz_blk M3 i
    go_wp2
    have y0:=cell_blk NZ 0;have y1:=cell_blk NZ 1;simp at y0 y1;exact bodyPost_ret (v:=.tuple #[.agg #[.slice none 0 0,.slice none 0 0],.int .i64 AF]) (by simp[results,Tryz.results15,go_sem,y0,y1]) rfl (by rw[HRR.out];exact⟨none,0,none,0,rfl,hBz,ActsAt.nil _ _,ToldAt.nil _ _,Nat.zero_le _⟩)
   subst hAF0;have HRN:Aside (RR=runS X (actS X V ⟨ak,aw,an,am⟩) (l.drop (i+1))):=by show RR=_;rw[HST.out,if_neg (by simp)]
   have hact:=act_any ao G cap A L C X ak aw an am w3 hW3 (HP.out w3 hB3) (wfit_of HOK.out.may) (fun k j hk hj=>insOk_at HV.out hk hj) HLB.out hAF;have HOK2:Aside (WOk G L (fun r=>flowS (X r) (L r)) (actS X V ⟨ak,aw,an,am⟩)):=HOK.out.act HV.out hAF;generalize actS X V ⟨ak,aw,an,am⟩=V2 at *
   go_wp2_with fail
   refine hact.mono ?_;rintro e w4 ⟨rfl,av4,pv4,fl4,rs4,hW4,hM4⟩;have hB4:Below W.heap.size W w4:=hB3.trans ((hM4.below hB3.size (hW3.base_all hBw)));clear hact;have HO4:Aside (WdOwn w4 W.heap.size Bw V2 av4 pv4 fl4 rs4):=hW4;have HB4:Aside (Below W.heap.size W w4):=hB4;clear hW4 hB4 hM4;go_wp2
   go_roundg (LL-(i+1))
   case measure=>go_light;omega
   case rel=>go_light;exact⟨i+1,V2,av4,pv4,fl4,rs4,by omega,rfl,by go_num,HO4,HB4,HOK2,HRN⟩
  ·have hiz:¬ (i:Int)<(LL:Int):=by omega
   have HRE:Aside (RR=(V,0)):=by
    show RR=_
    rw[HRI.out,List.drop_of_length_le (by rw[HLL.out];omega)]
    rfl
   obtain⟨aa,ac,pa,pc,ea,ep,hva,hvp,hcap⟩:=HO.out.views (wfit_of HOK.out.may);have cw0:=HO.out.bw.1;have cw1:=HO.out.bw.2.1;rw[ea] at cw0;rw[ep] at cw1;have M3:=(HBr.out.block _ (by omega)).trans N1;have hBw3:=b1.trans (HBr.out.mono b1.size);have NZ:=two_blk M3 0 1 (.slice aa V.acts.length ac) (.slice pa V.prints.length pc);have hBz:=two_below hBw3 (show w.heap.size<=w.heap.size+1 by omega) 0 1 (.slice aa V.acts.length ac) (.slice pa V.prints.length pc)
   have rf:∀ i,wr.frozen? ⟨w.heap.size+1,i,none⟩=false:=fun i=>fz_blk M3 i
   have r0:wr.cell? ⟨w.heap.size+1,0,none⟩=some (.slice none 0 0):=cell_blk M3 0;have r1:wr.cell? ⟨w.heap.size+1,1,none⟩=some (.slice none 0 0):=cell_blk M3 1;have hR0:w.heap.size+1<W.heap.size:=by omega
   have hko:Keeps wr wr:=Keeps.refl _;have hvz:WAns w ((wr.setCell ⟨w.heap.size+1,0,none⟩ (.slice aa V.acts.length ac)).setCell ⟨w.heap.size+1,1,none⟩ (.slice pa V.prints.length pc)) (V,0) (.returned (.tuple #[.agg #[.slice aa V.acts.length ac,.slice pa V.prints.length pc],.int .i64 0])):=by
    have hnf:w.heap.size+1∉wdFoot Bw av pv fl rs:=fun hb=>by have:=HO.out.base_all hBw _ hb;omega
    obtain⟨aa',ac',pa',pc',ea',ep',hva',hvp',_⟩:=((HO.out.setOut hnf 0 (.slice aa V.acts.length ac)).setOut hnf 1 (.slice pa V.prints.length pc)).views (wfit_of HOK.out.may);rw[ea] at ea';rw[ep] at ep';simp only[Value.slice.injEq] at ea' ep';obtain⟨rfl,_,rfl⟩:=ea';obtain⟨rfl,_,rfl⟩:=ep';exact⟨_,_,_,_,rfl,hBz,hva',hvp',hcap⟩
   have HVZ:Aside (WAns w ((wr.setCell ⟨w.heap.size+1,0,none⟩ (.slice aa V.acts.length ac)).setCell ⟨w.heap.size+1,1,none⟩ (.slice pa V.prints.length pc)) (V,0) (.returned (.tuple #[.agg #[.slice aa V.acts.length ac,.slice pa V.prints.length pc],.int .i64 0]))):=hvz;clear hvz hva hvp hcap;go_wp2
   have y0:=cell_blk NZ 0;have y1:=cell_blk NZ 1;simp at y0 y1;exact bodyPost_ret (v:=.tuple #[.agg #[.slice aa V.acts.length ac,.slice pa V.prints.length pc],.int .i64 0]) (by simp[results,Tryz.results15,go_sem,y0,y1]) rfl (by rw[HRE.out];exact HVZ.out)
end
section
def fld (x:Ins):Nat->Int
 | 0=>x.op
 | 1=>x.a
 | 2=>x.b
 | _=>x.n
def lenOf (rows:List (List Ins)) (r:Nat):Nat:=(rows.getD r []).length
def xOf (rows:List (List Ins)) (r i f:Nat):Int:=fld ((rows.getD r []).getD i noIns) f
def ckL (rows:List (List Ins)):Int × Int × Int:=ckS rows.length (lenOf rows) (xOf rows)
end
section
def pick (n many:Int):Int:=(if n<0 then -(n+1) else n) % many
theorem pick_bd {n many:Int} (h:0<many):0<=pick n many/\pick n many<many:=⟨Int.emod_nonneg _ (by omega),Int.emod_lt_of_pos _ h⟩
structure Rw where
 k:Int
 a:Int
 b:Int
 c:Int
def fit64 (n:Int):Prop:=-9223372036854775808<=n/\n<=9223372036854775807
def doneI:Ins:=⟨0,0,0,0⟩
def instrS (r:Rw):Ins :=
 if pick r.k 26<3 then ⟨1,pick r.a 6,0,pick r.c 12-3⟩
 else if pick r.k 26<5 then ⟨2+pick r.c 3,pick r.a 6,pick r.b 6,0⟩
 else if pick r.k 26<8 then ⟨7,pick r.a 6,0,1+pick r.c 4⟩
 else if pick r.k 26<10 then ⟨8,pick r.a 6,pick r.b 6,pick r.c 3⟩
 else if pick r.k 26<12 then ⟨9,pick r.a 6,pick r.b 6,pick r.c 2⟩
 else if pick r.k 26<14 then ⟨10,pick r.a 6,pick r.b 6,pick r.c 2⟩
 else if pick r.k 26<17 then ⟨11,pick r.a 6,pick r.b 6,pick r.c 2⟩
 else if pick r.k 26=17 then ⟨12,pick r.a 6,pick r.b 6,0⟩
 else if pick r.k 26<20 then ⟨13,pick r.a 6,pick r.b 6,0⟩
 else if pick r.k 26=20 then ⟨14,pick r.a 6,pick r.b 6,0⟩
 else if pick r.k 26<23 then ⟨15,pick r.a 6,0,0⟩
 else if pick r.k 26=23 then ⟨16,pick r.a 6,0,0⟩
 else if pick r.k 26=24 then ⟨17,pick r.a 6,pick r.b 6,pick r.c 3⟩
 else ⟨18,pick r.a 6,0,0⟩
def rightS (l:List Ins):Bool:=decide ((ckL [l++[doneI],[doneI],[doneI]]).2.2=0)
def nextK (out:List Ins) (r:Rw):List Ins:=if pick (r.k.tdiv 26) 5=0 then out++[⟨5,pick r.b 6,0,2⟩,instrS r] else out++[instrS r]
def stepB (most:Nat) (out:List Ins) (r:Rw):List Ins:=if out.length<most then (if rightS (nextK out r)=true then nextK out r else out) else out
def codeS (most:Nat) (l:List Rw):List Ins:=l.foldl (stepB most) []
def behS (most:Nat) (l:List Rw):List Ins:=codeS most l++[doneI]
def thirds (l:List Rw):Nat->Nat->List Rw
 | 0,_=>[]
 | n+1,i=>match l[i]? with
  | some r=>r :: thirds l n (i+3)
  | none=>[]
def third (l:List Rw) (k:Nat):List Rw:=thirds l l.length k
def programS (l:List Rw) (most:Nat):List (List Ins):=[behS most (third l 0),behS most (third l 1),behS most (third l 2)]
end
section
open Go.RowKit
theorem picked_any (n many:Int) (w:World) (h1:-9223372036854775808<=n) (h2:n<=9223372036854775807) (hm:0<many) (hm':many<=1000000) :
  Calls Tryz.prog 17 #[.int .i64 n,.int .i64 many] w fun e w'=>e=.returned (.int .i64 (pick n many))/\w=w':=by
 by_cases hn:n<0
 ·have hP:pick n many=(-(n+1)) % many:=by simp[pick,hn]
  rw[hP];clear hP
  go_enter Tryz.func17,Tryz.ntmps17
  go_wp2
  go_ret
  exact⟨ret_num (by first | rfl | (rw[<- Int.tmod_eq_emod_of_nonneg (by omega),Int.neg_tmod]) | skip),rfl⟩
 ·have hP:pick n many=n % many:=by simp[pick,hn]
  have hd:decide (n<0)=false:=by simp;omega
  rw[hP];clear hP
  go_enter Tryz.func17,Tryz.ntmps17
  go_wp2
  go_ret
  exact⟨ret_num (by first | rfl | (rw[<- Int.tmod_eq_emod_of_nonneg (by omega),Int.neg_tmod]) | skip),rfl⟩
def RawsAt (w:World) (ao:Option Addr) (l:List Rw):Prop :=
 ∀ (i:Nat) r,l[i]?=some r->∃ b o,ao=some ⟨b,o,none⟩/\b<w.heap.size/\w.cell? ⟨b,o+i*4,none⟩=some (.int .i64 r.k)/\w.cell? ⟨b,o+i*4+1,none⟩=some (.int .i64 r.a)/\w.cell? ⟨b,o+i*4+2,none⟩=some (.int .i64 r.b)/\w.cell? ⟨b,o+i*4+3,none⟩=some (.int .i64 r.c) /\
  fit64 r.k/\fit64 r.a/\fit64 r.b/\fit64 r.c
theorem RawsAt.keeps {w w':World} {ao:Option Addr} {l:List Rw} (h:RawsAt w ao l) (k:Keeps w w'):RawsAt w' ao l:=fun i r hi=>by
 obtain⟨b,o,e,_,h1,h2,h3,h4,h5⟩:=h i r hi;exact⟨b,o,e,World.block_lt_of_cell? _ _ (k _ _ h1),k _ _ h1,k _ _ h2,k _ _ h3,k _ _ h4,h5⟩
end
section
def insB1 (x:Ins):Prop:=(0<=x.op/\x.op<=19)/\(0<=x.a/\x.a<=7)/\(0<=x.b/\x.b<=7)/\(-1099511627776<=x.n/\x.n<=1099511627776)
def rowX (l:List Ins) (i f:Nat):Int:=fld (l.getD i noIns) f
structure RightRow (l:List Ins):Prop where
 fault:rowFault 3 l.length (rowX l)=0
 bad:rowBad (rowX l) l.length=none
theorem right_row {c:List Ins} (h:rightS c=true):RightRow (c++[doneI]):=by
 have h0:=of_decide_eq_true h
 unfold ckL ckS at h0
 by_cases hp:progFault [c++[doneI],[doneI],[doneI]].length (lenOf [c++[doneI],[doneI],[doneI]]) (xOf [c++[doneI],[doneI],[doneI]])≠0
 ·rw[if_pos hp] at h0;exact absurd h0 hp
 rw[if_neg hp] at h0;have hp0:=Classical.byContradiction hp;have hb:=verRows_ok 3 0 h0 0 (by omega) (by omega);refine⟨?_,hb⟩;have e:progFault 3 (lenOf [c++[doneI],[doneI],[doneI]]) (xOf [c++[doneI],[doneI],[doneI]])=first (fun r=>rowFault 3 (lenOf [c++[doneI],[doneI],[doneI]] r) (xOf [c++[doneI],[doneI],[doneI]] r)) 3 0:=by
  unfold progFault
  rw[if_neg (by decide),if_neg (by decide)]
 have hp1:progFault 3 (lenOf [c++[doneI],[doneI],[doneI]]) (xOf [c++[doneI],[doneI],[doneI]])=0:=hp0;rw[e] at hp1;exact first_nought 3 0 hp1 0 (by omega) (by omega)
theorem right_done:RightRow [doneI]:=by
 refine⟨by decide,?_⟩;have hf:flowS (rowX [doneI]) 1=[some [3,3,0,0,0,0,0,0]]:=(show IsFlow (rowX [doneI]) 1 [some [3,3,0,0,0,0,0,0]] from ⟨⟨0,by decide⟩,by decide⟩).eq.symm
 unfold rowBad
 rw[show [doneI].length=1 from rfl,hf]
 decide
theorem three_ok {a b c:List Ins} (ha:RightRow a) (hb:RightRow b) (hc:RightRow c):ckL [a,b,c]=(0,0,0):=by
 have hp:progFault 3 (lenOf [a,b,c]) (xOf [a,b,c])=0:=by
  unfold progFault
  rw[if_neg (by decide),if_neg (by decide)]
  show first (fun r=>rowFault 3 (lenOf [a,b,c] r) (xOf [a,b,c] r)) 3 0=0
  have h0:rowFault 3 (lenOf [a,b,c] 0) (xOf [a,b,c] 0)=0:=ha.fault;have h1:rowFault 3 (lenOf [a,b,c] 1) (xOf [a,b,c] 1)=0:=hb.fault;have h2:rowFault 3 (lenOf [a,b,c] 2) (xOf [a,b,c] 2)=0:=hc.fault;simp[first,h0,h1,h2]
 show(if progFault 3 (lenOf [a,b,c]) (xOf [a,b,c])≠0 then _ else _)=_
 rw[if_neg (by simp[hp])];have h0:rowBad (xOf [a,b,c] 0) (lenOf [a,b,c] 0)=none:=ha.bad;have h1:rowBad (xOf [a,b,c] 1) (lenOf [a,b,c] 1)=none:=hb.bad;have h2:rowBad (xOf [a,b,c] 2) (lenOf [a,b,c] 2)=none:=hc.bad
 show verRows (lenOf [a,b,c]) (xOf [a,b,c]) 3 0=(0,0,0)
 simp[verRows,h0,h1,h2]
theorem nextK_len (out:List Ins) (r:Rw):(nextK out r).length<=out.length+2:=by
 unfold nextK
 split <;> simp
theorem stepB_inv {most:Nat} {out:List Ins} (h:(out=[]\/rightS out=true)/\out.length<=most+1) (r:Rw):(stepB most out r=[]\/rightS (stepB most out r)=true)/\(stepB most out r).length<=most+1:=by
 unfold stepB
 split
 ·split
  ·rename_i h1 h2
   exact⟨Or.inr h2,by have:=nextK_len out r;omega⟩
  ·exact h
 ·exact h
theorem code_inv (most:Nat) (l:List Rw):(codeS most l=[]\/rightS (codeS most l)=true)/\(codeS most l).length<=most+1:=by
 unfold codeS
 suffices h:∀ (l:List Rw) (out:List Ins),((out=[]\/rightS out=true)/\out.length<=most+1)->((l.foldl (stepB most) out=[]\/rightS (l.foldl (stepB most) out)=true)/\(l.foldl (stepB most) out).length<=most+1) from h l [] ⟨Or.inl rfl,by simp⟩
 intro l
 induction l with
 | nil=>intro out h;exact h
 | cons r l ih=>intro out h;exact ih _ (stepB_inv h r)
theorem beh_right (most:Nat) (l:List Rw):RightRow (behS most l):=by
 unfold behS
 rcases (code_inv most l).1 with h | h
 ·rw[h];exact right_done
 ·exact right_row h
theorem program_ok (l:List Rw) (most:Nat):ckL (programS l most)=(0,0,0):=three_ok (beh_right _ _) (beh_right _ _) (beh_right _ _)
theorem ite_of {α:Type} {P:α->Prop} {c:Prop} [Decidable c] {a b:α} (h1:c->P a) (h2:¬ c->P b):P (if c then a else b):=by
 by_cases h:c
 ·rw[if_pos h];exact h1 h
 ·rw[if_neg h];exact h2 h
theorem instrS_bd (r:Rw):insB1 (instrS r):=by
 have hk:=pick_bd (n:=r.k) (many:=26) (by omega);have ha:=pick_bd (n:=r.a) (many:=6) (by omega);have hb:=pick_bd (n:=r.b) (many:=6) (by omega);have c12:=pick_bd (n:=r.c) (many:=12) (by omega);have c3:=pick_bd (n:=r.c) (many:=3) (by omega);have c4:=pick_bd (n:=r.c) (many:=4) (by omega);have c2:=pick_bd (n:=r.c) (many:=2) (by omega)
 unfold instrS
 repeat' (refine ite_of (fun _=>?_) (fun _=>?_))
 all_goals (unfold insB1;simp only;omega)
theorem nextK_bd {out:List Ins} (h:∀ x∈out,insB1 x) (r:Rw):∀ x∈nextK out r,insB1 x:=by
 have hb:=pick_bd (n:=r.b) (many:=6) (by omega);have hi:=instrS_bd r
 unfold nextK
 intro x hx
 split at hx
 ·simp only[List.mem_append,List.mem_cons,List.not_mem_nil,or_false] at hx
  rcases hx with hx | rfl | rfl
  ·exact h x hx
  ·unfold insB1;simp only;omega
  ·exact hi
 ·simp only[List.mem_append,List.mem_cons,List.not_mem_nil,or_false] at hx
  rcases hx with hx | rfl
  ·exact h x hx
  ·exact hi
theorem code_bd (most:Nat) (l:List Rw):∀ x∈codeS most l,insB1 x:=by
 unfold codeS
 suffices h:∀ (l:List Rw) (out:List Ins),(∀ x∈out,insB1 x)->∀ x∈l.foldl (stepB most) out,insB1 x from h l [] (by simp)
 intro l
 induction l with
 | nil=>intro out h;exact h
 | cons r l ih =>
  intro out h;refine ih _ ?_
  unfold stepB
  split
  ·split
   ·exact nextK_bd h r
   ·exact h
  ·exact h
end
end Go.Proofs.YtihpkcccfgbcmaaGreatDoor
