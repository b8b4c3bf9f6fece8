/- HOpen. -/
import Derived.LaidMore
import Derived.OpenShut
import Derived.Stop.Joined
import Derived.Test.YtepifccbbmdfcaaGreatDoorRows
import Derived.Deep.Slices
import Derived.Lib.SmallJoins
import Derived.SizedLaws
import Derived.Test.YtepifccbbmdfcaaGreatDoorCBWOwnNew
import Derived.Test.YtepifccbbmdfcaaGreatDoorCBASound3
namespace Go.Proofs.YtepifccbbmdfcaaGreatDoor
set_option maxRecDepth 100000
set_option maxHeartbeats 8000000
section
open Go.RowKit
def AxsAt (w:World) (ao:Option Addr) (l:List Ax):Prop :=
 ∀ (i:Nat) a,l[i]?=some a->∃ b o,ao=some ⟨b,o,none⟩/\w.cell? ⟨b,o+i*4,none⟩=some (.int .i64 a.kind)/\w.cell? ⟨b,o+i*4+1,none⟩=some (.int .i64 a.who)/\w.cell? ⟨b,o+i*4+2,none⟩=some (.int .i64 a.n)/\w.cell? ⟨b,o+i*4+3,none⟩=some (.int .i64 a.m)
theorem AxsAt.keeps {w w':World} {ao:Option Addr} {l:List Ax} (h:AxsAt w ao l) (k:Keeps w w'):AxsAt w' ao l:=fun i a hi=>by
 obtain⟨b,o,e,h1,h2,h3,h4⟩:=h i a hi;exact⟨b,o,e,k _ _ h1,k _ _ h2,k _ _ h3,k _ _ h4⟩
def runWS (G:Nat) (L:Nat->Nat) (X:Nat->Nat->Nat->Int) (most:Int) (l:List Ax):Wd × Int :=
 if wnewE G L X most≠0 then (⟨[],[]⟩,wnewE G L X most) else if 3000<l.length then (⟨[],[]⟩,1) else runS X (newW most) l
theorem WdOwn.base_all {w:World} {base Bw:Nat} {V:Wd} {av pv:Value} {fl:List Fa} {rs:List (List (Value × Ob))} (h:WdOwn w base Bw V av pv fl rs) (hB:base<=Bw):∀ b∈wdFoot Bw av pv fl rs,base<=b:=fun b hb=>by
 simp only[wdFoot,List.mem_append,List.mem_cons] at hb
 rcases hb with(rfl | hb | hb) | hb
 ·exact hB
 ·exact(World.ownsRow.lt h.acts b (mem_vB.1 hb)).1
 ·exact(World.ownsRow.lt h.prints b (mem_vB.1 hb)).1
 ·obtain⟨⟨fa,r⟩,hp,hb⟩:=List.mem_flatMap.1 hb
  obtain⟨j,hj,e⟩:=List.mem_iff_getElem.1 hp;have hz:(List.zip fl rs)[j]?=some (fa,r):=by rw[List.getElem?_eq_getElem hj,e]
  obtain⟨h1,h2⟩:=List.getElem?_zip_eq_some.1 hz;have hjl:j<V.acts.length:=by rw[<- h.flen];exact(List.getElem?_eq_some_iff.1 h1).1
  obtain⟨x,hx⟩:=at_some hjl;have hA:=h.each j fa r x h1 h2 hx;simp only[acFoot,List.mem_append] at hb
  rcases hb with hb | hb | hb
  ·exact(hA.heap.blk_le b (List.mem_append.2 hb)).1
  ·exact(World.ownsRow.lt hA.regs b (mem_vB.1 hb)).1
  ·exact(World.ownsRow.lt hA.box b (mem_vB.1 hb)).1
theorem ownsRow_cap {w:World} {base:Nat} {e:TypeId} {s n c:Nat} {a:Option Addr} {xs:List Value} (h:w.ownsRow base e s (.slice a n c) n xs):n<=c:=by
 rcases h.2 with⟨_,h0⟩ | ⟨g,cap,cur,e1,_,_,hc,_⟩
 ·omega
 ·simp only[Value.slice.injEq] at e1
  omega
theorem WdOwn.views2 {w:World} {base Bw:Nat} {V:Wd} {av pv:Value} {fl:List Fa} {rs:List (List (Value × Ob))} (h:WdOwn w base Bw V av pv fl rs) (hf:Shp V) (hn:V.acts.length<=1000) (hp5:V.prints.length<=1000) :
  ∃ aa ac pa pc,av=.slice aa V.acts.length ac/\pv=.slice pa V.prints.length pc/\ActsAt w aa V.acts/\ToldAt w pa V.prints/\V.prints.length<=pc:=by
 obtain⟨aa,ac,ea⟩:=h.acts.form;obtain⟨pa,pc,ep⟩:=h.prints.form;rw[h.flen] at ea;refine⟨aa,ac,pa,pc,ea,ep,⟨fun i x hi=>?_,by omega⟩,?_⟩
 ·obtain⟨fa,r,g,c,hfa,hr,hA,hav⟩:=h.at hi
  obtain⟨_,_,hfa',hr',_,k0,k1,k2,k3,k4,k5,k6,k7⟩:=h.cellsAt hav hi;rw[hfa] at hfa';rw[hr] at hr';simp only[Option.some.injEq] at hfa' hr';subst hfa' hr';rw[hav] at ea;simp only[Value.slice.injEq] at ea;obtain⟨h8,h6⟩:=hf i x hi;exact⟨g,0,fa.oa,fa.oc,fa.ra,fa.rc,fa.ba,fa.bc,ea.1.symm,⟨by rw[Nat.zero_add];exact k0,by rw[Nat.zero_add];exact k1,by rw[Nat.zero_add];exact k2,by rw[Nat.zero_add];exact k3,by rw[Nat.zero_add];exact k4,by rw[Nat.zero_add];exact k5,by rw[Nat.zero_add];exact k6,by rw[Nat.zero_add];exact k7,hA.obsAt,hA.regVals,hA.boxVals,by omega,by omega⟩⟩
 ·have hp:=h.prints
  rw[ep] at hp;exact⟨seqTl_to (SeqOwn.at (f:=fTl) (s:=2) (fun _=>rfl) hp) (by omega),ownsRow_cap hp⟩
theorem WdOwn.views {w:World} {base Bw:Nat} {V:Wd} {av pv:Value} {fl:List Fa} {rs:List (List (Value × Ob))} (h:WdOwn w base Bw V av pv fl rs) {G:Nat} {L:Nat->Nat} (hf:WFit G L V) :
  ∃ aa ac pa pc,av=.slice aa V.acts.length ac/\pv=.slice pa V.prints.length pc/\ActsAt w aa V.acts/\ToldAt w pa V.prints/\V.prints.length<=pc:=h.views2 hf.shp (by have:=hf.acts;omega) (by have:=hf.prints;omega)
theorem runS_step {X:Nat->Nat->Nat->Int} {V:Wd} {l:List Ax} {i:Nat} {a:Ax} (h:l[i]?=some a):runS X V (l.drop i)=if axFault a≠0 then (⟨[],[]⟩,axFault a) else runS X (actS X V a) (l.drop (i+1)):=by
 have e:l.drop i=a :: l.drop (i+1):=by
  obtain⟨hi,e⟩:=List.getElem?_eq_some_iff.1 h;rw[List.drop_eq_getElem_cons hi,e]
 rw[e]
 rfl
def WAns (w w':World) (R:Wd × Int) (e:Ending):Prop:=∃ aa ac pa pc,
 e=.returned (.tuple #[.agg #[.slice aa R.1.acts.length ac,.slice pa R.1.prints.length pc],.int .i64 R.2])/\Below w.heap.size w w'/\ActsAt w' aa R.1.acts/\ToldAt w' pa R.1.prints/\R.1.prints.length<=pc
theorem run_any (ao:Option Addr) (G cap:Nat) (A:Nat->Option Addr) (L C:Nat->Nat) (X:Nat->Nat->Nat->Int) (most:Int) (la:Option Addr) (lc:Nat) (l:List Ax) (w:World) (hT:TabAt 0 w) (hP:ProgAt w ao G A L C X) (hl:AxsAt w la l) (hll:l.length<=1000000) :
  Calls Tryz.prog 10 #[.agg #[.slice ao G cap],.int .i64 most,.slice la l.length lc] w fun e w'=>WAns w w' (runWS G L X most l) e:=by
 obtain⟨N0,N1,k1,b1,s1⟩:=boxes2 w (.cells #[.slice ao G cap] 38) (.cells #[.slice none 0 0,.slice none 0 0] 32);have hnew:=anewB_any ao G cap A L C X most _ (hT.keeps k1) (hP.keeps k1);have HP:Aside (∀ w',Below _ _ w'->ProgAt w' ao G A L C X):=fun w' hb=>(hP.keeps k1).keeps (Keeps.below hb)
 have HAX:Aside (∀ w',Below _ _ w'->AxsAt w' la l):=fun w' hb=>(hl.keeps k1).keeps (Keeps.below hb)
 have HR:Aside (runWS G L X most l=if wnewE G L X most≠0 then (⟨[],[]⟩,wnewE G L X most) else if 3000<l.length then (⟨[],[]⟩,1) else runS X (newW most) l):=rfl;generalize runWS G L X most l=RR at *;have HWN:Aside (wnew G L X most=if wnewE G L X most=0 then newW most else ⟨[],[]⟩):=rfl;have HWE:Aside (wnewE G L X most=if (ckS G L X).2.2≠0 then (ckS G L X).2.2 else if most<2\/60<most then 2 else 0):=rfl
 generalize wnew G L X most=VN at *;generalize wnewE G L X most=EN at *;generalize hLL:l.length=LL at *;have HLL:Aside (l.length=LL):=hLL;clear hLL hT hP hl k1
 go_enter Tryz.func10,Tryz.ntmps10
 go_upto_region 1 with fail
 generalize (w.alloc (.cells #[.slice ao G cap] 38)).alloc (.cells #[.slice none 0 0,.slice none 0 0] 32)=W at *;have p0:W.cell? ⟨w.heap.size,0,none⟩=some (.slice ao G cap):=cell_blk N0 0
 go_wp2_with fail
 refine hnew.mono ?_;rintro e w1 ⟨aa,ca,rfl,hb1,hva,hvp,hNA⟩;clear hnew;have hW1:W.heap.size<=w1.heap.size:=hb1.size;have M1:=(hb1.block _ (by omega)).trans N1
 by_cases hEN:EN=0
 rotate_left
 ·have q0:(EN != 0)=true:=by simp[hEN]
  have HRR:Aside (RR=(⟨[],[]⟩,EN)):=by show RR=_;rw[HR.out,if_pos hEN]
  have hVN:VN=⟨[],[]⟩:=by rw[HWN.out,if_neg hEN]
  subst hVN;simp only[List.length_nil]
  go_upto_region 2 with fail
  obtain⟨_,_,c2,s2⟩:=boxes1 w1 (.cells #[.slice aa 0 ca,.slice none 0 0] 32);have M2:=(c2.block _ (Array.getElem?_eq_some_iff.1 M1).1).trans M1;generalize w1.alloc (.cells #[.slice aa 0 ca,.slice none 0 0] 32)=W2 at *;have hB2:=b1.trans ((hb1.trans (c2.mono hb1.size)).mono b1.size);have NZ:=two_blk M2 0 1 (.slice none 0 0) (.slice none 0 0);have hBz:=two_below hB2 (show w.heap.size<=w.heap.size+1 by omega) 0 1 (.slice none 0 0) (.slice none 0 0)
  have r0:W2.cell? ⟨w.heap.size+1,0,none⟩=some (.slice none 0 0):=cell_blk M2 0;have r1:W2.cell? ⟨w.heap.size+1,1,none⟩=some (.slice none 0 0):=cell_blk M2 1;have rf:∀ i,W2.frozen? ⟨w.heap.size+1,i,none⟩=false:=fun i=>fz_blk M2 i
  go_wp2
  have y0:=cell_blk NZ 0;have y1:=cell_blk NZ 1;simp at y0 y1;exact bodyPost_ret (v:=.tuple #[.agg #[.slice none 0 0,.slice none 0 0],.int .i64 EN]) (by simp[results,Tryz.results10,go_sem,y0,y1]) rfl (by rw[HRR.out];exact⟨none,0,none,0,rfl,hBz,ActsAt.nil _ _,ToldAt.nil _ _,Nat.zero_le _⟩)
 subst hEN;obtain⟨a,f,o,g,rfl,rfl,mA,mF,mO,mG,la1,lf1,lo1,lg1,hnd⟩:=hNA rfl;have hVN:VN=newW most:=by rw[HWN.out,if_pos rfl]
 subst hVN;simp only[newW,List.length_cons,List.length_nil]
 go_upto_region 2 with fail
 have hla:=(Array.getElem?_eq_some_iff.1 mA).1;have hlf:=(Array.getElem?_eq_some_iff.1 mF).1;have hlo:=(Array.getElem?_eq_some_iff.1 mO).1;have hlg:=(Array.getElem?_eq_some_iff.1 mG).1;obtain⟨NB,_,c2,s2⟩:=boxes1 w1 (.cells #[.slice (some ⟨a,0,none⟩) 1 1,.slice none 0 0] 32);replace mA:=(c2.block _ hla).trans mA;replace mF:=(c2.block _ hlf).trans mF;replace mO:=(c2.block _ hlo).trans mO;replace mG:=(c2.block _ hlg).trans mG
 have hB2:Below W.heap.size W (w1.alloc (.cells #[.slice (some ⟨a,0,none⟩) 1 1,.slice none 0 0] 32)):=hb1.trans (c2.mono hb1.size);generalize w1.alloc (.cells #[.slice (some ⟨a,0,none⟩) 1 1,.slice none 0 0] 32)=W2 at *;have hBw:W.heap.size<=w1.heap.size:=hb1.size;generalize w1.heap.size=Bw at *;have hW2:WdOwn W2 W.heap.size Bw (newW most) (.slice (some ⟨a,0,none⟩) 1 1) (.slice none 0 0) [newFa most o g 8] [newRs f]:=wdown_new NB mA mF mO mG la1 lf1 lo1 lg1 (List.nodup_cons.2 ⟨by simp only[List.mem_cons,List.not_mem_nil,or_false];omega,hnd⟩)
 have hck:(ckS G L X).2.2=0:=by
  have:=HWE.out
  split at this
  ·omega
  ·rename_i hh;simpa using hh
 have hmb:2<=most/\most<=60:=by
  have:=HWE.out;rw[if_neg (by simp[hck])] at this
  split at this
  ·omega
  ·omega
 obtain⟨hpf,hver⟩:=ver_of hck;obtain⟨hG,hLb,_⟩:=progV_ok hpf;have HV:Aside (Ver G L X (fun r=>flowS (X r) (L r))):=hver;have HLB:Aside (∀ k,k<G->L k<=1000000):=fun k hk=>by have:=(hLb k hk).2;omega
 have hok0:WOk G L (fun r=>flowS (X r) (L r)) (newW most):=wok_new hver (by omega) hmb;have M2:=(hB2.block _ (by omega)).trans N1;have hBw2:=b1.trans (hB2.mono b1.size);clear hNA mA mF mO mG HWN HWE hva hvp hck hmb hpf hver hG hLb hnd hb1 M1 c2 NB
 by_cases hll3:3000<LL
 ·have hllz:(3000:Int)<(LL:Int):=by omega
  have HRR:Aside (RR=(⟨[],[]⟩,1)):=by show RR=_;rw[HR.out,if_neg (by simp),if_pos hll3]
  have NZ:=two_blk M2 0 1 (.slice none 0 0) (.slice none 0 0);have hBz:=two_below hBw2 (show w.heap.size<=w.heap.size+1 by omega) 0 1 (.slice none 0 0) (.slice none 0 0);have r0:W2.cell? ⟨w.heap.size+1,0,none⟩=some (.slice none 0 0):=cell_blk M2 0;have r1:W2.cell? ⟨w.heap.size+1,1,none⟩=some (.slice none 0 0):=cell_blk M2 1;have rf:∀ i,W2.frozen? ⟨w.heap.size+1,i,none⟩=false:=fun i=>fz_blk M2 i
  go_wp2
  have y0:=cell_blk NZ 0;have y1:=cell_blk NZ 1;simp at y0 y1;exact bodyPost_ret (v:=.tuple #[.agg #[.slice none 0 0,.slice none 0 0],.int .i64 1]) (by simp[results,Tryz.results10,go_sem,y0,y1]) rfl (by rw[HRR.out];exact⟨none,0,none,0,rfl,hBz,ActsAt.nil _ _,ToldAt.nil _ _,Nat.zero_le _⟩)
 have hllz:¬ (3000:Int)<(LL:Int):=by omega
 have HR2:Aside (RR=runS X (newW most) l):=by
  show RR=_
  rw[HR.out,if_neg (by simp),if_neg hll3]
 clear HR;go_wp2
 go_loopg [29,11,12] LL (fun gg s29 s11 s12 wr=>∃ (i:Nat) (V:Wd) (av pv:Value) (fl:List Fa) (rs:List (List (Value × Ob))),i<=LL/\gg=LL-i/\s29=.int .i64 i/\Aside (WdOwn wr W.heap.size Bw V av pv fl rs)/\Aside (Below W.heap.size W wr)/\Aside (WOk G L (fun r=>flowS (X r) (L r)) V)/\Aside (RR=runS X V (l.drop i)))
 case atStart=>exact⟨0,newW most,_,_,_,_,Nat.zero_le _,rfl,rfl,hW2,hB2,hok0,by show RR=_;rw[HR2.out];rfl⟩
 case round =>
  obtain⟨i,V,av,pv,fl,rs,hi,rfl,rfl,HO,HBr,HOK,HRI⟩:=hrel;clear hW2 hok0 M2 hBw2 hB2 p0
  by_cases hiL:i<LL
  ·have hiz:(i:Int)<(LL:Int):=by omega
   obtain⟨ax,hax⟩:=at_some (l:=l) (i:=i) (by rw[HLL.out];exact hiL);obtain⟨lb,lo,rfl,e0,e1,e2,e3⟩:=HAX.out wr HBr.out i ax hax;have HST:Aside (RR=if axFault ax≠0 then (⟨[],[]⟩,axFault ax) else runS X (actS X V ax) (l.drop (i+1))):=by show RR=_;rw[HRI.out,runS_step hax]
   obtain⟨ak,aw,an,am⟩:=ax;simp only at e0 e1 e2 e3;obtain⟨NQ,_,cq,sq⟩:=boxes1 wr (.cells #[.int .i64 ak,.int .i64 aw,.int .i64 an,.int .i64 am] 27);have hBq:Below W.heap.size W (wr.alloc (.cells #[.int .i64 ak,.int .i64 aw,.int .i64 an,.int .i64 am] 27)):=HBr.out.trans (cq.mono HBr.out.size);have hWq:=HO.out.below cq
   go_upto_region 9 with fail
   generalize wr.alloc (.cells #[.int .i64 ak,.int .i64 aw,.int .i64 an,.int .i64 am] 27)=wq at *;have q0:wq.cell? ⟨wr.heap.size,0,none⟩=some (.int .i64 ak):=cell_blk NQ 0;have q1:wq.cell? ⟨wr.heap.size,1,none⟩=some (.int .i64 aw):=cell_blk NQ 1;have q2:wq.cell? ⟨wr.heap.size,2,none⟩=some (.int .i64 an):=cell_blk NQ 2;have q3:wq.cell? ⟨wr.heap.size,3,none⟩=some (.int .i64 am):=cell_blk NQ 3
   go_wp2_with fail
   refine(checkAct_any ⟨ak,aw,an,am⟩ wq).mono ?_;rintro e w3 ⟨rfl,hb3⟩;have hB3:Below W.heap.size W w3:=hBq.trans (hb3.mono hBq.size);have hW3:=hWq.below hb3;have M3:=(hB3.block _ (by omega)).trans N1;have HB3w:Aside (Below w.heap.size w w3):=b1.trans (hB3.mono b1.size);replace q0:=Keeps.below hb3 _ _ q0;replace q1:=Keeps.below hb3 _ _ q1;replace q2:=Keeps.below hb3 _ _ q2;replace q3:=Keeps.below hb3 _ _ q3
   have p0:w3.cell? ⟨w.heap.size,0,none⟩=some (.slice ao G cap):=Keeps.below hB3 _ _ (cell_blk N0 0);generalize hAF:axFault ⟨ak,aw,an,am⟩=AF at *
   by_cases hAF0:AF=0
   rotate_left
   ·have qf:(AF != 0)=true:=by simp[hAF0]
    have HRR:Aside (RR=(⟨[],[]⟩,AF)):=by show RR=_;rw[HST.out,if_pos hAF0]
    have hBw3:=HB3w.out;have NZ:=two_blk M3 0 1 (.slice none 0 0) (.slice none 0 0);have hBz:=two_below hBw3 (show w.heap.size<=w.heap.size+1 by omega) 0 1 (.slice none 0 0) (.slice none 0 0);have r0:w3.cell? ⟨w.heap.size+1,0,none⟩=some (.slice none 0 0):=cell_blk M3 0;have r1:w3.cell? ⟨w.heap.size+1,1,none⟩=some (.slice none 0 0):=cell_blk M3 1;have rf:∀ i,w3.frozen? ⟨w.heap.size+1,i,none⟩=false:=fun i=>fz_blk M3 i
    go_wp2
    have y0:=cell_blk NZ 0;have y1:=cell_blk NZ 1;simp at y0 y1;exact bodyPost_ret (v:=.tuple #[.agg #[.slice none 0 0,.slice none 0 0],.int .i64 AF]) (by simp[results,Tryz.results10,go_sem,y0,y1]) rfl (by rw[HRR.out];exact⟨none,0,none,0,rfl,hBz,ActsAt.nil _ _,ToldAt.nil _ _,Nat.zero_le _⟩)
   subst hAF0;have HRN:Aside (RR=runS X (actS X V ⟨ak,aw,an,am⟩) (l.drop (i+1))):=by show RR=_;rw[HST.out,if_neg (by simp)]
   have hact:=act_any ao G cap A L C X ak aw an am w3 hW3 (HP.out w3 hB3) (wfit_of HOK.out.may) (fun k j hk hj=>insOk_at HV.out hk hj) HLB.out hAF;have HOK2:Aside (WOk G L (fun r=>flowS (X r) (L r)) (actS X V ⟨ak,aw,an,am⟩)):=HOK.out.act HV.out hAF;generalize actS X V ⟨ak,aw,an,am⟩=V2 at *
   go_wp2_with fail
   refine hact.mono ?_;rintro e w4 ⟨rfl,av4,pv4,fl4,rs4,hW4,hM4⟩;have hB4:Below W.heap.size W w4:=hB3.trans ((hM4.below hB3.size (hW3.base_all hBw)));clear hact;have HO4:Aside (WdOwn w4 W.heap.size Bw V2 av4 pv4 fl4 rs4):=hW4;have HB4:Aside (Below W.heap.size W w4):=hB4;clear hW4 hB4 hM4;go_wp2
   go_roundg (LL-(i+1))
   case measure=>go_light;omega
   case rel=>go_light;exact⟨i+1,V2,av4,pv4,fl4,rs4,by omega,rfl,by go_num,HO4,HB4,HOK2,HRN⟩
  ·have hiz:¬ (i:Int)<(LL:Int):=by omega
   have HRE:Aside (RR=(V,0)):=by
    show RR=_
    rw[HRI.out,List.drop_of_length_le (by rw[HLL.out];omega)]
    rfl
   obtain⟨aa,ac,pa,pc,ea,ep,hva,hvp,hcap⟩:=HO.out.views (wfit_of HOK.out.may);have cw0:=HO.out.bw.1;have cw1:=HO.out.bw.2.1;rw[ea] at cw0;rw[ep] at cw1;have M3:=(HBr.out.block _ (by omega)).trans N1;have hBw3:=b1.trans (HBr.out.mono b1.size);have NZ:=two_blk M3 0 1 (.slice aa V.acts.length ac) (.slice pa V.prints.length pc);have hBz:=two_below hBw3 (show w.heap.size<=w.heap.size+1 by omega) 0 1 (.slice aa V.acts.length ac) (.slice pa V.prints.length pc)
   have rf:∀ i,wr.frozen? ⟨w.heap.size+1,i,none⟩=false:=fun i=>fz_blk M3 i
   have r0:wr.cell? ⟨w.heap.size+1,0,none⟩=some (.slice none 0 0):=cell_blk M3 0;have r1:wr.cell? ⟨w.heap.size+1,1,none⟩=some (.slice none 0 0):=cell_blk M3 1;have hR0:w.heap.size+1<W.heap.size:=by omega
   have hko:Keeps wr wr:=Keeps.refl _;have hvz:WAns w ((wr.setCell ⟨w.heap.size+1,0,none⟩ (.slice aa V.acts.length ac)).setCell ⟨w.heap.size+1,1,none⟩ (.slice pa V.prints.length pc)) (V,0) (.returned (.tuple #[.agg #[.slice aa V.acts.length ac,.slice pa V.prints.length pc],.int .i64 0])):=by
    have hnf:w.heap.size+1∉wdFoot Bw av pv fl rs:=fun hb=>by have:=HO.out.base_all hBw _ hb;omega
    obtain⟨aa',ac',pa',pc',ea',ep',hva',hvp',_⟩:=((HO.out.setOut hnf 0 (.slice aa V.acts.length ac)).setOut hnf 1 (.slice pa V.prints.length pc)).views (wfit_of HOK.out.may);rw[ea] at ea';rw[ep] at ep';simp only[Value.slice.injEq] at ea' ep';obtain⟨rfl,_,rfl⟩:=ea';obtain⟨rfl,_,rfl⟩:=ep';exact⟨_,_,_,_,rfl,hBz,hva',hvp',hcap⟩
   have HVZ:Aside (WAns w ((wr.setCell ⟨w.heap.size+1,0,none⟩ (.slice aa V.acts.length ac)).setCell ⟨w.heap.size+1,1,none⟩ (.slice pa V.prints.length pc)) (V,0) (.returned (.tuple #[.agg #[.slice aa V.acts.length ac,.slice pa V.prints.length pc],.int .i64 0]))):=hvz;clear hvz hva hvp hcap;go_wp2
   have y0:=cell_blk NZ 0;have y1:=cell_blk NZ 1;simp at y0 y1;exact bodyPost_ret (v:=.tuple #[.agg #[.slice aa V.acts.length ac,.slice pa V.prints.length pc],.int .i64 0]) (by simp[results,Tryz.results10,go_sem,y0,y1]) rfl (by rw[HRE.out];exact HVZ.out)
end
section
open Go.ChangeShapes Go.WideShapes Go.ChangeAt Go.RowKit
theorem Tryz.gOps : Tryz.prog.globalNamed "treadwheel/code.operators" = some 0 := by kernel_rfl
theorem Tryz.tOps:(Tryz.prog.globals[0]?).map (·.type)=some 183:=by kernel_rfl
theorem Tryz.cOp:Tryz.prog.cellsOf 182=5:=by kernel_rfl
theorem Tryz.cBool:Tryz.prog.cellsOf 4=1:=by kernel_rfl
theorem Tryz.cInt:Tryz.prog.cellsOf 3=1:=by kernel_rfl
def tabRow {H:Type} (k:Nat):DataW H:=.agg [.lit (.bool (aOf k)),.lit (.bool (bOf k)),.lit (.bool (nOf k)),.lit (.int .i64 (loOf k)),.lit (.int .i64 (hiOf k))]
theorem tab_datum:(Rows.laid_treadwheel_code_operators:DataW Unit)=.agg ((List.range 20).map tabRow):=by kernel_rfl
abbrev opsLaid : List (String × DataW Unit) := [("treadwheel/code.operators", Rows.laid_treadwheel_code_operators)]
section
variable {H:Type} {enc:TypeId × Value->H} {w:World} {base:Nat} {spare:Nat->Bool} {held:Bool}
theorem open_oper {fuel:Nat} {cs:List Value} {x:DataW H × List MemPlace} {a b c:Bool} {l m:Int} (h:DataW.trod enc Tryz.prog w base spare held fuel 182 cs=some x)
  (hx:x.1=.agg [.lit (.bool a),.lit (.bool b),.lit (.bool c),.lit (.int .i64 l),.lit (.int .i64 m)]):cs=[.bool a,.bool b,.bool c,.int .i64 l,.int .i64 m]:=by
 obtain⟨xs,n,_,rfl,hl,hlen,hf⟩:=DataW.trod_struct Tryz.underlying182 h;rw[Tryz.cOp] at hl
 match cs,hl with
 | [c0,c1,c2,c3,c4],_ =>
  match xs,hlen with
  | [x0,x1,x2,x3,x4],_ =>
   simp only[List.map_cons,List.map_nil,DataW.agg.injEq,List.cons.injEq,and_true] at hx;obtain⟨q0,q1,q2,q3,q4⟩:=hx;have g0:DataW.trod enc Tryz.prog w base spare held n 4 (List.take (Tryz.prog.cellsOf 4) (List.drop 0 [c0,c1,c2,c3,c4]))=some x0:=hf 0 _ rfl;have g1:DataW.trod enc Tryz.prog w base spare held n 4 (List.take (Tryz.prog.cellsOf 4) (List.drop 1 [c0,c1,c2,c3,c4]))=some x1:=hf 1 _ rfl;have g2:DataW.trod enc Tryz.prog w base spare held n 4 (List.take (Tryz.prog.cellsOf 4) (List.drop 2 [c0,c1,c2,c3,c4]))=some x2:=hf 2 _ rfl
   have g3:DataW.trod enc Tryz.prog w base spare held n 3 (List.take (Tryz.prog.cellsOf 3) (List.drop 3 [c0,c1,c2,c3,c4]))=some x3:=hf 3 _ rfl;have g4:DataW.trod enc Tryz.prog w base spare held n 3 (List.take (Tryz.prog.cellsOf 3) (List.drop 4 [c0,c1,c2,c3,c4]))=some x4:=hf 4 _ rfl;rw[Tryz.cBool] at g0 g1 g2;rw[Tryz.cInt] at g3 g4;simp only[List.drop_zero,List.drop_succ_cons,List.take_succ_cons,List.take_zero] at g0 g1 g2 g3 g4
   obtain⟨b0,e0,y0⟩:=DataW.trod_bool Tryz.underlying4 g0;obtain⟨b1,e1,y1⟩:=DataW.trod_bool Tryz.underlying4 g1;obtain⟨b2,e2,y2⟩:=DataW.trod_bool Tryz.underlying4 g2;obtain⟨b3,e3,y3,_⟩:=DataW.trod_int Tryz.underlying3 g3;obtain⟨b4,e4,y4,_⟩:=DataW.trod_int Tryz.underlying3 g4;subst y0 y1 y2 y3 y4;simp at q0 q1 q2 q3 q4 e0 e1 e2 e3 e4;subst q0 q1 q2 q3 q4 e0 e1 e2 e3 e4
   rfl
end
theorem tab_of_laid {W:World} (h:laidMetH Tryz.prog opsLaid W):TabAt 0 W:=by
 rw[MakeChecks.laidMetH_plain _ _ _ (by kernel_rfl)] at h;obtain⟨ps,⟨g0,t0,cs0,f0,p0,q0,hg0,ht0,hv0,hd0,_⟩,_,_⟩:=h;obtain rfl:=Option.some.inj (Tryz.gOps.symm.trans hg0);obtain rfl:=Option.some.inj (Tryz.tOps.symm.trans ht0);rw[tab_datum] at hd0;obtain⟨xs,m,_,hx,_,hlen,hel⟩:=DataW.trod_array Tryz.underlying183 hd0;simp only[Prod.mk.injEq,DataW.agg.injEq] at hx;rw[Tryz.cOp] at hel;intro k hk;have hk':k<xs.length:=by omega
 have hxk:xs[k].1=tabRow k:=by
  have:=congrArg (fun l=>l[k]?) hx.1;simp[hk,hk'] at this
  exact this.symm
 have e:=open_oper ((hel k hk).trans (List.getElem?_eq_getElem hk')) hxk;have hc:∀ j,j<5->W.cell? ⟨0,k*5+j,none⟩=[Value.bool (aOf k),.bool (bOf k),.bool (nOf k),.int .i64 (loOf k),.int .i64 (hiOf k)][j]?:=fun j hj=>by
  rw[World.var?_cell hg0 hv0,<- e];simp[hj,List.getElem?_drop]
 exact⟨hc 0 (by omega),hc 1 (by omega),hc 2 (by omega),hc 3 (by omega),hc 4 (by omega)⟩
theorem door_met (os:Os) (args:Array Value):laidMetH Tryz.prog opsLaid ((World.doorLaid Tryz.prog 400 os).forCall (fun _ _=>0) ⟨#[],args,[]⟩).memory :=
 laidMetH_of_parts3 (fuel:=8) (laidMet_of_run' 8 (by kernel_rfl) (by kernel_rfl)) (by kernel_rfl) (by kernel_rfl)
end
section
open Go.ChangeShapes Go.WideShapes Go.ChangeAt Go.RowKit Go.Deep
theorem Tryz.cown:ownKnob Tryz.prog.godebug=none:=by kernel_rfl
theorem Tryz.claidOut:laidOutB Tryz.prog=true:=by kernel_rfl
end
section
open Go.ChangeShapes Go.WideShapes Go.ChangeAt Go.RowKit Go.Deep
section
variable {H:Type} {enc:TypeId × Value->H} {P:Program} {w:World} {base:Nat} {spare:Nat->Bool} {held:Bool}
theorem trodAll_stays (hl:laidOutB P=true) {W W':World} {sp':Nat->Bool}:∀ {ts:List TypeId} {vs:List Value} {ds:List (DataW H)} {ps:List MemPlace},DataW.TrodAll enc P W base (fun _=>true) true ts vs ds ps ->
  (∀ t∈ts,P.readableRec t=true/\t<P.types.size)->(∀ p∈ps,W.sameAt W' p)->(∀ p∈ps,sp' p.block=true)->DataW.TrodAll enc P W' base sp' true ts vs ds ps
 | [],vs,ds,ps,h,_,_,_=>by
  obtain⟨rfl,rfl,rfl⟩:=trodAll_nil h;exact trodAll_mk0
 | t :: ts,vs,ds,ps,h,ht,h1,h2=>by
  obtain⟨v,vs',d,ds',p,q,rfl,rfl,rfl,hd,hrest⟩:=trodAll_cons h;exact trodAll_cons_mk (WideElems.Trod_stays hl (ht t (by simp)).1 (ht t (by simp)).2 hd (fun x hx=>h1 x (by simp[hx])) (fun x hx=>h2 x (by simp[hx])))
   (trodAll_stays hl hrest (fun u hu=>ht u (by simp[hu])) (fun x hx=>h1 x (by simp[hx])) (fun x hx=>h2 x (by simp[hx])))
theorem open_int {tN:TypeId} (hN:P.underlying tN=some (.int .i64)) {r:Reach} {b0:Nat} {v:Value} {d:DataW H} {p:List MemPlace} (hv:Value.okWide P w r b0 tN v) (h:DataW.Trod enc P w base spare held tN v d p) :
  ∃ n:Int,v=.int .i64 n/\(-9223372036854775808<=n/\n<=9223372036854775807):=by
 obtain⟨n,rfl⟩:=okWide_int hN hv;obtain⟨fuel,hf⟩:=h;obtain⟨a,e,_,w1⟩:=DataW.trod_int hN hf;simp[Value.cells] at e;subst e;exact⟨_,rfl,bounds_i64 w1⟩
end
end
section
def fld (x:Ins):Nat->Int
 | 0=>x.op
 | 1=>x.a
 | 2=>x.b
 | _=>x.n
end
section
open Go.ChangeShapes Go.WideShapes Go.ChangeAt Go.RowKit Go.Deep
structure HeapTypes (P:Program) (tH tOO tO tVV tV tN tB:TypeId) (h0 h1 o0 o1 v0 v1:Field):Prop where
 hH:P.underlying tH=some (.struct #[h0,h1])
 hh0:h0.type=tN/\h0.offset=0
 hh1:h1.type=tOO/\h1.offset=1
 cH:P.cellsOf tH=2
 cOO:P.cellsOf tOO=1
 hOO:P.underlying tOO=some (.slice tO)
 cO:P.cellsOf tO=2
 hO:P.underlying tO=some (.struct #[o0,o1])
 ho0:o0.type=tVV/\o0.offset=0
 ho1:o1.type=tB/\o1.offset=1
 cVV:P.cellsOf tVV=1
 hVV:P.underlying tVV=some (.slice tV)
 cV:P.cellsOf tV=2
 hV:P.underlying tV=some (.struct #[v0,v1])
 hv0:v0.type=tN/\v0.offset=0
 hv1:v1.type=tN/\v1.offset=1
 hN:P.underlying tN=some (.int .i64)
 cN:P.cellsOf tN=1
 hB:P.underlying tB=some .bool
 cB:P.cellsOf tB=1
 bO:P.bytesOf tO=32
 bV:P.bytesOf tV=16
section
variable {H:Type} {enc:TypeId × Value->H} {P:Program} {w:World} {base:Nat} {spare:Nat->Bool} {held:Bool}
variable {tH tOO tO tVV tV tN tB:TypeId} {h0 h1 o0 o1 v0 v1:Field}
end
theorem Tryz.cellsH:Tryz.prog.cellsOf 47=2:=by kernel_rfl
theorem Tryz.cellsOO:Tryz.prog.cellsOf 45=1:=by kernel_rfl
theorem Tryz.cellsO:Tryz.prog.cellsOf 92=2:=by kernel_rfl
theorem Tryz.cellsVV:Tryz.prog.cellsOf 48=1:=by kernel_rfl
theorem Tryz.cellsV:Tryz.prog.cellsOf 66=2:=by kernel_rfl
theorem Tryz.cellsN:Tryz.prog.cellsOf 3=1:=by kernel_rfl
theorem Tryz.cellsB:Tryz.prog.cellsOf 4=1:=by kernel_rfl
theorem Tryz.bytesO:Tryz.prog.bytesOf 92=32:=by kernel_rfl
theorem Tryz.bytesV:Tryz.prog.bytesOf 66=16:=by kernel_rfl
theorem types:∃ h0 h1 o0 o1 v0 v1,HeapTypes Tryz.prog 47 45 92 48 66 3 4 h0 h1 o0 o1 v0 v1 :=
 ⟨_,_,_,_,_,_,Tryz.underlying47,⟨rfl,rfl⟩,⟨rfl,rfl⟩,Tryz.cellsH,Tryz.cellsOO,Tryz.underlying45,Tryz.cellsO,Tryz.underlying92,⟨rfl,rfl⟩,⟨rfl,rfl⟩,Tryz.cellsVV,Tryz.underlying48,Tryz.cellsV,Tryz.underlying66,
  ⟨rfl,rfl⟩,⟨rfl,rfl⟩,Tryz.underlying3,Tryz.cellsN,Tryz.underlying4,Tryz.cellsB,Tryz.bytesO,Tryz.bytesV⟩
end
end Go.Proofs.YtepifccbbmdfcaaGreatDoor
