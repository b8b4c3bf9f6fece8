/- HCollect. -/
import Derived.Shelf.Sort.Plain
import Derived.Test.YtepifccbbmdfcaaGreatDoorProg
import Derived.Sort.OwnSortedInts
import Derived.Test.YtepifccbbmdfcaaGreatDoorCBHMove
namespace Go.Proofs.YtepifccbbmdfcaaGreatDoor
set_option maxRecDepth 100000
set_option maxHeartbeats 8000000
section
open Go.RowKit Go.Maps
structure MvMid (w wr:World) (M:Int) (sv:Value) (P:Nat) (out:List Ob) (i:Nat):Prop where
 below:Below w.heap.size w wr
 box:wr.heap[w.heap.size]?=some (.cells #[.int .i64 M,sv] 47 (0,0))
 own:∃ rows,HeapOwn wr (w.heap.size+1) (.slice (some ⟨w.heap.size+1,0,none⟩) P P) rows/\rows.length=P/\∀ j,j<i->(rows[j]?).map (·.2)=out[j]?
theorem mvMid_start (w:World) (M:Int) (sv:Value) (P:Nat) (out:List Ob) (hP:32*P<=140737488351232) :
  MvMid w ((w.alloc (Obj.cells #[Value.int IntKind.i64 M,sv] 47)).alloc (Obj.cells (madeCells #[Value.slice none 0 0,Value.bool false] (P*2)) 92)) M sv P out 0:=by
 obtain⟨n0,_,_,hb,_⟩:=boxes2 w (Obj.cells #[Value.int IntKind.i64 M,sv] 47) (Obj.cells (madeCells #[Value.slice none 0 0,Value.bool false] (P*2)) 92);refine⟨hb,n0,⟨List.replicate P (.slice none 0 0,⟨[],false⟩),?_,List.length_replicate,fun j hj=>absurd hj (Nat.not_lt_zero _)⟩⟩;have:=heap_made (w.alloc (Obj.cells #[Value.int IntKind.i64 M,sv] 47)) (w.heap.size+1) P (by simp) hP
 simpa using this
theorem MvMid.slot {w wr:World} {M:Int} {sv:Value} {P:Nat} {out:List Ob} {i:Nat} (h:MvMid w wr M sv P out i) (hi:i<P) {w1:World} (hb:Below wr.heap.size wr w1) :
  ∃ (va:Option Addr) (vb vc:Nat) (d:Bool),w1.cell? ⟨w.heap.size+1,i*2,none⟩=some (.slice va vb vc)/\w1.cell? ⟨w.heap.size+1,i*2+1,none⟩=some (.bool d)/\(∀ j,w1.frozen? ⟨w.heap.size+1,j,none⟩=false):=by
 obtain⟨rows,hO,hl,_⟩:=h.own;obtain⟨⟨rv,ob⟩,hp⟩:=at_some (l:=rows) (i:=i) (by omega);obtain⟨fa,fc,hf⟩:=(hO.row i _ hp).1.form;simp only at hf;subst hf;have hO1:=hO.below hb;exact⟨fa,ob.fs.length,fc,ob.dead,ownsRow_cell hO1.top rfl (by simp[obCells,pairs_fst,hp,obPair]),ownsRow_cell hO1.top rfl (by simp[obCells,pairs_snd,hp,obPair]),fun j=>ownsRow_frozen hO1.top rfl j⟩
theorem MvMid.step {w wr w1:World} {M:Int} {sv:Value} {P:Nat} {out:List Ob} {i:Nat} (h:MvMid w wr M sv P out i) (hi:i<P) {B:Nat} (hB:wr.heap.size<=B) (hb:Below wr.heap.size wr w1) {ob:Ob} {va:Option Addr} {vc:Nat}
  (hv:ValsOwn w1 B (.slice va ob.fs.length vc) ob.fs) (hl:16*ob.fs.length<=140737488351232) (ho:out[i]?=some ob) :
  MvMid w ((w1.setCell ⟨w.heap.size+1,i*2,none⟩ (.slice va ob.fs.length vc)).setCell ⟨w.heap.size+1,i*2+1,none⟩ (.bool ob.dead)) M sv P out (i+1):=by
 obtain⟨rows,hO,hlen,hd⟩:=h.own;have hs:w.heap.size+1<wr.heap.size:=(hO.top.lt _ rfl).2;have hO1:=hO.below hb;have hO2:=hO1.store (i:=i) (by omega) (.slice va ob.fs.length vc) ob (ownsRow_le hv (by omega)) hl (fun j q hq _=>apart_new hO hv hB j q hq);have hbw:Below w.heap.size w w1:=h.below.trans (hb.mono h.below.size);refine⟨(hbw.setCell (by show w.heap.size<=w.heap.size+1;omega) _).setCell (by show w.heap.size<=w.heap.size+1;omega) _,?_,⟨_,hO2,by rw[List.length_set];exact hlen,fun j hj=>?_⟩⟩
 ·rw[Deep.blk_setCell_other _ _ _ _ (by show w.heap.size≠w.heap.size+1;omega),Deep.blk_setCell_other _ _ _ _ (by show w.heap.size≠w.heap.size+1;omega)]
  exact(hb.block _ (by omega)).trans h.box
 ·by_cases e:j=i
  ·subst e
   rw[List.getElem?_set,if_pos rfl,if_pos (by omega),ho]
   rfl
  ·rw[List.getElem?_set,if_neg (Ne.symm e)]
   exact hd j (by omega)
theorem movedObjects_any (M:Int) (ao:Option Addr) (cap:Nat) (l:List Ob) (oa:Option Addr) (oc:Nat) (ps:List Int) (B:Nat) (order:List Int) (b:Int) (w:World) (h:ObsAt w ao l) (hI:IntsAt w oa ps) (hM:MvAt w B order b)
  (hps:Ok l.length ps) (hl60:l.length<=60) (hld:∀ p∈ps,Leads order (obAt l p).fs) (hok:Ok 60 order) :
  Calls Tryz.prog 119 #[.agg #[.int .i64 M,.slice ao l.length cap],.slice oa ps.length oc,.func (.func 158) #[] #[.pointer (some ⟨B,0,none⟩)]] w fun e w' =>
   ∃ g rows,e=.returned (.slice (some ⟨g,0,none⟩) ps.length ps.length)/\HeapOwn w' w.heap.size (.slice (some ⟨g,0,none⟩) ps.length ps.length) rows/\rows.map (·.2)=mvObs l order b ps/\Below w.heap.size w w':=by
 have hp60:=hps.len;obtain⟨L,hL⟩:∃ L,L=l.length:=⟨_,rfl⟩;have HL:Aside (L=l.length):=hL;rw[<- hL] at hl60 hp60 ⊢;clear hL;obtain⟨P,hP⟩:∃ P,P=ps.length:=⟨_,rfl⟩;have HP:Aside (P=ps.length):=hP;rw[<- hP] at hp60 ⊢;clear hP;have HPS:Aside (Ok l.length ps/\(∀ p∈ps,Leads order (obAt l p).fs)/\Ok 60 order):=⟨hps,hld,hok⟩;clear hps hld hok;have hmk:=run_make_rowk (P:=Tryz.prog) 2 45 92 _ 32 Tryz.underlying45 Tryz.infoO .i64 .i64 P (by omega) (by omega)
 go_enter Tryz.func119,Tryz.ntmps119
 go_wp2
 clear hmk;have hstart:Aside (MvMid w ((w.alloc (Obj.cells #[Value.int IntKind.i64 M,.slice ao L cap] 47)).alloc (Obj.cells (madeCells #[Value.slice none 0 0,Value.bool false] (P*2)) 92)) M (.slice ao L cap) P (mvObs l order b ps) 0):=mvMid_start w M _ P _ (by omega)
 go_loopg [16,8,9,10] P (fun g s16 s8 s9 s10 wr=>∃ i:Nat,i<=P/\g=P-i/\s16=.int .i64 i/\MvMid w wr M (.slice ao L cap) P (mvObs l order b ps) i)
 case atStart=>exact⟨0,Nat.zero_le _,rfl,rfl,hstart.out⟩
 case round =>
  obtain⟨i,hi,rfl,rfl,hmid⟩:=hrel;clear hstart;have hb:=hmid.below
  by_cases hiP:i<P
  ·have hiz:(i:Int)<(P:Int):=by omega
   obtain⟨p,hp⟩:=at_some (l:=ps) (i:=i) (by rw[<- HP.out];exact hiP);have hpm:=List.mem_of_getElem? hp;have hpb:=HPS.out.1.2 p hpm;rw[<- HL.out] at hpb;have hldp:=HPS.out.2.1 p hpm;obtain⟨q,rfl⟩:=Int.eq_ofNat_of_zero_le hpb.1;have hq:q<L:=by omega
   have hqz:(q:Int)<(L:Int):=by omega
   obtain⟨⟨fs,dead⟩,hx⟩:=at_some (l:=l) (i:=q) (by rw[<- HL.out];exact hq);have hob:obAt l (q:Int)=⟨fs,dead⟩:=by simp[obAt,hx]
   rw[hob] at hldp;have HO:Aside ((mvObs l order b ps)[i]?=some ⟨fs.map (mvV order b),dead⟩):=by
    show(mvObs l order b ps)[i]?=_
    rw[mvObs,List.getElem?_map,hp];simp[hob,mvO]
   obtain⟨bk,o,fa,fc,rfl,c1,c2,hfs,hfl⟩:=h.cell q _ hx;simp only at c1 c2 hfs hfl hldp;replace c1:=Keeps.below hb _ _ c1;replace c2:=Keeps.below hb _ _ c2;replace hfs:=hfs.keeps (Keeps.below hb);obtain⟨ib,io,rfl,d1⟩:=(hI.keeps (Keeps.below hb)) i _ hp;have q0:=cell_blk hmid.box 1;simp at q0;clear hp hx hob hpm;go_wp2
   have bb:=below_box wr (Obj.cells #[Value.slice fa fs.length fc,Value.bool dead] 92);have nb:=Deep.blk_alloc_new wr (Obj.cells #[Value.slice fa fs.length fc,Value.bool dead] 92);have e1:=cell_blk nb 0;have e2:=cell_blk nb 1;simp only[List.getElem?_toArray,List.getElem?_cons_zero,List.getElem?_cons_succ] at e1 e2;have hfs1:=hfs.keeps (Keeps.below bb);have hM1:=(hM.below hb).below bb;have hsz:(wr.alloc (Obj.cells #[Value.slice fa fs.length fc,Value.bool dead] 92)).heap.size=wr.heap.size+1:=by simp
   generalize wr.alloc (Obj.cells #[Value.slice fa fs.length fc,Value.bool dead] 92)=W1 at *;clear c1 c2 hfs nb d1 q0;refine wp_region_need (fun j=>j != 10) (fun w'=>w'.cell? ⟨wr.heap.size,0,none⟩=some (.slice fa fs.length fc)/\w'.cell? ⟨wr.heap.size,1,none⟩=some (.bool dead)) (by kernel_rfl) ⟨e1,e2⟩ (fun hS=>?_);refine tkN 0 hS ?_;refine tkN 1 hS ?_;refine tkN 2 hS ?_;refine tkN 3 hS ?_;refine tkN 4 hS ?_
   refine tkN 6 hS ?_;refine tkN 7 hS ?_;refine stN 5 (fun K hK=>?_);go_simp;refine(movedValues_any fa fc fs B order b W1.drew (hfs1.keeps (fun _ _ h=>h)) hfl (hM1.below (Below.refl _ _).drew) hldp HPS.out.2.2).mono ?_;rintro e w1 ⟨na,nc,rfl,hv1,hb1⟩;have hk1:Keeps W1 w1:=fun a v e=>Keeps.below hb1 a v e
   refine hK.out _ _ (fun _=>⟨hk1 _ _ e1,hk1 _ _ e2⟩) ?_;replace hS:=(⟨hk1 _ _ e1,hk1 _ _ e2⟩:w1.cell? ⟨wr.heap.size,0,none⟩=some (.slice fa fs.length fc)/\w1.cell? ⟨wr.heap.size,1,none⟩=some (.bool dead));clear hK;refine tkN 8 hS ?_;refine tkN 9 hS ?_;have hb2:Below wr.heap.size wr w1:=bb.trans ((((Below.refl W1.heap.size W1).drew).trans hb1).mono (by omega));obtain⟨va,vb,vc,vd,s1,s2,s3⟩:=hmid.slot hiP hb2
   have hlen:fs.length=(fs.map (mvV order b)).length:=by simp
   have hstep:=hmid.step hiP (B:=W1.drew.heap.size) (by show wr.heap.size<=W1.heap.size;omega) hb2 (ob:=⟨fs.map (mvV order b),dead⟩) (va:=na) (vc:=nc) (by rw[hlen] at hv1;exact hv1) (by rw[<- hlen];exact hfl) HO.out;simp only[List.length_map] at hstep;have HSTEP:Aside (MvMid w ((w1.setCell ⟨w.heap.size+1,i*2,none⟩ (.slice na fs.length nc)).setCell ⟨w.heap.size+1,i*2+1,none⟩ (.bool dead)) M (.slice (some ⟨bk,o,none⟩) L cap) P (mvObs l order b ps) (i+1)):=hstep
   clear hstep hv1 hk1 hb1 hb2 hS hlen;refine wpAnyN_one (i:=10) (by kernel_rfl) rfl (fun K2 hK2=>?_);simp only[List.getElem_toArray,List.getElem_cons_zero,List.getElem_cons_succ];go_simp;refine hK2.out _ _ (fun h=>absurd h (by decide)) ?_;clear hK2;refine dnN ?_;clear s1 s2 s3 e1 e2 hfs1 hM1 hmid;go_wp2
   go_roundg (P-(i+1))
   case measure=>go_light;omega
   case rel=>go_light;exact⟨i+1,by omega,rfl,by go_num,HSTEP.out⟩
  ·obtain rfl:i=P:=by omega
   go_wp2
   go_ret
   obtain⟨rows,hO,hlen,hd⟩:=hmid.own;refine⟨_,rows,rfl,hO.le (by omega),?_,hb⟩;refine List.ext_getElem? fun j=>?_
   rw[List.getElem?_map]
   by_cases hj:j<i
   ·exact hd j hj
   ·rw[List.getElem?_eq_none (by omega),List.getElem?_eq_none (by rw[mvObs_length',<- HP.out];omega)]
    rfl
end
section
open Go.Shelf
def Tryz.lays189_ren:Go.Shelf.Ren:=⟨fun | 189=>157 | 125=>165 | 257=>164 | 128=>175 | 129=>176 | 294=>166 | 295=>167 | 296=>168 | 297=>169 | 298=>170 | 299=>171 | 216=>172 | 300=>173 | 301=>174 | 328=>177 | 329=>178 | 330=>179 | 331=>180 | 332=>181 | 215=>182 | 343=>183 | n=>n,fun | 28=>22 | 3=>3 | 46=>196 | 0=>0 | 51=>206 | 53=>208 | 4=>4 | 183=>199 | 182=>198 | 131=>154 | 5=>5 | 9=>9 | 218=>209 | 222=>213 | 228=>215 | 229=>216 | n=>n,fun | n=>n⟩
theorem Tryz.lays189:Go.Proofs.Lays.n189 Tryz.prog Tryz.lays189_ren:={
 mixed:=by kernel_rfl
 f125:=Tryz.func165.trans (congrArg some (by kernel_rfl))
 f128:=Tryz.func175.trans (congrArg some (by kernel_rfl))
 f129:=Tryz.func176.trans (congrArg some (by kernel_rfl))
 f189:=Tryz.func157.trans (congrArg some (by kernel_rfl))
 f215:=Tryz.func182.trans (congrArg some (by kernel_rfl))
 f216:=Tryz.func172.trans (congrArg some (by kernel_rfl))
 f257:=Tryz.func164.trans (congrArg some (by kernel_rfl))
 f294:=Tryz.func166.trans (congrArg some (by kernel_rfl))
 f295:=Tryz.func167.trans (congrArg some (by kernel_rfl))
 f296:=Tryz.func168.trans (congrArg some (by kernel_rfl))
 f297:=Tryz.func169.trans (congrArg some (by kernel_rfl))
 f298:=Tryz.func170.trans (congrArg some (by kernel_rfl))
 f299:=Tryz.func171.trans (congrArg some (by kernel_rfl))
 f300:=Tryz.func173.trans (congrArg some (by kernel_rfl))
 f301:=Tryz.func174.trans (congrArg some (by kernel_rfl))
 f328:=Tryz.func177.trans (congrArg some (by kernel_rfl))
 f329:=Tryz.func178.trans (congrArg some (by kernel_rfl))
 f330:=Tryz.func179.trans (congrArg some (by kernel_rfl))
 f331:=Tryz.func180.trans (congrArg some (by kernel_rfl))
 f332:=Tryz.func181.trans (congrArg some (by kernel_rfl))
 f343:=Tryz.func183.trans (congrArg some (by kernel_rfl))
 t0:=Tryz.underlying0
 a0:=Tryz.isAgg0
 z0:=Tryz.sizeOf0
 v0:=Tryz.zeroValue0
 t3:=Tryz.underlying3
 a3:=Tryz.isAgg3
 z3:=Tryz.sizeOf3
 v3:=Tryz.zeroValue3
 t4:=Tryz.underlying4
 a4:=Tryz.isAgg4
 z4:=Tryz.sizeOf4
 v4:=Tryz.zeroValue4
 t5:=Tryz.underlying5
 a5:=Tryz.isAgg5
 z5:=Tryz.sizeOf5
 v5:=Tryz.zeroValue5
 t9:=Tryz.underlying9
 a9:=Tryz.isAgg9
 z9:=Tryz.sizeOf9
 v9:=Tryz.zeroValue9
 t28:=Tryz.underlying22
 a28:=Tryz.isAgg22
 z28:=Tryz.sizeOf22
 v28:=Tryz.zeroValue22
 t46:=Tryz.underlying196
 a46:=Tryz.isAgg196
 z46:=Tryz.sizeOf196
 v46:=Tryz.zeroValue196
 t51:=Tryz.underlying206
 a51:=Tryz.isAgg206
 z51:=Tryz.sizeOf206
 v51:=Tryz.zeroValue206
 t53:=Tryz.underlying208
 a53:=Tryz.isAgg208
 z53:=Tryz.sizeOf208
 v53:=Tryz.zeroValue208
 t131:=Tryz.underlying154
 a131:=Tryz.isAgg154
 z131:=Tryz.sizeOf154
 v131:=Tryz.zeroValue154
 t182:=Tryz.underlying198
 a182:=Tryz.isAgg198
 z182:=Tryz.sizeOf198
 v182:=Tryz.zeroValue198
 t183:=Tryz.underlying199
 a183:=Tryz.isAgg199
 z183:=Tryz.sizeOf199
 v183:=Tryz.zeroValue199
 t218:=Tryz.underlying209
 a218:=Tryz.isAgg209
 z218:=Tryz.sizeOf209
 v218:=Tryz.zeroValue209
 t222:=Tryz.underlying213
 a222:=Tryz.isAgg213
 z222:=Tryz.sizeOf213
 v222:=Tryz.zeroValue213
 t228:=Tryz.underlying215
 a228:=Tryz.isAgg215
 z228:=Tryz.sizeOf215
 v228:=Tryz.zeroValue215
 t229:=Tryz.underlying216
 a229:=Tryz.isAgg216
 z229:=Tryz.sizeOf216
 v229:=Tryz.zeroValue216 }
open Go.Sort Go.RowKit in
theorem Tryz.slices_Sort_int (blk off cap:Nat) (zs:List Int) (w:World) (hH:Holds (Value.int .i64) w blk off zs.toArray) (hblk:blk<w.heap.size) (hsz:zs.length<4611686018427387904) :
  Calls Tryz.prog 157 #[.slice (some ⟨blk,off,none⟩) zs.length cap] w fun e w' =>
   e=.returned (.tuple #[])/\∃ n os,w'=grow (putRow (Value.int .i64) (Sort.ahead w n) blk off (zs.mergeSort fun x y=>decide (x<=y)).toArray) os:=Any.slices_Sort_int Tryz.lays189 blk off cap zs w hH hblk hsz
end
section
open Go.RowKit
theorem Tryz.insertion_none (c:Nat) (w:World) :
  Calls Tryz.prog 166 #[.slice none 0 c,.int .i64 0,.int .i64 0] w fun e w'=>e=.returned (.tuple #[])/\w'=w:=by
 go_enter Tryz.func166,Tryz.ntmps166
 go_wp2
 go_loopg [6] 1 (fun g s6 wr=>wr=w/\s6=.int .i64 1)
 case atStart=>exact⟨rfl,rfl⟩
 case round =>
  obtain⟨rfl,rfl⟩:=hrel;go_wp2
  go_end0
  exact⟨rfl,rfl⟩
theorem Tryz.pdq_none (c:Nat) (l:Int) (w:World) :
  Calls Tryz.prog 164 #[.slice none 0 c,.int .i64 0,.int .i64 0,.int .i64 l] w fun e w'=>e=.returned (.tuple #[])/\w'=w:=by
 go_enter Tryz.func164,Tryz.ntmps164
 go_wp2
 go_loopg [1,2,3,8,9] 1 (fun g s1 s2 s3 s8 s9 wr=>wr=w/\s1=.int .i64 0/\s2=.int .i64 0)
 case atStart=>exact⟨rfl,rfl,rfl⟩
 case round =>
  obtain⟨rfl,rfl,rfl⟩:=hrel
  go_wp2_with (go_at_call 166;refine(Tryz.insertion_none _ _).mono ?_;rintro e w' ⟨rfl,rfl⟩)
  exact bodyPost_ret (v:=.tuple #[]) (by simp[results,Tryz.results164,go_sem]) rfl ⟨rfl,rfl⟩
theorem Tryz.sort_int_none0 (c:Nat) (w:World) :
  Calls Tryz.prog 157 #[.slice none 0 c] w fun e w'=>e=.returned (.tuple #[])/\w'=w:=by
 go_enter Tryz.func157,Tryz.ntmps157
 go_wp2_with fail
 refine(calls_of_every_depth fun D=>AnyS.bits_LenIn { Tryz.lays189 with } D 0 w (by omega) (by omega)).mono ?_;rintro e w' ⟨rfl,rfl⟩
 go_wp2_with (go_at_call 164;refine(Tryz.pdq_none _ _ _).mono ?_;rintro e w' ⟨rfl,rfl⟩)
 go_end0
 exact⟨rfl,rfl⟩
end
section
open Go.RowKit Go.Maps
theorem inHeapOrder_any (ov:Option Addr) (oc:Nat) (o:List Int) (n base:Nat) (w:World) (hI:IntsOwn w base (.slice ov o.length oc) o) (hok:Ok n o) (hn:n<=60) :
  Calls Tryz.prog 116 #[.slice ov o.length oc] w fun e w'=>e=.returned (.slice ov o.length oc)/\IntsOwn w' base (.slice ov o.length oc) (keptOf o n)/\Below base w w':=by
 have hlen:=hok.len;have hkl:=keptOf_length hok
 rcases hI.2 with⟨hv,h0⟩ | ⟨g,cap,cur,hv,hb,hg,h1,h2,h3,h4⟩
 ·have he:o=[]:=List.eq_nil_of_length_eq_zero h0
  subst he;simp only[List.length_nil,Value.slice.injEq] at hv;obtain⟨rfl,-,rfl⟩:=hv;have hk:keptOf [] n=[]:=List.eq_nil_of_length_eq_zero hkl;rw[hk]
  go_enter Tryz.func116,Tryz.ntmps116
  go_wp2_with (go_at_call 157;refine(Tryz.sort_int_none0 _ _).mono ?_;rintro e w' ⟨rfl,rfl⟩)
  go_ret
  exact⟨rfl,World.ownsRow_nil _ _ _ _,Below.refl _ _⟩
 ·simp only[Value.slice.injEq,true_and] at hv
  obtain⟨rfl,rfl⟩:=hv;have hsrt:=sort_kept hok;have hlt:=(Array.getElem?_eq_some_iff.1 hg).1;have hH:Go.Sort.Holds (Value.int .i64) w g 0 o.toArray:=holds_of_blockI hg (by simpa using h4);have hc:=Tryz.slices_Sort_int g 0 oc o w hH hlt (by omega);rw[hsrt] at hc;have HR:Aside (∀ w',(∃ n os,w'=Go.Sort.grow (Go.Sort.putRow (Value.int .i64) (Go.Sort.ahead w n) g 0 ((keptOf o n)).toArray) os)->True):=fun _ _=>trivial
  clear HR hH hsrt
  go_enter Tryz.func116,Tryz.ntmps116
  go_wp2_with fail
  refine hc.mono ?_;rintro e w' ⟨rfl,m,os,rfl⟩;have hO:=ownsRow_sortedI (w:=w) (n:=m) (os:=os) (ss:=o) (ts:=keptOf o n) hkl hb hg h1 h2 h3;have hG:=grownBy_sortedI (w:=w) (g:=g) (n:=m) (os:=os) (keptOf o n).toArray;generalize Go.Sort.grow (Go.Sort.putRow (Value.int .i64) (Go.Sort.ahead w m) g 0 ((keptOf o n)).toArray) os=w2 at *;go_wp2
  go_ret
  refine⟨rfl,?_,(Below.refl _ _).grown hG (by omega) (fun k hk=>by cases hk;exact hb)⟩
  unfold IntsOwn
  rw[hkl];exact hO
theorem cell_set2 (w:World) (g i j b o:Nat) (u v:Value) (h:b≠g):((w.setCell ⟨g,i,none⟩ u).setCell ⟨g,j,none⟩ v).cell? ⟨b,o,none⟩=w.cell? ⟨b,o,none⟩:=by
 refine World.cell?_of_block (a:=⟨b,o,none⟩) ?_;rw[Deep.blk_setCell_other _ _ _ _ h,Deep.blk_setCell_other _ _ _ _ h]
theorem collectS_no {M:Int} {l:List Ob} {roots:List Vl} (h:hMay M l roots=false):collectS M l roots=((0,[]),[],8):=by simp[collectS,h]
theorem collectS_yes {M:Int} {l:List Ob} {roots:List Vl} (h:hMay M l roots=true):collectS M l roots=((M,mvObs l (keptOf (reach l roots) l.length) 0 (keptOf (reach l roots) l.length)),roots.map (mvV (keptOf (reach l roots) l.length) 0),0):=by simp[collectS,h]
theorem collect_any (M:Int) (ao:Option Addr) (cap:Nat) (l:List Ob) (ra:Option Addr) (rc:Nat) (roots:List Vl) (w:World) (h:ObsAt w ao l) (hr:ValsAt w ra roots) (hrl:16*roots.length<=140737488351232) :
  Calls Tryz.prog 78 #[.agg #[.int .i64 M,.slice ao l.length cap],.slice ra roots.length rc] w fun e w' =>
   ∃ ga gc va vc,e=.returned (.tuple #[.agg #[.int .i64 (collectS M l roots).1.1,.slice ga (collectS M l roots).1.2.length gc],.slice va (collectS M l roots).2.1.length vc,.int .i64 (collectS M l roots).2.2])/\Below w.heap.size w w' /\
    ValsOwn w' w.heap.size (.slice va (collectS M l roots).2.1.length vc) (collectS M l roots).2.1 /\
    ∃ rows,rows.map (·.2)=(collectS M l roots).1.2/\HeapOwn w' w.heap.size (.slice ga (collectS M l roots).1.2.length gc) rows:=by
 cases hq:hMay M l roots with
 | false =>
  rw[collectS_no hq]
  go_enter Tryz.func78,Tryz.ntmps78
  go_wp2_with fail
  obtain⟨_,n1,k1,b1,hs⟩:=boxes2 w (Obj.cells #[.int .i64 M,.slice ao l.length cap] 47) (Obj.cells #[.int .i64 0,.slice none 0 0] 47);refine(check_any M ao cap l ra rc roots _ (h.keeps k1) (hr.keeps k1) hrl).mono ?_;rintro e w1 ⟨rfl,hb⟩;rw[hq];simp only[erS_false];have b2:=b1.trans (hb.mono (by omega));have m1:=(hb.block _ (by omega)).trans n1;clear n1 k1 b1 hs hb;have r1:=cell_blk m1 0;have r2:=cell_blk m1 1
  have r3:∀ j,w1.frozen? ⟨w.heap.size+1,j,none⟩=false:=fun j=>fz_blk m1 j
  simp at r1 r2;go_wp2
  have p1:=setCell_blk (setCell_blk m1 0 (.int .i64 0)) 1 (.slice none 0 0);have p2:=cell_blk p1 0;have p3:=cell_blk p1 1;simp at p2 p3;refine bodyPost_ret (v:=.tuple #[.agg #[.int .i64 0,.slice none 0 0],.slice none 0 0,.int .i64 8]) (by simp[results,Tryz.results78,go_sem,p2,p3]) rfl ⟨none,0,none,0,rfl,(b2.setCell (by show w.heap.size<=w.heap.size+1;omega) _).setCell (by show w.heap.size<=w.heap.size+1;omega) _,World.ownsRow_nil _ _ _ _,[],rfl,⟨World.ownsRow_nil _ _ _ _,fun i p hp=>by simp at hp,fun i j p q hp=>by simp at hp,by simp⟩⟩
 | true =>
  have hS:=collectS_yes hq;have hl60:=hMay_bound hq;have hrok:=reach_ok hq roots (hMay_roots' hq);have hkok:Ok l.length (keptOf (reach l roots) l.length):=keptOf_ok;have hkl:=keptOf_length hrok;obtain⟨kp,hkp⟩:∃ kp,kp=keptOf (reach l roots) l.length:=⟨_,rfl⟩;have hld1:Leads kp roots:=by rw[hkp];exact(leads_roots (l:=l)).kept hrok
  have hld2:∀ p∈kp,Leads kp (obAt l p).fs:=fun p hp=>by
   rw[hkp] at hp ⊢;exact(leads_fields hq (mem_keptOf.1 hp).2).kept hrok
  rw[hS];rw[<- hkp] at hkok hkl ⊢;have HKP:Aside (kp=keptOf (reach l roots) l.length):=hkp;have HKL:Aside (kp.length=(reach l roots).length):=hkl;clear hkp hS hkl;have hkp60:=hkok.len
  go_enter Tryz.func78,Tryz.ntmps78
  go_wp2_with fail
  obtain⟨n0,n1,k1,b1,hs⟩:=boxes2 w (Obj.cells #[.int .i64 M,.slice ao l.length cap] 47) (Obj.cells #[.int .i64 0,.slice none 0 0] 47);refine(check_any M ao cap l ra rc roots _ (h.keeps k1) (hr.keeps k1) hrl).mono ?_;rintro e w1 ⟨rfl,hb⟩;rw[hq];simp only[erS_true];have b2:=b1.trans (hb.mono (by omega));have m0:=(hb.block w.heap.size (by omega)).trans n0;have m1:=(hb.block (w.heap.size+1) (by omega)).trans n1
  have hs1:w.heap.size+1+1<=w1.heap.size:=by have:=hb.size;omega
  have k2:=k1.trans (Keeps.below hb);clear n0 n1 k1 b1 hs hb;have p0:=cell_blk m0 0;have p1:=cell_blk m0 1;simp at p0 p1
  go_wp2_with fail
  refine(reached_any M ao cap l ra rc roots _ (h.keeps k2) (hr.keeps k2) hrl hq).mono ?_;rintro e w2 ⟨ov,oc,rfl,hb2,hI⟩;have hs2:=hb2.size
  go_wp2_with fail
  refine(inHeapOrder_any ov oc (reach l roots) l.length w1.heap.size _ hI hrok hl60).mono ?_;rintro e w3 ⟨rfl,hI3,hb3⟩;rw[<- HKP.out] at hI3;rw[<- HKL.out] at hI3 ⊢;have hb13:Below w1.heap.size w1 w3:=hb2.trans hb3;have hs3:=hb13.size;clear hI hb2 hb3
  go_wp2_with fail
  refine(newPlaces_any ov oc kp 0 _ hI3.at (hkok.mono hl60) (by omega) (by omega)).mono ?_;rintro e w4 ⟨m,rfl,hP,hb4⟩;have hI4:=ownsRow_below hI3 hb4;have hb14:Below w1.heap.size w1 w4:=hb13.trans (hb4.mono hs3);have hs4:=hb14.size;clear hb4 hb13 hI3
  go_wp2_with fail
  refine(mover_any m kp 0 _ hP).mono ?_;rintro e w5 ⟨B,rfl,hM,hb5⟩;have hI5:IntsOwn w5 w1.heap.size (.slice ov kp.length oc) kp:=ownsRow_below hI4 hb5;have hb15:Below w1.heap.size w1 w5:=hb14.trans (hb5.mono hs4);have hs5:=hb15.size;clear hb5 hb14 hI4 hP;have k5:=k2.trans (Keeps.below hb15);have b5:Below w.heap.size w w5:=b2.trans (hb15.mono (by omega));have e0:=(hb15.cell (p:=⟨w.heap.size,0,none⟩) (by show w.heap.size<_;omega)).trans p0
  have e1:=(hb15.cell (p:=⟨w.heap.size,1,none⟩) (by show w.heap.size<_;omega)).trans p1;have m5:=(hb15.block (w.heap.size+1) (by omega)).trans m1;clear p0 p1 m0 m1 k2 b2 hb15
  go_wp2_with fail
  refine wp_region_need (fun _=>true) (fun w'=>w'.cell? ⟨w.heap.size,0,none⟩=some (.int .i64 M)/\w'.cell? ⟨w.heap.size,1,none⟩=some (.slice ao l.length cap)) (by kernel_rfl) ⟨e0,e1⟩ (fun hS=>?_);refine tkN 0 hS ?_;refine tkN 1 hS ?_;refine tkN 2 hS ?_;refine tkN 3 hS ?_;refine tkN 4 hS ?_;refine tkN 7 hS ?_;refine tkN 8 hS ?_;refine stN 5 (fun K hK=>?_);go_simp;refine(movedObjects_any M ao cap l ov oc kp B kp 0 w5.drew ((h.keeps k5).keeps (fun _ _ h=>h)) (hI5.at.keeps (fun _ _ h=>h)) (hM.below (Below.refl _ _).drew) hkok hl60 hld2 (hkok.mono hl60)).mono ?_
  rintro e w6 ⟨g,rows,rfl,hO,hrows,hb6⟩;have hk6:Keeps w5 w6:=fun a v e=>Keeps.below hb6 a v e
  refine hK.out _ _ (fun _=>⟨hk6 _ _ e0,hk6 _ _ e1⟩) ?_;replace hS:=(⟨hk6 _ _ e0,hk6 _ _ e1⟩:w6.cell? ⟨w.heap.size,0,none⟩=some (.int .i64 M)/\w6.cell? ⟨w.heap.size,1,none⟩=some (.slice ao l.length cap));clear hK;refine tkN 6 hS ?_;refine wpAnyN_one (i:=9) (by kernel_rfl) rfl (fun K2 hK2=>?_);simp only[List.getElem_toArray,List.getElem_cons_zero,List.getElem_cons_succ];go_simp;have hb56:Below w5.heap.size w5 w6:=((Below.refl w5.heap.size w5).drew).trans hb6
  refine(movedValues_any ra rc roots B kp 0 w6 ((hr.keeps k5).keeps hk6) hrl (hM.below hb56) hld1 (hkok.mono hl60)).mono ?_;rintro e w7 ⟨va,vc,rfl,hv,hb7⟩;have hk7:Keeps w6 w7:=fun a v e=>Keeps.below hb7 a v e
  have hb57:Below w5.heap.size w5 w7:=hb56.trans (hb7.mono hb56.size);refine hK2.out _ _ (fun _=>⟨hk7 _ _ hS.1,hk7 _ _ hS.2⟩) ?_;replace hS:=(⟨hk7 _ _ hS.1,hk7 _ _ hS.2⟩:w7.cell? ⟨w.heap.size,0,none⟩=some (.int .i64 M)/\w7.cell? ⟨w.heap.size,1,none⟩=some (.slice ao l.length cap));clear hK2;have m7:=(hb57.block (w.heap.size+1) (by omega)).trans m5;have r1:=cell_blk m7 0;have r2:=cell_blk m7 1;have r3:∀ j,w7.frozen? ⟨w.heap.size+1,j,none⟩=false:=fun j=>fz_blk m7 j
  simp at r1 r2;have b7:Below w.heap.size w w7:=b5.trans (hb57.mono (by omega));have hO7:HeapOwn w7 w5.heap.size (.slice (some ⟨g,0,none⟩) kp.length kp.length) rows:=hO.below hb7;have hv7:ValsOwn w7 w6.heap.size (.slice va roots.length vc) (roots.map (mvV kp 0)):=hv;have hs6:=hb56.size;clear hb57 hb56 hb6 hb7 hk6 hk7 hO hv m5 e0 e1 b5 k5 hM hI5;refine wpAnyN_one (i:=10) (by kernel_rfl) rfl (fun K3 hK3=>?_)
  simp only[List.getElem_toArray,List.getElem_cons_zero,List.getElem_cons_succ];go_simp;have hS8:((w7.setCell ⟨w.heap.size+1,0,none⟩ (.int .i64 M)).setCell ⟨w.heap.size+1,1,none⟩ (.slice (some ⟨g,0,none⟩) kp.length kp.length)).cell? ⟨w.heap.size,0,none⟩=some (.int .i64 M)/\((w7.setCell ⟨w.heap.size+1,0,none⟩ (.int .i64 M)).setCell ⟨w.heap.size+1,1,none⟩ (.slice (some ⟨g,0,none⟩) kp.length kp.length)).cell? ⟨w.heap.size,1,none⟩=some (.slice ao l.length cap) :=
   ⟨(cell_set2 _ _ _ _ _ _ _ _ (by omega)).trans hS.1,(cell_set2 _ _ _ _ _ _ _ _ (by omega)).trans hS.2⟩
  refine hK3.out _ _ (fun _=>hS8) ?_;replace hS:=hS8;clear hK3 hS8;refine tkN 11 hS ?_;refine tkN 12 hS ?_;refine dnN ?_;have p1:=setCell_blk (setCell_blk m7 0 (.int .i64 M)) 1 (.slice (some ⟨g,0,none⟩) kp.length kp.length);have p2:=cell_blk p1 0;have p3:=cell_blk p1 1;simp at p2 p3;have hO8:=(hO7.setLow (a:=⟨w.heap.size+1,0,none⟩) (by show w.heap.size+1<_;omega) (.int .i64 M)).setLow (a:=⟨w.heap.size+1,1,none⟩) (by show w.heap.size+1<_;omega) (.slice (some ⟨g,0,none⟩) kp.length kp.length)
  have hv8:=ownsRow_setCell_below (ownsRow_setCell_below hv7 (a:=⟨w.heap.size+1,0,none⟩) (by show w.heap.size+1<_;omega) (.int .i64 M)) (a:=⟨w.heap.size+1,1,none⟩) (by show w.heap.size+1<_;omega) (.slice (some ⟨g,0,none⟩) kp.length kp.length);have b8:Below w.heap.size w ((w7.setCell ⟨w.heap.size+1,0,none⟩ (.int .i64 M)).setCell ⟨w.heap.size+1,1,none⟩ (.slice (some ⟨g,0,none⟩) kp.length kp.length)):=(b7.setCell (by show w.heap.size<=w.heap.size+1;omega) _).setCell (by show w.heap.size<=w.heap.size+1;omega) _
  clear r1 r2 r3 hO7 hv7 b7 m7 hS p1;generalize (w7.setCell ⟨w.heap.size+1,0,none⟩ (.int .i64 M)).setCell ⟨w.heap.size+1,1,none⟩ (.slice (some ⟨g,0,none⟩) kp.length kp.length)=w8 at *;go_wp2
  refine bodyPost_ret (v:=.tuple #[.agg #[.int .i64 M,.slice (some ⟨g,0,none⟩) kp.length kp.length],.slice va roots.length vc,.int .i64 0]) (by simp[results,Tryz.results78,go_sem,p2,p3]) rfl ⟨some ⟨g,0,none⟩,kp.length,va,vc,by simp[mvObs_length'],b8,?_,rows,hrows,?_⟩
  ·rw[List.length_map];exact ownsRow_le hv8 (by omega)
  ·rw[mvObs_length'];exact hO8.le (by omega)
end
end Go.Proofs.YtepifccbbmdfcaaGreatDoor
