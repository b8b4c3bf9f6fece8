/- KTells. -/
import Derived.Lib.LazyBuf
import Derived.Test.YtddokajfafmhhaaGreatDoorCETopBytesRdRow
namespace Go.Proofs.YtddokajfafmhhaaGreatDoor
set_option maxRecDepth 100000
set_option maxHeartbeats 8000000
section
open Go.RowKit
structure KindsOwn (w:World) (base:Nat) (v:Value) (rows:List (Value × List Ins)):Prop where
 top:w.ownsRow base 77 1 v rows.length (rows.map (·.1))
 row:∀ p,p∈rows->RowOwn w base p.1 p.2
theorem cowns_other {w:World} {base base':Nat} {e e':TypeId} {size size':Nat} {v v':Value} {n n':Nat} {xs xs':List Value} (h:w.ownsRow base e size v n xs) (h':w.ownsRow base' e' size' v' n' xs') (hne:e≠e'):v.ownBlock=none\/v.ownBlock≠v'.ownBlock:=by
 rcases h.2 with⟨rfl,_⟩ | ⟨g,cap,cur,rfl,_,hg,_⟩
 ·exact Or.inl rfl
 ·right
  rcases h'.2 with⟨rfl,_⟩ | ⟨g',cap',cur',rfl,_,hg',_⟩
  ·simp[Value.ownBlock]
  ·simp only[Value.ownBlock]
   intro e1;simp only[Option.some.injEq] at e1;subst e1;rw[hg] at hg';simp only[Option.some.injEq,Obj.cells.injEq] at hg';exact hne hg'.2.1
theorem cowns_blk {w w':World} {base:Nat} {e:TypeId} {size:Nat} {v:Value} {n:Nat} {xs:List Value} (h:w.ownsRow base e size v n xs) (hg:w.grownBy w' v.ownBlock) {k:Nat} {c:Array Value} {t':TypeId} (hk:w.heap[k]?=some (.cells c t' (0,0))) (hne:t'≠e):w'.heap[k]?=some (.cells c t' (0,0)):=by
 refine(hg.block k (Array.getElem?_eq_some_iff.1 hk).1 ?_).trans hk
 rcases h.2 with⟨rfl,_⟩ | ⟨g,cap,cur,rfl,_,hgg,_⟩
 ·simp[Value.ownBlock]
 ·simp only[Value.ownBlock]
  intro e';simp only[Option.some.injEq] at e';subst e';rw[hk] at hgg;simp only[Option.some.injEq,Obj.cells.injEq] at hgg;exact hne hgg.2.1
theorem owns_set {w:World} {base:Nat} {e:TypeId} {size:Nat} {v:Value} {n:Nat} {xs:List Value} (h:w.ownsRow base e size v n xs) {B:Nat} {c:Array Value} {t':TypeId} (hB:w.heap[B]?=some (.cells c t' (0,0))) (hne:t'≠e) (j:Nat) (u:Value):(w.setCell ⟨B,j,none⟩ u).ownsRow base e size v n xs:=by
 refine World.ownsRow.kept h (row:=some B) ⟨rfl,rfl,rfl,by simp[World.setCell],fun k _ hk=>Below.heap_setCell _ _ _ _ (fun e=>hk (by rw[e]))⟩ ?_
 rcases h.2 with⟨rfl,_⟩ | ⟨g,cap,cur,rfl,_,hg,_⟩
 ·exact Or.inl rfl
 ·right
  simp only[Value.ownBlock];intro e1;simp only[Option.some.injEq] at e1;subst e1;rw[hB] at hg;simp only[Option.some.injEq,Obj.cells.injEq] at hg;exact hne hg.2.1
theorem KindsOwn.nil (w:World) (base:Nat):KindsOwn w base (.slice none 0 0) []:=⟨World.ownsRow_nil w base _ 1,fun p hp=>by cases hp⟩
theorem KindsOwn.alloc {w:World} {base:Nat} {v:Value} {rows:List (Value × List Ins)} (h:KindsOwn w base v rows) (o:Obj):KindsOwn (w.alloc o) base v rows :=
 ⟨h.top.alloc o,fun p hp=>(h.row p hp).alloc o⟩
theorem owns_but {w w':World} {R base:Nat} {e:TypeId} {size:Nat} {v:Value} {n:Nat} {xs:List Value} (h:w.ownsRow base e size v n xs) (k:But R w w') (hR:R<base):w'.ownsRow base e size v n xs :=
 World.ownsRow.kept h (row:=some R) ⟨k.os,k.tape,k.output,k.size,fun i hi hne=>k.block i hi (fun e=>hne (by rw[e]))⟩ (by
  cases hv:v.ownBlock with
  | none=>exact Or.inl rfl
  | some g=>exact Or.inr (fun e=>by
    simp only[Option.some.injEq] at e;have:=(World.ownsRow.lt h g hv).1;omega))
theorem KindsOwn.but {w w':World} {R base:Nat} {v:Value} {rows:List (Value × List Ins)} (h:KindsOwn w base v rows) (k:But R w w') (hR:R<base):KindsOwn w' base v rows :=
 ⟨owns_but h.top k hR,fun p hp=>(h.row p hp).but k hR⟩
theorem Tryz.infoRow:(Tryz.prog.info? 77).map (fun i=>(i.zero,i.size,i.bytes))=some (some (.slice none 0 0),1,24):=by kernel_rfl
theorem row_form {w:World} {base:Nat} {v:Value} {l:List Ins} (h:RowOwn w base v l):∃ ao n c,v=.slice ao n c:=by
 rcases h.2 with⟨rfl,_⟩ | ⟨g,cap,cur,rfl,_⟩ <;> exact⟨_,_,_,rfl⟩
theorem program_any (R:Nat) (ba:Option Addr) (cap:Nat) (bs:List Int) (k:Nat) (w:World) (h:RdAt w R ba cap bs k) (hR:Apart ba bs R) (hT:TabAt 0 w) (hR0:R≠0) :
  Calls Tryz.prog 71 #[.pointer (some ⟨R,0,none⟩)] w fun e w' =>
   ∃ v rows,e=.returned (.tuple #[.agg #[v],.int .i64 (rdProg bs k).2.1])/\rows.map (·.2)=(rdProg bs k).1/\KindsOwn w' w.heap.size v rows/\RdAt w' R ba cap bs (rdProg bs k).2.2/\But R w w':=by
 obtain⟨i0,hi,hzz⟩:=Option.map_eq_some_iff.1 Tryz.infoRow;simp only[Prod.mk.injEq] at hzz;obtain⟨hz0,hz1,hz2⟩:=hzz;obtain⟨n1,n2⟩:=rdNext_bd bs k h.bytes.fits;have hRw:=h.ne;have HOWN:Aside (∀ B,w.heap.size<=B->Apart ba bs B):=fun B hB=>own_block h hB
 go_enter Tryz.func71,Tryz.ntmps71
 go_wp2_with fail
 refine(cnext_any R ba cap bs k _ (h.alloc _) hR).mono ?_;rintro e w1 ⟨rfl,h1,hb1⟩;have N0:=hb1.blk (block_new w _) (by omega);have b1:But R w w1:=((But.refl _ _).alloc _).trans hb1;clear hb1
 by_cases he:(rdNext bs k).2.1=0
 ·have HR:Aside (rdProg bs k=rdRows bs (rdNext bs k).1.toNat [] (rdNext bs k).2.2):=by show rdProg bs k=_;rw[rdProg,if_neg (by simp[he])]
  rw[he];clear he;generalize (rdNext bs k).2.2=k1 at *;generalize (rdNext bs k).1=c at *;obtain⟨c,rfl⟩:=Int.eq_ofNat_of_zero_le n1;rw[Int.toNat_natCast] at HR
  go_wp2_with fail
  go_loopg [6,19] c (fun g s6 s19 wr=>∃ (i:Nat) (v:Value) (rows:List (Value × List Ins)) (j:Nat),i<=c/\g=c-i/\s19=.int .i64 i/\s6=v/\rows.length=i/\KindsOwn wr w.heap.size v rows/\RdAt wr R ba cap bs j/\But R w wr /\
   Aside (wr.heap[w.heap.size]?=some (.cells #[.slice none 0 0] 25 (0,0)))/\Aside (rdProg bs k=rdRows bs (c-i) (rows.map (·.2)) j))
  case atStart=>exact⟨0,_,[],k1,Nat.zero_le _,rfl,rfl,rfl,rfl,KindsOwn.nil _ _,h1,b1,N0,HR⟩
  case round =>
   obtain⟨i,v,rows,j,hi',rfl,rfl,rfl,hll,hO,hr,hb,hN,hA⟩:=hrel;clear h1 b1 HR N0;have HLL:Aside (rows.length=i):=hll;have hlb:rows.length<=255:=by omega
   clear hll
   by_cases hic:i<c
   ·have hiz:(i:Int)<(c:Int):=by omega
    go_wp2_with fail
    refine(behavior_any R ba cap bs j _ hr hR (hT.but hb hR0) hR0).mono ?_;rintro e w2 ⟨v2,rfl,hrow,h2,hb2⟩;have hb3:=hb.trans hb2;have hO2:=hO.but hb2 hRw;have hrow2:=hrow.le hb.size;have N2:=hb2.blk hN.out (by omega);have hs2:=hb3.size;obtain⟨va,vn,vc,rfl⟩:=row_form hrow;clear hr hb hb2 hO hN hrow;have HS:Aside (rdRows bs (c-i) (rows.map (·.2)) j=if (rdRow bs j).2.1≠0 then ([],(rdRow bs j).2.1,(rdRow bs j).2.2) else rdRows bs (c-(i+1)) (rows.map (·.2)++[(rdRow bs j).1]) (rdRow bs j).2.2):=by
     obtain⟨f,hf⟩:∃ f,c-i=f+1:=⟨c-i-1,by omega⟩
     show rdRows bs (c-i) (rows.map (·.2)) j=_
     rw[hf,rdRows,show c-(i+1)=f by omega]
    generalize rdRow bs j=q at *;obtain⟨x,er,j'⟩:=q;simp only at h2 hrow2
    by_cases her:er=0
    ·subst her
     have HN:Aside (rdProg bs k=rdRows bs (c-(i+1)) ((rows++[(Value.slice va vn vc,x)]).map (·.2)) j'):=by show rdProg bs k=_;rw[hA.out,HS.out];simp
     clear HS hA
     go_wp2_with (at_builtin;refine wpList_append_own _ rfl (.tmp 30) (.tmp 32) 23 rfl w.heap.size 77 i0 (.slice none 0 0) 1 24 Tryz.underlying23 hi hz0 hz1 hz2 rfl (by decide) u6 rows.length (rows.map (·.1)) rfl (hO2.top.alloc _) ⟨w2.heap.size,0,none⟩ 1 1 [.slice va vn vc] rfl rfl ?p1 ?p2 ?p3 ?p4 ?p5 ?_;(case p1=>exact cell_one_new _ _ _);(case p2=>intro u hu;simp at hu;subst hu;rfl);(case p3=>unfold maxLen;omega);(case p4=>omega);(case p5=>simp;omega);intro v1 w3 hO3 hg3 _)
     have hrow3:∀ g,u6.ownBlock=some g->w.heap.size<=g:=fun g hg=>(World.ownsRow.lt hO2.top g hg).1
     have hb4:But R w w3:=grown_but (hb3.alloc _) hg3 hrow3;have h4:RdAt w3 R ba cap bs j':=(h2.alloc _).grown hg3 (fun e=>by have:=hrow3 R e;omega) (fun B hB=>HOWN.out B (hrow3 B hB));have N4:Aside (w3.heap[w.heap.size]?=some (.cells #[.slice none 0 0] 25 (0,0))):=cowns_blk (hO2.top.alloc _) hg3 (block_old N2 _) (by decide);have hK:KindsOwn w3 w.heap.size v1 (rows++[(Value.slice va vn vc,x)]):=by
      refine⟨by simpa using hO3,fun p hp=>?_⟩
      rcases List.mem_append.1 hp with hp | hp
      ·exact World.ownsRow.kept ((hO2.row p hp).alloc _) hg3 (cowns_other (hO2.row p hp) hO2.top (by decide))
      ·simp at hp
       subst hp;exact World.ownsRow.kept (hrow2.alloc _) hg3 (cowns_other hrow2 hO2.top (by decide))
     clear hO2 hg3 h2 hb3 hrow2 hrow3 N2 hO3;go_wp2
     go_roundg (c-(i+1))
     case measure=>go_light;omega
     case rel =>
      go_light
      exact⟨i+1,_,_,j',by omega,rfl,by go_num,rfl,by simp[HLL.out],hK,h4,hb4,N4,HN.out⟩
    ·have heb:(er != 0)=true:=by simp[her]
     have HN:Aside (rdProg bs k=([],er,j')):=by show rdProg bs k=_;rw[hA.out,HS.out];simp[her]
     have c0:=ccell_blk N2 0;have f0:=cfz_blk N2 0;simp at c0;clear HS hA;go_wp2
     have M0:=ccell_blk (blk_set (j:=0) N2 (.slice none 0 0)) 0;simp at M0;refine bodyPost_ret (v:=.tuple #[.agg #[.slice none 0 0],.int .i64 er]) (by simp[results,Tryz.results71,go_sem,M0]) rfl ⟨.slice none 0 0,[],by rw[HN.out],by rw[HN.out];rfl,KindsOwn.nil _ _,?_,hb3.setNew (Nat.le_refl _) _ _⟩;rw[HN.out];exact h2.set (by omega) (HOWN.out _ (Nat.le_refl _)) _ _
   ·have HN:Aside (rdProg bs k=(rows.map (·.2),0,j)):=by show rdProg bs k=_;rw[hA.out,show c-i=0 by omega,rdRows]
    have N2:=hN.out;have c0:=ccell_blk N2 0;have f0:=cfz_blk N2 0;simp at c0;obtain⟨va,vn,vc,rfl⟩:∃ ao n c,u6=.slice ao n c:=by
     rcases hO.top.2 with⟨rfl,_⟩ | ⟨g,cap,cur,rfl,_⟩ <;> exact⟨_,_,_,rfl⟩
    clear hA;go_wp2
    have M0:=ccell_blk (blk_set (j:=0) N2 (.slice va vn vc)) 0;simp at M0;refine bodyPost_ret (v:=.tuple #[.agg #[.slice va vn vc],.int .i64 0]) (by simp[results,Tryz.results71,go_sem,M0]) rfl ⟨.slice va vn vc,rows,by rw[HN.out],by rw[HN.out],?_,?_,hb.setNew (Nat.le_refl _) _ _⟩
    ·exact⟨owns_set hO.top N2 (by decide) _ _,fun p hp=>owns_set (hO.row p hp) N2 (by decide) _ _⟩
    ·rw[HN.out]
     exact hr.set (by omega) (HOWN.out _ (Nat.le_refl _)) _ _
 ·have HU:Aside (rdProg bs k=([],(rdNext bs k).2.1,(rdNext bs k).2.2)):=by show rdProg bs k=_;rw[rdProg,if_pos he]
  have heb:((rdNext bs k).2.1 != 0)=true:=by simp[he]
  have c0:=ccell_blk N0 0;have f0:=cfz_blk N0 0;simp at c0;go_wp2
  have M0:=ccell_blk (blk_set (j:=0) N0 (.slice none 0 0)) 0;simp at M0;refine bodyPost_ret (v:=.tuple #[.agg #[.slice none 0 0],.int .i64 (rdNext bs k).2.1]) (by simp[results,Tryz.results71,go_sem,M0]) rfl ⟨.slice none 0 0,[],by rw[HU.out],by rw[HU.out];rfl,KindsOwn.nil _ _,?_,b1.setNew (Nat.le_refl _) _ _⟩;rw[HU.out];exact h1.set (by omega) (HOWN.out _ (Nat.le_refl _)) _ _
end
section
open Go.RowKit
theorem KindsOwn.le {w:World} {base base':Nat} {v:Value} {rows:List (Value × List Ins)} (h:KindsOwn w base v rows) (hb:base'<=base):KindsOwn w base' v rows :=
 ⟨⟨h.top.1,h.top.2.elim Or.inl (fun⟨g,cap,cur,hv,hg,r⟩=>Or.inr ⟨g,cap,cur,hv,Nat.le_trans hb hg,r⟩)⟩,fun p hp=>(h.row p hp).le hb⟩
theorem KindsOwn.set {w:World} {base:Nat} {v:Value} {rows:List (Value × List Ins)} (h:KindsOwn w base v rows) {B:Nat} {c:Array Value} {t':TypeId} (hB:w.heap[B]?=some (.cells c t' (0,0))) (h1:t'≠77) (h2:t'≠76) (j:Nat) (u:Value):KindsOwn (w.setCell ⟨B,j,none⟩ u) base v rows :=
 ⟨owns_set h.top hB h1 _ _,fun p hp=>owns_set (h.row p hp) hB h2 _ _⟩
theorem kinds_form {w:World} {base:Nat} {v:Value} {rows:List (Value × List Ins)} (h:KindsOwn w base v rows):∃ ao c,v=.slice ao rows.length c:=by
 rcases h.top.2 with⟨rfl,hn⟩ | ⟨g,cap,cur,rfl,_⟩
 ·exact⟨none,0,by rw[hn]⟩
 ·exact⟨_,_,rfl⟩
theorem readAll_any (ba:Option Addr) (cap:Nat) (bs:List Int) (w:World) (hB:BytesAt w ba bs) (hT:TabAt 0 w) :
  Calls Tryz.prog 56 #[.slice ba bs.length cap] w fun e w' =>
   ∃ v rows,e=.returned (.tuple #[.agg #[v],.int .i64 (rdAll bs).2])/\rows.map (·.2)=(rdAll bs).1/\KindsOwn w' w.heap.size v rows/\Below w.heap.size w w':=by
 have hsh:=hB.short;have hpos:0<w.heap.size:=World.block_lt_of_cell? _ _ (hT 0 (by omega)).1
 go_enter Tryz.func56,Tryz.ntmps56
 go_wp2_with fail
 have N0:((w.alloc (.cells #[.slice none 0 0] 25)).alloc (.cells #[.slice ba bs.length cap,.int .i64 0] 134)).heap[w.heap.size]?=some (.cells #[.slice none 0 0] 25 (0,0)):=block_old (block_new w _) _;have k0:Keeps w ((w.alloc (.cells #[.slice none 0 0] 25)).alloc (.cells #[.slice ba bs.length cap,.int .i64 0] 134)):=(Keeps.alloc w _).trans (Keeps.alloc _ _);have b0:Below w.heap.size w ((w.alloc (.cells #[.slice none 0 0] 25)).alloc (.cells #[.slice ba bs.length cap,.int .i64 0] 134)):=((Below.refl _ _).alloc (Nat.le_refl _) _).alloc (by simp) _
 have R0:RdAt ((w.alloc (.cells #[.slice none 0 0] 25)).alloc (.cells #[.slice ba bs.length cap,.int .i64 0] 134)) (w.heap.size+1) ba cap bs 0:=by
  refine⟨?_,hB.keeps k0,Nat.zero_le _⟩;have:=block_new (w.alloc (.cells #[.slice none 0 0] 25)) (.cells #[.slice ba bs.length cap,.int .i64 0] 134);rw[World.size_alloc] at this
  exact this
 have hR:Apart ba bs (w.heap.size+1):=fun hn b o e=>by
  obtain⟨b',o',e',hc⟩:=hB.cell 0 hn;rw[e] at e';simp only[Option.some.injEq,Addr.mk.injEq,and_true] at e';have:=World.block_lt_of_cell? _ _ hc;simp at this
  omega
 refine(beginning_any (w.heap.size+1) ba cap bs 0 _ R0 hR).mono ?_;rintro e w1 ⟨rfl,h1,hb1⟩;have N1:=hb1.blk N0 (by omega);have hs1:=hb1.size;simp at hs1;have b1:Below w.heap.size w w1:=b0.trans (hb1.below (by simp;omega) (by omega));have hT1:TabAt 0 w1:=(hT.keeps k0).but hb1 (by omega);clear R0 N0 k0 b0 hb1
 by_cases he:(rdBegin bs 0).1=0
 ·have HE:Aside ((rdBegin bs 0).1=0):=he
  rw[he];clear he
  go_wp2_with fail
  refine(program_any (w.heap.size+1) ba cap bs _ _ h1 hR hT1 (by omega)).mono ?_;rintro e w2 ⟨v,rows,rfl,hrows,hK,h2,hb2⟩;have N2:=hb2.blk N1 (by omega);have b2:Below w.heap.size w w2:=b1.trans (hb2.below (by omega) (by omega));have hK2:=hK.le (base':=w.heap.size) (by omega);have hs2:=hb2.size;have HD:Aside (rdAll bs=if (rdProg bs (rdBegin bs 0).2).2.1≠0 then ([],(rdProg bs (rdBegin bs 0).2).2.1) else if (rdProg bs (rdBegin bs 0).2).2.2<bs.length then ([],4) else ((rdProg bs (rdBegin bs 0).2).1,0)):=by
   show rdAll bs=_;rw[rdAll,if_neg (by rw[HE.out];simp)]
  clear hb2 hK b1 hT1 h1 N1 HE;generalize rdProg bs (rdBegin bs 0).2=q at *;obtain⟨l,er,k2⟩:=q;simp only at hrows h2;have HROWS:Aside (rows.map (·.2)=l):=hrows;clear hrows;obtain⟨va,vc,rfl⟩:=kinds_form hK2;have N3:∀ o,(w2.alloc o).heap[w.heap.size]?=some (.cells #[.slice none 0 0] 25 (0,0)):=fun o=>block_old N2 o
  have c0:∀ o,(w2.alloc o).cell? ⟨w.heap.size,0,none⟩=some (.slice none 0 0):=fun o=>by have:=ccell_blk (N3 o) 0;simpa using this
  have f0:∀ o,(w2.alloc o).frozen? ⟨w.heap.size,0,none⟩=false:=fun o=>cfz_blk (N3 o) 0
  have d1:∀ o,(w2.alloc o).cell? ⟨w.heap.size+1,1,none⟩=some (.int .i64 k2):=fun o=>by have:=ccell_blk (block_old h2.blk o) 1;simpa using this
  have hpl:=h2.place
  by_cases her:er=0
  ·subst her
   by_cases hlt:k2<bs.length
   ·have HU:Aside (rdAll bs=([],4)):=by show rdAll bs=_;rw[HD.out];simp[hlt]
    have hltz:(k2:Int)<(bs.length:Int):=by omega
    clear HD;go_wp2
    have M0:=ccell_blk (blk_set (j:=0) (N3 (.cells #[.slice va rows.length vc] 25)) (.slice none 0 0)) 0;simp at M0;exact bodyPost_ret (v:=.tuple #[.agg #[.slice none 0 0],.int .i64 4]) (by simp[results,Tryz.results56,go_sem,M0]) rfl ⟨.slice none 0 0,[],by rw[HU.out],by rw[HU.out];rfl,KindsOwn.nil _ _,(b2.alloc (by omega) _).setCell (Nat.le_refl _) _⟩
   ·have HU:Aside (rdAll bs=(l,0)):=by show rdAll bs=_;rw[HD.out];simp[hlt]
    have hltz:¬ (k2:Int)<(bs.length:Int):=by omega
    clear HD;go_wp2
    have M0:=ccell_blk (blk_set (j:=0) (N3 (.cells #[.slice va rows.length vc] 25)) (.slice va rows.length vc)) 0;simp at M0;exact bodyPost_ret (v:=.tuple #[.agg #[.slice va rows.length vc],.int .i64 0]) (by simp[results,Tryz.results56,go_sem,M0]) rfl ⟨.slice va rows.length vc,rows,by rw[HU.out],by rw[HU.out];exact HROWS.out,(hK2.alloc _).set (N3 _) (by decide) (by decide) _ _,(b2.alloc (by omega) _).setCell (Nat.le_refl _) _⟩
  ·have heb:(er != 0)=true:=by simp[her]
   have HU:Aside (rdAll bs=([],er)):=by show rdAll bs=_;rw[HD.out];simp[her]
   clear HD;go_wp2
   have M0:=ccell_blk (blk_set (j:=0) (N3 (.cells #[.slice va rows.length vc] 25)) (.slice none 0 0)) 0;simp at M0;exact bodyPost_ret (v:=.tuple #[.agg #[.slice none 0 0],.int .i64 er]) (by simp[results,Tryz.results56,go_sem,M0]) rfl ⟨.slice none 0 0,[],by rw[HU.out],by rw[HU.out];rfl,KindsOwn.nil _ _,(b2.alloc (by omega) _).setCell (Nat.le_refl _) _⟩
 ·have HU:Aside (rdAll bs=([],(rdBegin bs 0).1)):=by show rdAll bs=_;rw[rdAll,if_pos he]
  have heb:((rdBegin bs 0).1 != 0)=true:=by simp[he]
  have c0:=ccell_blk N1 0;have f0:=cfz_blk N1 0;simp at c0;go_wp2
  have M0:=ccell_blk (blk_set (j:=0) N1 (.slice none 0 0)) 0;simp at M0;exact bodyPost_ret (v:=.tuple #[.agg #[.slice none 0 0],.int .i64 (rdBegin bs 0).1]) (by simp[results,Tryz.results56,go_sem,M0]) rfl ⟨.slice none 0 0,[],by rw[HU.out],by rw[HU.out];rfl,KindsOwn.nil _ _,b1.setCell (Nat.le_refl _) _⟩
end
section
open Go.RowKit
def decErr (bs:List Int):Int:=if (rdAll bs).2≠0 then (rdAll bs).2 else rowsFault (rdAll bs).1
def slAddr:Value->Option Addr
 | .slice ao _ _=>ao
 | _=>none
def slCap:Value->Nat
 | .slice _ _ c=>c
 | _=>0
theorem rowOwn_form {w:World} {base:Nat} {v:Value} {l:List Ins} (h:RowOwn w base v l):v=.slice (slAddr v) l.length (slCap v):=by
 rcases h.2 with⟨rfl,hn⟩ | ⟨g,cap,cur,rfl,_⟩
 ·rw[hn];rfl
 ·rfl
theorem rowAt_own {w:World} {base:Nat} {v:Value} {l:List Ins} (h:RowOwn w base v l):RowAt w (slAddr v) l.length (fun i f=>fld (l.getD i noIns) f):=fun i hi=>by
 rcases h.2 with⟨rfl,hn⟩ | ⟨g,cap,cur,rfl,_,hg,hc,_,hsz,htake⟩
 ·omega
 ·refine⟨g,0,rfl,fun f hf=>?_⟩
  have hcell:=cell_of_row w g (0+i*4+f) cur 76 (0,0) hg;rw[hcell];have e:=insCells_get l i f hi hf;rw[<- htake,List.getElem?_take] at e
  split at e
  ·rw[show 0+i*4+f=i*4+f by omega]
   simpa using e
  ·cases e
theorem getD_snd (rows:List (Value × List Ins)) (r:Nat):(rows.map (·.2)).getD r []=(rows.getD r (.slice none 0 0,[])).2:=by
 by_cases h:r<rows.length
 ·simp[h]
 ·simp[h]
theorem prog_of_kinds {w:World} {base:Nat} {v:Value} {rows:List (Value × List Ins)} (h:KindsOwn w base v rows) (hn:rows.length<=255) (hb:∀ r,r∈rows.map (·.2)->r.length<=255/\∀ x,x∈r->insBd x) :
  ProgAt w (slAddr v) rows.length (fun r=>slAddr (rows.getD r (.slice none 0 0,[])).1) (lenOf (rows.map (·.2))) (fun r=>slCap (rows.getD r (.slice none 0 0,[])).1) (xOf (rows.map (·.2))):=by
 have hmem:∀ r,r<rows.length->rows.getD r (.slice none 0 0,[])∈rows:=fun r hr=>by
  simp[hr]
 have hrow:∀ r,r<rows.length->RowOwn w base (rows.getD r (.slice none 0 0,[])).1 (rows.getD r (.slice none 0 0,[])).2:=fun r hr=>h.row _ (hmem r hr)
 have hbr:∀ r,r<rows.length->(rows.getD r (.slice none 0 0,[])).2.length<=255/\∀ x,x∈(rows.getD r (.slice none 0 0,[])).2->insBd x:=fun r hr=>hb _ (List.mem_map.2 ⟨_,hmem r hr,rfl⟩)
 refine⟨fun r hr=>?_,fun r hr=>?_,by omega,fun r hr=>?_,fun r hr i hi f hf=>?_⟩
 ·rcases h.top.2 with⟨rfl,hn0⟩ | ⟨g,cap,cur,rfl,_,hg,hc,_,hsz,htake⟩
  ·omega
  ·refine⟨g,0,rfl,?_⟩
   rw[cell_of_row w g (0+r) cur 77 (0,0) hg,Nat.zero_add];have e:(rows.map (·.1))[r]?=some (rows.getD r (.slice none 0 0,[])).1:=by simp[hr]
   rw[<- htake,List.getElem?_take] at e
   split at e
   ·have e2:cur[r]?=some (rows.getD r (.slice none 0 0,[])).1:=by simpa using e
    rw[e2,lenOf,getD_snd];exact congrArg some (rowOwn_form (hrow r hr))
   ·cases e
 ·have:=rowAt_own (hrow r hr)
  unfold lenOf xOf
  rw[getD_snd];exact this
 ·have:=(hbr r hr).1
  unfold lenOf
  rw[getD_snd];omega
 ·unfold lenOf at hi
  rw[getD_snd] at hi
  unfold xOf
  rw[getD_snd];have hx:(rows.getD r (.slice none 0 0,[])).2.getD i noIns∈(rows.getD r (.slice none 0 0,[])).2:=by
   generalize (rows.getD r (.slice none 0 0,[])).2=l at *;rw[List.getD_eq_getElem?_getD,List.getElem?_eq_getElem hi];simp
  obtain⟨o1,o2,a1,a2,b1,b2,n1,n2⟩:=(hbr r hr).2 _ hx;generalize (rows.getD r (.slice none 0 0,[])).2.getD i noIns=x at *
  match f,hf with
  | 0,_=>simp only[fld];omega
  | 1,_=>simp only[fld];omega
  | 2,_=>simp only[fld];omega
  | 3,_=>simp only[fld];omega
theorem owns_below {w w':World} {base:Nat} {e:TypeId} {size:Nat} {v:Value} {n:Nat} {xs:List Value} (h:w.ownsRow base e size v n xs) (hb:Below w.heap.size w w'):w'.ownsRow base e size v n xs :=
 World.ownsRow.kept h (row:=none) ⟨hb.os,hb.tape,hb.output,hb.size,fun k hk _=>hb.block k hk⟩ (by cases hv:v.ownBlock <;> simp)
theorem KindsOwn.below {w w':World} {base:Nat} {v:Value} {rows:List (Value × List Ins)} (h:KindsOwn w base v rows) (hb:Below w.heap.size w w'):KindsOwn w' base v rows :=
 ⟨owns_below h.top hb,fun p hp=>owns_below (h.row p hp) hb⟩
theorem bytes_of_rows (rows:List (List Ins)):progBytes rows.length (lenOf rows) (xOf rows) rows.length=[116,119,(rows.length:Int)]++rows.flatMap rowB:=by
 unfold progBytes kindBytes
 rw[Deep.flatMap_by_index rows [] rowB]
 congr 2
 funext r
 unfold rowB rowBytes lenOf
 rw[Deep.flatMap_by_index (rows.getD r []) noIns insB]
 rfl
theorem decode_any (ba:Option Addr) (cap:Nat) (bs:List Int) (w:World) (hB:BytesAt w ba bs) (hT:TabAt 0 w) :
  Calls Tryz.prog 28 #[.slice ba bs.length cap] w fun e w' =>
   ∃ ao c rows A C,e=.returned (.tuple #[.agg #[.slice ao (List.length rows) c],.int .i64 (decErr bs)])/\Below w.heap.size w w'/\(decErr bs≠0->rows=[]) /\
    (decErr bs=0->rows=(rdAll bs).1/\ProgAt w' ao rows.length A (lenOf rows) C (xOf rows)/\progFault rows.length (lenOf rows) (xOf rows)=0/\progBytes rows.length (lenOf rows) (xOf rows) rows.length=bs):=by
 have hsh:=hB.short;have hz:¬ (5000:Int)<(bs.length:Int):=by omega
 go_enter Tryz.func28,Tryz.ntmps28
 go_wp2_with fail
 refine(readAll_any ba cap bs _ (hB.keeps (Keeps.alloc _ _)) (hT.keeps (Keeps.alloc _ _))).mono ?_;rintro e w1 ⟨v,rows,rfl,hrows,hK,hb1⟩;have N1:w1.heap[w.heap.size]?=some (.cells #[.slice none 0 0] 25 (0,0)):=(hb1.block _ (by simp)).trans (block_new w _);have b1:Below w.heap.size w w1:=(cbelow_box w _).trans (hb1.mono (by simp));have hs1:=hb1.size;simp at hs1;have hT1:TabAt 0 w1:=hT.keeps ((Keeps.alloc _ _).trans (Keeps.below hb1))
 obtain⟨va,vc,rfl⟩:=kinds_form hK;have N3:∀ o,(w1.alloc o).heap[w.heap.size]?=some (.cells #[.slice none 0 0] 25 (0,0)):=fun o=>block_old N1 o
 have c0:∀ o,(w1.alloc o).cell? ⟨w.heap.size,0,none⟩=some (.slice none 0 0):=fun o=>by have:=ccell_blk (N3 o) 0;simpa using this
 have f0:∀ o,(w1.alloc o).frozen? ⟨w.heap.size,0,none⟩=false:=fun o=>cfz_blk (N3 o) 0
 clear hb1
 by_cases he:(rdAll bs).2=0
 ·obtain⟨hbytes,hn,hbd⟩:=all_back hB.fits (rows:=(rdAll bs).1) (Prod.ext rfl he)
  have hlr:rows.length=(rdAll bs).1.length:=by rw[<- hrows];simp
  have HP:Aside (∀ w' b,KindsOwn w' b (.slice va rows.length vc) rows->ProgAt w' va (rdAll bs).1.length (fun r=>slAddr (rows.getD r (.slice none 0 0,[])).1) (lenOf (rdAll bs).1) (fun r=>slCap (rows.getD r (.slice none 0 0,[])).1) (xOf (rdAll bs).1)):=fun w' b hK'=>by
   have hp:=prog_of_kinds hK' (by omega) (by rw[hrows];exact hbd);rw[hrows,hlr] at hp;exact hp
  have hp:=HP.out _ _ hK;have HK:Aside (KindsOwn w1 (w.heap.size+1) (.slice va rows.length vc) rows):=by have:=hK;rw[World.size_alloc] at this;exact this
  have HDE:Aside (decErr bs=rowsFault (rdAll bs).1):=by show decErr bs=_;rw[decErr,if_neg (by simp[he])]
  have HBY:Aside (progBytes (rdAll bs).1.length (lenOf (rdAll bs).1) (xOf (rdAll bs).1) (rdAll bs).1.length=bs):=(bytes_of_rows _).trans hbytes.symm;rw[he,hlr];clear hbytes hn hbd hK hrows hlr he;generalize hL0:(rdAll bs).1=L0 at *;have HL0:Aside ((rdAll bs).1=L0):=hL0;clear hL0
  go_wp2_with fail
  refine(ccheck_any _ L0.length vc _ (lenOf L0) _ (xOf L0) _ (hT1.keeps (Keeps.alloc _ _)) (hp.keeps (Keeps.alloc _ _))).mono ?_;rintro e w2 ⟨rfl,hb2⟩;have HDE2:Aside (decErr bs=progFault L0.length (lenOf L0) (xOf L0)):=HDE.out;have k2:=Keeps.below hb2;have d0:=k2 _ _ (show(w1.alloc (.cells #[.slice va L0.length vc] 25)).cell? ⟨w1.heap.size,0,none⟩=some (.slice va L0.length vc) by simp);have N4:w2.heap[w.heap.size]?=some (.cells #[.slice none 0 0] 25 (0,0)):=(hb2.block _ (by simp;omega)).trans (N3 _)
  have e0:=ccell_blk N4 0;have g0:=cfz_blk N4 0;simp at e0;have b2:Below w.heap.size w w2:=(b1.alloc (by omega) _).trans (hb2.mono (by simp;omega));clear k2 hp N3 c0 f0 HDE
  by_cases hf:progFault L0.length (lenOf L0) (xOf L0)=0
  ·have HF:Aside (progFault L0.length (lenOf L0) (xOf L0)=0):=hf
   rw[hf];clear hf;go_wp2
   have M0:=ccell_blk (blk_set (j:=0) N4 (.slice va L0.length vc)) 0;simp at M0;have hfin:=HP.out _ _ (((HK.out.alloc (.cells #[.slice va L0.length vc] 25)).below hb2).set N4 (by decide) (by decide) 0 (.slice va L0.length vc));exact bodyPost_ret (v:=.tuple #[.agg #[.slice va L0.length vc],.int .i64 0]) (by simp[results,Tryz.results28,go_sem,M0]) rfl ⟨va,vc,L0,_,_,by rw[HDE2.out,HF.out],b2.setCell (Nat.le_refl _) _,fun h0=>absurd (HDE2.out.trans HF.out) h0,fun _=>⟨HL0.out.symm,hfin,HF.out,HBY.out⟩⟩
  ·have HF:Aside (¬ progFault L0.length (lenOf L0) (xOf L0)=0):=hf
   have hfb:(progFault L0.length (lenOf L0) (xOf L0) != 0)=true:=by simp[hf]
   clear hf;go_wp2
   have M0:=ccell_blk (blk_set (j:=0) N4 (.slice none 0 0)) 0;simp at M0;exact bodyPost_ret (v:=.tuple #[.agg #[.slice none 0 0],.int .i64 (progFault L0.length (lenOf L0) (xOf L0))]) (by simp[results,Tryz.results28,go_sem,M0]) rfl ⟨none,0,[],fun _=>none,fun _=>0,by rw[HDE2.out];rfl,b2.setCell (Nat.le_refl _) _,fun _=>rfl,fun h0=>absurd (HDE2.out.symm.trans h0) HF.out⟩
 ·have HDE:Aside (decErr bs=(rdAll bs).2):=by show decErr bs=_;rw[decErr,if_pos he]
  have heb:((rdAll bs).2 != 0)=true:=by simp[he]
  have heq:((rdAll bs).2 == 0)=false:=by simp[he]
  go_wp2
  have M0:=ccell_blk (blk_set (j:=0) (N3 (.cells #[.slice va rows.length vc] 25)) (.slice none 0 0)) 0;simp at M0;refine bodyPost_ret (v:=.tuple #[.agg #[.slice none 0 0],.int .i64 (rdAll bs).2]) (by simp[results,Tryz.results28,go_sem,M0]) rfl ⟨none,0,[],fun _=>none,fun _=>0,by rw[HDE.out];rfl,(b1.alloc (by omega) _).setCell (Nat.le_refl _) _,fun _=>rfl,fun h0=>absurd (HDE.out.symm.trans h0) he⟩
end
section
open Go.RowKit
theorem buf_bytes {w:World} {base:Nat} {e:TypeId} {g n cap:Nat} {bs:List Int} (h:Buf w base e (.slice (some ⟨g,0,none⟩) n cap) bs) (hf:∀ b∈bs,0<=b/\b<=255) (hs:bs.length<=5000):BytesAt w (some ⟨g,0,none⟩) bs :=
 ⟨fun i hi=>⟨g,0,rfl,by
  have:=h.cells rfl i (.int .u8 (bs.getD i 0)) (by simp[hi]);rw[<- this]
  congr 1
  unfold Addr.add;split <;> simp_all⟩,getD_bd hf,hs⟩
theorem rowsF_of {rows:List (List Ins)} {n:Nat} (hn:n=rows.length) (h:progFault n (lenOf rows) (xOf rows)=0):rowsFault rows=0:=by subst hn;exact h
theorem bytesOf_prog {rows:List (List Ins)} {n:Nat} (hn:n=rows.length) (h:progFault n (lenOf rows) (xOf rows)=0):bytesOf n (lenOf rows) (xOf rows)=progB rows:=by
 subst hn;rw[bytesOf,if_pos h,progB_of]
theorem prog_facts {rows:List (List Ins)} (hr:rows.length=3) (h:progFault 3 (lenOf rows) (xOf rows)=0) :
  bytesOf 3 (lenOf rows) (xOf rows)=progB rows/\(∀ b∈progB rows,0<=b/\b<=255)/\(progB rows).length<=2000/\0<(progB rows).length/\(rdAll (progB rows)).1=rows/\decErr (progB rows)=0 /\
   (∀ k,k<(progB rows).length->decErr ((progB rows).take k)=5)/\decErr (progB rows++[0])=4:=by
 have hF:rowsFault rows=0:=rowsF_of hr.symm h;obtain⟨hx,hl,hm⟩:=insOk_of_form hF;have hlen:(progB rows).length<=2000:=by
  have:=progBytes_length 3 (lenOf rows) (xOf rows) 3 (fun k hk=>(row_ok ((prog_ok h).2.2 k hk)).2.1);have e:progBytes 3 (lenOf rows) (xOf rows) 3=progB rows:=by rw[<- progB_of rows,hr]
  rw[e] at this
  omega
 have ha:=all_fwd hx;refine⟨bytesOf_prog hr.symm h,progB_bd hx (fun y hy=>by have:=hl y hy;omega) (by omega),hlen,by simp[progB],by rw[ha],?_,fun k hk=>?_,?_⟩
 ·rw[decErr,ha,if_neg (by simp)]
  exact hF
 ·have:=all_cut hx (cut_take hk)
  rw[decErr,this,if_pos (by decide)]
 ·have:=all_more hx 0
  rw[decErr,this,if_pos (by decide)]
end
end Go.Proofs.YtddokajfafmhhaaGreatDoor
