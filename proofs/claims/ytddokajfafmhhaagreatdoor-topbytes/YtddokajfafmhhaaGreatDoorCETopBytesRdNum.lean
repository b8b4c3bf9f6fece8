/- RdNum. -/
import Derived.Test.YtddokajfafmhhaaGreatDoorCETopBytesBufs
namespace Go.Proofs.YtddokajfafmhhaaGreatDoor
set_option maxRecDepth 100000
set_option maxHeartbeats 8000000
section
open Go.RowKit
theorem Tryz.infoByte:(Tryz.prog.info? 5).map (fun i=>(i.zero,i.size,i.bytes))=some (some (.int .u8 0),1,1):=by kernel_rfl
theorem bytesT:∃ i,ByteType Tryz.prog 60 5 i:=by
 obtain⟨i,hi,h⟩:=Option.map_eq_some_iff.1 Tryz.infoByte;simp only[Prod.mk.injEq] at h;exact⟨i,Tryz.underlying60,hi,h.1,h.2.1,h.2.2⟩
theorem appendNumber_any (v:Value) (bs:List Int) (n:Int) (base:Nat) (w:World) (hB:Buf w base 5 v bs) (hl:bs.length<=100000) (hbase:base<=w.heap.size) (h1:-1099511627776<=n) (h2:n<=1099511627776) :
  Calls Tryz.prog 69 #[v,.int .i64 n] w fun e w'=>∃ v',e=.returned v'/\Buf w' base 5 v' (bs++sev 7 (zig n))/\Below base w w':=by
 obtain⟨i0,BT⟩:=bytesT;obtain⟨z1,z2⟩:=zig_bd h1 h2
 go_enter Tryz.func69,Tryz.ntmps69
 go_upto_if 9 with fail
 go_cut [5] (fun s5 wx=>w=wx/\s5=.int .i64 (zig n))
 case first =>
  by_cases hn:n<0
  ·have hz:zig n=-2*n-1:=by rw[zig,if_pos hn]
   have HZ:Aside (zig n=-2*n-1):=hz;clear hz
   go_wp2_with fail
   go_meet
   go_light
   exact⟨rfl,by rw[HZ.out]⟩
  ·have hz:zig n=2*n:=by rw[zig,if_neg hn]
   have HZ:Aside (zig n=2*n):=hz;clear hz
   go_wp2_with fail
   go_meet
   go_light
   exact⟨rfl,by rw[HZ.out]⟩
 case rest =>
  obtain⟨rfl,rfl⟩:=hcut;generalize hzz:zig n=z at *;have HZZ:Aside (zig n=z):=hzz;clear hzz
  go_wp2_with fail
  go_loopg [0,5] 7 (fun g s0 s5 wr=>∃ (k:Nat) (u:Value) (ys:List Int) (q:Int),g=k+1/\s0=u/\s5=.int .i64 q/\0<=q/\q<=2199023255552/\q<128 ^ (k+1)/\Buf wr base 5 u ys/\Below base w wr/\Aside (ys++sev (k+1) q=bs++sev 7 z/\ys.length+k<=bs.length+6))
  case atStart=>exact⟨6,_,bs,z,rfl,rfl,rfl,z1,z2,by omega,hB,Below.refl _ _,rfl,Nat.le_refl _⟩
  case round =>
   obtain⟨k,u,ys,q,rfl,rfl,rfl,hq0,hqz,hq1,hBr,hbr,hA⟩:=hrel;have hyl:=hA.out.2;have hbz:=hbr.size
   by_cases hq:q<128
   ·have hfin:Aside (ys++[q]=bs++sev 7 z):=by
     have:=hA.out.1;rw[sev_small k q hq] at this
     exact this
    clear hA
    go_wp2_with (at_builtin;refine wpList_push (v:=u0) BT rfl (.tmp 24) (.tmp 27) rfl rfl (hBr.alloc _) q wr.heap.size rfl (by simp) (by omega) (by simp;omega) ?_;intro v' w1 hB1 hg1 hb1)
    go_ret
    exact⟨_,rfl,by rw[HZZ.out,<- hfin.out];exact hB1,(hbr.alloc (by omega) _).trans hb1⟩
   ·obtain⟨k,rfl⟩:∃ j,k=j+1:=⟨k-1,by
     have:k≠0:=fun h=>by subst h;simp at hq1;omega
     omega⟩
    have hnext:Aside ((ys++[q % 128+128])++sev (k+1) (q / 128)=bs++sev 7 z):=by
     have:=hA.out.1;rw[sev_big (k+1) q hq] at this
     show(ys++[q % 128+128])++sev (k+1) (q / 128)=bs++sev 7 z
     simpa using this
    have hq2:q / 128<128 ^ (k+1):=by
     have e:(128:Int) ^ (k+1+1)=128 ^ (k+1)*128:=Int.pow_succ ..;rw[e] at hq1;exact Int.ediv_lt_of_lt_mul (by omega) hq1
    have HQ:Aside (q / 128<128 ^ (k+1)):=hq2;clear hA hq1 hq2
    go_wp2_with (at_builtin;refine wpList_push (v:=u0) BT rfl (.tmp 15) (.tmp 20) rfl rfl (hBr.alloc _) (q % 128+128) wr.heap.size rfl (by simp) (by omega) (by simp;omega) ?_;intro v' w1 hB1 hg1 hb1)
    go_roundg (k+1)
    case measure=>go_light;omega
    case rel =>
     go_light
     refine⟨k,_,ys++[q % 128+128],q / 128,rfl,rfl,rfl,by omega,by omega,HQ.out,hB1,(hbr.alloc (by omega) _).trans hb1,hnext.out,?_⟩;simp;omega
end
section
open Go.RowKit
theorem appendInstr_any (v:Value) (bs:List Int) (k:Nat) (a b n:Int) (base:Nat) (w:World) (hT:TabAt 0 w) (hB:Buf w base 5 v bs) (hl:bs.length<=99000) (hbase:base<=w.heap.size) (hk:k<20)
  (a1:0<=a) (a2:a<=7) (b1:0<=b) (b2:b<=7) (h1:-1099511627776<=n) (h2:n<=1099511627776) :
  Calls Tryz.prog 55 #[v,.agg #[.int .i64 k,.int .i64 a,.int .i64 b,.int .i64 n]] w fun e w'=>∃ v',e=.returned v'/\Buf w' base 5 v' (bs++insBytes k a b n)/\Below base w w':=by
 obtain⟨i0,BT⟩:=bytesT;obtain⟨t0,t1,t2,t3,t4⟩:=hT.keeps (Keeps.alloc w (Obj.cells #[.int .i64 k,.int .i64 a,.int .i64 b,.int .i64 n] 76)) k hk;have hkz:(k:Int)<20:=by omega
 have HB:Aside (insBytes k a b n=[(k:Int)]++((if aOf k then [a+8*b] else [])++(if nOf k then sev 7 (zig n) else []))):=rfl
 cases hA:aOf k
 ·rw[hA] at t0
  cases hN:nOf k
  ·rw[hN] at t2
   rw[hA,hN] at HB;clear hA hN
   go_enter Tryz.func55,Tryz.ntmps55
   go_wp2_with (first | (at_builtin;refine wpList_push (v:=v) BT rfl (.tmp 10) (.tmp 14) rfl rfl (((hB.alloc _).alloc _).alloc _) k (w.heap.size+1+1) rfl ?p1 ?p2 ?p3 ?_;(case p1=>exact cell_new_at _ _ _ _ (by simp));(case p2=>omega);(case p3=>simp;omega);intro v1 w1 hB1 hg1 hb1;have H0:=Buf.keep (((hB.alloc _).alloc _).alloc _) hg1 (block_old (block_old (block_new w _) _) _) (by decide);have H1:=Buf.keep (((hB.alloc _).alloc _).alloc _) hg1 (block_old (block_new (w.alloc _) _) _) (by decide);simp only[World.size_alloc] at H1;have c0:=ccell_blk H0 0;have c1:=ccell_blk H0 1;have c2:=ccell_blk H0 2;have c3:=ccell_blk H0 3;have d0:=ccell_blk H1 0;have d2:=ccell_blk H1 2;have bl1:=hb1.size;simp at c0 c1 c2 c3 d0 d2 bl1))
   go_ret
   exact⟨_,rfl,by rw[HB.out];simpa using hB1,((((Below.refl base w).alloc hbase _).alloc (by simp;omega) _).alloc (by simp;omega) _).trans hb1⟩
  ·rw[hN] at t2
   rw[hA,hN] at HB;clear hA hN
   go_enter Tryz.func55,Tryz.ntmps55
   go_wp2_with (first | (at_builtin;refine wpList_push (v:=v) BT rfl (.tmp 10) (.tmp 14) rfl rfl (((hB.alloc _).alloc _).alloc _) k (w.heap.size+1+1) rfl ?p1 ?p2 ?p3 ?_;(case p1=>exact cell_new_at _ _ _ _ (by simp));(case p2=>omega);(case p3=>simp;omega);intro v1 w1 hB1 hg1 hb1;have H0:=Buf.keep (((hB.alloc _).alloc _).alloc _) hg1 (block_old (block_old (block_new w _) _) _) (by decide);have H1:=Buf.keep (((hB.alloc _).alloc _).alloc _) hg1 (block_old (block_new (w.alloc _) _) _) (by decide);simp only[World.size_alloc] at H1;have c0:=ccell_blk H0 0;have c1:=ccell_blk H0 1;have c2:=ccell_blk H0 2;have c3:=ccell_blk H0 3;have d0:=ccell_blk H1 0;have d2:=ccell_blk H1 2;have bl1:=hb1.size;simp at c0 c1 c2 c3 d0 d2 bl1) | (go_at_call 69;refine(appendNumber_any v1 _ n base _ hB1 (by simp;omega) (by omega) h1 h2).mono ?_;rintro e w3 ⟨v3,rfl,hB3,hb3⟩))
   go_ret
   exact⟨_,rfl,by rw[HB.out];simpa using hB3,(((((Below.refl base w).alloc hbase _).alloc (by simp;omega) _).alloc (by simp;omega) _).trans hb1).trans hb3⟩
 ·rw[hA] at t0
  cases hN:nOf k
  ·rw[hN] at t2
   rw[hA,hN] at HB;clear hA hN
   go_enter Tryz.func55,Tryz.ntmps55
   go_wp2_with (first | (at_builtin;refine wpList_push (v:=v) BT rfl (.tmp 10) (.tmp 14) rfl rfl (((hB.alloc _).alloc _).alloc _) k (w.heap.size+1+1) rfl ?p1 ?p2 ?p3 ?_;(case p1=>exact cell_new_at _ _ _ _ (by simp));(case p2=>omega);(case p3=>simp;omega);intro v1 w1 hB1 hg1 hb1;have H0:=Buf.keep (((hB.alloc _).alloc _).alloc _) hg1 (block_old (block_old (block_new w _) _) _) (by decide);have H1:=Buf.keep (((hB.alloc _).alloc _).alloc _) hg1 (block_old (block_new (w.alloc _) _) _) (by decide);simp only[World.size_alloc] at H1;have c0:=ccell_blk H0 0;have c1:=ccell_blk H0 1;have c2:=ccell_blk H0 2;have c3:=ccell_blk H0 3;have d0:=ccell_blk H1 0;have d2:=ccell_blk H1 2;have bl1:=hb1.size;simp at c0 c1 c2 c3 d0 d2 bl1) | (at_builtin;refine wpList_push (v:=v1) BT rfl (.tmp 18) (.tmp 26) rfl rfl (hB1.alloc _) (a+8*b) w1.heap.size rfl ?q1 ?q2 ?q3 ?_;(case q1=>simp);(case q2=>simp;omega);(case q3=>simp;omega);intro v2 w2 hB2 hg2 hb2;have J0:=Buf.keep (hB1.alloc _) hg2 (block_old H0 _) (by decide);have J1:=Buf.keep (hB1.alloc _) hg2 (block_old H1 _) (by decide);have e3:=ccell_blk J0 3;have f2:=ccell_blk J1 2;have bl2:=hb2.size;simp at e3 f2 bl2))
   go_ret
   exact⟨_,rfl,by rw[HB.out];simpa using hB2,(((((((Below.refl base w).alloc hbase _).alloc (by simp;omega) _).alloc (by simp;omega) _).trans hb1).alloc (by omega) _)).trans hb2⟩
  ·rw[hN] at t2
   rw[hA,hN] at HB;clear hA hN
   go_enter Tryz.func55,Tryz.ntmps55
   go_wp2_with (first | (at_builtin;refine wpList_push (v:=v) BT rfl (.tmp 10) (.tmp 14) rfl rfl (((hB.alloc _).alloc _).alloc _) k (w.heap.size+1+1) rfl ?p1 ?p2 ?p3 ?_;(case p1=>exact cell_new_at _ _ _ _ (by simp));(case p2=>omega);(case p3=>simp;omega);intro v1 w1 hB1 hg1 hb1;have H0:=Buf.keep (((hB.alloc _).alloc _).alloc _) hg1 (block_old (block_old (block_new w _) _) _) (by decide);have H1:=Buf.keep (((hB.alloc _).alloc _).alloc _) hg1 (block_old (block_new (w.alloc _) _) _) (by decide);simp only[World.size_alloc] at H1;have c0:=ccell_blk H0 0;have c1:=ccell_blk H0 1;have c2:=ccell_blk H0 2;have c3:=ccell_blk H0 3;have d0:=ccell_blk H1 0;have d2:=ccell_blk H1 2;have bl1:=hb1.size;simp at c0 c1 c2 c3 d0 d2 bl1) | (at_builtin;refine wpList_push (v:=v1) BT rfl (.tmp 18) (.tmp 26) rfl rfl (hB1.alloc _) (a+8*b) w1.heap.size rfl ?q1 ?q2 ?q3 ?_;(case q1=>simp);(case q2=>simp;omega);(case q3=>simp;omega);intro v2 w2 hB2 hg2 hb2;have J0:=Buf.keep (hB1.alloc _) hg2 (block_old H0 _) (by decide);have J1:=Buf.keep (hB1.alloc _) hg2 (block_old H1 _) (by decide);have e3:=ccell_blk J0 3;have f2:=ccell_blk J1 2;have bl2:=hb2.size;simp at e3 f2 bl2) | (go_at_call 69;refine(appendNumber_any v2 _ n base _ hB2 (by simp;omega) (by omega) h1 h2).mono ?_;rintro e w3 ⟨v3,rfl,hB3,hb3⟩))
   go_ret
   exact⟨_,rfl,by rw[HB.out];simpa using hB3,((((((((Below.refl base w).alloc hbase _).alloc (by simp;omega) _).alloc (by simp;omega) _).trans hb1).alloc (by omega) _)).trans hb2).trans hb3⟩
end
section
open Go.RowKit
def bytesOf (G:Nat) (L:Nat->Nat) (X:Nat->Nat->Nat->Int):List Int:=if progFault G L X=0 then progBytes G L X G else []
theorem encode_any (ao:Option Addr) (G cap:Nat) (A:Nat->Option Addr) (L C:Nat->Nat) (X:Nat->Nat->Nat->Int) (w:World) (hT:TabAt 0 w) (hp:ProgAt w ao G A L C X) :
  Calls Tryz.prog 27 #[.agg #[.slice ao G cap]] w fun e w'=>∃ v,e=.returned (.tuple #[v,.int .i64 (progFault G L X)])/\Buf w' w.heap.size 5 v (bytesOf G L X)/\Below w.heap.size w w':=by
 obtain⟨i0,BT⟩:=bytesT;have hG:=hp.many
 go_enter Tryz.func27,Tryz.ntmps27
 go_wp2_with fail
 have k1:=Keeps.alloc w (Obj.cells #[Value.slice ao G cap] 25);have b1:=cbelow_box w (Obj.cells #[Value.slice ao G cap] 25);have c1:(w.alloc (Obj.cells #[Value.slice ao G cap] 25)).cell? ⟨w.heap.size,0,none⟩=some (.slice ao G cap):=by simp
 refine(ccheck_any ao G cap A L C X _ (hT.keeps k1) (hp.keeps k1)).mono ?_;rintro e w1 ⟨rfl,hb⟩;have k2:=Keeps.below hb;have c2:=k2 _ _ c1;have b2:Below w.heap.size w w1:=b1.trans (hb.mono (by simp));have hp2:=hp.keeps (k1.trans k2);have hT2:=hT.keeps (k1.trans k2);have hs1:=b2.size;clear hb c1 k2 k1 b1 hp hT
 by_cases hf:progFault G L X=0
 ·have hbo:bytesOf G L X=progBytes G L X G:=by rw[bytesOf,if_pos hf]
  have HBO:Aside (bytesOf G L X=progBytes G L X G):=hbo;have HF:Aside (progFault G L X=0):=hf;obtain⟨g1,g6,hrows⟩:=prog_ok hf;rw[hf];clear hf hbo;have c3:∀ o,(w1.alloc o).cell? ⟨w.heap.size,0,none⟩=some (.slice ao G cap):=fun o=>Keeps.alloc w1 o _ _ c2
  go_wp2_with fail
  have hlit:=Buf.lit w1 w1.heap.size 5 [116,119,(G:Int)] (Nat.le_refl _) (by simp);have hb3:Below w1.heap.size w1 (w1.alloc (.cells ([116,119,(G:Int)].map (Value.int .u8)).toArray 5)):=cbelow_box _ _;clear c3 c2
  go_loopg [5,23] G (fun g s5 s23 wr=>∃ (r:Nat) (v:Value),r<=G/\g=G-r/\s23=.int .i64 r/\s5=v/\Buf wr w1.heap.size 5 v (progBytes G L X r)/\Below w1.heap.size w1 wr)
  case atStart=>exact⟨0,_,Nat.zero_le _,rfl,rfl,rfl,hlit,hb3⟩
  case round =>
   obtain⟨r,v,hr,rfl,rfl,rfl,hBr,hbr⟩:=hrel;clear hlit hb3
   by_cases hrG:r<G
   ·have hrz:(r:Int)<(G:Int):=by omega
    have hpr:=hp2.keeps (Keeps.below hbr);obtain⟨b,o,rfl,hca⟩:=hpr.outer r hrG;have hL:=hp2.long r hrG;obtain⟨l1,l60,hins⟩:=row_ok (hrows r hrG);have hlen:(progBytes G L X r).length<=4000:=by
     have:=progBytes_length G L X r (fun k hk=>(row_ok (hrows k (by omega))).2.1);omega
    have hRow:=hp2.rows r hrG;obtain⟨bb,oo,hAr,_⟩:=hRow 0 (by omega);rw[hAr] at hRow hca;have hsz:=hbr.size;clear hpr hAr
    go_wp2_with (at_builtin;refine wpList_push (v:=u5) BT rfl (.tmp 27) (.tmp 31) rfl rfl (hBr.alloc _) (L r) wr.heap.size rfl ?p1 ?p2 ?p3 ?_;(case p1=>simp);(case p2=>omega);(case p3=>simp;omega);intro v1 w2 hB1 hg1 hb1)
    have hb4:Below w1.heap.size w1 w2:=(hbr.alloc (by omega) _).trans hb1;have hB2:Buf w2 w1.heap.size 5 v1 (progBytes G L X r++([(L r:Int)]++rowBytes (X r) 0)):=by simpa[rowBytes] using hB1
    clear hB1 hg1 hb1 hBr hbr hca hsz
    go_loopg [5,35] (L r) (fun g s5 s35 wi=>∃ (i:Nat) (v:Value),i<=L r/\g=L r-i/\s35=.int .i64 i/\s5=v/\Buf wi w1.heap.size 5 v (progBytes G L X r++([(L r:Int)]++rowBytes (X r) i))/\Below w1.heap.size w1 wi)
    case atStart=>exact⟨0,_,Nat.zero_le _,rfl,rfl,rfl,hB2,hb4⟩
    case round =>
     obtain⟨i,v,hi,rfl,rfl,rfl,hBi,hbi⟩:=hrel;clear hB2 hb4
     by_cases hiL:i<L r
     ·have hiz:(i:Int)<(L r:Int):=by omega
      obtain⟨o1,o2,a1,a2,b1,b2',n1,n2⟩:=ins_ok (hins i hiL);obtain⟨bb',oo',hq,hx⟩:=(hRow.keeps (Keeps.below hbi)) i hiL;simp only[Option.some.injEq,Addr.mk.injEq,and_true] at hq;obtain⟨rfl,rfl⟩:=hq;have x0:wr.cell? ⟨bb,oo+i*4,none⟩=some (.int .i64 (X r i 0)):=hx 0 (by omega);have x1:=hx 1 (by omega);have x2:=hx 2 (by omega);have x3:=hx 3 (by omega);have hs:=rowBytes_succ (X r) i;have hrl:=rowBytes_length (X r) i
      have HS:Aside (rowBytes (X r) (i+1)=rowBytes (X r) i++insBytes (X r i 0) (X r i 1) (X r i 2) (X r i 3)):=hs;have hsz:=hbi.size;clear hx hs
      go_wp2_with fail
      generalize X r i 0=op at *;obtain⟨k,rfl⟩:=Int.eq_ofNat_of_zero_le o1;refine(appendInstr_any _ _ k _ _ _ w1.heap.size _ ((hT2.keeps (Keeps.below hbi)).keeps (Keeps.alloc _ _)) (hBi.alloc _) ?_ ?_ (by omega) a1 a2 b1 b2' n1 n2).mono ?_
      ·simp only[List.length_append,List.length_singleton];omega
      ·simp;omega
      ·rintro e w3 ⟨v3,rfl,hB3,hb3⟩
       have hb5:Below w1.heap.size w1 w3:=(hbi.alloc (by omega) _).trans hb3;clear x0 x1 x2 x3 hb3 hbi hBi;go_wp2
       go_roundg (L r-(i+1))
       case measure=>go_light;omega
       case rel =>
        go_light
        refine⟨i+1,_,by omega,rfl,by go_num,rfl,?_,hb5⟩;rw[HS.out]
        simpa using hB3
     ·obtain rfl:i=L r:=by omega
      go_wp2
      go_roundg (G-(r+1))
      case measure=>go_light;omega
      case rel=>go_light;exact⟨r+1,_,by omega,rfl,by go_num,rfl,by rw[progBytes_succ];exact hBi,hbi⟩
   ·obtain rfl:r=G:=by omega
    go_wp2
    go_ret2
    exact⟨u5,by rw[HF.out];rfl,by rw[HBO.out];exact hBr.le hs1,b2.trans (hbr.mono hs1)⟩
 ·have hbo:bytesOf G L X=[]:=by rw[bytesOf,if_neg hf]
  have HBO:Aside (bytesOf G L X=[]):=hbo;have hzb:(progFault G L X != 0)=true:=by simp[hf]
  clear hf hbo;go_wp2
  go_ret2
  exact⟨_,rfl,by rw[HBO.out];exact Buf.nil _ _ _,b2⟩
end
section
open Go.RowKit
structure BytesAt (w:World) (ba:Option Addr) (bs:List Int):Prop where
 cell:∀ i,i<bs.length->∃ b o,ba=some ⟨b,o,none⟩/\w.cell? ⟨b,o+i,none⟩=some (.int .u8 (bs.getD i 0))
 fits:∀ i,0<=bs.getD i 0/\bs.getD i 0<=255
 short:bs.length<=5000
theorem BytesAt.keeps {w w':World} {ba:Option Addr} {bs:List Int} (h:BytesAt w ba bs) (k:Keeps w w'):BytesAt w' ba bs :=
 ⟨fun i hi=>by obtain⟨b,o,e,hc⟩:=h.cell i hi;exact⟨b,o,e,k _ _ hc⟩,h.fits,h.short⟩
structure RdAt (w:World) (R:Nat) (ba:Option Addr) (cap:Nat) (bs:List Int) (k:Nat):Prop where
 blk:w.heap[R]?=some (.cells #[.slice ba bs.length cap,.int .i64 k] 134 (0,0))
 bytes:BytesAt w ba bs
 place:k<=bs.length
structure But (R:Nat) (w w':World):Prop where
 os:w'.os=w.os
 tape:w'.tape=w.tape
 output:w'.output=w.output
 size:w.heap.size<=w'.heap.size
 block:∀ k,k<w.heap.size->k≠R->w'.heap[k]?=w.heap[k]?
theorem But.refl (R:Nat) (w:World):But R w w:=⟨rfl,rfl,rfl,Nat.le_refl _,fun _ _ _=>rfl⟩
theorem But.trans {R:Nat} {a b c:World} (h:But R a b) (k:But R b c):But R a c :=
 ⟨k.os.trans h.os,k.tape.trans h.tape,k.output.trans h.output,Nat.le_trans h.size k.size,fun i hi hR=>(k.block i (Nat.lt_of_lt_of_le hi h.size) hR).trans (h.block i hi hR)⟩
theorem But.drewN {R:Nat} {a w:World} (h:But R a w) (n:Nat):But R a (w.drewN n):=⟨h.os,h.tape,h.output,h.size,h.block⟩
theorem But.alloc {R:Nat} {a w:World} (h:But R a w) (o:Obj):But R a (w.alloc o) :=
 h.trans ⟨rfl,rfl,rfl,by simp,fun k hk _=>Below.heap_alloc _ _ _ hk⟩
theorem But.setR {R:Nat} {a w:World} (h:But R a w) (j:Nat) (v:Value):But R a (w.setCell ⟨R,j,none⟩ v) :=
 h.trans ⟨rfl,rfl,rfl,by simp[World.setCell],fun k _ hR=>Below.heap_setCell _ _ _ _ hR⟩
theorem But.blk {R:Nat} {w w':World} (h:But R w w') {k:Nat} {x:Obj} (hk:w.heap[k]?=some x) (hR:k≠R):w'.heap[k]?=some x :=
 (h.block k (Array.getElem?_eq_some_iff.1 hk).1 hR).trans hk
theorem But.below {R B:Nat} {w w':World} (h:But R w w') (hB:B<=w.heap.size) (hR:B<=R):Below B w w' :=
 ⟨h.os,h.tape,h.output,h.size,fun k hk=>h.block k (by omega) (by omega)⟩
def Apart (ba:Option Addr) (bs:List Int) (R:Nat):Prop:=0<bs.length->∀ b o,ba=some ⟨b,o,none⟩->b≠R
theorem BytesAt.but {R:Nat} {w w':World} {ba:Option Addr} {bs:List Int} (h:BytesAt w ba bs) (k:But R w w') (hR:Apart ba bs R):BytesAt w' ba bs :=
 ⟨fun i hi=>by
  obtain⟨b,o,e,hc⟩:=h.cell i hi;exact⟨b,o,e,(World.cell?_of_block (w:=w) (k.block b (World.block_lt_of_cell? _ _ hc) (hR (by omega) b o e))).trans hc⟩,h.fits,h.short⟩
theorem RdAt.apart {w:World} {R:Nat} {ba:Option Addr} {cap:Nat} {bs:List Int} {k:Nat} (h:RdAt w R ba cap bs k) (hR:Apart ba bs R) {w':World} {k':Nat} (hb:But R w w')
  (hk:w'.heap[R]?=some (.cells #[.slice ba bs.length cap,.int .i64 k'] 134 (0,0))) (hp:k'<=bs.length):RdAt w' R ba cap bs k' :=
 ⟨hk,h.bytes.but hb hR,hp⟩
theorem rdNext_ok (bs:List Int) (k:Nat) (h:k<bs.length):rdNext bs k=(bs.getD k 0,0,k+1):=by rw[rdNext,if_pos h]
theorem rdNext_no (bs:List Int) (k:Nat) (h:¬ k<bs.length):rdNext bs k=(0,5,k):=by rw[rdNext,if_neg h]
theorem rd_step {w:World} {R:Nat} {ba:Option Addr} {cap:Nat} {bs:List Int} {k:Nat} (h:RdAt w R ba cap bs k) (hR:Apart ba bs R) (hk:k<bs.length) (n:Nat) :
  RdAt ((w.drewN n).setCell ⟨R,1,none⟩ (.int .i64 ((k:Int)+1))) R ba cap bs (k+1)/\But R w ((w.drewN n).setCell ⟨R,1,none⟩ (.int .i64 ((k:Int)+1))):=by
 have hb:But R w ((w.drewN n).setCell ⟨R,1,none⟩ (.int .i64 ((k:Int)+1))):=((But.refl _ _).drewN n).setR 1 _;refine⟨h.apart hR hb ?_ (by omega),hb⟩;have:=h.blk;simp[World.setCell,Array.getElem?_modify,this]
theorem cnext_any (R:Nat) (ba:Option Addr) (cap:Nat) (bs:List Int) (k:Nat) (w:World) (h:RdAt w R ba cap bs k) (hR:Apart ba bs R) :
  Calls Tryz.prog 92 #[.pointer (some ⟨R,0,none⟩)] w fun e w'=>e=.returned (.tuple #[.int .i64 (rdNext bs k).1,.int .i64 (rdNext bs k).2.1])/\RdAt w' R ba cap bs (rdNext bs k).2.2/\But R w w':=by
 have c0:=ccell_blk h.blk 0;have c1:=ccell_blk h.blk 1;simp at c0 c1;have f1:w.frozen? ⟨R,1,none⟩=false:=by simp[World.frozen?,h.blk]
 have hsh:=h.bytes.short;have hpl:=h.place
 by_cases hk:k<bs.length
 ·obtain⟨b,o,rfl,hc⟩:=h.bytes.cell k hk
  obtain⟨y1,y2⟩:=h.bytes.fits k;have hne:=hR (by omega) b o rfl;rw[rdNext_ok bs k hk];have H:Aside (RdAt w R (some ⟨b,o,none⟩) cap bs k):=h;generalize bs.getD k 0=y at *;have hkz:(k:Int)<(bs.length:Int):=by omega
  clear h
  go_enter Tryz.func92,Tryz.ntmps92
  go_wp2
  go_quiet (fail)
  go_wp2
  go_quiet (fail)
  go_wp2
  go_ret2
  exact⟨rfl,rd_step H.out hR hk _⟩
 ·rw[rdNext_no bs k hk]
  have hkz:(bs.length:Int)<=(k:Int):=by omega
  have H:Aside (RdAt w R ba cap bs k):=h;clear h
  go_enter Tryz.func92,Tryz.ntmps92
  go_wp2
  go_quiet (fail)
  go_wp2
  go_ret2
  exact⟨rfl,⟨H.out.blk,H.out.bytes.keeps (Keeps.drewN _ _),hpl⟩,(But.refl _ _).drewN _⟩
theorem rdNext_bd (bs:List Int) (k:Nat) (hf:∀ i,0<=bs.getD i 0/\bs.getD i 0<=255):0<=(rdNext bs k).1/\(rdNext bs k).1<=255:=by
 unfold rdNext
 split
 ·exact hf k
 ·simp
theorem signed_any (s:Int) (w:World) (h0:0<=s) (h1:s<=4611686018427387904) :
  Calls Tryz.prog 147 #[.int .i64 s] w fun e w'=>e=.returned (.int .i64 (unzig s))/\w'=w:=by
 by_cases h:s % 2=1
 ·have e:(s % 2 == 1)=true:=by simp[h]
  have HU:Aside (unzig s=-((s+1) / 2)):=by show unzig s=_;rw[unzig,if_pos h]
  clear h
  go_enter Tryz.func147,Tryz.ntmps147
  go_wp2
  go_ret
  refine⟨cret_num ?_,rfl⟩;rw[HU.out]
  go_light
  rw[Int.tdiv_eq_ediv_of_nonneg (by omega)];exact IntWalk.wrap64_in _ ⟨by omega,by omega⟩
 ·have e:(s % 2 == 1)=false:=by simp[h]
  have HU:Aside (unzig s=s / 2):=by show unzig s=_;rw[unzig,if_neg h]
  clear h
  go_enter Tryz.func147,Tryz.ntmps147
  go_wp2
  go_ret
  exact⟨cret_num HU.out.symm,rfl⟩
theorem registers_any (R:Nat) (ba:Option Addr) (cap:Nat) (bs:List Int) (k:Nat) (w:World) (h:RdAt w R ba cap bs k) (hR:Apart ba bs R) :
  Calls Tryz.prog 139 #[.pointer (some ⟨R,0,none⟩)] w fun e w'=>e=.returned (.tuple #[.int .i64 (rdRegs bs k).1,.int .i64 (rdRegs bs k).2.1,.int .i64 (rdRegs bs k).2.2.1])/\RdAt w' R ba cap bs (rdRegs bs k).2.2.2/\But R w w':=by
 obtain⟨n1,n2⟩:=rdNext_bd bs k h.bytes.fits
 go_enter Tryz.func139,Tryz.ntmps139
 go_wp2_with fail
 refine(cnext_any R ba cap bs k w h hR).mono ?_;rintro e w1 ⟨rfl,h1,hb1⟩
 by_cases he:(rdNext bs k).2.1=0
 ·by_cases hc:64<=(rdNext bs k).1
  ·have HU:Aside (rdRegs bs k=(0,0,4,(rdNext bs k).2.2)):=by show rdRegs bs k=_;rw[rdRegs,if_neg (by simp[he]),if_pos hc]
   rw[he];clear he;go_wp2
   go_ret3
   exact⟨by rw[HU.out];rfl,by rw[HU.out];exact h1,hb1⟩
  ·have HU:Aside (rdRegs bs k=((rdNext bs k).1 % 8,(rdNext bs k).1 / 8,0,(rdNext bs k).2.2)):=by show rdRegs bs k=_;rw[rdRegs,if_neg (by simp[he]),if_neg hc]
   rw[he];clear he;go_wp2
   go_ret3
   exact⟨by rw[HU.out];rfl,by rw[HU.out];exact h1,hb1⟩
 ·have HU:Aside (rdRegs bs k=(0,0,(rdNext bs k).2.1,(rdNext bs k).2.2)):=by show rdRegs bs k=_;rw[rdRegs,if_pos he]
  have heb:((rdNext bs k).2.1 != 0)=true:=by simp[he]
  go_wp2
  go_ret3
  exact⟨by rw[HU.out];rfl,by rw[HU.out];exact h1,hb1⟩
end
section
open Go.RowKit
theorem number_any (R:Nat) (ba:Option Addr) (cap:Nat) (bs:List Int) (k:Nat) (w:World) (h:RdAt w R ba cap bs k) (hR:Apart ba bs R) :
  Calls Tryz.prog 140 #[.pointer (some ⟨R,0,none⟩)] w fun e w'=>e=.returned (.tuple #[.int .i64 (rdNum bs 6 0 0 1 k).1,.int .i64 (rdNum bs 6 0 0 1 k).2.1])/\RdAt w' R ba cap bs (rdNum bs 6 0 0 1 k).2.2/\But R w w':=by
 go_enter Tryz.func140,Tryz.ntmps140
 go_wp2_with fail
 go_loopg [4,5,9] 6 (fun g s4 s5 s9 wr=>∃ (i:Nat) (s p:Int) (j:Nat),i<=6/\g=6-i/\s4=.int .i64 s/\s5=.int .i64 p/\s9=.int .i64 i/\0<=s/\1<=p/\s<=4398046511104/\p<=4398046511104/\Aside (s<p/\p=128 ^ i)/\RdAt wr R ba cap bs j/\But R w wr/\Aside (rdNum bs 6 0 0 1 k=rdNum bs (6-i) i s p j))
 case atStart=>exact⟨0,0,1,k,by omega,rfl,rfl,rfl,rfl,by omega,by omega,by omega,by omega,⟨by omega,rfl⟩,h,But.refl _ _,rfl⟩
 case round =>
  obtain⟨i,s,p,j,hi,rfl,rfl,rfl,rfl,hs0,hp1,hsz,hpz,hsp,hr,hb,hA⟩:=hrel;clear h
  by_cases hi6:i<6
  ·have hiz:(i:Int)<6:=by omega
   go_wp2_with fail
   refine(cnext_any R ba cap bs j _ hr hR).mono ?_;rintro e w1 ⟨rfl,h1,hb1⟩;obtain⟨n1,n2⟩:=rdNext_bd bs j hr.bytes.fits;have hb2:=hb.trans hb1;have HN:Aside (rdNum bs (6-i) i s p j=(if (rdNext bs j).2.1≠0 then (0,(rdNext bs j).2.1,(rdNext bs j).2.2)
     else if 128<=(rdNext bs j).1 then rdNum bs (6-(i+1)) (i+1) (s+(rdNext bs j).1 % 128*p) (p*128) (rdNext bs j).2.2
     else if (rdNext bs j).1=0/\0<i then (0,4,(rdNext bs j).2.2) else (unzig (s+(rdNext bs j).1 % 128*p),0,(rdNext bs j).2.2))):=by
    obtain⟨f,hf⟩:∃ f,6-i=f+1:=⟨5-i,by omega⟩
    show rdNum bs (6-i) i s p j=_
    rw[hf,rdNum,show 6-(i+1)=f by omega]
   have hpz':p<=34359738368:=by
    have e:=hsp.out.2;have hc:i=0\/i=1\/i=2\/i=3\/i=4\/i=5:=by omega
    rcases hc with rfl | rfl | rfl | rfl | rfl | rfl <;> (simp at e;omega)
   have hspl:=hsp.out.1;have hmul0:0<=(rdNext bs j).1 % 128*p:=Int.mul_nonneg (by omega) (by omega);have hmul1:(rdNext bs j).1 % 128*p<=127*p:=Int.mul_le_mul_of_nonneg_right (by omega) (by omega);have hp5:Aside (p*128=128 ^ (i+1)):=by show p*128=_;rw[hsp.out.2,Int.pow_succ]
   clear hr hb1 hb hsp;generalize hq:rdNext bs j=q at *;obtain⟨c,er,j'⟩:=q;simp only at n1 n2 h1 hmul0 hmul1
   by_cases he:er=0
   ·subst he
    by_cases hc:128<=c
    ·have HU:Aside (rdNum bs (6-i) i s p j=rdNum bs (6-(i+1)) (i+1) (s+c % 128*p) (p*128) j'):=by
      show rdNum bs (6-i) i s p j=_
      rw[HN.out];simp[hc]
     clear HN hq;go_wp2
     go_roundg (6-(i+1))
     case measure=>go_light;omega
     case rel =>
      go_light
      exact⟨i+1,s+c % 128*p,p*128,j',by omega,rfl,rfl,rfl,by go_num,by omega,by omega,by omega,by omega,⟨by omega,hp5.out⟩,h1,hb2,hA.out.trans HU.out⟩
    ·by_cases hz:c=0/\0<i
     ·obtain⟨rfl,hi0⟩:=hz
      have HU:Aside (rdNum bs 6 0 0 1 k=(0,4,j')):=by
       show rdNum bs 6 0 0 1 k=_
       rw[hA.out,HN.out];simp[hi0]
      have hi0z:(0:Int)<(i:Int):=by omega
      clear HN hq hA;go_wp2
      go_ret2
      exact⟨by rw[HU.out];rfl,by rw[HU.out];exact h1,hb2⟩
     ·have HU:Aside (rdNum bs 6 0 0 1 k=(unzig (s+c % 128*p),0,j')):=by
       show rdNum bs 6 0 0 1 k=_
       rw[hA.out,HN.out,if_neg (by simp),if_neg hc,if_neg hz]
      clear HN hq hA
      by_cases hc0:c=0
      ·have ec:(c == 0)=true:=by simp[hc0]
       have hi0:¬ (0:Int)<(i:Int):=fun hh=>hz ⟨hc0,by omega⟩
       have hd:decide ((0:Int)<(i:Int))=false:=by simpa using hi0
       have hdn:decide (0<i)=false:=by simp;omega
       clear hc0 hz hi0
       go_wp2_with fail
       refine(signed_any _ _ (by omega) (by omega)).mono ?_;rintro e w2 ⟨rfl,hw2⟩;rw[hw2];go_wp2
       go_ret2
       exact⟨by rw[HU.out];rfl,by rw[HU.out];exact h1,hb2⟩
      ·have ec:(c == 0)=false:=beq_eq_false_iff_ne.2 hc0
       clear hc0 hz
       go_wp2_with fail
       refine(signed_any _ _ (by omega) (by omega)).mono ?_;rintro e w2 ⟨rfl,hw2⟩;rw[hw2];go_wp2
       go_ret2
       exact⟨by rw[HU.out];rfl,by rw[HU.out];exact h1,hb2⟩
   ·have HU:Aside (rdNum bs 6 0 0 1 k=(0,er,j')):=by
     show rdNum bs 6 0 0 1 k=_
     rw[hA.out,HN.out];simp[he]
    have heb:(er != 0)=true:=by simp[he]
    clear HN hq hA;go_wp2
    go_ret2
    exact⟨by rw[HU.out];rfl,by rw[HU.out];exact h1,hb2⟩
  ·have HU:Aside (rdNum bs 6 0 0 1 k=(0,4,j)):=by
    show rdNum bs 6 0 0 1 k=_
    rw[hA.out,show 6-i=0 by omega,rdNum]
   go_wp2
   go_ret2
   exact⟨by rw[HU.out];rfl,by rw[HU.out];exact hr,hb⟩
theorem beginning_any (R:Nat) (ba:Option Addr) (cap:Nat) (bs:List Int) (k:Nat) (w:World) (h:RdAt w R ba cap bs k) (hR:Apart ba bs R) :
  Calls Tryz.prog 70 #[.pointer (some ⟨R,0,none⟩)] w fun e w'=>e=.returned (.int .i64 (rdBegin bs k).1)/\RdAt w' R ba cap bs (rdBegin bs k).2/\But R w w':=by
 have i0:∀ w,(Instr.index 155 (.agg #[.int .i64 116,.int .i64 119]) (.int .i64 0)).run Tryz.prog w=.ok (.int .i64 116) w:=fun _=>by kernel_rfl
 have i1:∀ w,(Instr.index 155 (.agg #[.int .i64 116,.int .i64 119]) (.int .i64 1)).run Tryz.prog w=.ok (.int .i64 119) w:=fun _=>by kernel_rfl
 go_enter Tryz.func70,Tryz.ntmps70
 go_wp2_with fail
 refine wp_loop_rounds 3 ?_;rw[rounds_succ]
 go_wp2_with fail
 refine(cnext_any R ba cap bs k _ h hR).mono ?_;rintro e w1 ⟨rfl,h1,hb1⟩
 by_cases he:(rdNext bs k).2.1=0
 ·rw[he]
  by_cases hc:(rdNext bs k).1=116
  ·have ec:((rdNext bs k).1 != 116)=false:=by simp[hc]
   rw[hc]
   go_wp2_with fail
   rw[rounds_succ]
   go_wp2_with fail
   refine(cnext_any R ba cap bs _ _ h1 hR).mono ?_;rintro e w2 ⟨rfl,h2,hb2⟩;have hb3:=hb1.trans hb2
   by_cases he2:(rdNext bs (rdNext bs k).2.2).2.1=0
   ·rw[he2]
    by_cases hc2:(rdNext bs (rdNext bs k).2.2).1=119
    ·have HU:Aside (rdBegin bs k=(0,(rdNext bs (rdNext bs k).2.2).2.2)):=by
      show rdBegin bs k=_
      rw[rdBegin,if_neg (by simp[he]),if_neg (by simp[hc]),if_neg (by simp[he2]),if_neg (by simp[hc2])]
     rw[hc2];clear he he2 hc hc2 ec
     go_wp2_with fail
     rw[rounds_succ];go_wp2
     go_ret
     exact⟨by rw[HU.out];rfl,by rw[HU.out];exact h2,hb3⟩
    ·have HU:Aside (rdBegin bs k=(4,(rdNext bs (rdNext bs k).2.2).2.2)):=by
      show rdBegin bs k=_
      rw[rdBegin,if_neg (by simp[he]),if_neg (by simp[hc]),if_neg (by simp[he2]),if_pos hc2]
     have ec2:((rdNext bs (rdNext bs k).2.2).1 != 119)=true:=by simp[hc2]
     clear he he2 hc ec;go_wp2
     go_ret
     exact⟨by rw[HU.out];rfl,by rw[HU.out];exact h2,hb3⟩
   ·have HU:Aside (rdBegin bs k=((rdNext bs (rdNext bs k).2.2).2.1,(rdNext bs (rdNext bs k).2.2).2.2)):=by
     show rdBegin bs k=_
     rw[rdBegin,if_neg (by simp[he]),if_neg (by simp[hc]),if_pos he2]
    have heb:((rdNext bs (rdNext bs k).2.2).2.1 != 0)=true:=by simp[he2]
    clear he hc ec;go_wp2
    go_ret
    exact⟨by rw[HU.out];rfl,by rw[HU.out];exact h2,hb3⟩
  ·have HU:Aside (rdBegin bs k=(4,(rdNext bs k).2.2)):=by show rdBegin bs k=_;rw[rdBegin,if_neg (by simp[he]),if_pos hc]
   have ec:((rdNext bs k).1 != 116)=true:=by simp[hc]
   clear he;go_wp2
   go_ret
   exact⟨by rw[HU.out];rfl,by rw[HU.out];exact h1,hb1⟩
 ·have HU:Aside (rdBegin bs k=((rdNext bs k).2.1,(rdNext bs k).2.2)):=by show rdBegin bs k=_;rw[rdBegin,if_pos he]
  have heb:((rdNext bs k).2.1 != 0)=true:=by simp[he]
  go_wp2
  go_ret
  exact⟨by rw[HU.out];rfl,by rw[HU.out];exact h1,hb1⟩
end
end Go.Proofs.YtddokajfafmhhaaGreatDoor
