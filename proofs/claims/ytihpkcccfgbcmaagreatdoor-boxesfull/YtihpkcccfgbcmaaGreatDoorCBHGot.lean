/- HGot. -/
import Derived.BigQuiet
import Derived.Deep.QuietTactic
import Derived.BigRegion
import Derived.Test.YtihpkcccfgbcmaaGreatDoorCBWOwn5
namespace Go.Proofs.YtihpkcccfgbcmaaGreatDoor
set_option maxRecDepth 100000
set_option maxHeartbeats 8000000
section
open Go.RowKit
theorem beq_dec (a b:Int):(a == b)=decide (a=b):=by by_cases h:a=b <;> simp[h]
theorem isMost_any (n:Int) (w:World) :
  Calls Tryz.prog 116 #[.int .i64 n] w fun e w'=>e=.returned (.bool (decide (0<=n) && decide (n<=60)))/\w=w':=by
 go_enter Tryz.func116,Tryz.ntmps116
 go_wp2
 all_goals
  go_ret
  refine⟨ret_bool ?_,rfl⟩
  go_light
  simp[*] <;> omega
theorem isFieldCount_any (n:Int) (w:World) :
  Calls Tryz.prog 163 #[.int .i64 n] w fun e w'=>e=.returned (.bool (decide (1<=n) && decide (n<=4)))/\w=w':=by
 go_enter Tryz.func163,Tryz.ntmps163
 go_wp2
 all_goals
  go_ret
  refine⟨ret_bool ?_,rfl⟩
  go_light
  simp[*] <;> omega
theorem isValue_any (k n m:Int) (w:World) :
  Calls Tryz.prog 164 #[.agg #[.int .i64 k,.int .i64 n],.int .i64 m] w fun e w'=>e=.returned (.bool (vMay m ⟨k,n⟩))/\Below w.heap.size w w':=by
 by_cases h0:k=0
 ·subst h0
  go_enter Tryz.func164,Tryz.ntmps164
  go_wp2
  go_ret
  refine⟨ret_bool ?_,below_box _ _⟩
  go_light
  simp[vMay,beq_dec]
 ·by_cases h1:k=1
  ·subst h1
   clear h0
   go_enter Tryz.func164,Tryz.ntmps164
   go_wp2
   all_goals
    go_ret
    refine⟨ret_bool ?_,below_box _ _⟩
    go_light
    simp[vMay, *] <;> omega
  ·by_cases h2:k=2
   ·subst h2
    clear h0 h1
    go_enter Tryz.func164,Tryz.ntmps164
    go_wp2
    all_goals
     go_ret
     refine⟨ret_bool ?_,below_box _ _⟩
     go_light
     simp[vMay, *] <;> omega
   ·have e0:(k == 0)=false:=by simp[h0]
    have e1:(k == 1)=false:=by simp[h1]
    have e2:(k == 2)=false:=by simp[h2]
    have HE:Aside (vMay m ⟨k,n⟩=false):=by show vMay m ⟨k,n⟩=false;simp[vMay,h0,h1,h2]
    clear h0 h1 h2
    go_enter Tryz.func164,Tryz.ntmps164
    go_wp2
    go_ret
    exact⟨ret_bool HE.out.symm,below_box _ _⟩
theorem areValues_any (ao:Option Addr) (cap:Nat) (l:List Vl) (m:Int) (w:World) (h:ValsAt w ao l) (hl:16*l.length<=140737488351232) :
  Calls Tryz.prog 118 #[.slice ao l.length cap,.int .i64 m] w fun e w'=>e=.returned (.bool (l.all (vMay m)))/\Below w.heap.size w w':=by
 obtain⟨L,hL⟩:∃ L,L=l.length:=⟨_,rfl⟩;have HL:Aside (L=l.length):=hL;rw[<- hL] at hl ⊢;clear hL
 go_enter Tryz.func118,Tryz.ntmps118
 go_wp2
 go_loopg [9,6] L (fun g s9 s6 wr=>∃ i:Nat,i<=L/\g=L-i/\s9=.int .i64 i/\Below w.heap.size w wr/\Aside (l.all (vMay m)=(l.drop i).all (vMay m)))
 case atStart=>exact⟨0,Nat.zero_le _,rfl,rfl,Below.refl _ _,rfl⟩
 case round =>
  obtain⟨i,hi,rfl,rfl,hb,hA⟩:=hrel
  by_cases hiL:i<L
  ·have hiz:(i:Int)<(L:Int):=by omega
   obtain⟨⟨k,n⟩,hv⟩:=at_some (l:=l) (i:=i) (by rw[<- HL.out];exact hiL);have HS:Aside ((l.drop i).all (vMay m)=(vMay m ⟨k,n⟩ && (l.drop (i+1)).all (vMay m))):=all_from _ _ hv;obtain⟨b,o,rfl,c1,c2⟩:=h i _ hv;have c1:=Keeps.below hb _ _ c1;have c2:=Keeps.below hb _ _ c2;have hs:=hb.size;clear hv
   cases hq:vMay m ⟨k,n⟩ with
   | false =>
    have HN:Aside (l.all (vMay m)=false):=by show l.all (vMay m)=false;rw[hA.out,HS.out,hq];rfl
    clear HS hA
    go_wp2_with (go_at_call 164;refine(isValue_any k n m _).mono ?_;rintro e w' ⟨rfl,hb'⟩;rw[hq])
    go_ret
    exact⟨ret_bool HN.out.symm,(hb.alloc hs _).trans (hb'.mono (by simp;omega))⟩
   | true =>
    have HN:Aside (l.all (vMay m)=(l.drop (i+1)).all (vMay m)):=by show l.all (vMay m)=_;rw[hA.out,HS.out,hq];rfl
    clear HS hA
    go_wp2_with (go_at_call 164;refine(isValue_any k n m _).mono ?_;rintro e w' ⟨rfl,hb'⟩;rw[hq])
    have hb2:=(hb.alloc hs (Obj.cells #[Value.int IntKind.i64 k,Value.int IntKind.i64 n] 66)).trans (hb'.mono (by simp;omega));clear hb hb'
    go_roundg (L-(i+1))
    case measure=>go_light;omega
    case rel=>go_light;exact⟨i+1,by omega,rfl,by go_num,hb2,HN⟩
  ·have HN:Aside (l.all (vMay m)=true):=by show l.all (vMay m)=true;rw[hA.out,List.drop_eq_nil_of_le (by rw[<- HL.out];omega)];rfl
   go_wp2
   go_ret
   exact⟨ret_bool HN.out.symm,hb⟩
end
section
open Go.RowKit
theorem isObject_any (fa:Option Addr) (fc:Nat) (fs:List Vl) (dead:Bool) (m:Int) (w:World) (h:ValsAt w fa fs) (hl:16*fs.length<=140737488351232) :
  Calls Tryz.prog 117 #[.agg #[.slice fa fs.length fc,.bool dead],.int .i64 m] w fun e w'=>e=.returned (.bool (oMay m ⟨fs,dead⟩))/\Below w.heap.size w w':=by
 cases dead with
 | true =>
  go_enter Tryz.func117,Tryz.ntmps117
  go_wp2
  all_goals
   go_ret
   refine⟨ret_bool ?_,below_box _ _⟩
   go_light
   simp[oMay,beq_dec]
 | false =>
  cases hq:(decide (1<=(fs.length:Int)) && decide ((fs.length:Int)<=4)) with
  | false =>
   have HN:Aside (oMay m ⟨fs,false⟩=false):=by
    show oMay m ⟨fs,false⟩=false
    have:(decide (1<=fs.length) && decide (fs.length<=4))=false:=by rw[<- hq];congr 1 <;> simp <;> omega
    simp[oMay] at this ⊢
    intro h1 h2;have:=this h1;omega
   go_enter Tryz.func117,Tryz.ntmps117
   go_wp2_with (go_at_call 163;refine(isFieldCount_any _ _).mono ?_;rintro e w' ⟨rfl,rfl⟩;rw[hq])
   go_ret
   exact⟨ret_bool HN.out.symm,below_box _ _⟩
  | true =>
   have HN:Aside (oMay m ⟨fs,false⟩=fs.all (vMay m)):=by
    show oMay m ⟨fs,false⟩=_
    simp at hq;simp only[oMay];have:(decide (1<=fs.length) && decide (fs.length<=4))=true:=by simp;omega
    rw[this];rfl
   go_enter Tryz.func117,Tryz.ntmps117
   go_wp2_with (first | (go_at_call 163;refine(isFieldCount_any _ _).mono ?_;rintro e w' ⟨rfl,rfl⟩;rw[hq]) | (go_at_call 118;refine(areValues_any fa fc fs m _ (h.keeps (Keeps.alloc _ _)) hl).mono ?_;rintro e w' ⟨rfl,hb'⟩))
   go_ret
   exact⟨ret_bool HN.out.symm,(below_box _ _).trans (hb'.mono (by simp))⟩
theorem check_any (M:Int) (ao:Option Addr) (cap:Nat) (l:List Ob) (ra:Option Addr) (rc:Nat) (roots:List Vl) (w:World) (h:ObsAt w ao l) (hr:ValsAt w ra roots) (hrl:16*roots.length<=140737488351232) :
  Calls Tryz.prog 80 #[.agg #[.int .i64 M,.slice ao l.length cap],.slice ra roots.length rc] w fun e w'=>e=.returned (.int .i64 (erS (hMay M l roots)))/\Below w.heap.size w w':=by
 have hm:=h.many;obtain⟨L,hL⟩:∃ L,L=l.length:=⟨_,rfl⟩;have HL:Aside (L=l.length):=hL;have HM:Aside (hMay M l roots=(mMay M L && l.all (oMay L) && roots.all (vMay L))):=by show hMay M l roots=_;rw[hL];rfl
 rw[<- hL] at hm ⊢;clear hL
 cases hq:(decide (0<=M) && decide (M<=60)) with
 | false =>
  have HN:Aside (erS (hMay M l roots)=8):=by show erS (hMay M l roots)=8;rw[HM.out,mMay,hq];rfl
  clear HM
  go_enter Tryz.func80,Tryz.ntmps80
  go_wp2_with (go_at_call 116;refine(isMost_any _ _).mono ?_;rintro e w' ⟨rfl,rfl⟩;rw[hq])
  go_ret
  exact⟨ret_num HN.out.symm,below_box _ _⟩
 | true =>
  by_cases hLM:(M:Int)<(L:Int)
  ·have HN:Aside (erS (hMay M l roots)=8):=by
    show erS (hMay M l roots)=8
    have:decide ((L:Int)<=M)=false:=by simp;omega
    rw[HM.out,mMay,this];simp[erS]
   clear HM
   go_enter Tryz.func80,Tryz.ntmps80
   go_wp2_with (go_at_call 116;refine(isMost_any _ _).mono ?_;rintro e w' ⟨rfl,rfl⟩;rw[hq])
   go_ret
   exact⟨ret_num HN.out.symm,below_box _ _⟩
  ·have hLM':decide (M<(L:Int))=false:=by simp;omega
   have HM2:Aside (hMay M l roots=(l.all (oMay L) && roots.all (vMay L))):=by
    show hMay M l roots=_
    have:decide ((L:Int)<=M)=true:=by simp;omega
    rw[HM.out,mMay,this,hq];rfl
   clear HM
   go_enter Tryz.func80,Tryz.ntmps80
   go_wp2_with (go_at_call 116;refine(isMost_any _ _).mono ?_;rintro e w' ⟨rfl,rfl⟩;rw[hq])
   clear hq hLM hLM';have cbox:(w.alloc (Obj.cells #[Value.int IntKind.i64 M,Value.slice ao L cap] 53)).cell? ⟨w.heap.size,1,none⟩=some (.slice ao L cap):=by simp
   have hbox:Aside (Below w.heap.size w (w.alloc (Obj.cells #[Value.int IntKind.i64 M,Value.slice ao L cap] 53))):=below_box _ _
   go_loopg [22,6] L (fun g s22 s6 wr=>∃ i:Nat,i<=L/\g=L-i/\s22=.int .i64 i/\Below w.heap.size w wr/\Aside (wr.cell? ⟨w.heap.size,1,none⟩=some (.slice ao L cap))/\Aside (hMay M l roots=((l.drop i).all (oMay L) && roots.all (vMay L))))
   case atStart=>exact⟨0,Nat.zero_le _,rfl,rfl,hbox.out,cbox,HM2.out⟩
   case round =>
    obtain⟨i,hi,rfl,rfl,hb,hc,hA⟩:=hrel;clear cbox hbox HM2;have hcx:=hc.out;have hcy:∀ o,(wr.alloc o).cell? ⟨w.heap.size,1,none⟩=some (.slice ao L cap):=fun o=>Keeps.alloc wr o _ _ hcx
    have hs:=hb.size
    by_cases hiL:i<L
    ·have hiz:(i:Int)<(L:Int):=by omega
     obtain⟨⟨fs,dead⟩,hv⟩:=at_some (l:=l) (i:=i) (by rw[<- HL.out];exact hiL);have HS:Aside ((l.drop i).all (oMay L)=(oMay L ⟨fs,dead⟩ && (l.drop (i+1)).all (oMay L))):=all_from _ _ hv;obtain⟨b,o,fa,fc,rfl,c1,c2,hfs,hfl⟩:=h.cell i _ hv;replace c1:=Keeps.below hb _ _ c1;replace c2:=Keeps.below hb _ _ c2;replace hfs:=hfs.keeps (Keeps.below hb);clear hv hc;simp only at c1 c2 hfs hfl
     cases hq:oMay L ⟨fs,dead⟩ with
     | false =>
      have HN:Aside (erS (hMay M l roots)=8):=by show erS (hMay M l roots)=8;rw[hA.out,HS.out,hq];rfl
      clear HS hA
      go_wp2_with (go_at_call 117;refine(isObject_any fa fc fs dead L _ (hfs.keeps (Keeps.alloc _ _)) hfl).mono ?_;rintro e w' ⟨rfl,hb'⟩;rw[hq])
      go_ret
      exact⟨ret_num HN.out.symm,(hb.alloc hs _).trans (hb'.mono (by simp;omega))⟩
     | true =>
      have HN:Aside (hMay M l roots=((l.drop (i+1)).all (oMay L) && roots.all (vMay L))):=by show hMay M l roots=_;rw[hA.out,HS.out,hq];rfl
      clear HS hA
      go_wp2_with (go_at_call 117;refine(isObject_any fa fc fs dead L _ (hfs.keeps (Keeps.alloc _ _)) hfl).mono ?_;rintro e w' ⟨rfl,hb'⟩;rw[hq])
      have hb2:=(hb.alloc hs (Obj.cells #[Value.slice fa fs.length fc,Value.bool dead] 91)).trans (hb'.mono (by simp;omega));have hc2:Aside (w'.cell? ⟨w.heap.size,1,none⟩=some (.slice (some ⟨b,o,none⟩) L cap)):=Keeps.below hb' _ _ (Keeps.alloc _ _ _ _ hcx);clear hb hb' hfs c1 c2
      go_roundg (L-(i+1))
      case measure=>go_light;omega
      case rel=>go_light;exact⟨i+1,by omega,rfl,by go_num,hb2,hc2,HN⟩
    ·have HN:Aside (hMay M l roots=roots.all (vMay L)):=by show hMay M l roots=_;rw[hA.out,List.drop_eq_nil_of_le (by rw[<- HL.out];omega)];rfl
     have hr':=hr.keeps (Keeps.below hb);clear hA
     cases hq:roots.all (vMay L) with
     | false =>
      go_wp2_with (go_at_call 118;refine(areValues_any ra rc roots L _ hr' hrl).mono ?_;rintro e w' ⟨rfl,hb'⟩;rw[hq])
      go_ret
      exact⟨ret_num (by rw[HN.out,hq];rfl),hb.trans (hb'.mono hs)⟩
     | true =>
      go_wp2_with (go_at_call 118;refine(areValues_any ra rc roots L _ hr' hrl).mono ?_;rintro e w' ⟨rfl,hb'⟩;rw[hq])
      go_ret
      exact⟨ret_num (by rw[HN.out,hq];rfl),hb.trans (hb'.mono hs)⟩
end
section
open Go.RowKit
theorem checkField_any (M:Int) (ao:Option Addr) (cap:Nat) (l:List Ob) (k n f:Int) (w:World) (h:ObsAt w ao l) (hv:vMay l.length ⟨k,n⟩=true) :
  Calls Tryz.prog 177 #[.agg #[.int .i64 M,.slice ao l.length cap],.agg #[.int .i64 k,.int .i64 n],.int .i64 f] w fun e w'=>e=.returned (.int .i64 (fieldErr l ⟨k,n⟩ f))/\Below w.heap.size w w':=by
 by_cases hk:k=2
 ·subst hk
  obtain⟨p,ob,hp,hlt,hob⟩:=ref_place hv rfl;simp only at hp;subst hp;obtain⟨fs,dead⟩:=ob;obtain⟨b,o,fa,fc,rfl,c1,c2,hfs,hfl⟩:=h.cell p _ hob;simp only at c1 c2 hfs hfl;have hE:fieldErr l ⟨2,p⟩ f=if dead then 10 else if f<0\/(fs.length:Int)<=f then 2 else 0:=by simp[fieldErr,hob]
  rw[hE];clear hE hv hob;have hpz:(p:Int)<(l.length:Int):=by omega
  have C1:∀ x y,((w.alloc x).alloc y).cell? ⟨b,o+p*2,none⟩=some (.slice fa fs.length fc):=fun x y=>Keeps.alloc _ y _ _ (Keeps.alloc _ x _ _ c1)
  have C2:∀ x y,((w.alloc x).alloc y).cell? ⟨b,o+p*2+1,none⟩=some (.bool dead):=fun x y=>Keeps.alloc _ y _ _ (Keeps.alloc _ x _ _ c2)
  have bb:∀ x y z,Below w.heap.size w (((w.alloc x).alloc y).alloc z):=fun x y z=>(((Below.refl _ _).alloc (Nat.le_refl _) _).alloc (by simp) _).alloc (by simp;omega) _
  have BB:Aside (∀ x y z,Below w.heap.size w (((w.alloc x).alloc y).alloc z)):=bb;clear bb c1 c2 hfs
  cases dead with
  | true =>
   go_enter Tryz.func177,Tryz.ntmps177
   go_wp2
   go_ret
   exact⟨rfl,BB.out _ _ _⟩
  | false =>
   by_cases hf0:f<0
   ·go_enter Tryz.func177,Tryz.ntmps177
    go_wp2
    go_ret
    exact⟨ret_num (by simp),BB.out _ _ _⟩
   ·have hd0:decide (f<0)=false:=by simp;omega
    by_cases hf1:(fs.length:Int)<=f
    ·have hR:(if false=true then 10 else if f<0\/(fs.length:Int)<=f then 2 else 0:Int)=2:=by simp[hf1]
     rw[hR]
     go_enter Tryz.func177,Tryz.ntmps177
     go_wp2
     go_ret
     exact⟨rfl,BB.out _ _ _⟩
    ·have hd1:decide ((fs.length:Int)<=f)=false:=by simp;omega
     have hR:(if false=true then 10 else if f<0\/(fs.length:Int)<=f then 2 else 0:Int)=0:=by simp[hf1,hf0]
     rw[hR]
     go_enter Tryz.func177,Tryz.ntmps177
     go_wp2
     go_ret
     exact⟨rfl,BB.out _ _ _⟩
 ·have hE:fieldErr l ⟨k,n⟩ f=9:=by simp[fieldErr,hk]
  rw[hE];have hkb:(k != 2)=true:=by simp[hk]
  clear hE hv hk
  go_enter Tryz.func177,Tryz.ntmps177
  go_wp2
  go_ret
  exact⟨rfl,((Below.refl _ _).alloc (Nat.le_refl _) _).alloc (by simp) _⟩
end
section
open Go.RowKit
variable {P:Program}
theorem run_make_rowk (k:Nat) (t e:TypeId) (z:Value) (bytes:Nat) (ht:P.underlying t=some (.slice e)) (hinfo:(P.info? e).map (fun i=>(i.zero,i.size,i.bytes))=some (some z,k,bytes))
  (kl kc:IntKind) (n:Nat) (hbytes:bytes*n<=281474976710656) (h63:n<=9223372036854775807) (w:World) :
  (Instr.makeSlice t (.int kl (n:Int)) (.int kc (n:Int))).run P w=.ok (.slice (some ⟨w.heap.size,0,none⟩) n n) (w.alloc (.cells (madeCells z.cells (n*k)) e)):=by
 obtain⟨i,hi,hzz⟩:=Option.map_eq_some_iff.1 hinfo;simp only[Prod.mk.injEq] at hzz;obtain⟨hz,hs,hb⟩:=hzz;have hb':(i.bytes:Int)*(n:Int)<=281474976710656:=by
  have h:((i.bytes*n:Nat):Int)<=281474976710656:=by rw[hb];omega
  rwa [Int.natCast_mul] at h
 have hr:=run_make (P:=P) w t e i z ht hi hz kl kc n n (by omega) (Int.le_refl _) hb' (by omega);simp only[Int.toNat_natCast,hs] at hr;exact hr
theorem toList_madeCells_two (a b:Value):∀ n:Nat,(madeCells #[a,b] (n*2)).toList=pairs (List.replicate n (a,b)):=by
 intro n;refine List.ext_getElem? fun j=>?_
 have hlen:(pairs (List.replicate n (a,b))).length=n*2:=by simp[pairs_length]
 by_cases hj:j<n*2
 ·have h1:(madeCells #[a,b] (n*2)).toList[j]?=some (if j % 2=0 then a else b):=by
   simp only[madeCells,Array.toList_map,Array.toList_range,List.getElem?_map,List.getElem?_range hj,Option.map_some]
   rcases Nat.mod_two_eq_zero_or_one j with h | h <;> simp[h]
  rw[h1]
  rcases Nat.mod_two_eq_zero_or_one j with h | h
  ·have e:j=j / 2*2:=by omega
   rw[if_pos h,e,pairs_fst,List.getElem?_replicate,if_pos (by omega)]
   rfl
  ·have e:j=j / 2*2+1:=by omega
   rw[if_neg (by omega),e,pairs_snd,List.getElem?_replicate,if_pos (by omega)]
   rfl
 ·rw[List.getElem?_eq_none (by simp[size_madeCells];omega),List.getElem?_eq_none (by rw[hlen];omega)]
theorem Tryz.infoO:(Tryz.prog.info? 91).map (fun i=>(i.zero,i.size,i.bytes))=some (some (.agg #[.slice none 0 0,.bool false]),2,32):=by kernel_rfl
theorem Tryz.infoV:(Tryz.prog.info? 66).map (fun i=>(i.zero,i.size,i.bytes))=some (some (.agg #[.int .i64 0,.int .i64 0]),2,16):=by kernel_rfl
theorem Tryz.sizeV:(Tryz.prog.info? 66).map (·.size)=some 2:=by kernel_rfl
theorem zeroVals_cells (n:Nat):(madeCells #[.int .i64 0,.int .i64 0] (n*2)).toList=valCells (zeroVals n):=by
 rw[toList_madeCells_two,valCells,zeroVals,List.map_replicate];rfl
theorem vals_made (w:World) (base n:Nat) (hb:base<=w.heap.size) (hn:n<=maxLen):ValsOwn (w.alloc (.cells (madeCells #[.int .i64 0,.int .i64 0] (n*2)) 66)) base (.slice (some ⟨w.heap.size,0,none⟩) n n) (zeroVals n) :=
 ⟨by simp[valCells_length],.inr ⟨w.heap.size,n,_,by simp[zeroVals],hb,Deep.blk_alloc_new w _,by simp[zeroVals],hn,by simp[size_madeCells],by rw[List.take_of_length_le (by simp[size_madeCells,zeroVals]),zeroVals_cells]⟩⟩
theorem heap_made (w:World) (base n:Nat) (hb:base<=w.heap.size) (hn:32*n<=140737488351232) :
  HeapOwn (w.alloc (.cells (madeCells #[.slice none 0 0,.bool false] (n*2)) 91)) base (.slice (some ⟨w.heap.size,0,none⟩) n n) (List.replicate n (.slice none 0 0,⟨[],false⟩)):=by
 refine⟨⟨by simp[obCells_length],.inr ⟨w.heap.size,n,_,by simp,hb,Deep.blk_alloc_new w _,by simp,by unfold maxLen;omega,by simp[size_madeCells],?_⟩⟩,fun i p hp=>?_,fun i j p q hp hq _=>?_,by simpa using hn⟩
 ·rw[List.take_of_length_le (by simp[size_madeCells]),toList_madeCells_two,obCells,List.map_replicate];rfl
 ·rw[List.getElem?_replicate] at hp
  split at hp
  ·simp at hp
   subst hp;exact⟨World.ownsRow_nil _ _ _ _,by simp⟩
  ·cases hp
 ·rw[List.getElem?_replicate] at hp
  split at hp
  ·simp at hp
   subst hp;exact Or.inl rfl
  ·cases hp
theorem vals_src {w:World} {ao:Option Addr} {l:List Vl} (h:ValsAt w ao l) (hn:0<l.length):∃ ad,ao=some ad/\∀ j v,(valCells l)[j]?=some v->w.cell? (ad.add j)=some v:=by
 obtain⟨x,hx⟩:=at_some hn;obtain⟨b,o,rfl,_,_⟩:=h 0 x hx;refine⟨_,rfl,fun j v hv=>?_⟩;have hj:j<l.length*2:=by
  have:=(List.getElem?_eq_some_iff.1 hv).1
  rwa [valCells_length] at this
 obtain⟨y,hy⟩:=at_some (l:=l) (i:=j / 2) (by omega);obtain⟨b',o',e,c1,c2⟩:=h (j / 2) y hy;simp only[Option.some.injEq,Addr.mk.injEq,and_true] at e;obtain⟨rfl,rfl⟩:=e;have hadd:(⟨b,o,none⟩:Addr).add j=⟨b,o+j,none⟩:=by unfold Addr.add;split <;> simp_all
 rw[hadd]
 rcases Nat.mod_two_eq_zero_or_one j with h2 | h2
 ·have e:j=j / 2*2:=by omega
  rw[e,valCells,pairs_fst] at hv;simp[hy,valPair] at hv;rw[e,c1,hv]
 ·have e:j=j / 2*2+1:=by omega
  rw[e,valCells,pairs_snd] at hv;simp[hy,valPair] at hv;rw[e,<- Nat.add_assoc,c2,hv]
theorem cells2_new (w:World) (a b:Value) (t:TypeId) (m:Nat) (hm:m=w.heap.size):∀ j u,[a,b][j]?=some u->(w.alloc (.cells #[a,b] t)).cell? ((⟨m,0,none⟩:Addr).add j)=some u:=by
 subst hm;intro j u hj;have hb:=Deep.blk_alloc_new w (.cells #[a,b] t);have e:(⟨w.heap.size,0,none⟩:Addr).add j=⟨w.heap.size,j,none⟩:=by unfold Addr.add;split <;> simp_all
 rw[e];simp only[World.cell?,hb]
 simpa using hj
theorem step_pushOb {w:World} {base:Nat} {v:Value} {rows:List (Value × Ob)} {ops:Array Oper} {o:Oper} {a:Act} {K:Act->World->Prop} {Q:Exit->Act->World->Prop} {E:Prop} (hgd:o.guard=none) (s x:Operand)
  (ho:o.op=.call { callee:=.builtin .append,args:=#[s,x],argTypes:=#[51,51] }) (hs:a.eval s=v) (hO:HeapOwn w base v rows) (hb:base<=w.heap.size)
  (nv:Value) (ob:Ob) (h1:nv.oneCell'=true) (hv:ValsOwn w base nv ob.fs) (hl:16*ob.fs.length<=140737488351232) (hap:∀ (j:Nat) q,rows[j]?=some q->nv.ownBlock=none\/nv.ownBlock≠q.1.ownBlock) (hm:32*rows.length+32<=140737488351232)
  (hx:a.eval x=.slice (some ⟨w.heap.size,0,none⟩) 1 1)
  (h:∀ g cap w',HeapOwn w' base (.slice (some ⟨g,0,none⟩) (rows.length+1) cap) (rows++[(nv,ob)])->Below base w w'->(w.alloc (.cells #[nv,.bool ob.dead] 91)).grownBy w' v.ownBlock->K (a.put o.dst (.slice (some ⟨g,0,none⟩) (rows.length+1) cap)) w') :
  if Region.wanted o (yielded ops a.tmps)=true then Oper.wp Tryz.prog o a (w.alloc (.cells #[nv,.bool ob.dead] 91)) K Q else E:=by
 obtain⟨i0,hi0,hzz⟩:=Option.map_eq_some_iff.1 Tryz.infoO;simp only[Prod.mk.injEq] at hzz;obtain⟨hz0,hz1,hz2⟩:=hzz;refine step_append_lies _ hgd s x 51 ho base 91 i0 (.agg #[.slice none 0 0,.bool false]) 2 32 Tryz.underlying51 hi0 hz0 hz1 hz2 rfl (by decide) v rows.length (obCells rows) hs (hO.alloc _).top ⟨w.heap.size,0,none⟩ 1 1 [nv,.bool ob.dead] hx rfl (cells2_new _ _ _ _ _ rfl) ?_ (by decide) (by unfold maxLen;omega) (by omega) (by simp;omega) (w.heap.size+1) (by simp) ?_
 ·intro u hu
  simp at hu
  rcases hu with rfl | rfl
  ·exact h1
  ·rfl
 ·intro g cap w' hown hg _ _
  refine h g cap w' ((hO.alloc _).push nv ob (World.ownsRow.alloc hv _) hl hap hm hown hg) ((below_box_base hb _).trans ((Below.refl _ _).grown hg (by simp;omega) (fun j hj=>(World.ownsRow.lt hO.top j hj).1))) hg
theorem run_append_zero {w:World} {base:Nat} {t ty e:TypeId} {i:TypeInfo} {size n:Nat} {v:Value} {xs:List Value} (ht:P.underlying t=some (.slice e)) (hi:P.info? e=some i) (hown:w.ownsRow base e size v n xs) (fa:Option Addr) (fc:Nat) :
  (Builtin.append_ #[t,t] ty #[v,.slice fa 0 fc]).run P w=.ok v w:=by
 have hsrc:Src P i.size t (.slice fa 0 fc) 0 [] w:=by
  cases fa with
  | none=>exact Src.ofNil w ht fc
  | some a=>exact Src.ofSlice w ht a 0 fc [] (by simp) (by simp) (by simp)
 rcases hown.2 with⟨rfl,rfl⟩ | ⟨g,cap,cur,rfl,_,_,h1,_⟩
 ·cases fa <;> simp[Builtin.append_,run_underlying ht,sizeOf,typeInfo,hi,Builtin.lenOf,Builtin.firstCells,loadCells,loadCellsFrom]
 ·have:=run_append_room_src (P:=P) w t t ty e i ht hi g 0 n cap (.slice fa 0 fc) 0 [] hsrc (by omega) (by simp) (by simp)
  rw[this];simp[World.setCells]
theorem step_append_zero {w:World} {base:Nat} {t e:TypeId} {i:TypeInfo} {size n:Nat} {v:Value} {xs:List Value} {ops:Array Oper} {o:Oper} {a:Act} {K:Act->World->Prop} {Q:Exit->Act->World->Prop} {E:Prop} (hgd:o.guard=none) (s x:Operand)
  (ho:o.op=.call { callee:=.builtin .append,args:=#[s,x],argTypes:=#[t,t] }) (ht:P.underlying t=some (.slice e)) (hi:P.info? e=some i) (hs:a.eval s=v) (hown:w.ownsRow base e size v n xs) (fa:Option Addr) (fc:Nat) (hx:a.eval x=.slice fa 0 fc)
  (h:K (a.put o.dst v) w):if Region.wanted o (yielded ops a.tmps)=true then Oper.wp P o a w K Q else E:=by
 have hw:Region.wanted o (yielded ops a.tmps)=true:=by simp[Region.wanted,hgd]
 rw[if_pos hw];have hr:=run_append_zero (P:=P) (ty:=o.type) ht hi hown fa fc
 unfold Oper.wp execOp
 simp only[ho,resolve,invoke,builtin,Sem.run_bind,Sem.run_pure,Result.andThen_ok,List.map_toArray,List.map_cons,List.map_nil,hs,hx,hr];exact h
end
section
open Go.RowKit
theorem two_cells {W:World} {N1:Nat} {a0 a1:Value} {t1:TypeId} (h1:W.heap[N1]?=some (.cells #[a0,a1] t1 (0,0))) (x y:Value) :
  ((W.setCell ⟨N1,0,none⟩ x).setCell ⟨N1,1,none⟩ y).cell? ⟨N1,0,none⟩=some x/\((W.setCell ⟨N1,0,none⟩ x).setCell ⟨N1,1,none⟩ y).cell? ⟨N1,1,none⟩=some y:=by
 have m1:=setCell_blk (setCell_blk h1 0 x) 1 y;exact⟨by simp[World.cell?,m1],by simp[World.cell?,m1]⟩
theorem vals_one (w:World) (k n:Int) (t:TypeId):ValsAt (w.alloc (.cells #[.int .i64 k,.int .i64 n] t)) (some ⟨w.heap.size,0,none⟩) [⟨k,n⟩]:=fun i v hi=>by
 match i,hi with
 | 0,hi =>
  simp at hi;subst hi;exact⟨_,_,rfl,by simp,by simp⟩
theorem get_any (M:Int) (ao:Option Addr) (cap:Nat) (l:List Ob) (k n f:Int) (w:World) (h:ObsAt w ao l) :
  Calls Tryz.prog 168 #[.agg #[.int .i64 M,.slice ao l.length cap],.agg #[.int .i64 k,.int .i64 n],.int .i64 f] w fun e w' =>
   e=.returned (.tuple #[.agg #[.int .i64 (getS M l ⟨k,n⟩ f).1.k,.int .i64 (getS M l ⟨k,n⟩ f).1.n],.int .i64 (getS M l ⟨k,n⟩ f).2])/\Below w.heap.size w w':=by
 obtain⟨r,hr⟩:∃ r,r=getS M l ⟨k,n⟩ f:=⟨_,rfl⟩;have HR:Aside (r=getS M l ⟨k,n⟩ f):=hr;rw[<- hr];clear hr
 go_enter Tryz.func168,Tryz.ntmps168
 go_wp2_with fail
 have HB:=boxes4 w (Obj.cells #[.int .i64 M,.slice ao l.length cap] 53) (Obj.cells #[.int .i64 k,.int .i64 n] 66) (Obj.cells #[.int .i64 0,.int .i64 0] 66) (Obj.cells #[.int .i64 k,.int .i64 n] 66);have hv1:=vals_one (((w.alloc (Obj.cells #[.int .i64 M,.slice ao l.length cap] 53)).alloc (Obj.cells #[.int .i64 k,.int .i64 n] 66)).alloc (Obj.cells #[.int .i64 0,.int .i64 0] 66)) k n 66;simp only[Deep.nblk_alloc] at hv1
 generalize (((w.alloc (Obj.cells #[.int .i64 M,.slice ao l.length cap] 53)).alloc (Obj.cells #[.int .i64 k,.int .i64 n] 66)).alloc (Obj.cells #[.int .i64 0,.int .i64 0] 66)).alloc (Obj.cells #[.int .i64 k,.int .i64 n] 66)=W at *;obtain⟨N0,N1,N2,N3,k1,b1,hs⟩:=HB;clear N3;refine(check_any M ao cap l _ 1 [⟨k,n⟩] W (h.keeps k1) hv1 (by simp)).mono ?_;rintro e w1 ⟨rfl,hb⟩;replace N0:=(hb.block _ (by omega)).trans N0
 replace N1:=(hb.block _ (by omega)).trans N1;replace N2:=(hb.block _ (by omega)).trans N2;replace b1:=b1.trans (hb.mono (by omega));replace k1:=k1.trans (Keeps.below hb);replace hs:w.heap.size+1+1+1<=w1.heap.size:=by have:=hb.size;omega
 clear hb hv1;clear W;have c2:w1.cell? ⟨w.heap.size+1+1,0,none⟩=some (.int .i64 0):=by simp[World.cell?,N2]
 have c3:w1.cell? ⟨w.heap.size+1+1,1,none⟩=some (.int .i64 0):=by simp[World.cell?,N2]
 have f2:∀ j,w1.frozen? ⟨w.heap.size+1+1,j,none⟩=false:=fun j=>by simp[World.frozen?,N2]
 cases hq:hMay M l [⟨k,n⟩] with
 | false =>
  have HE:Aside (r=(⟨0,0⟩,8)):=by show r=_;rw[HR.out,getS,if_pos hq]
  clear HR;simp only[erS_false];go_wp2
  obtain⟨m1,m2⟩:=two_cells N2 (.int .i64 0) (.int .i64 0);refine bodyPost_ret (v:=.tuple #[.agg #[.int .i64 0,.int .i64 0],.int .i64 8]) (by simp[results,Tryz.results168,go_sem,m1,m2]) rfl ⟨by rw[HE.out],?_⟩;exact(b1.setCell (by show w.heap.size<=w.heap.size+1+1;omega) _).setCell (by show w.heap.size<=w.heap.size+1+1;omega) _
 | true =>
  simp only[erS_true];have hvm:=hMay_vMay hq (v:=⟨k,n⟩) (by simp);have p0:w1.cell? ⟨w.heap.size,0,none⟩=some (.int .i64 M):=by simp[World.cell?,N0]
  have p1:w1.cell? ⟨w.heap.size,1,none⟩=some (.slice ao l.length cap):=by simp[World.cell?,N0]
  have p2:w1.cell? ⟨w.heap.size+1,0,none⟩=some (.int .i64 k):=by simp[World.cell?,N1]
  have p3:w1.cell? ⟨w.heap.size+1,1,none⟩=some (.int .i64 n):=by simp[World.cell?,N1]
  go_wp2_with fail
  refine(checkField_any M ao cap l k n f w1 (h.keeps k1) hvm).mono ?_;rintro e w2 ⟨rfl,hb2⟩;replace N0:=(hb2.block _ (by omega)).trans N0;replace N1:=(hb2.block _ (by omega)).trans N1;replace N2:=(hb2.block _ (by omega)).trans N2;replace b1:=b1.trans (hb2.mono (by omega));replace k1:=k1.trans (Keeps.below hb2);clear hb2 p0 p1 p2 p3 c2 c3 f2;have p1:w2.cell? ⟨w.heap.size,1,none⟩=some (.slice ao l.length cap):=by simp[World.cell?,N0]
  have p3:w2.cell? ⟨w.heap.size+1,1,none⟩=some (.int .i64 n):=by simp[World.cell?,N1]
  have c2:w2.cell? ⟨w.heap.size+1+1,0,none⟩=some (.int .i64 0):=by simp[World.cell?,N2]
  have c3:w2.cell? ⟨w.heap.size+1+1,1,none⟩=some (.int .i64 0):=by simp[World.cell?,N2]
  have f2:∀ j,w2.frozen? ⟨w.heap.size+1+1,j,none⟩=false:=fun j=>by simp[World.frozen?,N2]
  by_cases he:fieldErr l ⟨k,n⟩ f=0
  ·obtain⟨hk2,p,q,ob,x,hp,hqf,hob,hx,_⟩:=field_there hvm he
   simp only at hk2 hp;have HE:Aside (r=(x,0)):=by show r=_;rw[HR.out,getS,if_neg (by simp[hq]),if_neg (by simp[he])];simp[hp,hqf,hob,hx]
   rw[he];clear he hq HR hvm;subst hk2 hp hqf;obtain⟨xk,xn⟩:=x;obtain⟨fs,dead⟩:=ob;obtain⟨b,o,fa,fc,rfl,d1,d2,hfs,hfl⟩:=(h.keeps k1).cell p _ hob;simp only at d1 d2 hfs hx hfl;obtain⟨fb,fo,rfl,e1,e2⟩:=hfs q _ hx;simp only at e1 e2;have hpz:(p:Int)<(l.length:Int):=by have:=(List.getElem?_eq_some_iff.1 hob).1;omega
   have hqz:(q:Int)<(fs.length:Int):=by have:=(List.getElem?_eq_some_iff.1 hx).1;omega
   clear hob hx hfs;go_wp2
   obtain⟨m1,m2⟩:=two_cells N2 (.int .i64 xk) (.int .i64 xn);refine bodyPost_ret (v:=.tuple #[.agg #[.int .i64 xk,.int .i64 xn],.int .i64 0]) (by simp[results,Tryz.results168,go_sem,m1,m2]) rfl ⟨by rw[HE.out],?_⟩;exact(b1.setCell (by show w.heap.size<=w.heap.size+1+1;omega) _).setCell (by show w.heap.size<=w.heap.size+1+1;omega) _
  ·have HE:Aside (r=(⟨0,0⟩,fieldErr l ⟨k,n⟩ f)):=by show r=_;rw[HR.out,getS,if_neg (by simp[hq]),if_pos he]
   have hne:(fieldErr l ⟨k,n⟩ f != 0)=true:=by simp[he]
   clear HR he hq;go_wp2
   obtain⟨m1,m2⟩:=two_cells N2 (.int .i64 0) (.int .i64 0);refine bodyPost_ret (v:=.tuple #[.agg #[.int .i64 0,.int .i64 0],.int .i64 (fieldErr l ⟨k,n⟩ f)]) (by simp[results,Tryz.results168,go_sem,m1,m2]) rfl ⟨by rw[HE.out],?_⟩;exact(b1.setCell (by show w.heap.size<=w.heap.size+1+1;omega) _).setCell (by show w.heap.size<=w.heap.size+1+1;omega) _
end
end Go.Proofs.YtihpkcccfgbcmaaGreatDoor
