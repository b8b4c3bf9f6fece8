/- HHeld. -/
import Derived.Lib.AppendZeros
import Derived.Deep.RegionHeld
import Derived.Deep.RegionHeld3
import Derived.OrdersHeld
import Derived.ProofKit
import Derived.Test.YtepifccbbmdfcaaGreatDoorCBAPerf0
namespace Go.Proofs.YtepifccbbmdfcaaGreatDoor
set_option maxRecDepth 100000
set_option maxHeartbeats 8000000
section
open Go.RowKit
theorem isNoNumber_any (k n:Int) (w:World):Calls Tryz.prog 148 #[.agg #[.int .i64 k,.int .i64 n]] w fun e w'=>e=.returned (.bool (k != 1))/\Below w.heap.size w w':=by
 go_enter Tryz.func148,Tryz.ntmps148
 go_wp2
 go_ret
 exact⟨rfl,below_box _ _⟩
theorem num_any (n:Int) (w:World):Calls Tryz.prog 45 #[.int .i64 n] w fun e w'=>e=.returned (.agg #[.int .i64 1,.int .i64 n])/\Below w.heap.size w w':=by
 go_enter Tryz.func45,Tryz.ntmps45
 go_wp2
 exact bodyPost_ret (v:=.agg #[.int .i64 1,.int .i64 n]) (by simp[results,Tryz.results45,go_sem]) rfl ⟨rfl,below_box _ _⟩
theorem fault_any (e:Int) (w:World):Calls Tryz.prog 151 #[.int .i64 e] w fun r w'=>r=.returned (.int .i64 (if e=2 then 4 else 8))/\w'=w:=by
 by_cases h:e=2
 ·subst h
  go_enter Tryz.func151,Tryz.ntmps151
  go_wp2
  go_ret
  exact⟨rfl,rfl⟩
 ·have hb:(e == 2)=false:=by simp[h]
  go_enter Tryz.func151,Tryz.ntmps151
  go_wp2
  go_ret
  exact⟨by simp,rfl⟩
theorem at_of {V:Wd} {j:Nat} {x:Ac} (h:V.acts[j]?=some x):V.at (j:Int)=x:=by
 show(V.acts[(j:Int).toNat]?).getD noAc=x
 rw[Int.toNat_natCast,h]
 rfl
theorem lives_any (n:Int) (w:World) {base Bw:Nat} {V:Wd} {av pv:Value} {fl:List Fa} {rs:List (List (Value × Ob))} (h:WdOwn w base Bw V av pv fl rs) :
  Calls Tryz.prog 73 #[.pointer (some ⟨Bw,0,none⟩),.int .i64 n] w fun e w'=>e=.returned (.bool (livesS V n))/\w'=w:=by
 obtain⟨c0,_,_⟩:=h.bw;obtain⟨RES,hRES⟩:∃ RES,RES=livesS V n:=⟨_,rfl⟩;have HR:Aside (RES=livesS V n):=hRES;rw[<- hRES];clear hRES;obtain⟨ao,cc,hav⟩:=h.acts.form;rw[h.flen] at hav;rw[hav] at c0;obtain⟨N,hN⟩:∃ N,N=V.acts.length:=⟨_,rfl⟩;have HN:Aside (N=V.acts.length):=hN;rw[<- hN] at c0;clear hN
 by_cases h1:0<=n
 rotate_left
 ·have HF:Aside (RES=false):=by show RES=false;rw[HR.out];simp[livesS,h1]
  clear HR h hav
  go_enter Tryz.func73,Tryz.ntmps73
  go_wp2
  go_ret
  exact⟨ret_bool HF.out.symm,rfl⟩
 by_cases h2:n<(N:Int)
 rotate_left
 ·have HF:Aside (RES=false):=by show RES=false;rw[HR.out];have:=HN.out;simp[livesS];intro _ h3;omega
  clear HR h hav
  go_enter Tryz.func73,Tryz.ntmps73
  go_wp2
  go_ret
  exact⟨ret_bool HF.out.symm,rfl⟩
 obtain⟨j,rfl⟩:=Int.eq_ofNat_of_zero_le h1;obtain⟨x,hx⟩:=at_some (l:=V.acts) (i:=j) (by rw[<- HN.out];omega);obtain⟨fa,r,g,c,R,hfa,hr,hA,hav2,_,k0,k1,k2,k3,k4,k5,k6,k7⟩:=h.cells hx;rw[hav2] at hav;simp only[Value.slice.injEq] at hav;obtain⟨rfl,_,_⟩:=hav;have HT:Aside (RES=decide (x.fin=0)):=by
  show RES=_
  have:=HN.out;rw[HR.out,livesS,at_of hx,decide_eq_true h1,decide_eq_true (show(j:Int)<(V.acts.length:Int) by omega)];simp
 clear HR h hA
 by_cases h3:x.fin=0
 ·rw[h3] at k7
  have HF:Aside (RES=true):=by show RES=true;rw[HT.out];simp[h3]
  go_enter Tryz.func73,Tryz.ntmps73
  go_wp2
  go_ret
  exact⟨ret_bool HF.out.symm,rfl⟩
 ·have h3b:(x.fin == 0)=false:=by simp[h3]
  have HF:Aside (RES=false):=by show RES=false;rw[HT.out];simp[h3]
  go_enter Tryz.func73,Tryz.ntmps73
  go_wp2
  go_ret
  exact⟨ret_bool HF.out.symm,rfl⟩
theorem takes_any (n:Int) (w:World) {base Bw:Nat} {V:Wd} {av pv:Value} {fl:List Fa} {rs:List (List (Value × Ob))} (h:WdOwn w base Bw V av pv fl rs) (hbx:∀ (j:Nat) x,V.acts[j]?=some x->x.box.length<=1000000) :
  Calls Tryz.prog 80 #[.pointer (some ⟨Bw,0,none⟩),.int .i64 n] w fun e w'=>e=.returned (.bool (takesS V n))/\w'=w:=by
 have hL:=lives_any n w h;obtain⟨c0,_,_⟩:=h.bw;obtain⟨RES,hRES⟩:∃ RES,RES=takesS V n:=⟨_,rfl⟩;have HR:Aside (RES=takesS V n):=hRES;rw[<- hRES];clear hRES
 by_cases h0:livesS V n=true
 rotate_left
 ·have h0f:livesS V n=false:=by simpa using h0
  rw[h0f] at hL;have HL:Aside (Calls Tryz.prog 73 #[.pointer (some ⟨Bw,0,none⟩),.int .i64 n] w fun e w'=>e=.returned (.bool false)/\w'=w):=hL;have HF:Aside (RES=false):=by show RES=false;rw[HR.out,takesS,h0f];rfl
  clear hL HR h hbx
  go_enter Tryz.func80,Tryz.ntmps80
  go_wp2_with fail
  refine Calls.mono HL.out ?_;rintro e w' ⟨rfl,hw'⟩;replace hw':=hw'.symm;subst hw';go_wp2
  go_ret
  exact⟨ret_bool HF.out.symm,rfl⟩
 rw[h0] at hL;have HL:Aside (Calls Tryz.prog 73 #[.pointer (some ⟨Bw,0,none⟩),.int .i64 n] w fun e w'=>e=.returned (.bool true)/\w'=w):=hL;have h0':=h0;simp only[livesS,Bool.and_eq_true,decide_eq_true_eq] at h0';obtain⟨⟨h1,h2⟩,_⟩:=h0';obtain⟨j,rfl⟩:=Int.eq_ofNat_of_zero_le h1;obtain⟨x,hx⟩:=at_some (l:=V.acts) (i:=j) (by omega);obtain⟨fa,r,g,c,R,hfa,hr,hA,hav2,_,k0,k1,k2,k3,k4,k5,k6,k7⟩:=h.cells hx
 rw[hav2] at c0;have hb6:=hbx j x hx;have HT:Aside (RES=decide (x.box.length<6)):=by
  show RES=_
  rw[HR.out,takesS,h0,at_of hx];simp
 obtain⟨N,hN⟩:∃ N,N=V.acts.length:=⟨_,rfl⟩;rw[<- hN] at c0 h2;clear hN hL HR h hA hbx h0;generalize x.box.length=X at *
 by_cases h3:X<6
 ·have h3b:(X:Int)<6:=by omega
  have HF:Aside (RES=true):=by show RES=true;rw[HT.out];simp[h3]
  go_enter Tryz.func80,Tryz.ntmps80
  go_wp2_with fail
  refine Calls.mono HL.out ?_;rintro e w' ⟨rfl,hw'⟩;replace hw':=hw'.symm;subst hw';go_wp2
  go_ret
  exact⟨ret_bool HF.out.symm,rfl⟩
 ·have h3b:¬ (X:Int)<6:=by omega
  have HF:Aside (RES=false):=by show RES=false;rw[HT.out];simp[h3]
  go_enter Tryz.func80,Tryz.ntmps80
  go_wp2_with fail
  refine Calls.mono HL.out ?_;rintro e w' ⟨rfl,hw'⟩;replace hw':=hw'.symm;subst hw';go_wp2
  go_ret
  exact⟨ret_bool (by rw[HF.out];simp;omega),rfl⟩
theorem needNumber_any (k n:Int) (w:World):Calls Tryz.prog 109 #[.agg #[.int .i64 k,.int .i64 n]] w fun e w'=>e=.returned (.int .i64 (if k≠1 then 8 else 0))/\Below w.heap.size w w':=by
 have b1:=below_box w (.cells #[.int .i64 k,.int .i64 n] 66);obtain⟨RES,hRES⟩:∃ RES:Int,RES=if k≠1 then 8 else 0:=⟨_,rfl⟩
 rw[<- hRES]
 by_cases h:k=1
 ·have hb:(k != 1)=false:=by simp[h]
  have HF:Aside (RES=0):=by show RES=0;rw[hRES];simp[h]
  clear hRES h
  go_enter Tryz.func109,Tryz.ntmps109
  go_wp2_with fail
  refine(isNoNumber_any k n _).mono ?_;rintro e w' ⟨rfl,hb'⟩;rw[hb];go_wp2
  go_ret
  exact⟨ret_num HF.out.symm,b1.trans (hb'.mono b1.size)⟩
 ·have hb:(k != 1)=true:=by simp[h]
  have HF:Aside (RES=8):=by show RES=8;rw[hRES];simp[h]
  clear hRES h
  go_enter Tryz.func109,Tryz.ntmps109
  go_wp2_with fail
  refine(isNoNumber_any k n _).mono ?_;rintro e w' ⟨rfl,hb'⟩;rw[hb];go_wp2
  go_ret
  exact⟨ret_num HF.out.symm,b1.trans (hb'.mono b1.size)⟩
theorem result_any (op x y:Int) (w:World) (hx:-1099511627776<=x/\x<=1099511627776) (hy:-1099511627776<=y/\y<=1099511627776):Calls Tryz.prog 149 #[.int .i64 op,.int .i64 x,.int .i64 y] w fun e w'=>e=.returned (.int .i64 (resultS op x y))/\w'=w:=by
 have w1:IntKind.i64.wrap (x+y)=x+y:=by rw[IntKind.wrap_i64];omega
 have w2:IntKind.i64.wrap (x-y)=x-y:=by rw[IntKind.wrap_i64];omega
 by_cases h2:op=2
 ·subst h2
  go_enter Tryz.func149,Tryz.ntmps149
  go_wp2
  go_ret
  exact⟨ret_num (by simp[resultS]),rfl⟩
 have h2b:(op == 2)=false:=by simp[h2]
 by_cases h3:op=3
 ·subst h3
  go_enter Tryz.func149,Tryz.ntmps149
  go_wp2
  go_ret
  exact⟨ret_num (by simp[resultS]),rfl⟩
 have h3b:(op == 3)=false:=by simp[h3]
 by_cases h4:x<y
 ·go_enter Tryz.func149,Tryz.ntmps149
  go_wp2
  go_ret
  exact⟨ret_num (by simp[resultS,h2,h3,h4]),rfl⟩
 ·go_enter Tryz.func149,Tryz.ntmps149
  go_wp2
  go_ret
  exact⟨ret_num (by simp[resultS,h2,h3,h4]),rfl⟩
end
section
open Go.RowKit
theorem isNoObject_any (k n:Int) (w:World):Calls Tryz.prog 124 #[.agg #[.int .i64 k,.int .i64 n]] w fun e w'=>e=.returned (.bool (k != 2))/\Below w.heap.size w w':=by
 go_enter Tryz.func124,Tryz.ntmps124
 go_wp2
 go_ret
 exact⟨rfl,below_box _ _⟩
theorem isWord_any (n:Int) (w:World):Calls Tryz.prog 48 #[.int .i64 n] w fun e w'=>e=.returned (.bool (isW n))/\w'=w:=by
 go_enter Tryz.func48,Tryz.ntmps48
 go_wp2
 all_goals
  go_ret
  refine⟨ret_bool ?_,rfl⟩;simp[isW, *] <;> omega
theorem wpList_append_run {P:Program} {w w':World} {ops:Array Oper} {rest:List Oper} {o:Oper} {a:Act} {Q:Exit->Act->World->Prop} (hgd:o.guard=none) (p q:Operand) (t1 t2:TypeId)
  (ho:o.op=.call { callee:=.builtin .append,args:=#[p,q],argTypes:=#[t1,t2] }) (v1 v2 r:Value) (hp:a.eval p=v1) (hq:a.eval q=v2)
  (hrun:(Builtin.append_ #[t1,t2] o.type #[v1,v2]).run P w=.ok r w') (h:wpList P ops Q rest (a.put o.dst r) w'):wpList P ops Q (o :: rest) a w:=by
 refine wpList_plain hgd fun K hK=>?_
 unfold Oper.wp execOp
 simp only[ho,resolve,invoke,builtin,Sem.run_bind,Sem.run_pure,Result.andThen_ok,List.map_toArray,List.map_cons,List.map_nil,hp,hq,hrun];exact hK _ _ h
theorem zeroCells_size (z:Array Value) (n:Nat):(Builtin.zeroCells z n).size=n*z.size:=by simp[Builtin.zeroCells]
theorem grow_any (n:Nat) (w:World) (hn:16*n<=281474976710656) :
  Calls Tryz.prog 159 #[.slice none 0 0,.int .i64 n] w fun e w'=>∃ v,e=.returned v/\SeqOwn fVl 2 66 w' w.heap.size v []/\Below w.heap.size w w':=by
 by_cases h0:n=0
 ·subst h0
  go_enter Tryz.func159,Tryz.ntmps159
  go_wp2
  go_ret
  exact⟨_,rfl,seqOwn_nil _ _,Below.refl _ _⟩
 ·obtain⟨i0,hi0,hzz⟩:=Option.map_eq_some_iff.1 (show(Tryz.prog.info? 66).map (fun i=>(i.zero,i.size,i.bytes))=some (some (.agg #[.int .i64 0,.int .i64 0]),2,16) by kernel_rfl)
  simp only[Prod.mk.injEq] at hzz;obtain⟨hz0,hz1,hz2⟩:=hzz;have hnz:(0:Int)<(n:Int):=by omega
  have hrun:=Go.Lib.run_append_nil_zeros (P:=Tryz.prog) w 48 3 48 66 i0 _ .i64 .i64 Tryz.underlying48 Tryz.underlying3 hi0 hz0 n (by omega) (by omega) (by omega) (by rw[hz2];omega);have hge:=grownCap_ge w n 0 66;have hle:=grownCap_le_maxLen w n 0 66 (by unfold maxLen;omega);have hown:SeqOwn fVl 2 66 (w.drew.alloc (.cells (Builtin.zeroCells (Value.cells (.agg #[.int .i64 0,.int .i64 0])) n++Builtin.zeroCells (Value.cells (.agg #[.int .i64 0,.int .i64 0])) (grownCap w n 0 66-n)) 66)) w.heap.size (.slice (some ⟨w.heap.size,0,none⟩) 0 (grownCap w n 0 66)) [] :=
   ⟨by simp,.inr ⟨w.heap.size,_,_,rfl,Nat.le_refl _,Deep.blk_alloc_new w.drew _,Nat.zero_le _,hle,by
    rw[Array.size_append,zeroCells_size,zeroCells_size]
    show n*2+(grownCap w n 0 66-n)*2=_
    omega,by simp⟩⟩
  have hbel:Below w.heap.size w (w.drew.alloc (.cells (Builtin.zeroCells (Value.cells (.agg #[.int .i64 0,.int .i64 0])) n++Builtin.zeroCells (Value.cells (.agg #[.int .i64 0,.int .i64 0])) (grownCap w n 0 66-n)) 66)):=(Below.refl _ _).drew.alloc (Nat.le_refl _) _;generalize w.drew.alloc (.cells (Builtin.zeroCells (Value.cells (.agg #[.int .i64 0,.int .i64 0])) n++Builtin.zeroCells (Value.cells (.agg #[.int .i64 0,.int .i64 0])) (grownCap w n 0 66-n)) 66)=W1 at *
  generalize grownCap w n 0 66=Cp at *;clear hi0 hz0 hz1 hz2
  go_enter Tryz.func159,Tryz.ntmps159
  have HR:Aside ((Builtin.append_ #[48,3] 48 #[.slice none 0 0,.int .i64 n]).run Tryz.prog w=.ok (.slice (some ⟨w.heap.size,0,none⟩) n Cp) W1):=hrun;clear hrun
  go_wp2_with (at_builtin;refine wpList_append_run rfl _ _ _ _ (by rfl) _ _ _ (by simp[Act.eval]) (by simp[Act.eval]) HR.out ?_)
  go_ret
  exact⟨_,rfl,hown,hbel⟩
theorem wpList_seqAll {α:Type} {f:α->List Value} {s:Nat} {e tS:TypeId} {bytes:Nat} {P:Program} (T:RowT P f s tS e bytes) {w:World} {base:Nat} {v:Value} {l:List α} {ops:Array Oper} {rest:List Oper} {o:Oper} {a:Act} {Q:Exit->Act->World->Prop} (hgd:o.guard=none) (p q:Operand)
  (ho:o.op=.call { callee:=.builtin .append,args:=#[p,q],argTypes:=#[tS,tS] }) (hp:a.eval p=v) (hO:SeqOwn f s e w base v l) (hb:base<=w.heap.size)
  (fs:List α) (fa:Option Addr) (fc:Nat) (hq:a.eval q=.slice fa fs.length fc) (hfs:SeqAt f s w fa fs) (hl:(l.length+fs.length)*bytes<=140737488355328) (hl2:l.length+fs.length<=maxLen)
  (h:∀ v' w',SeqOwn f s e w' base v' (l++fs)->Below base w w'->wpList P ops Q rest (a.put o.dst v') w') :
  wpList P ops Q (o :: rest) a w:=by
 by_cases hpos:0<fs.length
 ·refine wpList_seq T hgd p q ho hp hO hb fs fa fc hq hfs hpos hl hl2 ?_
  intro g cap w' hO' _ hb' _;exact h _ _ hO' hb'
 ·have he:fs=[]:=List.eq_nil_of_length_eq_zero (by omega)
  subst he;refine wpList_append_run hgd p q tS tS ho v (.slice fa 0 fc) v hp (by simpa using hq) (run_seq_zero T hO fa fc) ?_;exact h v w (by simpa using hO) (Below.refl _ _)
theorem concat_any (b:Nat) (ra ba:Option Addr) (rc bc:Nat) (regs box:List Vl) (w:World) (c0:w.cell? ⟨b,0,none⟩=some (.slice ra regs.length rc)) (c1:w.cell? ⟨b,1,none⟩=some (.slice ba box.length bc)) (hr:ValsAt w ra regs) (hb:ValsAt w ba box)
  (hrl:16*regs.length<=140737488351232) (hbl:box.length<=6) :
  Calls Tryz.prog 121 #[.slice (some ⟨b,0,none⟩) 2 2] w fun e w'=>∃ va vc,e=.returned (.slice va (regs.length+box.length) vc)/\ValsAt w' va (regs++box)/\Below w.heap.size w w':=by
 have hmx:maxLen=9223372036854775807:=rfl;have sr:=seqVl_of hr;have sb:=seqVl_of hb;have HS:Aside (SeqAt fVl 2 w ra regs/\SeqAt fVl 2 w ba box):=⟨sr,sb⟩;clear hr hb sr sb;obtain⟨R,hR⟩:∃ R,R=regs.length:=⟨_,rfl⟩;obtain⟨X,hX⟩:∃ X,X=box.length:=⟨_,rfl⟩;have HL:Aside (R=regs.length/\X=box.length):=⟨hR,hX⟩;rw[<- hR] at c0 hrl ⊢;rw[<- hX] at c1 hbl ⊢;clear hR hX
 go_enter Tryz.func121,Tryz.ntmps121
 go_wp2_with fail
 go_loopg [3,11] 2 (fun g s3 s11 wr=>∃ i n:Nat,i<=2/\g=2-i/\s11=.int .i64 i/\s3=.int .i64 n/\(i=0->n=0)/\(i=1->n=R)/\(i=2->n=R+X)/\wr=w)
 case atStart=>exact⟨0,0,by omega,rfl,rfl,rfl,fun _=>rfl,fun h=>by omega,fun h=>by omega,rfl⟩
 case round =>
  obtain⟨i,n,hi,rfl,rfl,rfl,h0,h1,h2,hw⟩:=hrel;replace hw:=hw.symm;subst hw
  by_cases hi2:i<2
  ·have hiz:(i:Int)<2:=by omega
   rcases (by omega:i=0\/i=1) with rfl | rfl
   ·obtain rfl:=h0 rfl
    go_wp2_with fail
    go_roundg (2-(0+1))
    case measure=>go_light;omega
    case rel=>go_light;exact⟨1,R,by omega,rfl,by go_num,by simp,fun h=>by omega,fun _=>rfl,fun h=>by omega,rfl⟩
   ·obtain rfl:=h1 rfl
    go_wp2_with fail
    go_roundg (2-(1+1))
    case measure=>go_light;omega
    case rel=>go_light;exact⟨2,n+X,by omega,rfl,by go_num,by simp,fun h=>by omega,fun h=>by omega,fun _=>rfl,rfl⟩
  ·obtain rfl:i=2:=by omega
   obtain rfl:=h2 rfl;clear h0 h1 h2
   go_wp2_with fail
   refine(grow_any (R+X) _ (by omega)).mono ?_;rintro e w1 ⟨v,rfl,hO,hb1⟩;have HO:Aside (SeqOwn fVl 2 66 w1 w.heap.size v []/\Below w.heap.size w w1):=⟨hO,hb1⟩;clear hO hb1;have hb1s:=HO.out.2.size
   go_wp2_with fail
   go_loopg [6,27] 2 (fun g s6 s27 wr=>∃ i:Nat,i<=2/\g=2-i/\s27=.int .i64 i/\SeqOwn fVl 2 66 wr w.heap.size s6 (if i=0 then [] else if i=1 then regs else regs++box)/\Below w.heap.size w wr)
   case atStart=>exact⟨0,by omega,rfl,rfl,HO.out.1,HO.out.2⟩
   case round =>
    obtain⟨i,hi,rfl,rfl,hO,hbr⟩:=hrel
    by_cases hi2:i<2
    ·have hiz:(i:Int)<2:=by omega
     rcases (by omega:i=0\/i=1) with rfl | rfl
     ·have hfs:=(HS.out.1).keeps (Keeps.below hbr)
      replace hO:SeqOwn fVl 2 66 wr w.heap.size u6 ([]):=hO;have hcc:=Keeps.below hbr _ _ c0;have hsz:=hbr.size
      go_wp2_with (at_builtin;refine wpList_seqAll Tryz.rowVl rfl _ _ (by rfl) (v:=u6) (by simp[Act.eval]) hO hsz regs ra rc (by simp[Act.eval];exact HL.out.1) hfs (by have:=HL.out;simp;omega) (by have:=HL.out;simp;omega) ?_;rintro v2 w2 hO2 hb2)
      go_roundg (2-(0+1))
      case measure=>go_light;omega
      case rel=>go_light;exact⟨1,by omega,rfl,by go_num,hO2,hbr.trans hb2⟩
     ·have hfs:=(HS.out.2).keeps (Keeps.below hbr)
      replace hO:SeqOwn fVl 2 66 wr w.heap.size u6 (regs):=hO;have hcc:=Keeps.below hbr _ _ c1;have hsz:=hbr.size
      go_wp2_with (at_builtin;refine wpList_seqAll Tryz.rowVl rfl _ _ (by rfl) (v:=u6) (by simp[Act.eval]) hO hsz box ba bc (by simp[Act.eval];exact HL.out.2) hfs (by have:=HL.out;rw[<- this.1,<- this.2];omega) (by have:=HL.out;rw[<- this.1,<- this.2];omega) ?_;rintro v2 w2 hO2 hb2)
      go_roundg (2-(1+1))
      case measure=>go_light;omega
      case rel=>go_light;exact⟨2,by omega,rfl,by go_num,hO2,hbr.trans hb2⟩
    ·obtain rfl:i=2:=by omega
     replace hO:SeqOwn fVl 2 66 wr w.heap.size u6 (regs++box):=hO;obtain⟨va,vc,rfl⟩:=hO.form;have HV:Aside (ValsAt wr va (regs++box)):=seqVl_to (SeqOwn.at (f:=fVl) (s:=2) (fun _=>rfl) hO);clear hO
     go_wp2_with fail
     go_ret
     exact⟨va,vc,by rw[HL.out.1,HL.out.2];simp,HV.out,hbr⟩
end
section
section
variable {P:Program} {ops:Array Oper} {Q:Exit->Act->World->Prop} {md:Region.Mode} {S:World->Prop} {need:Nat->Bool}
def wpAnyN (P:Program) (md:Region.Mode) (ops:Array Oper) (Q:Exit->Act->World->Prop) (S:World->Prop) (need:Nat->Bool):Nat->Array Bool->Act->World->Prop
 | 0,listed,a,w=>Region.ready md ops listed=[]/\Q .normal a w
 | fuel+1,listed,a,w =>
  (Region.ready md ops listed=[]->Q .normal a w) /\
  ∀ i∈Region.ready md ops listed,wpOp P ops Q i (fun a' w'=>(need i=true->S w')/\wpAnyN P md ops Q S need fuel (listed.setIfInBounds i true) a' w') a w
theorem wpAny_of_need:∀ (fuel:Nat) (listed:Array Bool) (a:Act) (w:World),wpAnyN P md ops Q S need fuel listed a w->wpAny P md ops Q fuel listed a w
 | 0,_,_,_,h=>h
 | fuel+1,_,_,_,h=>⟨h.1,fun i hi=>wpOp_mono (fun a' w' h'=>wpAny_of_need fuel _ a' w' h'.2) (h.2 i hi)⟩
def Closed (md:Region.Mode) (ops:Array Oper) (listed:Array Bool):Prop :=
 ∀ (j:Nat) oj,ops[j]?=some oj->listed.getD j false=true->∀ e∈oj.after,Region.binds md e=true->listed.getD e.on false=true
def closedB (md:Region.Mode) (ops:Array Oper) (listed:Array Bool):Bool :=
 (List.range ops.size).all fun j=>!listed.getD j false || match ops[j]? with
  | some oj=>oj.after.all fun e=>!Region.binds md e || listed.getD e.on false
  | none=>true
theorem closed_spec {listed:Array Bool} (h:closedB md ops listed=true):Closed md ops listed:=fun j oj hj hl e he hb=>by
 have hlt:j<ops.size:=(Array.getElem?_eq_some_iff.1 hj).1;have:=List.all_eq_true.1 h j (List.mem_range.2 hlt);simp only[hl,hj,Bool.not_true,Bool.false_or,Array.all_eq_true'] at this
 have:=this e he
 simpa[hb] using this
def dep (md:Region.Mode) (ops:Array Oper) (i:Nat):Nat->Nat->Bool
 | 0,_=>false
 | n+1,j=>match ops[j]? with
  | some oj=>oj.after.any fun e=>Region.binds md e && (e.on == i || dep md ops i n e.on)
  | none=>false
theorem dep_listed {i:Nat} {listed:Array Bool} (hc:Closed md ops listed):∀ (n j:Nat) (oj:Oper),ops[j]?=some oj->(∀ e∈oj.after,Region.binds md e=true->listed.getD e.on false=true)->dep md ops i n j=true->listed.getD i false=true
 | 0,_,_,_,_,h=>by simp[dep] at h
 | n+1,j,oj,hj,hall,h=>by
  simp only[dep,hj,Array.any_eq_true',Bool.and_eq_true,Bool.or_eq_true,beq_iff_eq] at h;obtain⟨e,he,hb,hon⟩:=h;have hl:=hall e he hb
  rcases hon with hon | hon
  ·rw[hon] at hl;exact hl
  ·cases ho:ops[e.on]? with
   | none =>
    cases n with
    | zero=>simp[dep] at hon
    | succ n=>simp[dep,ho] at hon
   | some o=>exact dep_listed hc n e.on o ho (hc e.on o ho hl) hon
theorem wpAnyN_first {i:Nat} {oi:Oper} {v:Value} (hi:ops[i]?=some oi) (hsel:∀ (j:Nat) (o:Oper) cs b,ops[j]?=some o->o.op≠.select cs b)
  (hQ:∀ c a w,Q (.panic c) (a.put oi.dst v) w->Q (.panic c) a w) (hneed:∀ (j:Nat) oj,ops[j]?=some oj->need j=false->∃ n,dep md ops i n j=true) :
  ∀ (fuel:Nat) (listed:Array Bool) (a:Act) (w:World),Closed md ops listed ->
   (∀ j oj,ops[j]?=some oj->j≠i->listed.getD j true=false->(∀ e∈oj.after,Region.binds md e=true->e.on≠i)->oi.apart ops oj=true) ->
   i∈Region.ready md ops listed->YieldsIf P ops S oi v a->S w ->
   wpAnyN P md ops Q S need fuel (listed.setIfInBounds i true) (a.put oi.dst v) w->wpAnyN P md ops Q S need (fuel+1) listed a w:=by
 intro fuel
 induction fuel with
 | zero =>
  intro listed a w _ _ hr hy hS H;refine⟨fun h=>(by rw[h] at hr;cases hr),fun j hj=>?_⟩
  by_cases hji:j=i
  ·subst hji;exact hy.wpOp hi hS ⟨fun _=>hS,H⟩
  ·have:=ready_mono hj hji
   rw[H.1] at this
   cases this
 | succ fuel ih =>
  intro listed a w hcl hfree hr hy hS H;refine⟨fun h=>(by rw[h] at hr;cases hr),fun j hj=>?_⟩
  by_cases hji:j=i
  ·subst hji;exact hy.wpOp hi hS ⟨fun _=>hS,H⟩
  ·have h1:=H.2 j (ready_mono hj hji)
   obtain⟨hjun,oj,hoj,hall⟩:=mem_ready.1 hj;have hinot:listed.getD i false=false:=by
    have h0:=(mem_ready.1 hr).1
    rcases Nat.lt_or_ge i listed.size with h' | h'
    ·simp[h'] at h0 ⊢;exact h0
    ·simp[Array.getElem?_eq_none h'] at h0
   have hnot:∀ e∈oj.after,Region.binds md e=true->e.on≠i:=fun e he hb heq=>by
    have h1:=hall e he hb;rw[heq,hinot] at h1
    cases h1
   have hnj:need j=true:=by
    cases hn:need j with
    | true=>rfl
    | false =>
     obtain⟨n,hd⟩:=hneed j oj hoj hn;have:=dep_listed hcl n j oj hoj hall hd;rw[hinot] at this
     cases this
   have hcl':Closed md ops (listed.setIfInBounds j true):=fun k ok hk hlk e he hb=>by
    refine getD_set_true ?_
    by_cases hkj:j=k
    ·subst hkj
     rw[hoj] at hk;simp only[Option.some.injEq] at hk;subst hk;exact hall e he hb
    ·rw[getD_set_ne false hkj] at hlk
     exact hcl k ok hk hlk e he hb
   have h2:=wpOp_putIf hoj (hfree j oj hoj hji hjun hnot) (fun cs b=>hsel i oi cs b hi) (fun cs b=>hsel j oj cs b hoj) hQ hy h1;have hfree':∀ k ok,ops[k]?=some ok->k≠i->(listed.setIfInBounds j true).getD k true=false ->
     (∀ e∈ok.after,Region.binds md e=true->e.on≠i)->oi.apart ops ok=true:=fun k ok hk hki hun hno=>by
    refine hfree k ok hk hki ?_ hno
    by_cases hjk:j=k
    ·subst hjk;exact hjun
    ·rw[getD_set_ne true hjk] at hun;exact hun
   refine wpOp_mono (fun a' w' h3=>⟨fun _=>h3.2.1 hnj,ih (listed.setIfInBounds j true) a' w' hcl' hfree' (ready_mono hr (Ne.symm hji)) h3.1 (h3.2.1 hnj) ?_⟩) h2;rw[Array.setIfInBounds_comm _ _ hji];exact h3.2.2
def waits (md:Region.Mode) (ops:Array Oper) (need:Nat->Bool) (i:Nat):Bool :=
 (List.range ops.size).all fun j=>need j || dep md ops i ops.size j
theorem waits_spec {i:Nat} (h:waits md ops need i=true) (j:Nat) (oj:Oper) (hj:ops[j]?=some oj) (hn:need j=false):∃ n,dep md ops i n j=true:=by
 have hlt:j<ops.size:=(Array.getElem?_eq_some_iff.1 hj).1;have:=List.all_eq_true.1 h j (List.mem_range.2 hlt);simp only[hn,Bool.false_or] at this
 exact⟨_,this⟩
theorem wpAnyN_take {i:Nat} {oi:Oper} {v:Value} {fuel:Nat} {listed:Array Bool} {a:Act} {w:World} (hi:ops[i]?=some oi)
  (hs:Region.noSelect ops=true) (hf:Region.free md ops listed i=true) (hr:(Region.ready md ops listed).contains i=true) (hn:(waits md ops need i && closedB md ops listed)=true)
  (hQ:∀ c a w,Q (.panic c) (a.put oi.dst v) w->Q (.panic c) a w) (hw:Region.wanted oi (yielded ops a.tmps)=true) (hy:∀ w,S w->(execOp a.eval oi).run P w=.ok (.value v) w) (hS:S w)
  (h:wpAnyN P md ops Q S need fuel (listed.setIfInBounds i true) (a.put oi.dst v) w):wpAnyN P md ops Q S need (fuel+1) listed a w :=
 have hn':=Bool.and_eq_true_iff.1 hn
 wpAnyN_first hi (Region.noSelect_spec hs) hQ (waits_spec hn'.1) fuel listed a w (closed_spec hn'.2) (Region.free_spec hi hf) (by simpa using hr) (Or.inl ⟨hw,hy⟩) hS h
def Rst (P:Program) (md:Region.Mode) (ops:Array Oper) (Q:Exit->Act->World->Prop) (S:World->Prop) (need:Nat->Bool) (fuel:Nat) (listed:Array Bool) (i:Nat) (K:Act->World->Prop):Prop :=
 ∀ a w,(need i=true->S w)->wpAnyN P md ops Q S need fuel (listed.setIfInBounds i true) a w->K a w
theorem Rst.out {fuel i:Nat} {listed:Array Bool} {K:Act->World->Prop} (h:Rst P md ops Q S need fuel listed i K):∀ a w,(need i=true->S w)->wpAnyN P md ops Q S need fuel (listed.setIfInBounds i true) a w->K a w:=h
theorem wpAnyN_one {i:Nat} {o:Oper} {fuel:Nat} {listed:Array Bool} {a:Act} {w:World} (hr:Region.ready md ops listed=[i]) (ho:ops[i]?=some o)
  (h:∀ K':Act->World->Prop,Rst P md ops Q S need fuel listed i K'->if Region.wanted o (yielded ops a.tmps)=true then Oper.wp P o a w K' Q else K' (a.put o.dst undef) w) :
  wpAnyN P md ops Q S need (fuel+1) listed a w :=
 ⟨fun h0=>(by rw[hr] at h0;cases h0),fun j hj=>by
  rw[hr] at hj;simp only[List.mem_singleton] at hj;subst hj;exact wpOp_step ho (fun K' hK=>h K' (fun a w hS hW=>hK a w ⟨hS,hW⟩))⟩
theorem wpAnyN_two {i j:Nat} {oi oj:Oper} {fuel:Nat} {listed:Array Bool} {a:Act} {w:World} (hr:Region.ready md ops listed=[i,j]) (hi:ops[i]?=some oi) (hj:ops[j]?=some oj)
  (h1:∀ K':Act->World->Prop,Rst P md ops Q S need fuel listed i K'->if Region.wanted oi (yielded ops a.tmps)=true then Oper.wp P oi a w K' Q else K' (a.put oi.dst undef) w)
  (h2:∀ K':Act->World->Prop,Rst P md ops Q S need fuel listed j K'->if Region.wanted oj (yielded ops a.tmps)=true then Oper.wp P oj a w K' Q else K' (a.put oj.dst undef) w) :
  wpAnyN P md ops Q S need (fuel+1) listed a w :=
 ⟨fun h0=>(by rw[hr] at h0;cases h0),fun k hk=>by
  rw[hr] at hk;simp only[List.mem_cons,List.not_mem_nil,or_false] at hk
  rcases hk with rfl | rfl
  ·exact wpOp_step hi (fun K' hK=>h1 K' (fun a w hS hW=>hK a w ⟨hS,hW⟩))
  ·exact wpOp_step hj (fun K' hK=>h2 K' (fun a w hS hW=>hK a w ⟨hS,hW⟩))⟩
theorem wpAnyN_three {i j l:Nat} {oi oj ol:Oper} {fuel:Nat} {listed:Array Bool} {a:Act} {w:World} (hr:Region.ready md ops listed=[i,j,l]) (hi:ops[i]?=some oi) (hj:ops[j]?=some oj) (hl:ops[l]?=some ol)
  (h1:∀ K':Act->World->Prop,Rst P md ops Q S need fuel listed i K'->if Region.wanted oi (yielded ops a.tmps)=true then Oper.wp P oi a w K' Q else K' (a.put oi.dst undef) w)
  (h2:∀ K':Act->World->Prop,Rst P md ops Q S need fuel listed j K'->if Region.wanted oj (yielded ops a.tmps)=true then Oper.wp P oj a w K' Q else K' (a.put oj.dst undef) w)
  (h3:∀ K':Act->World->Prop,Rst P md ops Q S need fuel listed l K'->if Region.wanted ol (yielded ops a.tmps)=true then Oper.wp P ol a w K' Q else K' (a.put ol.dst undef) w) :
  wpAnyN P md ops Q S need (fuel+1) listed a w :=
 ⟨fun h0=>(by rw[hr] at h0;cases h0),fun k hk=>by
  rw[hr] at hk;simp only[List.mem_cons,List.not_mem_nil,or_false] at hk
  rcases hk with rfl | rfl | rfl
  ·exact wpOp_step hi (fun K' hK=>h1 K' (fun a w hS hW=>hK a w ⟨hS,hW⟩))
  ·exact wpOp_step hj (fun K' hK=>h2 K' (fun a w hS hW=>hK a w ⟨hS,hW⟩))
  ·exact wpOp_step hl (fun K' hK=>h3 K' (fun a w hS hW=>hK a w ⟨hS,hW⟩))⟩
theorem wpAnyN_done {listed:Array Bool} {a:Act} {w:World} (hr:Region.ready md ops listed=[]) (h:Q .normal a w):∀ fuel,wpAnyN P md ops Q S need fuel listed a w
 | 0=>⟨hr,h⟩
 | _+1=>⟨fun _=>h,by rw[hr];simp⟩
theorem wp_region_need {id:Nat} {a:Act} {w:World} (need:Nat->Bool) (S:World->Prop) (hm:P.follows .mixedOrders=true) (hS:S w.drew)
  (h:S w.drew->wpAnyN P .any ops (NoPanic Q) S need ops.size (Array.replicate ops.size false) a w.drew):(Code.region id ops true).wp P Q a w :=
 wp_region_noPanic (wp_region_any hm (wpAny_of_need _ _ _ _ (h hS)))
end
section
open Go.RowKit
variable {P:Program} {ops:Array Oper} {Q:Exit->Act->World->Prop} {md:Region.Mode} {S:World->Prop} {need:Nat->Bool}
theorem tkN (i:Nat) {oi:Oper} {v:Value} {fuel:Nat} {listed:Array Bool} {a a':Act} {w:World} (hS:S w) (h:wpAnyN P md ops Q S need fuel (listed.setIfInBounds i true) a' w)
  (hi:ops[i]?=some oi:=by rfl) (hs:Region.noSelect ops=true:=by kernel_rfl) (hf:Region.free md ops listed i=true:=by kernel_rfl) (hr:(Region.ready md ops listed).contains i=true:=by kernel_rfl)
  (hn:(waits md ops need i && closedB md ops listed)=true:=by kernel_rfl) (hw:Region.wanted oi (yielded ops a.tmps)=true:=by rfl)
  (hy:∀ w,S w->(execOp a.eval oi).run P w=.ok (.value v) w:=by intro wy hSy;(try dsimp only at hSy);go_simp;try (with_reducible rfl))
  (hp:a.put oi.dst v=a':=by simp only[Act.put,List.getElem_toArray,List.getElem_cons_zero,List.getElem_cons_succ,List.setIfInBounds_toArray,List.set_cons_zero,List.set_cons_succ];exact rfl)
  (hQ:∀ c a w,Q (.panic c) (a.put oi.dst v) w->Q (.panic c) a w:=by exact fun _ _ _ h=>h) :
  wpAnyN P md ops Q S need (fuel+1) listed a w :=
 wpAnyN_take hi hs hf hr hn hQ hw hy hS (hp ▸ h)
theorem stN (i:Nat) {o o':Oper} {fuel:Nat} {listed:Array Bool} {a:Act} {w:World}
  (h:∀ K':Act->World->Prop,Rst P md ops Q S need fuel listed i K'->if Region.wanted o' (yielded ops a.tmps)=true then Oper.wp P o' a w K' Q else K' (a.put o'.dst undef) w)
  (hr:Region.ready md ops listed=[i]:=by kernel_rfl) (ho:ops[i]?=some o:=by rfl) (he:o=o':=by(try simp only[List.getElem_toArray,List.getElem_cons_zero,List.getElem_cons_succ]);exact rfl) :
  wpAnyN P md ops Q S need (fuel+1) listed a w :=
 wpAnyN_one hr (ho.trans (congrArg some he)) h
theorem otN {i fuel:Nat} {listed:Array Bool} {K:Act->World->Prop} {a a':Act} {w:World} (hK:Rst P md ops Q S need fuel listed i K)
  (hS:S w) (h:wpAnyN P md ops Q S need fuel (listed.setIfInBounds i true) a' w) (hp:a=a':=by(try simp only[Act.put,List.getElem_toArray,List.getElem_cons_zero,List.getElem_cons_succ,List.setIfInBounds_toArray,List.set_cons_zero,List.set_cons_succ]);exact rfl):K a w :=
 hK.out _ _ (fun _=>hS) (hp ▸ h)
theorem dnN {fuel:Nat} {listed:Array Bool} {a:Act} {w:World} (h:Q .normal a w) (hr:Region.ready md ops listed=[]:=by kernel_rfl):wpAnyN P md ops (NoPanic Q) S need fuel listed a w :=
 wpAnyN_done hr (NoPanic.normal h) _
theorem laN {i fuel:Nat} {listed:Array Bool} {K:Act->World->Prop} {a a':Act} {w:World} (hK:Rst P md ops (NoPanic Q) S need fuel listed i K)
  (h:Q .normal a' w) (hn:need i=false:=by rfl) (hp:a=a':=by(try simp only[Act.put,List.getElem_toArray,List.getElem_cons_zero,List.getElem_cons_succ,List.setIfInBounds_toArray,List.set_cons_zero,List.set_cons_succ]);exact rfl) (hr:Region.ready md ops (listed.setIfInBounds i true)=[]:=by kernel_rfl):K a w :=
 hK.out _ _ (fun e=>by rw[hn] at e;cases e) (wpAnyN_done hr (NoPanic.normal (hp ▸ h)) _)
theorem twN (i j:Nat) {oi oj pi pj:Oper} {fuel:Nat} {listed:Array Bool} {a:Act} {w:World}
  (h1:∀ K':Act->World->Prop,Rst P md ops Q S need fuel listed i K'->if Region.wanted pi (yielded ops a.tmps)=true then Oper.wp P pi a w K' Q else K' (a.put pi.dst undef) w)
  (h2:∀ K':Act->World->Prop,Rst P md ops Q S need fuel listed j K'->if Region.wanted pj (yielded ops a.tmps)=true then Oper.wp P pj a w K' Q else K' (a.put pj.dst undef) w)
  (hr:Region.ready md ops listed=[i,j]:=by kernel_rfl)
  (hi:ops[i]?=some oi:=by rfl) (ei:oi=pi:=by(try simp only[List.getElem_toArray,List.getElem_cons_zero,List.getElem_cons_succ]);exact rfl)
  (hj:ops[j]?=some oj:=by rfl) (ej:oj=pj:=by(try simp only[List.getElem_toArray,List.getElem_cons_zero,List.getElem_cons_succ]);exact rfl)
  : wpAnyN P md ops Q S need (fuel+1) listed a w :=
 wpAnyN_two hr (hi.trans (congrArg some ei)) (hj.trans (congrArg some ej)) h1 h2
theorem thN (i j l:Nat) {oi oj ol pi pj pl:Oper} {fuel:Nat} {listed:Array Bool} {a:Act} {w:World}
  (h1:∀ K':Act->World->Prop,Rst P md ops Q S need fuel listed i K'->if Region.wanted pi (yielded ops a.tmps)=true then Oper.wp P pi a w K' Q else K' (a.put pi.dst undef) w)
  (h2:∀ K':Act->World->Prop,Rst P md ops Q S need fuel listed j K'->if Region.wanted pj (yielded ops a.tmps)=true then Oper.wp P pj a w K' Q else K' (a.put pj.dst undef) w)
  (h3:∀ K':Act->World->Prop,Rst P md ops Q S need fuel listed l K'->if Region.wanted pl (yielded ops a.tmps)=true then Oper.wp P pl a w K' Q else K' (a.put pl.dst undef) w)
  (hr:Region.ready md ops listed=[i,j,l]:=by kernel_rfl)
  (hi:ops[i]?=some oi:=by rfl) (ei:oi=pi:=by(try simp only[List.getElem_toArray,List.getElem_cons_zero,List.getElem_cons_succ]);exact rfl)
  (hj:ops[j]?=some oj:=by rfl) (ej:oj=pj:=by(try simp only[List.getElem_toArray,List.getElem_cons_zero,List.getElem_cons_succ]);exact rfl)
  (hl:ops[l]?=some ol:=by rfl) (el:ol=pl:=by(try simp only[List.getElem_toArray,List.getElem_cons_zero,List.getElem_cons_succ]);exact rfl)
  : wpAnyN P md ops Q S need (fuel+1) listed a w :=
 wpAnyN_three hr (hi.trans (congrArg some ei)) (hj.trans (congrArg some ej)) (hl.trans (congrArg some el)) h1 h2 h3
def puts (a:Act):List (Nat × Value)->Act
 | []=>a
 | (t,v) :: r=>puts (a.put (some t) v) r
def lists (l:Array Bool):List Nat->Array Bool
 | []=>l
 | i :: r=>lists (l.setIfInBounds i true) r
def Jnd (P:Program) (md:Region.Mode) (ops:Array Oper) (Q:Exit->Act->World->Prop) (S:World->Prop) (need:Nat->Bool) (f:Nat) (listed:Array Bool) (ds:List Nat) (a0:Act) (J:List (Nat × Value)->World->Prop):Prop :=
 ∀ vs w,J vs w->wpAnyN P md ops Q S need f (lists listed ds) (puts a0 vs) w
theorem jnN {fuel:Nat} {listed:Array Bool} {a0:Act} {w0:World} (f:Nat) (ds:List Nat) (J:List (Nat × Value)->World->Prop)
  (h1:∀ vs w,J vs w->wpAnyN P md ops Q S need f (lists listed ds) (puts a0 vs) w)
  (h2:Jnd P md ops Q S need f listed ds a0 J->wpAnyN P md ops Q S need fuel listed a0 w0):wpAnyN P md ops Q S need fuel listed a0 w0:=h2 h1
theorem jmN {f:Nat} {listed L:Array Bool} {ds:List Nat} {a0 a:Act} {w:World} {vs:List (Nat × Value)} {J:List (Nat × Value)->World->Prop} (hJ:Jnd P md ops Q S need f listed ds a0 J) (hj:J vs w)
  (e1:L=lists listed ds:=by kernel_rfl) (e2:puts a0 vs=a:=by simp only[puts,Act.put,List.getElem_toArray,List.getElem_cons_zero,List.getElem_cons_succ,List.setIfInBounds_toArray,List.set_cons_zero,List.set_cons_succ]):wpAnyN P md ops Q S need f L a w:=by
 subst e1 e2;exact hJ vs w hj
end
end
end Go.Proofs.YtepifccbbmdfcaaGreatDoor
