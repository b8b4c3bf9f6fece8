/- TSame. -/
import Derived.Deep.Modes
import Derived.Test.YtddokajfafmhhaaGreatDoorCBFacts
import Derived.Test.YtddokajfafmhhaaGreatDoorCBWIsWorld
namespace Go.Proofs.YtddokajfafmhhaaGreatDoor
set_option maxRecDepth 100000
set_option maxHeartbeats 8000000
section
def sev:Nat->Int->List Int
 | 0,_=>[]
 | k+1,n=>if n<128 then [n] else (n % 128+128) :: sev k (n / 128)
def zig (n:Int):Int:=if n<0 then -2*n-1 else 2*n
def insBytes (op a b n:Int):List Int:=[op]++((if aOf op then [a+8*b] else [])++(if nOf op then sev 7 (zig n) else []))
def rowBytes (x:Nat->Nat->Int) (i:Nat):List Int:=(List.range i).flatMap fun j=>insBytes (x j 0) (x j 1) (x j 2) (x j 3)
def kindBytes (L:Nat->Nat) (X:Nat->Nat->Nat->Int) (r:Nat):List Int:=(List.range r).flatMap fun k=>(L k:Int) :: rowBytes (X k) (L k)
def progBytes (G:Nat) (L:Nat->Nat) (X:Nat->Nat->Nat->Int) (r:Nat):List Int:=[116,119,(G:Int)]++kindBytes L X r
theorem rowBytes_succ (x:Nat->Nat->Int) (i:Nat):rowBytes x (i+1)=rowBytes x i++insBytes (x i 0) (x i 1) (x i 2) (x i 3):=by
 simp[rowBytes,List.range_succ,List.flatMap_append]
theorem progBytes_succ (G:Nat) (L:Nat->Nat) (X:Nat->Nat->Nat->Int) (r:Nat):progBytes G L X (r+1)=progBytes G L X r++([(L r:Int)]++rowBytes (X r) (L r)):=by
 simp[progBytes,kindBytes,List.range_succ,List.flatMap_append]
theorem sev_length (k:Nat) (n:Int):(sev k n).length<=k:=by
 induction k generalizing n with
 | zero=>simp[sev]
 | succ k ih =>
  unfold sev
  split
  ·simp
  ·have:=ih (n / 128)
   simp;omega
theorem insBytes_length (op a b n:Int):(insBytes op a b n).length<=9:=by
 have:=sev_length 7 (zig n)
 unfold insBytes
 simp only[List.length_append];have h1:(if aOf op then [a+8*b] else []).length<=1:=by split <;> simp
 have h2:(if nOf op then sev 7 (zig n) else []).length<=7:=by
  split
  ·omega
  ·simp
 simp;omega
theorem rowBytes_length (x:Nat->Nat->Int) (i:Nat):(rowBytes x i).length<=9*i:=by
 induction i with
 | zero=>simp[rowBytes]
 | succ i ih =>
  rw[rowBytes_succ,List.length_append];have:=insBytes_length (x i 0) (x i 1) (x i 2) (x i 3);omega
theorem progBytes_length (G:Nat) (L:Nat->Nat) (X:Nat->Nat->Nat->Int) (r:Nat) (h:∀ k,k<r->L k<=60):(progBytes G L X r).length<=3+541*r:=by
 induction r with
 | zero=>simp[progBytes,kindBytes]
 | succ r ih =>
  rw[progBytes_succ];simp only[List.length_append];have h1:=ih (fun k hk=>h k (by omega));have h2:=rowBytes_length (X r) (L r);have h3:=h r (by omega);simp;omega
theorem first_zero (f:Nat->Int) (n i:Nat) (h:first f n i=0):∀ j,j<n->f (i+j)=0:=by
 induction n generalizing i with
 | zero=>intro j hj;omega
 | succ n ih =>
  unfold first at h
  split at h
  ·rename_i h1;exact absurd h h1
  ·rename_i h1
   intro j hj
   cases j with
   | zero=>simpa using h1
   | succ j =>
    have:=ih (i+1) h j (by omega)
    rwa [show i+1+j=i+(j+1) by omega] at this
theorem row_ok {kinds many:Nat} {x:Nat->Nat->Int} (h:rowFault kinds many x=0):1<=many/\many<=60/\∀ i,i<many->insFault kinds many i (x i 0) (x i 1) (x i 2) (x i 3)=0:=by
 unfold rowFault at h
 split at h
 ·omega
 ·refine⟨by omega,by omega,fun i hi=>?_⟩
  have:=first_zero _ _ _ h i hi
  simpa using this
theorem prog_ok {G:Nat} {L:Nat->Nat} {X:Nat->Nat->Nat->Int} (h:progFault G L X=0):1<=G/\G<=6/\∀ r,r<G->rowFault G (L r) (X r)=0:=by
 unfold progFault at h
 split at h
 ·omega
 ·split at h
  ·omega
  ·refine⟨by omega,by omega,fun r hr=>?_⟩
   have:=first_zero _ _ _ h r hr
   simpa using this
theorem ins_ok {kinds many place op a b n:Int} (h:insFault kinds many place op a b n=0):0<=op/\op<=19/\0<=a/\a<=7/\0<=b/\b<=7/\-1099511627776<=n/\n<=1099511627776:=by
 unfold insFault at h
 split at h
 ·rename_i h1;exact absurd h h1
 ·rename_i h1
  have hp:partsFault op a b n=0:=by simpa using h1
  clear h h1
  unfold partsFault at hp
  split at hp
  ·omega
  ·rename_i h1
   split at hp
   ·omega
   ·rename_i h2
    simp only[not_or] at h2;obtain⟨ha,hb,hl,hh⟩:=h2;simp[okOp] at h1;simp[okReg] at ha hb
    unfold loOf at hl
    unfold hiOf at hh
    refine⟨h1.1,h1.2,ha.1,ha.2,hb.1,hb.2,?_,?_⟩
    ·split at hl
     ·omega
     ·split at hl
      ·omega
      ·split at hl <;> omega
    ·split at hh
     ·omega
     ·split at hh
      ·omega
      ·split at hh
       ·omega
       ·split at hh
        ·omega
        ·split at hh <;> omega
theorem zig_bd {n:Int} (h1:-1099511627776<=n) (h2:n<=1099511627776):0<=zig n/\zig n<=2199023255552:=by
 unfold zig;split <;> omega
theorem sev_small (k:Nat) (n:Int) (h:n<128):sev (k+1) n=[n]:=by simp[sev,h]
theorem sev_big (k:Nat) (n:Int) (h:¬ n<128):sev (k+1) n=(n % 128+128) :: sev k (n / 128):=by simp[sev,h]
end
section
def rdNext (bs:List Int) (k:Nat):Int × Int × Nat:=if k<bs.length then (bs.getD k 0,0,k+1) else (0,5,k)
def rdBegin (bs:List Int) (k:Nat):Int × Nat :=
 if (rdNext bs k).2.1≠0 then ((rdNext bs k).2.1,(rdNext bs k).2.2)
 else if (rdNext bs k).1≠116 then (4,(rdNext bs k).2.2)
 else if (rdNext bs (rdNext bs k).2.2).2.1≠0 then ((rdNext bs (rdNext bs k).2.2).2.1,(rdNext bs (rdNext bs k).2.2).2.2)
 else if (rdNext bs (rdNext bs k).2.2).1≠119 then (4,(rdNext bs (rdNext bs k).2.2).2.2)
 else (0,(rdNext bs (rdNext bs k).2.2).2.2)
def rdRegs (bs:List Int) (k:Nat):Int × Int × Int × Nat :=
 if (rdNext bs k).2.1≠0 then (0,0,(rdNext bs k).2.1,(rdNext bs k).2.2)
 else if 64<=(rdNext bs k).1 then (0,0,4,(rdNext bs k).2.2)
 else ((rdNext bs k).1 % 8,(rdNext bs k).1 / 8,0,(rdNext bs k).2.2)
def unzig (s:Int):Int:=if s % 2=1 then -((s+1) / 2) else s / 2
def rdNum (bs:List Int):Nat->Nat->Int->Int->Nat->Int × Int × Nat
 | 0,_,_,_,k=>(0,4,k)
 | f+1,i,s,p,k =>
  if (rdNext bs k).2.1≠0 then (0,(rdNext bs k).2.1,(rdNext bs k).2.2)
  else if 128<=(rdNext bs k).1 then rdNum bs f (i+1) (s+(rdNext bs k).1 % 128*p) (p*128) (rdNext bs k).2.2
  else if (rdNext bs k).1=0/\0<i then (0,4,(rdNext bs k).2.2)
  else (unzig (s+(rdNext bs k).1 % 128*p),0,(rdNext bs k).2.2)
def rdAB (bs:List Int) (op:Int) (k:Nat):Int × Int × Int × Nat:=if aOf op then rdRegs bs k else (0,0,0,k)
def rdN (bs:List Int) (op:Int) (k:Nat):Int × Int × Nat:=if nOf op then rdNum bs 6 0 0 1 k else (0,0,k)
def rdIns (bs:List Int) (k:Nat):Ins × Int × Nat :=
 if (rdNext bs k).2.1≠0 then (noIns,(rdNext bs k).2.1,(rdNext bs k).2.2)
 else if okOp (rdNext bs k).1=false then (noIns,3,(rdNext bs k).2.2)
 else if (rdAB bs (rdNext bs k).1 (rdNext bs k).2.2).2.2.1≠0 then (noIns,(rdAB bs (rdNext bs k).1 (rdNext bs k).2.2).2.2.1,(rdAB bs (rdNext bs k).1 (rdNext bs k).2.2).2.2.2)
 else if (rdN bs (rdNext bs k).1 (rdAB bs (rdNext bs k).1 (rdNext bs k).2.2).2.2.2).2.1≠0 then (noIns,(rdN bs (rdNext bs k).1 (rdAB bs (rdNext bs k).1 (rdNext bs k).2.2).2.2.2).2.1,(rdN bs (rdNext bs k).1 (rdAB bs (rdNext bs k).1 (rdNext bs k).2.2).2.2.2).2.2)
 else (⟨(rdNext bs k).1,(rdAB bs (rdNext bs k).1 (rdNext bs k).2.2).1,(rdAB bs (rdNext bs k).1 (rdNext bs k).2.2).2.1,(rdN bs (rdNext bs k).1 (rdAB bs (rdNext bs k).1 (rdNext bs k).2.2).2.2.2).1⟩,0,
  (rdN bs (rdNext bs k).1 (rdAB bs (rdNext bs k).1 (rdNext bs k).2.2).2.2.2).2.2)
section
variable {bs:List Int} {k k1 k2 k3:Nat} {q a b n er:Int}
theorem rdIns_ab (h:rdNext bs k=(q,0,k1)) (ho:okOp q=true) (hab:rdAB bs q k1=(a,b,er,k2)) (he:er≠0):rdIns bs k=(noIns,er,k2):=by
 simp[rdIns,h,ho,hab,he]
theorem rdIns_n (h:rdNext bs k=(q,0,k1)) (ho:okOp q=true) (hab:rdAB bs q k1=(a,b,0,k2)) (hn:rdN bs q k2=(n,er,k3)) (he:er≠0):rdIns bs k=(noIns,er,k3):=by
 simp[rdIns,h,ho,hab,hn,he]
theorem rdIns_ok (h:rdNext bs k=(q,0,k1)) (ho:okOp q=true) (hab:rdAB bs q k1=(a,b,0,k2)) (hn:rdN bs q k2=(n,0,k3)):rdIns bs k=(⟨q,a,b,n⟩,0,k3):=by
 simp[rdIns,h,ho,hab,hn]
end
def rdInss (bs:List Int):Nat->List Ins->Nat->List Ins × Int × Nat
 | 0,l,k=>(l,0,k)
 | f+1,l,k=>if (rdIns bs k).2.1≠0 then ([],(rdIns bs k).2.1,(rdIns bs k).2.2) else rdInss bs f (l++[(rdIns bs k).1]) (rdIns bs k).2.2
def rdRow (bs:List Int) (k:Nat):List Ins × Int × Nat :=
 if (rdNext bs k).2.1≠0 then ([],(rdNext bs k).2.1,(rdNext bs k).2.2) else rdInss bs (rdNext bs k).1.toNat [] (rdNext bs k).2.2
def rdRows (bs:List Int):Nat->List (List Ins)->Nat->List (List Ins) × Int × Nat
 | 0,l,k=>(l,0,k)
 | f+1,l,k=>if (rdRow bs k).2.1≠0 then ([],(rdRow bs k).2.1,(rdRow bs k).2.2) else rdRows bs f (l++[(rdRow bs k).1]) (rdRow bs k).2.2
def rdProg (bs:List Int) (k:Nat):List (List Ins) × Int × Nat :=
 if (rdNext bs k).2.1≠0 then ([],(rdNext bs k).2.1,(rdNext bs k).2.2) else rdRows bs (rdNext bs k).1.toNat [] (rdNext bs k).2.2
def rdAll (bs:List Int):List (List Ins) × Int :=
 if (rdBegin bs 0).1≠0 then ([],(rdBegin bs 0).1)
 else if (rdProg bs (rdBegin bs 0).2).2.1≠0 then ([],(rdProg bs (rdBegin bs 0).2).2.1)
 else if (rdProg bs (rdBegin bs 0).2).2.2<bs.length then ([],4)
 else ((rdProg bs (rdBegin bs 0).2).1,0)
end
section
def rowsFault (rows:List (List Ins)):Int:=progFault rows.length (lenOf rows) (xOf rows)
end
section
open Go.ChangeShapes Go.WideShapes Go.ChangeAt Go.RowKit Go.Deep
structure ProgTypes (P:Program) (tP tKK tK tI tN:TypeId) (f f0 f1 f2 f3:Field):Prop where
 hP:P.underlying tP=some (.struct #[f])
 hf:f.type=tKK/\f.offset=0
 cP:P.cellsOf tP=1
 cKK:P.cellsOf tKK=1
 hKK:P.underlying tKK=some (.slice tK)
 cK:P.cellsOf tK=1
 hK:P.underlying tK=some (.slice tI)
 cI:P.cellsOf tI=4
 hI:P.underlying tI=some (.struct #[f0,f1,f2,f3])
 h0:f0.type=tN/\f0.offset=0
 h1:f1.type=tN/\f1.offset=1
 h2:f2.type=tN/\f2.offset=2
 h3:f3.type=tN/\f3.offset=3
 hN:P.underlying tN=some (.int .i64)
 cN:P.cellsOf tN=1
 bK:P.bytesOf tK=24
 bI:P.bytesOf tI=32
section
variable {H:Type} {enc:TypeId × Value->H} {P:Program} {w:World} {base:Nat} {spare:Nat->Bool} {held:Bool}
variable {tP tKK tK tI tN:TypeId} {f f0 f1 f2 f3:Field}
end
end
section
open Go.ChangeShapes Go.WideShapes Go.ChangeAt Go.RowKit Go.Deep
theorem Tryz.cProg:Tryz.prog.cellsOf 25=1:=by kernel_rfl
theorem Tryz.cKinds:Tryz.prog.cellsOf 23=1:=by kernel_rfl
theorem Tryz.cRow:Tryz.prog.cellsOf 77=1:=by kernel_rfl
theorem Tryz.cIns:Tryz.prog.cellsOf 76=4:=by kernel_rfl
theorem Tryz.bRow:Tryz.prog.bytesOf 77=24:=by kernel_rfl
theorem Tryz.bIns:Tryz.prog.bytesOf 76=32:=by kernel_rfl
theorem ctypes:∃ f f0 f1 f2 f3,ProgTypes Tryz.prog 25 23 77 76 3 f f0 f1 f2 f3 :=
 ⟨_,_,_,_,_,Tryz.underlying25,⟨rfl,rfl⟩,Tryz.cProg,Tryz.cKinds,Tryz.underlying23,Tryz.cRow,Tryz.underlying77,Tryz.cIns,Tryz.underlying76,⟨rfl,rfl⟩,⟨rfl,rfl⟩,⟨rfl,rfl⟩,⟨rfl,rfl⟩,Tryz.underlying3,Tryz.cInt,Tryz.bRow,Tryz.bIns⟩
end
section
open Go.RowKit
section
variable {w w':World} {R:Nat}
end
def pX (l:List Rw):Nat->Nat->Nat->Int:=xOf (programS l 14)
def pL (l:List Rw):Nat->Nat:=lenOf (programS l 14)
end
section
open Go.RowKit
theorem equalInts_any (aa ab:Option Addr) (ca cb:Nat) (l:List Int) (w:World) (ha:IntsAt w aa l) (hb:IntsAt w ab l) (hl:l.length<=8796093022208) :
  Calls Tryz.prog 23 #[.slice aa l.length ca,.slice ab l.length cb] w fun e w'=>e=.returned (.bool true)/\∃ n,w'=w.drewN n:=by
 obtain⟨L,hL⟩:∃ L,L=l.length:=⟨_,rfl⟩;have HL:Aside (L=l.length):=hL;rw[<- hL] at hl ⊢;clear hL
 go_enter Tryz.func23,Tryz.ntmps23
 go_wp2
 go_loopg [13,5] L (fun g s13 s5 wr=>∃ i n:Nat,i<=L/\g=L-i/\s13=.int .i64 i/\wr=w.drewN n)
 case atStart=>exact⟨0,0,Nat.zero_le _,rfl,rfl,rfl⟩
 case round =>
  obtain⟨i,n,hi,rfl,rfl,rfl⟩:=hrel
  by_cases hiL:i<L
  ·have hiz:(i:Int)<(L:Int):=by omega
   obtain⟨z,hv⟩:=at_some (l:=l) (i:=i) (by rw[<- HL.out];exact hiL);obtain⟨ba,oa,rfl,a1⟩:=ha i _ hv;obtain⟨bb,ob,rfl,b1⟩:=hb i _ hv;clear hv;go_wp2
   go_quiet (fail)
   go_wp2
   go_roundg (L-(i+1))
   case measure=>go_light;omega
   case rel=>go_light;exact⟨i+1,_,by omega,rfl,by go_num,rfl⟩
  ·go_wp2
   go_ret
   exact⟨rfl,_,rfl⟩
theorem equalVals_any (aa ab:Option Addr) (ca cb:Nat) (l:List Vl) (w:World) (ha:ValsAt w aa l) (hb:ValsAt w ab l) (hl:l.length<=8796093022208) :
  Calls Tryz.prog 51 #[.slice aa l.length ca,.slice ab l.length cb] w fun e w'=>e=.returned (.bool true)/\∃ n,w'=w.drewN n:=by
 obtain⟨L,hL⟩:∃ L,L=l.length:=⟨_,rfl⟩;have HL:Aside (L=l.length):=hL;rw[<- hL] at hl ⊢;clear hL
 go_enter Tryz.func51,Tryz.ntmps51
 go_wp2
 go_loopg [13,5] L (fun g s13 s5 wr=>∃ i n:Nat,i<=L/\g=L-i/\s13=.int .i64 i/\wr=w.drewN n)
 case atStart=>exact⟨0,0,Nat.zero_le _,rfl,rfl,rfl⟩
 case round =>
  obtain⟨i,n,hi,rfl,rfl,rfl⟩:=hrel
  by_cases hiL:i<L
  ·have hiz:(i:Int)<(L:Int):=by omega
   obtain⟨⟨vk,vn⟩,hv⟩:=at_some (l:=l) (i:=i) (by rw[<- HL.out];exact hiL);obtain⟨ba,oa,rfl,a1,a2⟩:=ha i _ hv;obtain⟨bb,ob,rfl,b1,b2⟩:=hb i _ hv;simp only at a1 a2 b1 b2;clear hv;go_wp2
   go_quiet (fail)
   go_wp2
   go_roundg (L-(i+1))
   case measure=>go_light;omega
   case rel=>go_light;exact⟨i+1,_,by omega,rfl,by go_num,rfl⟩
  ·go_wp2
   go_ret
   exact⟨rfl,_,rfl⟩
end
section
open Go.RowKit
theorem equalTold_any (aa ab:Option Addr) (ca cb:Nat) (l:List (Int × Int)) (w:World) (ha:ToldAt w aa l) (hb:ToldAt w ab l) :
  Calls Tryz.prog 32 #[.slice aa l.length ca,.slice ab l.length cb] w fun e w'=>e=.returned (.bool true)/\∃ n,w'=w.drewN n:=by
 have hl:=ha.many;obtain⟨L,hL⟩:∃ L,L=l.length:=⟨_,rfl⟩;have HL:Aside (L=l.length):=hL;rw[<- hL] at hl ⊢;clear hL
 go_enter Tryz.func32,Tryz.ntmps32
 go_wp2
 go_loopg [13,5] L (fun g s13 s5 wr=>∃ i n:Nat,i<=L/\g=L-i/\s13=.int .i64 i/\wr=w.drewN n)
 case atStart=>exact⟨0,0,Nat.zero_le _,rfl,rfl,rfl⟩
 case round =>
  obtain⟨i,n,hi,rfl,rfl,rfl⟩:=hrel
  by_cases hiL:i<L
  ·have hiz:(i:Int)<(L:Int):=by omega
   obtain⟨⟨vk,vn⟩,hv⟩:=at_some (l:=l) (i:=i) (by rw[<- HL.out];exact hiL);obtain⟨ba,oa,rfl,a1,a2⟩:=ha.cell i _ hv;obtain⟨bb,ob,rfl,b1,b2⟩:=hb.cell i _ hv;simp only at a1 a2 b1 b2;clear hv;go_wp2
   go_quiet (fail)
   go_wp2
   go_roundg (L-(i+1))
   case measure=>go_light;omega
   case rel=>go_light;exact⟨i+1,_,by omega,rfl,by go_num,rfl⟩
  ·go_wp2
   go_ret
   exact⟨rfl,_,rfl⟩
theorem sameOb_any (oa ob:Option Addr) (ca cb:Nat) (o:Ob) (w:World) (ha:ValsAt w oa o.fs) (hb:ValsAt w ob o.fs) (hl:16*o.fs.length<=140737488351232) :
  Calls Tryz.prog 53 #[.agg #[.slice oa o.fs.length ca,.bool o.dead],.agg #[.slice ob o.fs.length cb,.bool o.dead]] w fun e w'=>e=.returned (.bool true)/\Below w.heap.size w w':=by
 obtain⟨fs,dead⟩:=o;simp only at ha hb hl ⊢;obtain⟨N0,N1,k1,b1,s1⟩:=boxes2 w (.cells #[.slice oa fs.length ca,.bool dead] 97) (.cells #[.slice ob fs.length cb,.bool dead] 97);have heq:=fun(w:World) (ha:ValsAt w oa fs) (hb:ValsAt w ob fs)=>equalVals_any oa ob ca cb fs w ha hb (by omega)
 generalize fs.length=L at *
 go_enter Tryz.func53,Tryz.ntmps53
 go_upto_region 1 with fail
 generalize (w.alloc (.cells #[.slice oa L ca,.bool dead] 97)).alloc (.cells #[.slice ob L cb,.bool dead] 97)=W at *;have c0:=cell_blk N0 0;have c1:=cell_blk N0 1;have d0:=cell_blk N1 0;have d1:=cell_blk N1 1;simp at c0 c1 d0 d1;have hd:(dead == dead)=true:=by simp
 go_wp2_with fail
 refine(heq W (ha.keeps k1) (hb.keeps k1)).mono ?_;rintro e w' ⟨rfl,n,rfl⟩;go_wp2
 go_ret
 exact⟨ret_bool (by simp),below_drewN b1 n⟩
theorem equalObs_any (aa ab:Option Addr) (ca cb:Nat) (l:List Ob) (w:World) (ha:ObsAt w aa l) (hb:ObsAt w ab l) :
  Calls Tryz.prog 52 #[.slice aa l.length ca,.slice ab l.length cb,.func (.func 53) #[] #[]] w fun e w'=>e=.returned (.bool true)/\Below w.heap.size w w':=by
 have hl:=ha.many;obtain⟨L,hL⟩:∃ L,L=l.length:=⟨_,rfl⟩;have HL:Aside (L=l.length):=hL;rw[<- hL] at hl ⊢;clear hL
 go_enter Tryz.func52,Tryz.ntmps52
 go_wp2
 go_loopg [17,7,8,9] L (fun g s17 s7 s8 s9 wr=>∃ i:Nat,i<=L/\g=L-i/\s17=.int .i64 i/\Below w.heap.size w wr)
 case atStart=>exact⟨0,Nat.zero_le _,rfl,rfl,Below.refl _ _⟩
 case round =>
  obtain⟨i,hi,rfl,rfl,hbr⟩:=hrel
  by_cases hiL:i<L
  ·have hiz:(i:Int)<(L:Int):=by omega
   obtain⟨x,hx⟩:=at_some (l:=l) (i:=i) (by rw[<- HL.out];exact hiL);obtain⟨b1,o1,fa,fc,rfl,p0,p1,pv,pl⟩:=(ha.keeps (Keeps.below hbr)).cell i x hx;obtain⟨b2,o2,ga,gc,rfl,q0,q1,qv,_⟩:=(hb.keeps (Keeps.below hbr)).cell i x hx;clear hx;obtain⟨N0,N1,k1,bb,s1⟩:=boxes2 wr (.cells #[.slice fa x.fs.length fc,.bool x.dead] 97) (.cells #[.slice ga x.fs.length gc,.bool x.dead] 97);have ka:=Keeps.alloc wr (.cells #[.slice fa x.fs.length fc,.bool x.dead] 97)
   replace q0:=ka _ _ q0;replace q1:=ka _ _ q1;have hc:=fun(w:World) (ha:ValsAt w fa x.fs) (hb:ValsAt w ga x.fs)=>sameOb_any fa ga fc gc x w ha hb pl
   go_upto_region 7 with fail
   have hcW:=hc _ (pv.keeps k1) (qv.keeps k1);have hB2:=hbr.trans (bb.mono hbr.size);clear hc ka q0 q1 p0 p1 pv qv pl;generalize (wr.alloc (.cells #[.slice fa x.fs.length fc,.bool x.dead] 97)).alloc (.cells #[.slice ga x.fs.length gc,.bool x.dead] 97)=W at *;have c0:=cell_blk N0 0;have c1:=cell_blk N0 1;have d0:=cell_blk N1 0;have d1:=cell_blk N1 1;simp at c0 c1 d0 d1
   go_wp2_with fail
   refine hcW.mono ?_;rintro e w' ⟨rfl,hb'⟩;have hB3:=hB2.trans (hb'.mono hB2.size);go_wp2
   go_roundg (L-(i+1))
   case measure=>go_light;omega
   case rel=>go_light;exact⟨i+1,by omega,rfl,by go_num,hB3⟩
  ·have hiz:¬ (i:Int)<(L:Int):=by omega
   go_wp2
   go_ret
   exact⟨rfl,hbr⟩
theorem sameAc_any (kind par M M' pc fin:Int) (obs:List Ob) (regs box:List Vl) (oa ra ba ob rb bb:Option Addr) (oc rc bc od rd bd:Nat) (w:World) (h1:ObsAt w oa obs) (h2:ValsAt w ra regs) (h3:ValsAt w ba box) (k1:ObsAt w ob obs) (k2:ValsAt w rb regs) (k3:ValsAt w bb box) (hr:16*regs.length<=140737488351232) (hb:16*box.length<=140737488351232) :
  Calls Tryz.prog 50 #[.agg #[.int .i64 kind,.int .i64 par,.int .i64 M,.slice oa obs.length oc,.slice ra regs.length rc,.int .i64 pc,.slice ba box.length bc,.int .i64 fin],.agg #[.int .i64 kind,.int .i64 par,.int .i64 M',.slice ob obs.length od,.slice rb regs.length rd,.int .i64 pc,.slice bb box.length bd,.int .i64 fin]] w fun e w'=>e=.returned (.bool true)/\Below w.heap.size w w':=by
 obtain⟨N0,N1,kk,b1,s1⟩:=boxes2 w (.cells #[.int .i64 kind,.int .i64 par,.int .i64 M,.slice oa obs.length oc,.slice ra regs.length rc,.int .i64 pc,.slice ba box.length bc,.int .i64 fin] 42) (.cells #[.int .i64 kind,.int .i64 par,.int .i64 M',.slice ob obs.length od,.slice rb regs.length rd,.int .i64 pc,.slice bb box.length bd,.int .i64 fin] 42);have ho:=fun(w:World) (ha:ObsAt w oa obs) (hb:ObsAt w ob obs)=>equalObs_any oa ob oc od obs w ha hb
 have hre:=fun(w:World) (ha:ValsAt w ra regs) (hb:ValsAt w rb regs)=>equalVals_any ra rb rc rd regs w ha hb (by omega)
 have hbe:=fun(w:World) (ha:ValsAt w ba box) (hb:ValsAt w bb box)=>equalVals_any ba bb bc bd box w ha hb (by omega)
 have HV:Aside (∀ w',Keeps w w'->(ObsAt w' oa obs/\ObsAt w' ob obs)/\(ValsAt w' ra regs/\ValsAt w' rb regs)/\(ValsAt w' ba box/\ValsAt w' bb box)):=fun w' q=>⟨⟨h1.keeps q,k1.keeps q⟩,⟨h2.keeps q,k2.keeps q⟩,⟨h3.keeps q,k3.keeps q⟩⟩
 clear h1 h2 h3 k1 k2 k3;generalize obs.length=L at *;generalize regs.length=R at *;generalize box.length=B at *
 go_enter Tryz.func50,Tryz.ntmps50
 go_upto_region 1 with fail
 generalize (w.alloc (.cells #[.int .i64 kind,.int .i64 par,.int .i64 M,.slice oa L oc,.slice ra R rc,.int .i64 pc,.slice ba B bc,.int .i64 fin] 42)).alloc (.cells #[.int .i64 kind,.int .i64 par,.int .i64 M',.slice ob L od,.slice rb R rd,.int .i64 pc,.slice bb B bd,.int .i64 fin] 42)=W at *;have c0:=cell_blk N0 0;have c1:=cell_blk N0 1;have c3:=cell_blk N0 3;have c4:=cell_blk N0 4;have c5:=cell_blk N0 5
 have c6:=cell_blk N0 6;have c7:=cell_blk N0 7;have d0:=cell_blk N1 0;have d1:=cell_blk N1 1;have d3:=cell_blk N1 3;have d4:=cell_blk N1 4;have d5:=cell_blk N1 5;have d6:=cell_blk N1 6;have d7:=cell_blk N1 7;simp at c0 c1 c3 c4 c5 c6 c7 d0 d1 d3 d4 d5 d6 d7;have e0:(kind == kind)=true:=by simp
 have e1:(par == par)=true:=by simp
 have e2:(pc == pc)=true:=by simp
 have e3:(fin == fin)=true:=by simp
 have hV:=HV.out W kk;clear HV
 go_wp2_with fail
 refine(hre W hV.2.1.1 hV.2.1.2).mono ?_;rintro e w' ⟨rfl,n1,rfl⟩;have hb1:=below_drewN b1 n1;have kn1:=Keeps.drewN W n1;replace c3:=kn1 _ _ c3;replace c6:=kn1 _ _ c6;replace d3:=kn1 _ _ d3;replace d6:=kn1 _ _ d6;have hB:=hbe (W.drewN n1) (hV.2.2.1.keeps kn1) (hV.2.2.2.keeps kn1);have hO:=fun n=>ho ((W.drewN n1).drewN n) ((hV.1.1.keeps kn1).keeps (Keeps.drewN _ n)) ((hV.1.2.keeps kn1).keeps (Keeps.drewN _ n))
 clear c0 c1 c4 c5 c7 d0 d1 d4 d5 d7 hV kn1 hre hbe ho;generalize W.drewN n1=W1 at *
 go_wp2_with fail
 refine hB.mono ?_;rintro e w' ⟨rfl,n2,rfl⟩;have hO2:=hO n2;have hb2:=below_drewN hb1 n2;have kn2:=Keeps.drewN W1 n2;replace c3:=kn2 _ _ c3;replace d3:=kn2 _ _ d3;clear hO hB c6 d6 kn2 hb1;generalize W1.drewN n2=W2 at *
 go_wp2_with fail
 refine hO2.mono ?_;rintro e w' ⟨rfl,hb'⟩;have hB3:=hb2.trans (hb'.mono hb2.size);go_wp2
 go_ret
 exact⟨rfl,hB3⟩
theorem equalActs_any (aa ab:Option Addr) (ca cb:Nat) (l:List Ac) (w:World) (ha:ActsAt w aa l) (hb:ActsAt w ab l) :
  Calls Tryz.prog 49 #[.slice aa l.length ca,.slice ab l.length cb,.func (.func 50) #[] #[]] w fun e w'=>e=.returned (.bool true)/\Below w.heap.size w w':=by
 have hl:=ha.many;obtain⟨L,hL⟩:∃ L,L=l.length:=⟨_,rfl⟩;have HL:Aside (L=l.length):=hL;rw[<- hL] at hl ⊢;clear hL
 go_enter Tryz.func49,Tryz.ntmps49
 go_wp2
 go_loopg [17,7,8,9] L (fun g s17 s7 s8 s9 wr=>∃ i:Nat,i<=L/\g=L-i/\s17=.int .i64 i/\Below w.heap.size w wr)
 case atStart=>exact⟨0,Nat.zero_le _,rfl,rfl,Below.refl _ _⟩
 case round =>
  obtain⟨i,hi,rfl,rfl,hbr⟩:=hrel
  by_cases hiL:i<L
  ·have hiz:(i:Int)<(L:Int):=by omega
   obtain⟨⟨kind,par,M,obs,regs,pc,box,fin⟩,hx⟩:=at_some (l:=l) (i:=i) (by rw[<- HL.out];exact hiL);obtain⟨b1,o1,oa,oc,ra,rc,ba,bc,rfl,A1⟩:=(ha.keeps (Keeps.below hbr)).cell i _ hx;obtain⟨b2,o2,ob,od,rb,rd,bb,bd,rfl,A2⟩:=(hb.keeps (Keeps.below hbr)).cell i _ hx;clear hx;obtain⟨x0,x1,x2,x3,x4,x5,x6,x7,xo,xr,xb,rl,bl⟩:=A1;obtain⟨y0,y1,y2,y3,y4,y5,y6,y7,yo,yr,yb,_,_⟩:=A2;simp only at x0 x1 x2 x3 x4 x5 x6 x7 xo xr xb rl bl y0 y1 y2 y3 y4 y5 y6 y7 yo yr yb
   obtain⟨N0,N1,k1,bW,s1⟩:=boxes2 wr (.cells #[.int .i64 kind,.int .i64 par,.int .i64 M,.slice oa obs.length oc,.slice ra regs.length rc,.int .i64 pc,.slice ba box.length bc,.int .i64 fin] 42) (.cells #[.int .i64 kind,.int .i64 par,.int .i64 M,.slice ob obs.length od,.slice rb regs.length rd,.int .i64 pc,.slice bb box.length bd,.int .i64 fin] 42);have ka:=Keeps.alloc wr (.cells #[.int .i64 kind,.int .i64 par,.int .i64 M,.slice oa obs.length oc,.slice ra regs.length rc,.int .i64 pc,.slice ba box.length bc,.int .i64 fin] 42)
   replace y0:=ka _ _ y0;replace y1:=ka _ _ y1;replace y2:=ka _ _ y2;replace y3:=ka _ _ y3;replace y4:=ka _ _ y4;replace y5:=ka _ _ y5;replace y6:=ka _ _ y6;replace y7:=ka _ _ y7;have hc:=sameAc_any kind par M M pc fin obs regs box oa ra ba ob rb bb oc rc bc od rd bd _ (xo.keeps k1) (xr.keeps k1) (xb.keeps k1) (yo.keeps k1) (yr.keeps k1) (yb.keeps k1) rl bl;have hB2:=hbr.trans (bW.mono hbr.size);clear xo xr xb yo yr yb rl bl ka
   generalize obs.length=O at *;generalize regs.length=R at *;generalize box.length=B at *
   go_upto_region 7 with fail
   clear x0 x1 x2 x3 x4 x5 x6 x7 y0 y1 y2 y3 y4 y5 y6 y7;generalize (wr.alloc (.cells #[.int .i64 kind,.int .i64 par,.int .i64 M,.slice oa O oc,.slice ra R rc,.int .i64 pc,.slice ba B bc,.int .i64 fin] 42)).alloc (.cells #[.int .i64 kind,.int .i64 par,.int .i64 M,.slice ob O od,.slice rb R rd,.int .i64 pc,.slice bb B bd,.int .i64 fin] 42)=W at *;have c0:=cell_blk N0 0;have c1:=cell_blk N0 1;have c2:=cell_blk N0 2
   have c3:=cell_blk N0 3;have c4:=cell_blk N0 4;have c5:=cell_blk N0 5;have c6:=cell_blk N0 6;have c7:=cell_blk N0 7;have d0:=cell_blk N1 0;have d1:=cell_blk N1 1;have d2:=cell_blk N1 2;have d3:=cell_blk N1 3;have d4:=cell_blk N1 4;have d5:=cell_blk N1 5;have d6:=cell_blk N1 6;have d7:=cell_blk N1 7;simp at c0 c1 c2 c3 c4 c5 c6 c7 d0 d1 d2 d3 d4 d5 d6 d7
   go_wp2_with fail
   refine hc.mono ?_;rintro e w' ⟨rfl,hb'⟩;have hB3:=hB2.trans (hb'.mono hB2.size);go_wp2
   go_roundg (L-(i+1))
   case measure=>go_light;omega
   case rel=>go_light;exact⟨i+1,by omega,rfl,by go_num,hB3⟩
  ·have hiz:¬ (i:Int)<(L:Int):=by omega
   go_wp2
   go_ret
   exact⟨rfl,hbr⟩
theorem same_any (aa ab pa pb:Option Addr) (ca cb da db:Nat) (V:Wd) (w:World) (ha:ActsAt w aa V.acts) (hb:ActsAt w ab V.acts) (hp:ToldAt w pa V.prints) (hq:ToldAt w pb V.prints) :
  Calls Tryz.prog 26 #[.agg #[.slice aa V.acts.length ca,.slice pa V.prints.length da],.agg #[.slice ab V.acts.length cb,.slice pb V.prints.length db]] w fun e w'=>e=.returned (.bool true)/\Below w.heap.size w w':=by
 obtain⟨N0,N1,kk,b1,s1⟩:=boxes2 w (.cells #[.slice aa V.acts.length ca,.slice pa V.prints.length da] 29) (.cells #[.slice ab V.acts.length cb,.slice pb V.prints.length db] 29);have hT:=equalTold_any pa pb da db V.prints _ (hp.keeps kk) (hq.keeps kk);have hA:=fun(w:World) (ha:ActsAt w aa V.acts) (hb:ActsAt w ab V.acts)=>equalActs_any aa ab ca cb V.acts w ha hb
 have HV:Aside (∀ w',Keeps w w'->ActsAt w' aa V.acts/\ActsAt w' ab V.acts):=fun w' q=>⟨ha.keeps q,hb.keeps q⟩
 clear ha hb hp hq;generalize V.acts.length=L at *;generalize V.prints.length=K at *
 go_enter Tryz.func26,Tryz.ntmps26
 go_upto_region 1 with fail
 generalize (w.alloc (.cells #[.slice aa L ca,.slice pa K da] 29)).alloc (.cells #[.slice ab L cb,.slice pb K db] 29)=W at *;have c0:=cell_blk N0 0;have c1:=cell_blk N0 1;have d0:=cell_blk N1 0;have d1:=cell_blk N1 1;simp at c0 c1 d0 d1
 go_wp2_with fail
 refine hT.mono ?_;rintro e w' ⟨rfl,n,rfl⟩;have kn:=Keeps.drewN W n;have hbn:=below_drewN b1 n;replace c0:=kn _ _ c0;replace d0:=kn _ _ d0;have hV:=HV.out _ (kk.trans kn);generalize W.drewN n=W1 at *
 go_wp2_with fail
 refine(hA W1 hV.1 hV.2).mono ?_;rintro e w' ⟨rfl,hb'⟩;have hB3:=hbn.trans (hb'.mono hbn.size);go_wp2
 go_ret
 exact⟨rfl,hB3⟩
end
end Go.Proofs.YtddokajfafmhhaaGreatDoor
