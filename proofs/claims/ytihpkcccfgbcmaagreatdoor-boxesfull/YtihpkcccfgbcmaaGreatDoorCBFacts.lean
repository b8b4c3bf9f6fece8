/- Facts. -/
import Derived.Deep.Slices
import Derived.Lib.SmallJoins
import Derived.OpenShut
import Derived.SizedLaws
import Derived.LaidMore
import Derived.Stop.Joined
import Derived.Test.YtihpkcccfgbcmaaGreatDoorRows
import Derived.Test.YtihpkcccfgbcmaaGreatDoorCBVCheck
namespace Go.Proofs.YtihpkcccfgbcmaaGreatDoor
set_option maxRecDepth 100000
set_option maxHeartbeats 8000000
section
open Go.ChangeShapes Go.WideShapes Go.ChangeAt Go.RowKit Go.Deep
section
variable {H:Type} {enc:TypeId × Value->H} {P:Program} {w:World} {base:Nat} {spare:Nat->Bool} {held:Bool}
theorem trodAll_stays (hl:laidOutB P=true) {W W':World} {sp':Nat->Bool}:∀ {ts:List TypeId} {vs:List Value} {ds:List (DataW H)} {ps:List MemPlace},DataW.TrodAll enc P W base (fun _=>true) true ts vs ds ps ->
  (∀ t∈ts,P.readableRec t=true/\t<P.types.size)->(∀ p∈ps,W.sameAt W' p)->(∀ p∈ps,sp' p.block=true)->DataW.TrodAll enc P W' base sp' true ts vs ds ps
 | [],vs,ds,ps,h,_,_,_=>by
  obtain⟨rfl,rfl,rfl⟩:=trodAll_nil h;exact trodAll_mk0
 | t :: ts,vs,ds,ps,h,ht,h1,h2=>by
  obtain⟨v,vs',d,ds',p,q,rfl,rfl,rfl,hd,hrest⟩:=trodAll_cons h;exact trodAll_cons_mk (WideElems.Trod_stays hl (ht t (by simp)).1 (ht t (by simp)).2 hd (fun x hx=>h1 x (by simp[hx])) (fun x hx=>h2 x (by simp[hx])))
   (trodAll_stays hl hrest (fun u hu=>ht u (by simp[hu])) (fun x hx=>h1 x (by simp[hx])) (fun x hx=>h2 x (by simp[hx])))
theorem open_int {tN:TypeId} (hN:P.underlying tN=some (.int .i64)) {r:Reach} {b0:Nat} {v:Value} {d:DataW H} {p:List MemPlace} (hv:Value.okWide P w r b0 tN v) (h:DataW.Trod enc P w base spare held tN v d p) :
  ∃ n:Int,v=.int .i64 n/\(-9223372036854775808<=n/\n<=9223372036854775807):=by
 obtain⟨n,rfl⟩:=okWide_int hN hv;obtain⟨fuel,hf⟩:=h;obtain⟨a,e,_,w1⟩:=DataW.trod_int hN hf;simp[Value.cells] at e;subst e;exact⟨_,rfl,bounds_i64 w1⟩
end
end
section
open Go.ChangeShapes Go.WideShapes Go.ChangeAt Go.RowKit
theorem Tryz.gOps : Tryz.prog.globalNamed "treadwheel/code.operators" = some 0 := by kernel_rfl
theorem Tryz.tOps:(Tryz.prog.globals[0]?).map (·.type)=some 192:=by kernel_rfl
theorem Tryz.cOp:Tryz.prog.cellsOf 191=5:=by kernel_rfl
theorem Tryz.cBool:Tryz.prog.cellsOf 4=1:=by kernel_rfl
theorem Tryz.cInt:Tryz.prog.cellsOf 3=1:=by kernel_rfl
def tabRow {H:Type} (k:Nat):DataW H:=.agg [.lit (.bool (aOf k)),.lit (.bool (bOf k)),.lit (.bool (nOf k)),.lit (.int .i64 (loOf k)),.lit (.int .i64 (hiOf k))]
theorem tab_datum:(Rows.laid_treadwheel_code_operators:DataW Unit)=.agg ((List.range 20).map tabRow):=by kernel_rfl
abbrev opsLaid : List (String × DataW Unit) := [("treadwheel/code.operators", Rows.laid_treadwheel_code_operators)]
section
variable {H:Type} {enc:TypeId × Value->H} {w:World} {base:Nat} {spare:Nat->Bool} {held:Bool}
theorem open_oper {fuel:Nat} {cs:List Value} {x:DataW H × List MemPlace} {a b c:Bool} {l m:Int} (h:DataW.trod enc Tryz.prog w base spare held fuel 191 cs=some x)
  (hx:x.1=.agg [.lit (.bool a),.lit (.bool b),.lit (.bool c),.lit (.int .i64 l),.lit (.int .i64 m)]):cs=[.bool a,.bool b,.bool c,.int .i64 l,.int .i64 m]:=by
 obtain⟨xs,n,_,rfl,hl,hlen,hf⟩:=DataW.trod_struct Tryz.underlying191 h;rw[Tryz.cOp] at hl
 match cs,hl with
 | [c0,c1,c2,c3,c4],_ =>
  match xs,hlen with
  | [x0,x1,x2,x3,x4],_ =>
   simp only[List.map_cons,List.map_nil,DataW.agg.injEq,List.cons.injEq,and_true] at hx;obtain⟨q0,q1,q2,q3,q4⟩:=hx;have g0:DataW.trod enc Tryz.prog w base spare held n 4 (List.take (Tryz.prog.cellsOf 4) (List.drop 0 [c0,c1,c2,c3,c4]))=some x0:=hf 0 _ rfl;have g1:DataW.trod enc Tryz.prog w base spare held n 4 (List.take (Tryz.prog.cellsOf 4) (List.drop 1 [c0,c1,c2,c3,c4]))=some x1:=hf 1 _ rfl;have g2:DataW.trod enc Tryz.prog w base spare held n 4 (List.take (Tryz.prog.cellsOf 4) (List.drop 2 [c0,c1,c2,c3,c4]))=some x2:=hf 2 _ rfl
   have g3:DataW.trod enc Tryz.prog w base spare held n 3 (List.take (Tryz.prog.cellsOf 3) (List.drop 3 [c0,c1,c2,c3,c4]))=some x3:=hf 3 _ rfl;have g4:DataW.trod enc Tryz.prog w base spare held n 3 (List.take (Tryz.prog.cellsOf 3) (List.drop 4 [c0,c1,c2,c3,c4]))=some x4:=hf 4 _ rfl;rw[Tryz.cBool] at g0 g1 g2;rw[Tryz.cInt] at g3 g4;simp only[List.drop_zero,List.drop_succ_cons,List.take_succ_cons,List.take_zero] at g0 g1 g2 g3 g4
   obtain⟨b0,e0,y0⟩:=DataW.trod_bool Tryz.underlying4 g0;obtain⟨b1,e1,y1⟩:=DataW.trod_bool Tryz.underlying4 g1;obtain⟨b2,e2,y2⟩:=DataW.trod_bool Tryz.underlying4 g2;obtain⟨b3,e3,y3,_⟩:=DataW.trod_int Tryz.underlying3 g3;obtain⟨b4,e4,y4,_⟩:=DataW.trod_int Tryz.underlying3 g4;subst y0 y1 y2 y3 y4;simp at q0 q1 q2 q3 q4 e0 e1 e2 e3 e4;subst q0 q1 q2 q3 q4 e0 e1 e2 e3 e4
   rfl
end
theorem tab_of_laid {W:World} (h:laidMetH Tryz.prog opsLaid W):TabAt 0 W:=by
 rw[MakeChecks.laidMetH_plain _ _ _ (by kernel_rfl)] at h;obtain⟨ps,⟨g0,t0,cs0,f0,p0,q0,hg0,ht0,hv0,hd0,_⟩,_,_⟩:=h;obtain rfl:=Option.some.inj (Tryz.gOps.symm.trans hg0);obtain rfl:=Option.some.inj (Tryz.tOps.symm.trans ht0);rw[tab_datum] at hd0;obtain⟨xs,m,_,hx,_,hlen,hel⟩:=DataW.trod_array Tryz.underlying192 hd0;simp only[Prod.mk.injEq,DataW.agg.injEq] at hx;rw[Tryz.cOp] at hel;intro k hk;have hk':k<xs.length:=by omega
 have hxk:xs[k].1=tabRow k:=by
  have:=congrArg (fun l=>l[k]?) hx.1;simp[hk,hk'] at this
  exact this.symm
 have e:=open_oper ((hel k hk).trans (List.getElem?_eq_getElem hk')) hxk;have hc:∀ j,j<5->W.cell? ⟨0,k*5+j,none⟩=[Value.bool (aOf k),.bool (bOf k),.bool (nOf k),.int .i64 (loOf k),.int .i64 (hiOf k)][j]?:=fun j hj=>by
  rw[World.var?_cell hg0 hv0,<- e];simp[hj,List.getElem?_drop]
 exact⟨hc 0 (by omega),hc 1 (by omega),hc 2 (by omega),hc 3 (by omega),hc 4 (by omega)⟩
theorem door_met (os:Os) (args:Array Value):laidMetH Tryz.prog opsLaid ((World.doorLaid Tryz.prog 400 os).forCall (fun _ _=>0) ⟨#[],args,[]⟩).memory :=
 laidMetH_of_parts3 (fuel:=8) (laidMet_of_run' 8 (by kernel_rfl) (by kernel_rfl)) (by kernel_rfl) (by kernel_rfl)
end
section
open Go.ChangeShapes Go.WideShapes Go.ChangeAt Go.RowKit Go.Deep
theorem Tryz.cown:ownKnob Tryz.prog.godebug=none:=by kernel_rfl
theorem Tryz.claidOut:laidOutB Tryz.prog=true:=by kernel_rfl
end
end Go.Proofs.YtihpkcccfgbcmaaGreatDoor
