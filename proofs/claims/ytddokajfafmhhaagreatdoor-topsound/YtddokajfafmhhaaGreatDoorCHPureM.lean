/- Spec HViews Views Tab Laid Facts HStays JTopSound HPure HPureC HPureM. -/
import Derived.Deep.Draws
import Derived.Deep.OwnRows
import Derived.WalkKit
import Derived.LaidMore
import Derived.OpenShut
import Derived.ProofKit
import Derived.Stop.Joined
import Derived.Test.YtddokajfafmhhaaGreatDoorRows
import Derived.Deep.Slices
import Derived.Lib.SmallJoins
import Derived.SizedLaws
import Derived.Test.YtddokajfafmhhaaGreatDoorChecked
namespace Go.Proofs.YtddokajfafmhhaaGreatDoor
section
def okOp (op:Int):Bool:=decide (0 ≤ op) && decide (op ≤ 19)
def okReg (r:Int):Bool:=decide (0 ≤ r) && decide (r ≤ 7)
def aOf (op:Int):Bool:=op != 0 && op != 6 && op != 19
def bOf (op:Int):Bool:=(decide (2 ≤ op) && decide (op ≤ 4)) || (decide (8 ≤ op) && decide (op ≤ 14)) || op == 17
def nOf (op:Int):Bool:=op == 1 || (decide (5 ≤ op) && decide (op ≤ 11)) || op == 17
def loOf (op:Int):Int:=if op = 1 then -1099511627776 else if op = 5 ∨ op = 6 then -60 else if op = 7 then 1 else 0
def hiOf (op:Int):Int:=if op = 1 then 1099511627776 else if op = 5 ∨ op = 6 then 60 else if op = 7 then 4 else if 8 ≤ op ∧ op ≤ 11 then 3 else if op = 17 then 5 else 0
def partsFault (op a b n:Int):Int :=
 if okOp op = false then 3
 else if okReg a = false ∨ okReg b = false ∨ n < loOf op ∨ hiOf op < n then 2
 else if (a ≠ 0 ∧ aOf op = false) ∨ (b ≠ 0 ∧ bOf op = false) then 4
 else 0
def beside (op n place many:Int):Bool:=(op == 5 || op == 6) && (decide (place + n < 0) || decide (many ≤ place + n))
def insFault (kinds many place op a b n:Int):Int :=
 if partsFault op a b n ≠ 0 then partsFault op a b n
 else if beside op n place many = true ∨ (op = 17 ∧ kinds ≤ n) then 2
 else if place = many - 1 ∧ op ≠ 0 ∧ op ≠ 19 ∧ op ≠ 6 then 5
 else 0
section
variable {kinds many place op a b n:Int}
theorem ins_parts (h:partsFault op a b n ≠ 0):insFault kinds many place op a b n = partsFault op a b n:=by rw [insFault,if_pos h]
theorem ins_beside (hp:partsFault op a b n = 0) (h:beside op n place many = true):insFault kinds many place op a b n = 2:=by
 rw [insFault,if_neg (by simp [hp]),if_pos (Or.inl h)]
theorem ins_spawn (hp:partsFault op a b n = 0) (h:op = 17) (h':kinds ≤ n):insFault kinds many place op a b n = 2:=by
 rw [insFault,if_neg (by simp [hp]),if_pos (Or.inr ⟨h,h'⟩)]
theorem ins_rest (hp:partsFault op a b n = 0) (h:beside op n place many = false) (h':¬ (op = 17 ∧ kinds ≤ n)) :
  insFault kinds many place op a b n = if place = many - 1 ∧ op ≠ 0 ∧ op ≠ 19 ∧ op ≠ 6 then 5 else 0:=by
 rw [insFault,if_neg (by simp [hp]),if_neg (by simp [h]; omega)]
theorem ins_short (hp:partsFault op a b n = 0) (h:beside op n place many = false) (h':¬ (op = 17 ∧ kinds ≤ n)) (hl:place = many - 1) (hg:(op != 0 && op != 19 && op != 6) = true):insFault kinds many place op a b n = 5:=by
 rw [ins_rest hp h h',if_pos]
 simp at hg
 exact ⟨hl,hg.1.1,hg.1.2,hg.2⟩
theorem ins_last (hp:partsFault op a b n = 0) (h:beside op n place many = false) (h':¬ (op = 17 ∧ kinds ≤ n)) (hg:(op != 0 && op != 19 && op != 6) = false):insFault kinds many place op a b n = 0:=by
 rw [ins_rest hp h h',if_neg]
 simp at hg
 omega
theorem ins_inner (hp:partsFault op a b n = 0) (h:beside op n place many = false) (h':¬ (op = 17 ∧ kinds ≤ n)) (hl:place ≠ many - 1):insFault kinds many place op a b n = 0:=by
 rw [ins_rest hp h h',if_neg (fun c => hl c.1)]
end
def first (f:Nat → Int):Nat → Nat → Int
 | 0,_ => 0
 | n + 1,i => if f i ≠ 0 then f i else first f n (i + 1)
theorem first_hit (f:Nat → Int) (n i:Nat) (h:i < n) (hf:f i ≠ 0):first f (n - i) i = f i:=by
 obtain ⟨k,hk⟩:∃ k,n - i = k + 1:=⟨n - i - 1,by omega⟩
 rw [hk,first,if_pos hf]
theorem first_pass (f:Nat → Int) (n i:Nat) (h:i < n) (hf:f i = 0):first f (n - i) i = first f (n - (i + 1)) (i + 1):=by
 obtain ⟨k,hk⟩:∃ k,n - i = k + 1:=⟨n - i - 1,by omega⟩
 rw [hk,first,if_neg (by simp [hf]),show n - (i + 1) = k by omega]
def rowFault (kinds many:Nat) (x:Nat → Nat → Int):Int :=
 if many < 1 ∨ 60 < many then 1 else first (fun i => insFault kinds many i (x i 0) (x i 1) (x i 2) (x i 3)) many 0
def progFault (G:Nat) (L:Nat → Nat) (X:Nat → Nat → Nat → Int):Int :=
 if G = 0 then 6 else if 6 < G then 1 else first (fun r => rowFault G (L r) (X r)) G 0
end
section
open Go.RowKit
def Keeps (w w':World):Prop:=∀ a v,w.cell? a = some v → w'.cell? a = some v
theorem Keeps.refl (w:World):Keeps w w:=fun _ _ h => h
theorem Keeps.trans {a b c:World} (h:Keeps a b) (k:Keeps b c):Keeps a c:=fun x v e => k x v (h x v e)
theorem Keeps.below {w w':World} (h:Below w.heap.size w w'):Keeps w w':=fun a _ e => (h.cell (p:=a) (World.block_lt_of_cell? _ _ e)).trans e
theorem Keeps.alloc (w:World) (o:Obj):Keeps w (w.alloc o):=Keeps.below ((Below.refl _ _).alloc (Nat.le_refl _) o)
theorem Keeps.drewN (w:World) (n:Nat):Keeps w (w.drewN n):=fun a _ e => (World.cell?_drewN w n a).trans e
structure Vl where
 k:Int
 n:Int
structure Ob where
 fs:List Vl
 dead:Bool
def vMay (m:Int) (v:Vl):Bool :=
 if v.k = 0 then decide (v.n = 0) else if v.k = 1 then decide (-1099511627776 ≤ v.n) && decide (v.n ≤ 1099511627776) else if v.k = 2 then decide (0 ≤ v.n) && decide (v.n < m) else false
def oMay (m:Int) (o:Ob):Bool:=if o.dead then decide (o.fs.length = 0) else (decide (1 ≤ o.fs.length) && decide (o.fs.length ≤ 4)) && o.fs.all (vMay m)
def mMay (M:Int) (n:Nat):Bool:=(decide (0 ≤ M) && decide (M ≤ 60)) && decide ((n:Int) ≤ M)
def hMay (M:Int) (l:List Ob) (roots:List Vl):Bool:=mMay M l.length && l.all (oMay l.length) && roots.all (vMay l.length)
def erS (b:Bool):Int:=if b then 0 else 8
theorem erS_true:erS true = 0:=rfl
theorem erS_false:erS false = 8:=rfl
def ValsAt (w:World) (ao:Option Addr) (l:List Vl):Prop :=
 ∀ i v,l[i]? = some v → ∃ b o,ao = some ⟨b,o,none⟩ ∧ w.cell? ⟨b,o + i * 2,none⟩ = some (.int .i64 v.k) ∧ w.cell? ⟨b,o + i * 2 + 1,none⟩ = some (.int .i64 v.n)
theorem ValsAt.keeps {w w':World} {ao:Option Addr} {l:List Vl} (h:ValsAt w ao l) (k:Keeps w w'):ValsAt w' ao l:=fun i v hi => by
 obtain ⟨b,o,e,h1,h2⟩:=h i v hi
 exact ⟨b,o,e,k _ _ h1,k _ _ h2⟩
structure ObsAt (w:World) (ao:Option Addr) (l:List Ob):Prop where
 cell:∀ i x,l[i]? = some x → ∃ b o fa fc,ao = some ⟨b,o,none⟩ ∧ w.cell? ⟨b,o + i * 2,none⟩ = some (.slice fa x.fs.length fc) ∧ w.cell? ⟨b,o + i * 2 + 1,none⟩ = some (.bool x.dead) ∧ ValsAt w fa x.fs ∧ 16 * x.fs.length ≤ 140737488351232
 many:32 * l.length ≤ 140737488351232
theorem ObsAt.keeps {w w':World} {ao:Option Addr} {l:List Ob} (h:ObsAt w ao l) (k:Keeps w w'):ObsAt w' ao l :=
 ⟨fun i x hi => by
  obtain ⟨b,o,fa,fc,e,h1,h2,h3,h4⟩:=h.cell i x hi
  exact ⟨b,o,fa,fc,e,k _ _ h1,k _ _ h2,h3.keeps k,h4⟩,h.many⟩
theorem ValsAt.keepLow {w w':World} {ao:Option Addr} {l:List Vl} {B:Nat} (h:ValsAt w ao l) (hlow:∀ (i:Nat) v,l[i]? = some v → ∃ b o,ao = some ⟨b,o,none⟩ ∧ b < B) (hb:Below B w w'):ValsAt w' ao l:=fun i v hi => by
 obtain ⟨b,o,e,h1,h2⟩:=h i v hi
 obtain ⟨b',o',e',hlt⟩:=hlow i v hi
 rw [e] at e'
 simp only [Option.some.injEq,Addr.mk.injEq,and_true] at e'
 obtain ⟨rfl,rfl⟩:=e'
 exact ⟨b,o,e,(hb.cell (p:=⟨b,o + i * 2,none⟩) hlt).trans h1,(hb.cell (p:=⟨b,o + i * 2 + 1,none⟩) hlt).trans h2⟩
theorem ValsAt.low {w:World} {ao:Option Addr} {l:List Vl} (h:ValsAt w ao l):∀ (i:Nat) v,l[i]? = some v → ∃ b o,ao = some ⟨b,o,none⟩ ∧ b < w.heap.size:=fun i v hi => by
 obtain ⟨b,o,e,h1,_⟩:=h i v hi
 exact ⟨b,o,e,World.block_lt_of_cell? _ _ h1⟩
theorem below_box (w:World) (o:Obj):Below w.heap.size w (w.alloc o):=(Below.refl _ _).alloc (Nat.le_refl _) o
theorem below_drewN {B:Nat} {a w:World} (h:Below B a w) (n:Nat):Below B a (w.drewN n):=⟨h.os,h.tape,h.output,h.size,h.block⟩
theorem ret_bool {a b:Bool} (h:a = b):Ending.returned (.bool a) = .returned (.bool b):=by rw [h]
theorem ret_num {a b:Int} (h:a = b):Ending.returned (.int .i64 a) = .returned (.int .i64 b):=by rw [h]
theorem at_some {α:Type} {l:List α} {i:Nat} (h:i < l.length):∃ v,l[i]? = some v:=⟨_,List.getElem?_eq_getElem h⟩
theorem all_from {α:Type} (p:α → Bool) (l:List α) {i:Nat} {v:α} (h:l[i]? = some v):(l.drop i).all p = (p v && (l.drop (i + 1)).all p):=by
 obtain ⟨hi,rfl⟩:=List.getElem?_eq_some_iff.1 h
 rw [List.drop_eq_getElem_cons hi,List.all_cons]
end
section
open Go.RowKit
def RowAt (w:World) (ao:Option Addr) (n:Nat) (x:Nat → Nat → Int):Prop :=
 ∀ i,i < n → ∃ b o,ao = some ⟨b,o,none⟩ ∧ ∀ f,f < 4 → w.cell? ⟨b,o + i * 4 + f,none⟩ = some (.int .i64 (x i f))
theorem RowAt.keeps {w w':World} {ao:Option Addr} {n:Nat} {x:Nat → Nat → Int} (h:RowAt w ao n x) (k:Keeps w w'):RowAt w' ao n x:=fun i hi => by
 obtain ⟨b,o,e,hc⟩:=h i hi
 exact ⟨b,o,e,fun f hf => k _ _ (hc f hf)⟩
structure ProgAt (w:World) (ao:Option Addr) (G:Nat) (A:Nat → Option Addr) (L C:Nat → Nat) (X:Nat → Nat → Nat → Int):Prop where
 outer:∀ r,r < G → ∃ b o,ao = some ⟨b,o,none⟩ ∧ w.cell? ⟨b,o + r,none⟩ = some (.slice (A r) (L r) (C r))
 rows:∀ r,r < G → RowAt w (A r) (L r) (X r)
 many:24 * G ≤ 281474976710656
 long:∀ r,r < G → 32 * L r ≤ 281474976710656
 fits:∀ r,r < G → ∀ i,i < L r → ∀ f,f < 4 → -9223372036854775808 ≤ X r i f ∧ X r i f ≤ 9223372036854775807
theorem ProgAt.keeps {w w':World} {ao:Option Addr} {G:Nat} {A:Nat → Option Addr} {L C:Nat → Nat} {X:Nat → Nat → Nat → Int} (h:ProgAt w ao G A L C X) (k:Keeps w w'):ProgAt w' ao G A L C X :=
 ⟨fun r hr => by obtain ⟨b,o,e,hc⟩:=h.outer r hr; exact ⟨b,o,e,k _ _ hc⟩,fun r hr => (h.rows r hr).keeps k,h.many,h.long,h.fits⟩
end
section
open Go.RowKit
def TabAt (g:Nat) (w:World):Prop:=∀ op:Nat,op < 20 →
 w.cell? ⟨g,op * 5,none⟩ = some (.bool (aOf op)) ∧ w.cell? ⟨g,op * 5 + 1,none⟩ = some (.bool (bOf op)) ∧ w.cell? ⟨g,op * 5 + 2,none⟩ = some (.bool (nOf op)) ∧
 w.cell? ⟨g,op * 5 + 3,none⟩ = some (.int .i64 (loOf op)) ∧ w.cell? ⟨g,op * 5 + 4,none⟩ = some (.int .i64 (hiOf op))
theorem TabAt.keeps {g:Nat} {w w':World} (h:TabAt g w) (k:Keeps w w'):TabAt g w':=fun op ho =>
 ⟨k _ _ (h op ho).1,k _ _ (h op ho).2.1,k _ _ (h op ho).2.2.1,k _ _ (h op ho).2.2.2.1,k _ _ (h op ho).2.2.2.2⟩
end
section
open Go.ChangeShapes Go.WideShapes Go.ChangeAt Go.RowKit
theorem Tryz.gOps : Tryz.prog.globalNamed "treadwheel/code.operators" = some 0 := by kernel_rfl
theorem Tryz.tOps:(Tryz.prog.globals[0]?).map (·.type) = some 131:=by kernel_rfl
theorem Tryz.cOp:Tryz.prog.cellsOf 130 = 5:=by kernel_rfl
theorem Tryz.cBool:Tryz.prog.cellsOf 4 = 1:=by kernel_rfl
theorem Tryz.cInt:Tryz.prog.cellsOf 3 = 1:=by kernel_rfl
def tabRow {H:Type} (k:Nat):DataW H:=.agg [.lit (.bool (aOf k)),.lit (.bool (bOf k)),.lit (.bool (nOf k)),.lit (.int .i64 (loOf k)),.lit (.int .i64 (hiOf k))]
theorem tab_datum:(Rows.laid_treadwheel_code_operators:DataW Unit) = .agg ((List.range 20).map tabRow):=by kernel_rfl
abbrev opsLaid : List (String × DataW Unit) := [("treadwheel/code.operators", Rows.laid_treadwheel_code_operators)]
section
variable {H:Type} {enc:TypeId × Value → H} {w:World} {base:Nat} {spare:Nat → Bool} {held:Bool}
set_option maxRecDepth 100000 in
theorem open_oper {fuel:Nat} {cs:List Value} {x:DataW H × List MemPlace} {a b c:Bool} {l m:Int} (h:DataW.trod enc Tryz.prog w base spare held fuel 130 cs = some x)
  (hx:x.1 = .agg [.lit (.bool a),.lit (.bool b),.lit (.bool c),.lit (.int .i64 l),.lit (.int .i64 m)]):cs = [.bool a,.bool b,.bool c,.int .i64 l,.int .i64 m]:=by
 obtain ⟨xs,n,_,rfl,hl,hlen,hf⟩:=DataW.trod_struct Tryz.underlying130 h
 rw [Tryz.cOp] at hl
 match cs,hl with
 | [c0,c1,c2,c3,c4],_ =>
  match xs,hlen with
  | [x0,x1,x2,x3,x4],_ =>
   simp only [List.map_cons,List.map_nil,DataW.agg.injEq,List.cons.injEq,and_true] at hx
   obtain ⟨q0,q1,q2,q3,q4⟩:=hx
   have g0:DataW.trod enc Tryz.prog w base spare held n 4 (List.take (Tryz.prog.cellsOf 4) (List.drop 0 [c0,c1,c2,c3,c4])) = some x0:=hf 0 _ rfl
   have g1:DataW.trod enc Tryz.prog w base spare held n 4 (List.take (Tryz.prog.cellsOf 4) (List.drop 1 [c0,c1,c2,c3,c4])) = some x1:=hf 1 _ rfl
   have g2:DataW.trod enc Tryz.prog w base spare held n 4 (List.take (Tryz.prog.cellsOf 4) (List.drop 2 [c0,c1,c2,c3,c4])) = some x2:=hf 2 _ rfl
   have g3:DataW.trod enc Tryz.prog w base spare held n 3 (List.take (Tryz.prog.cellsOf 3) (List.drop 3 [c0,c1,c2,c3,c4])) = some x3:=hf 3 _ rfl
   have g4:DataW.trod enc Tryz.prog w base spare held n 3 (List.take (Tryz.prog.cellsOf 3) (List.drop 4 [c0,c1,c2,c3,c4])) = some x4:=hf 4 _ rfl
   rw [Tryz.cBool] at g0 g1 g2
   rw [Tryz.cInt] at g3 g4
   simp only [List.drop_zero,List.drop_succ_cons,List.take_succ_cons,List.take_zero] at g0 g1 g2 g3 g4
   obtain ⟨b0,e0,y0⟩:=DataW.trod_bool Tryz.underlying4 g0
   obtain ⟨b1,e1,y1⟩:=DataW.trod_bool Tryz.underlying4 g1
   obtain ⟨b2,e2,y2⟩:=DataW.trod_bool Tryz.underlying4 g2
   obtain ⟨b3,e3,y3,_⟩:=DataW.trod_int Tryz.underlying3 g3
   obtain ⟨b4,e4,y4,_⟩:=DataW.trod_int Tryz.underlying3 g4
   subst y0 y1 y2 y3 y4
   simp at q0 q1 q2 q3 q4 e0 e1 e2 e3 e4
   subst q0 q1 q2 q3 q4 e0 e1 e2 e3 e4
   rfl
end
set_option maxRecDepth 100000 in
theorem tab_of_laid {W:World} (h:laidMetH Tryz.prog opsLaid W):TabAt 0 W:=by
 rw [MakeChecks.laidMetH_plain _ _ _ (by kernel_rfl)] at h
 obtain ⟨ps,⟨g0,t0,cs0,f0,p0,q0,hg0,ht0,hv0,hd0,_⟩,_,_⟩:=h
 obtain rfl:=Option.some.inj (Tryz.gOps.symm.trans hg0)
 obtain rfl:=Option.some.inj (Tryz.tOps.symm.trans ht0)
 rw [tab_datum] at hd0
 obtain ⟨xs,m,_,hx,_,hlen,hel⟩:=DataW.trod_array Tryz.underlying131 hd0
 simp only [Prod.mk.injEq,DataW.agg.injEq] at hx
 rw [Tryz.cOp] at hel
 intro k hk
 have hk':k < xs.length:=by omega
 have hxk:xs[k].1 = tabRow k:=by
  have:=congrArg (fun l => l[k]?) hx.1
  simp [hk,hk'] at this
  exact this.symm
 have e:=open_oper ((hel k hk).trans (List.getElem?_eq_getElem hk')) hxk
 have hc:∀ j,j < 5 → W.cell? ⟨0,k * 5 + j,none⟩ = [Value.bool (aOf k),.bool (bOf k),.bool (nOf k),.int .i64 (loOf k),.int .i64 (hiOf k)][j]?:=fun j hj => by
  rw [World.var?_cell hg0 hv0,← e]
  simp [hj,List.getElem?_drop]
 exact ⟨by simpa using hc 0 (by omega),by simpa using hc 1 (by omega),by simpa using hc 2 (by omega),by simpa using hc 3 (by omega),by simpa using hc 4 (by omega)⟩
set_option maxRecDepth 100000 in
theorem door_met (os:Os) (args:Array Value):laidMetH Tryz.prog opsLaid ((World.doorLaid Tryz.prog 400 os).forCall (fun _ _ => 0) ⟨#[],args,[]⟩).memory :=
 laidMetH_of_parts3 (fuel:=8) (laidMet_of_run' 8 (by kernel_rfl) (by kernel_rfl)) (by kernel_rfl) (by kernel_rfl)
end
section
open Go.ChangeShapes Go.WideShapes Go.ChangeAt Go.RowKit Go.Deep
theorem Tryz.cown:ownKnob Tryz.prog.godebug = none:=by kernel_rfl
theorem Tryz.claidOut:laidOutB Tryz.prog = true:=by kernel_rfl
end
section
open Go.ChangeShapes Go.WideShapes Go.ChangeAt Go.RowKit Go.Deep
section
variable {H:Type} {enc:TypeId × Value → H} {P:Program} {w:World} {base:Nat} {spare:Nat → Bool} {held:Bool}
theorem trodAll_stays (hl:laidOutB P = true) {W W':World} {sp':Nat → Bool}:∀ {ts:List TypeId} {vs:List Value} {ds:List (DataW H)} {ps:List MemPlace},DataW.TrodAll enc P W base (fun _ => true) true ts vs ds ps →
  (∀ t ∈ ts,P.readableRec t = true ∧ t < P.types.size) → (∀ p ∈ ps,W.sameAt W' p) → (∀ p ∈ ps,sp' p.block = true) → DataW.TrodAll enc P W' base sp' true ts vs ds ps
 | [],vs,ds,ps,h,_,_,_ => by
  obtain ⟨rfl,rfl,rfl⟩:=trodAll_nil h
  exact trodAll_mk0
 | t :: ts,vs,ds,ps,h,ht,h1,h2 => by
  obtain ⟨v,vs',d,ds',p,q,rfl,rfl,rfl,hd,hrest⟩:=trodAll_cons h
  exact trodAll_cons_mk (WideElems.Trod_stays hl (ht t (by simp)).1 (ht t (by simp)).2 hd (fun x hx => h1 x (by simp [hx])) (fun x hx => h2 x (by simp [hx])))
   (trodAll_stays hl hrest (fun u hu => ht u (by simp [hu])) (fun x hx => h1 x (by simp [hx])) (fun x hx => h2 x (by simp [hx])))
theorem open_int {tN:TypeId} (hN:P.underlying tN = some (.int .i64)) {r:Reach} {b0:Nat} {v:Value} {d:DataW H} {p:List MemPlace} (hv:Value.okWide P w r b0 tN v) (h:DataW.Trod enc P w base spare held tN v d p) :
  ∃ n:Int,v = .int .i64 n ∧ (-9223372036854775808 ≤ n ∧ n ≤ 9223372036854775807):=by
 obtain ⟨n,rfl⟩:=okWide_int hN hv
 obtain ⟨fuel,hf⟩:=h
 obtain ⟨a,e,_,w1⟩:=DataW.trod_int hN hf
 simp [Value.cells] at e
 subst e
 exact ⟨_,rfl,bounds_i64 w1⟩
end
end
section
open Go.ChangeShapes Go.WideShapes Go.ChangeAt Go.RowKit
theorem and_up {a b:Bool} (ha:a = true) (hb:b = true):(a && b) = true:=by rw [ha,hb]; rfl
set_option maxRecDepth 100000 in
set_option maxHeartbeats 8000000 in
theorem topSound_facts:joinedFacts Tryz.prog 4 Tryz.f4 Rows.topSoundSpec Rows.topSoundRow = true:=by
 unfold joinedFacts
 refine and_up ?_ (by as_aux_lemma => kernel_rfl)
 refine and_up ?_ (by as_aux_lemma => kernel_rfl)
 refine and_up ?_ (by as_aux_lemma => kernel_rfl)
 refine and_up ?_ (by as_aux_lemma => kernel_rfl)
 refine and_up ?_ (by as_aux_lemma => kernel_rfl)
 refine and_up ?_ (by as_aux_lemma => kernel_rfl)
 refine and_up ?_ (by as_aux_lemma => kernel_rfl)
 refine and_up ?_ (by as_aux_lemma => kernel_rfl)
 refine and_up ?_ (by as_aux_lemma => kernel_rfl)
 refine and_up ?_ (by as_aux_lemma => kernel_rfl)
 refine and_up ?_ (by as_aux_lemma => kernel_rfl)
 refine and_up ?_ (by as_aux_lemma => kernel_rfl)
 refine and_up ?_ (by as_aux_lemma => kernel_rfl)
 refine and_up ?_ (by as_aux_lemma => kernel_rfl)
 refine and_up ?_ (by as_aux_lemma => kernel_rfl)
 refine and_up ?_ (by as_aux_lemma => kernel_rfl)
 refine and_up ?_ (by as_aux_lemma => kernel_rfl)
 refine and_up ?_ (by as_aux_lemma => kernel_rfl)
 refine and_up ?_ (by as_aux_lemma => kernel_rfl)
 refine and_up ?_ (by as_aux_lemma => kernel_rfl)
 refine and_up ?_ (by as_aux_lemma => kernel_rfl)
 refine and_up ?_ (by as_aux_lemma => kernel_rfl)
 refine and_up ?_ (by as_aux_lemma => kernel_rfl)
 refine and_up ?_ (by as_aux_lemma => kernel_rfl)
 refine and_up ?_ (by as_aux_lemma => kernel_rfl)
 refine and_up ?_ (by as_aux_lemma => kernel_rfl)
 refine and_up ?_ (by as_aux_lemma => kernel_rfl)
 refine and_up ?_ (by as_aux_lemma => kernel_rfl)
 refine and_up ?_ (by as_aux_lemma => kernel_rfl)
 refine and_up ?_ (by as_aux_lemma => kernel_rfl)
 refine and_up ?_ (by as_aux_lemma => kernel_rfl)
 as_aux_lemma => kernel_rfl
end
section
def visit (order:List Int) (v:Vl):List Int:=if v.k = 2 then (if v.n ∈ order then order else order ++ [v.n]) else order
def visits (order:List Int) (vs:List Vl):List Int:=vs.foldl visit order
def fieldsOf (l:List Ob) (p:Int):List Vl:=match l[p.toNat]? with
 | none => []
 | some o => o.fs
def bfs (l:List Ob):Nat → Nat → List Int → List Int
 | 0,_,o => o
 | f + 1,i,o => match o[i]? with
  | none => o
  | some p => bfs l f (i + 1) (visits o (fieldsOf l p))
def reach (l:List Ob) (roots:List Vl):List Int:=bfs l (l.length + 1) 0 (visits [] roots)
def Ok (L:Nat) (o:List Int):Prop:=o.Nodup ∧ ∀ p ∈ o,0 ≤ p ∧ p < (L:Int)
theorem Ok.nil (L:Nat):Ok L []:=⟨List.nodup_nil,fun p hp => by cases hp⟩
theorem Ok.len {L:Nat} {o:List Int} (h:Ok L o):o.length ≤ L:=by
 have hs:o ⊆ (List.range L).map Int.ofNat:=fun p hp => by
  obtain ⟨h1,h2⟩:=h.2 p hp
  refine List.mem_map.2 ⟨p.toNat,List.mem_range.2 (by omega),?_⟩
  show ((p.toNat:Nat):Int) = p
  omega
 have:=List.Nodup.length_le_of_subset h.1 hs
 simpa using this
theorem vMay_ref {L:Int} {v:Vl} (h:vMay L v = true) (hk:v.k = 2):0 ≤ v.n ∧ v.n < L:=by
 simp [vMay,hk] at h
 exact h
theorem Ok.visit {L:Nat} {o:List Int} (h:Ok L o) {v:Vl} (hv:vMay L v = true):Ok L (visit o v):=by
 unfold Go.Proofs.YtddokajfafmhhaaGreatDoor.visit
 by_cases hk:v.k = 2
 ·rw [if_pos hk]
  by_cases hm:v.n ∈ o
  ·rw [if_pos hm]; exact h
  ·rw [if_neg hm]
   refine ⟨?_,fun p hp => ?_⟩
   ·rw [List.nodup_append]
    refine ⟨h.1,by simp,fun a ha b hb => ?_⟩
    simp at hb
    subst hb
    intro e
    subst e
    exact hm ha
   ·rcases List.mem_append.1 hp with hp | hp
    ·exact h.2 p hp
    ·simp at hp
     subst hp
     exact vMay_ref hv hk
 ·rw [if_neg hk]; exact h
theorem Ok.visits {L:Nat} {vs:List Vl}:∀ {o:List Int},Ok L o → vs.all (vMay L) = true → Ok L (visits o vs):=by
 induction vs with
 | nil => intro o h _; exact h
 | cons v r ih =>
  intro o h hv
  simp only [List.all_cons,Bool.and_eq_true] at hv
  exact ih (h.visit hv.1) hv.2
theorem visit_ext (o:List Int) (v:Vl):∃ t,visit o v = o ++ t:=by
 unfold visit
 split
 ·split
  ·exact ⟨[],by simp⟩
  ·exact ⟨_,rfl⟩
 ·exact ⟨[],by simp⟩
theorem visits_ext (vs:List Vl):∀ o:List Int,∃ t,visits o vs = o ++ t:=by
 induction vs with
 | nil => intro o; exact ⟨[],by simp [visits]⟩
 | cons v r ih =>
  intro o
  obtain ⟨t,ht⟩:=visit_ext o v
  obtain ⟨t',ht'⟩:=ih (visit o v)
  exact ⟨t ++ t',by show visits (visit o v) r = _; rw [ht',ht,List.append_assoc]⟩
theorem visits_snoc (o:List Int) (a:List Vl) (v:Vl):visits o (a ++ [v]) = visit (visits o a) v:=by simp [visits,List.foldl_append]
theorem visits_len (o:List Int) (vs:List Vl):o.length ≤ (visits o vs).length:=by
 obtain ⟨t,ht⟩:=visits_ext vs o
 rw [ht,List.length_append]
 omega
theorem bfs_end (l:List Ob) (F:Nat) (o:List Int):bfs l F o.length o = o:=by
 cases F with
 | zero => rfl
 | succ f => rw [bfs,List.getElem?_eq_none (Nat.le_refl _)]
theorem bfs_step (l:List Ob) {F i:Nat} {o:List Int} {p:Int} (h:o[i]? = some p) (hF:0 < F):bfs l F i o = bfs l (F - 1) (i + 1) (visits o (fieldsOf l p)):=by
 obtain ⟨f,rfl⟩:∃ f,F = f + 1:=⟨F - 1,by omega⟩
 rw [bfs,h]
 rfl
theorem fields_may {M:Int} {l:List Ob} {r:List Vl} (h:hMay M l r = true) (p:Int):(fieldsOf l p).all (vMay l.length) = true:=by
 unfold fieldsOf
 split
 ·rfl
 ·rename_i o ho
  simp only [hMay,Bool.and_eq_true] at h
  have:=List.all_eq_true.1 h.1.2 o (List.mem_of_getElem? ho)
  unfold oMay at this
  split at this
  ·have h0:o.fs = []:=List.eq_nil_of_length_eq_zero (by simpa using this)
   rw [h0]; rfl
  ·simp only [Bool.and_eq_true] at this
   exact this.2
theorem bfs_ok {M:Int} {l:List Ob} {r:List Vl} (h:hMay M l r = true):∀ (F i:Nat) (o:List Int),Ok l.length o → Ok l.length (bfs l F i o)
 | 0,_,_,ho => ho
 | F + 1,i,o,ho => by
  rw [bfs]
  split
  ·exact ho
  ·exact bfs_ok h F (i + 1) _ (ho.visits (fields_may h _))
theorem reach_ok {M:Int} {l:List Ob} {r:List Vl} (h:hMay M l r = true) (roots:List Vl) (hr:roots.all (vMay l.length) = true):Ok l.length (reach l roots) :=
 bfs_ok h _ _ _ ((Ok.nil _).visits hr)
end
section
theorem visit_mem {o:List Int} {v:Vl} (hk:v.k = 2):v.n ∈ visit o v:=by
 unfold visit
 rw [if_pos hk]
 by_cases hm:v.n ∈ o
 ·rw [if_pos hm]; exact hm
 ·rw [if_neg hm]; simp
theorem visits_sub {o:List Int} (vs:List Vl) {p:Int} (hp:p ∈ o):p ∈ visits o vs:=by
 obtain ⟨t,ht⟩:=visits_ext vs o
 rw [ht]
 exact List.mem_append_left _ hp
theorem visits_mem {vs:List Vl}:∀ {o:List Int} {v:Vl},v ∈ vs → v.k = 2 → v.n ∈ visits o vs:=by
 induction vs with
 | nil => intro o v hv; cases hv
 | cons u r ih =>
  intro o v hv hk
  rcases List.mem_cons.1 hv with rfl | h
  ·exact visits_sub r (visit_mem hk)
  ·exact ih (o:=visit o u) h hk
theorem visits_at {o:List Int} (vs:List Vl) {i:Nat} {p:Int} (hp:o[i]? = some p):(visits o vs)[i]? = some p:=by
 obtain ⟨t,ht⟩:=visits_ext vs o
 rw [ht,List.getElem?_append_left (List.getElem?_eq_some_iff.1 hp).1]
 exact hp
theorem bfs_at (l:List Ob):∀ (F i:Nat) (o:List Int) {j:Nat} {p:Int},o[j]? = some p → (bfs l F i o)[j]? = some p
 | 0,_,_,_,_,h => h
 | F + 1,i,o,j,p,h => by
  rw [bfs]
  split
  ·exact h
  ·exact bfs_at l F (i + 1) _ (visits_at _ h)
theorem bfs_sub (l:List Ob) (F i:Nat) {o:List Int} {p:Int} (h:p ∈ o):p ∈ bfs l F i o:=by
 obtain ⟨j,hj⟩:=List.getElem?_of_mem h
 exact List.mem_of_getElem? (bfs_at l F i o hj)
def Seen (l:List Ob) (i:Nat) (o:List Int):Prop:=∀ (j:Nat) p,j < i → o[j]? = some p → ∀ v ∈ fieldsOf l p,v.k = 2 → v.n ∈ o
theorem bfs_seen {M:Int} {l:List Ob} {r:List Vl} (h:hMay M l r = true):∀ (F i:Nat) (o:List Int),Ok l.length o → l.length ≤ F + i → Seen l i o → ∀ p ∈ bfs l F i o,∀ v ∈ fieldsOf l p,v.k = 2 → v.n ∈ bfs l F i o
 | 0,i,o,ho,hF,hs => fun p hp v hv hk => by
  obtain ⟨j,hj⟩:=List.getElem?_of_mem hp
  have h1:=(List.getElem?_eq_some_iff.1 hj).1
  have h2:o.length ≤ l.length:=ho.len
  simp only [bfs] at h1 hj ⊢
  exact hs j p (by omega) hj v hv hk
 | F + 1,i,o,ho,hF,hs => fun p hp v hv hk => by
  rw [bfs] at hp ⊢
  cases hi:o[i]? with
  | none =>
   rw [hi] at hp
   simp only at hp ⊢
   obtain ⟨j,hj⟩:=List.getElem?_of_mem hp
   have h1:=(List.getElem?_eq_some_iff.1 hj).1
   have h2:=List.getElem?_eq_none_iff.1 hi
   exact hs j p (by omega) hj v hv hk
  | some q =>
   rw [hi] at hp
   simp only at hp ⊢
   refine bfs_seen h F (i + 1) _ (ho.visits (fields_may h _)) (by omega) ?_ p hp v hv hk
   intro j p' hj hp' v' hv' hk'
   by_cases hji:j = i
   ·subst hji
    have h3:=visits_at (fieldsOf l q) hi
    rw [h3] at hp'
    cases hp'
    exact visits_mem hv' hk'
   ·have hlt:=(List.getElem?_eq_some_iff.1 hi).1
    have hjo:o[j]? = some p':=by
     obtain ⟨t,ht⟩:=visits_ext (fieldsOf l q) o
     rw [ht,List.getElem?_append_left (by omega)] at hp'
     exact hp'
    exact visits_sub _ (hs j p' (by omega) hjo v' hv' hk')
theorem reach_closed {M:Int} {l:List Ob} {r:List Vl} (h:hMay M l r = true) {roots:List Vl} (hr:roots.all (vMay l.length) = true) {p:Int} (hp:p ∈ reach l roots) {v:Vl} (hv:v ∈ fieldsOf l p) (hk:v.k = 2):v.n ∈ reach l roots :=
 bfs_seen h _ _ _ ((Ok.nil _).visits hr) (by omega) (fun j p hj => by omega) p hp v hv hk
theorem reach_root {l:List Ob} {roots:List Vl} {v:Vl} (hv:v ∈ roots) (hk:v.k = 2):v.n ∈ reach l roots :=
 bfs_sub l _ _ (visits_mem hv hk)
end
section
def spots (n:Nat):List Int:=(List.range n).map Int.ofNat
theorem mem_spots {n:Nat} {p:Int}:p ∈ spots n ↔ 0 ≤ p ∧ p < (n:Int):=by
 simp only [spots,List.mem_map,List.mem_range]
 constructor
 ·rintro ⟨a,ha,rfl⟩
  exact ⟨Int.natCast_nonneg a,by show (a:Int) < n; omega⟩
 ·rintro ⟨h0,h1⟩
  exact ⟨p.toNat,by omega,by show ((p.toNat:Nat):Int) = p; omega⟩
theorem spots_succ (n:Nat):spots (n + 1) = spots n ++ [(n:Int)]:=by simp [spots,List.range_succ]
theorem spots_sorted (n:Nat):(spots n).Pairwise (fun a b => a < b):=by
 induction n with
 | zero => simp [spots]
 | succ n ih =>
  rw [spots_succ,List.pairwise_append]
  refine ⟨ih,by simp,fun a ha b hb => ?_⟩
  simp at hb
  subst hb
  exact (mem_spots.1 ha).2
def keptOf (order:List Int) (n:Nat):List Int:=(spots n).filter (fun p => decide (p ∈ order))
theorem mem_keptOf {order:List Int} {n:Nat} {p:Int}:p ∈ keptOf order n ↔ (0 ≤ p ∧ p < (n:Int)) ∧ p ∈ order:=by
 simp [keptOf,mem_spots]
theorem keptOf_sorted (order:List Int) (n:Nat):(keptOf order n).Pairwise (fun a b => a < b):=(spots_sorted n).filter _
theorem keptOf_nodup (order:List Int) (n:Nat):(keptOf order n).Nodup:=(keptOf_sorted order n).imp (fun h => by omega)
theorem keptOf_perm {order:List Int} {n:Nat} (h:Ok n order):order.Perm (keptOf order n) :=
 (List.perm_ext_iff_of_nodup h.1 (keptOf_nodup order n)).2 fun p => ⟨fun hp => mem_keptOf.2 ⟨h.2 p hp,hp⟩,fun hp => (mem_keptOf.1 hp).2⟩
theorem keptOf_length {order:List Int} {n:Nat} (h:Ok n order):(keptOf order n).length = order.length:=(keptOf_perm h).length_eq.symm
theorem sort_kept {order:List Int} {n:Nat} (h:Ok n order):order.mergeSort (fun x y => decide (x ≤ y)) = keptOf order n:=by
 refine List.Perm.eq_of_pairwise (le:=fun a b:Int => a ≤ b) (fun a b _ _ h1 h2 => by omega) ?_ ((keptOf_sorted order n).imp (fun h => by omega)) ((List.mergeSort_perm _ _).trans (keptOf_perm h))
 have:=List.pairwise_mergeSort (le:=fun x y:Int => decide (x ≤ y)) (fun a b c h1 h2 => by simp at *; omega) (fun a b => by simp; omega) order
 exact this.imp (fun h => by simpa using h)
theorem keptOf_ok {order:List Int} {n:Nat}:Ok n (keptOf order n):=⟨keptOf_nodup _ _,fun _ hp => (mem_keptOf.1 hp).1⟩
theorem idx_of {order:List Int} (h:order.Nodup) {i:Nat} {p:Int} (hi:order[i]? = some p):order.idxOf p = i:=by
 obtain ⟨hlt,rfl⟩:=List.getElem?_eq_some_iff.1 hi
 exact List.Nodup.idxOf_getElem h i hlt
theorem idx_at {order:List Int} {p:Int} (h:p ∈ order):order[order.idxOf p]? = some p:=by
 have hlt:=List.idxOf_lt_length_iff.2 h
 rw [List.getElem?_eq_getElem hlt,List.getElem_idxOf]
theorem Ok.mono {n m:Nat} {o:List Int} (h:Ok n o) (hm:n ≤ m):Ok m o:=⟨h.1,fun p hp => ⟨(h.2 p hp).1,by have:=(h.2 p hp).2; omega⟩⟩
def mvV (order:List Int) (b:Int) (v:Vl):Vl:=if v.k = 2 then ⟨2,b + (order.idxOf v.n:Nat)⟩ else v
def mvO (order:List Int) (b:Int) (o:Ob):Ob:=⟨o.fs.map (mvV order b),o.dead⟩
def obAt (l:List Ob) (p:Int):Ob:=(l[p.toNat]?).getD ⟨[],false⟩
def mvObs (l:List Ob) (order:List Int) (b:Int) (ps:List Int):List Ob:=ps.map fun p => mvO order b (obAt l p)
theorem mvObs_length' (l:List Ob) (order:List Int) (b:Int) (ps:List Int):(mvObs l order b ps).length = ps.length:=by simp [mvObs]
theorem fieldsOf_obAt (l:List Ob) (p:Int):fieldsOf l p = (obAt l p).fs:=by
 unfold fieldsOf obAt
 cases l[p.toNat]? <;> rfl
theorem hMay_roots' {M:Int} {l:List Ob} {r:List Vl} (h:hMay M l r = true):r.all (vMay l.length) = true:=by
 simp only [hMay,Bool.and_eq_true] at h; exact h.2
def collectS (M:Int) (l:List Ob) (roots:List Vl):(Int × List Ob) × List Vl × Int :=
 if hMay M l roots = true then ((M,mvObs l (keptOf (reach l roots) l.length) 0 (keptOf (reach l roots) l.length)),roots.map (mvV (keptOf (reach l roots) l.length) 0),0) else ((0,[]),[],8)
def Leads (order:List Int) (vs:List Vl):Prop:=∀ v ∈ vs,v.k = 2 → v.n ∈ order
theorem leads_roots {l:List Ob} {roots:List Vl}:Leads (reach l roots) roots:=fun _ hv hk => reach_root hv hk
theorem leads_fields {M:Int} {l:List Ob} {roots:List Vl} (h:hMay M l roots = true) {p:Int} (hp:p ∈ reach l roots):Leads (reach l roots) (obAt l p).fs:=fun v hv hk => by
 have hr:roots.all (vMay l.length) = true:=by simp only [hMay,Bool.and_eq_true] at h; exact h.2
 refine reach_closed h hr hp ?_ hk
 rw [fieldsOf_obAt]
 exact hv
theorem Leads.kept {order:List Int} {n:Nat} (ho:Ok n order) {vs:List Vl} (h:Leads order vs):Leads (keptOf order n) vs:=fun v hv hk => mem_keptOf.2 ⟨ho.2 _ (h v hv hk),h v hv hk⟩
end
end Go.Proofs.YtddokajfafmhhaaGreatDoor
