/- APure WViews HBoxes. -/
import Derived.Deep.OwnRows
import Derived.WalkKit
import Derived.Test.YtddokajfafmhhaaGreatDoorCHPureM
import Derived.Test.YtddokajfafmhhaaGreatDoorCRdSpec
namespace Go.Proofs.YtddokajfafmhhaaGreatDoor
section
structure Ac where
 kind:Int
 par:Int
 M:Int
 obs:List Ob
 regs:List Vl
 pc:Int
 box:List Vl
 fin:Int
structure Wd where
 acts:List Ac
 prints:List (Int × Int)
structure Ax where
 kind:Int
 who:Int
 n:Int
 m:Int
def numV (n:Int):Vl:=⟨1,n⟩
def nilV:Vl:=⟨0,0⟩
def isW (n:Int):Bool:=decide (-1099511627776 ≤ n) && decide (n ≤ 1099511627776)
def noAc:Ac:=⟨0,0,0,[],[],0,[],0⟩
def Ac.reg (a:Ac) (r:Int):Vl:=(a.regs[r.toNat]?).getD nilV
def Ac.put (a:Ac) (r:Int) (v:Vl):Ac:={ a with regs:=a.regs.set r.toNat v }
def Ac.heap (a:Ac) (M:Int) (l:List Ob):Ac:={ a with M:=M,obs:=l }
def Ac.push (a:Ac) (v:Vl):Ac:={ a with box:=a.box ++ [v] }
def Ac.roots (a:Ac):List Vl:=a.regs ++ a.box
def Wd.at (w:Wd) (n:Int):Ac:=(w.acts[n.toNat]?).getD noAc
def Wd.put (w:Wd) (n:Int) (a:Ac):Wd:={ w with acts:=w.acts.set n.toNat a }
def clearS (a:Ac):Ac :=
 if (collectS a.M a.obs a.roots).2.2 = 0 then { a with M:=(collectS a.M a.obs a.roots).1.1,obs:=(collectS a.M a.obs a.roots).1.2,regs:=(collectS a.M a.obs a.roots).2.1.take a.regs.length,box:=(collectS a.M a.obs a.roots).2.1.drop a.regs.length } else a
def giveS (a:Ac) (n:Int):Ac × Option Vl :=
 if (allocS a.M a.obs n).e = 0 then (a.heap (allocS a.M a.obs n).M (allocS a.M a.obs n).obs,some ⟨(allocS a.M a.obs n).k,(allocS a.M a.obs n).n⟩)
 else if (allocS a.M a.obs n).e = 7 then
  (if (allocS (clearS a).M (clearS a).obs n).e = 0 then ((clearS a).heap (allocS (clearS a).M (clearS a).obs n).M (allocS (clearS a).M (clearS a).obs n).obs,some ⟨(allocS (clearS a).M (clearS a).obs n).k,(allocS (clearS a).M (clearS a).obs n).n⟩)
  else (clearS a,none))
 else (a,none)
def livesS (w:Wd) (n:Int):Bool:=(decide (0 ≤ n) && decide (n < (w.acts.length:Int))) && decide ((w.at n).fin = 0)
def takesS (w:Wd) (n:Int):Bool:=livesS w n && decide ((w.at n).box.length < 6)
def toldS (a:Ac) (n m:Int):Ac:=match giveS a 2 with
 | (b,none) => b
 | (b,some v) => { b with obs:=setObs (setObs b.obs v.n.toNat 0 (numV n)) v.n.toNat 1 (numV m),box:=b.box ++ [v] }
def tellS (w:Wd) (tq n m:Int):Wd:=if takesS w tq = true then w.put tq (toldS (w.at tq) n m) else w
def endedS (a:Ac) (way:Int):Ac:={ a with regs:=a.regs.map (fun _ => nilV),box:=[],obs:=[],pc:=-1,fin:=way }
def endS (w:Wd) (who:Nat) (way:Int):Wd:=tellS (w.put who (endedS (w.at who) way)) (w.at who).par who way
def faultS (e:Int):Int:=if e = 2 then 4 else 8
def keep1:List Vl → List Vl
 | [] => []
 | v :: r => v :: r.map (fun _ => nilV)
def resultS (op x y:Int):Int:=if op = 2 then x + y else if op = 3 then x - y else if x < y then 1 else 0
def reckonS (a:Ac) (i:Ins):Ac × Int :=
 if (a.reg i.a).k ≠ 1 ∨ (a.reg i.b).k ≠ 1 then (a,8)
 else if isW (resultS i.op (a.reg i.a).n (a.reg i.b).n) = false then (a,7)
 else (a.put i.a (numV (resultS i.op (a.reg i.a).n (a.reg i.b).n)),0)
def makeS (a:Ac) (i:Ins):Ac × Int:=match giveS a i.n with
 | (b,none) => (b,5)
 | (b,some v) => (b.put i.a v,0)
def getsS (a:Ac) (i:Ins) (kind way:Int):Ac × Int :=
 if (getS a.M a.obs (a.reg i.b) i.n).2 ≠ 0 then (a,faultS (getS a.M a.obs (a.reg i.b) i.n).2)
 else if (getS a.M a.obs (a.reg i.b) i.n).1.k ≠ kind then (a,way)
 else (a.put i.a (getS a.M a.obs (a.reg i.b) i.n).1,0)
def putsS (a:Ac) (i:Ins) (kind:Int):Ac × Int :=
 if (setS a.M a.obs (a.reg i.a) i.n (a.reg i.b)).2.2 ≠ 0 then (a,faultS (setS a.M a.obs (a.reg i.a) i.n (a.reg i.b)).2.2)
 else if (a.reg i.b).k ≠ kind then (a,8)
 else (a.heap (setS a.M a.obs (a.reg i.a) i.n (a.reg i.b)).1 (setS a.M a.obs (a.reg i.a) i.n (a.reg i.b)).2.1,0)
def aloneS (a:Ac) (who:Nat) (i:Ins):Ac × Int :=
 if i.op = 0 then (if (a.reg 0).k ≠ 2 then (a,8) else ({ a with regs:=keep1 a.regs },0))
 else if i.op = 1 then (a.put i.a (numV i.n),0)
 else if i.op = 2 ∨ i.op = 3 ∨ i.op = 4 then reckonS a i
 else if i.op = 5 then (a,if (a.reg i.a).k ≠ 1 then 8 else 0)
 else if i.op = 7 then makeS a i
 else if i.op = 8 then getsS a i 1 2
 else if i.op = 10 then getsS a i 2 3
 else if i.op = 9 then putsS a i 1
 else if i.op = 11 then putsS a i 2
 else if i.op = 12 then (a.put i.a (a.reg i.b),0)
 else if i.op = 16 then (a.put i.a (numV who),0)
 else if i.op = 18 then (a.put i.a nilV,0)
 else if i.op = 19 then (a,1)
 else (a,0)
def leadsDead (a:Ac) (v:Vl):Bool:=(reach a.obs [v]).any fun p => (obAt a.obs p).dead
def arriveS (w:Wd) (who:Nat) (tq:Int) (t:TrR):Wd :=
 if t.e ≠ 0 then w else (w.put who ((w.at who).heap t.M1 t.o1)).put tq ((((w.put who ((w.at who).heap t.M1 t.o1)).at tq).heap t.M2 t.o2).push t.v)
def trW (w:Wd) (who:Nat) (r tq:Int) (move:Bool):TrR:=transferS (w.at who).M (w.at who).obs ((w.at who).reg r) (w.at tq).M (w.at tq).obs move
def deliverS (w:Wd) (who:Nat) (r tq:Int) (move:Bool):Wd :=
 if (trW w who r tq move).e = 7 then arriveS (w.put tq (clearS (w.at tq))) who tq (trW (w.put tq (clearS (w.at tq))) who r tq move)
 else arriveS w who tq (trW w who r tq move)
def goneS (w:Wd) (who:Nat) (i:Ins):Wd :=
 if takesS w ((w.at who).reg i.b).n = false then w
 else if i.op = 13 ∧ ((w.at who).reg i.b).n = who then w.put who ((w.at who).push ((w.at who).reg i.a))
 else deliverS w who i.a ((w.at who).reg i.b).n (decide (i.op = 13))
def sendS (w:Wd) (who:Nat) (i:Ins):Wd × Int :=
 if ((w.at who).reg i.a).k ≠ 2 ∨ ((w.at who).reg i.b).k ≠ 1 ∨ leadsDead (w.at who) ((w.at who).reg i.a) = true then (w,8)
 else if i.op = 13 then ((goneS w who i).put who (((goneS w who i).at who).put i.a nilV),0)
 else (goneS w who i,0)
def reportS (w:Wd) (who:Nat) (i:Ins):Wd × Int :=
 if ((w.at who).reg i.a).k ≠ 1 then (w,8)
 else if w.prints.length < 500 then ({ w with prints:=w.prints ++ [((who:Int),((w.at who).reg i.a).n)] },0)
 else (w,0)
def beginS (kind par M:Int) (l:List Ob) (v:Vl):Ac:=⟨kind,par,M,l,[v,nilV,nilV,nilV,nilV,nilV,nilV,nilV],-1,[],0⟩
def spawnS (w:Wd) (who:Nat) (i:Ins):Wd × Int :=
 if ((w.at who).reg i.b).k ≠ 2 then (w,8)
 else if 8 ≤ w.acts.length then (w,6)
 else if (transferS (w.at who).M (w.at who).obs ((w.at who).reg i.b) (w.at who).M [] true).e ≠ 0 then (w,8)
 else
  (⟨(w.put who ((((w.at who).heap (transferS (w.at who).M (w.at who).obs ((w.at who).reg i.b) (w.at who).M [] true).M1 (transferS (w.at who).M (w.at who).obs ((w.at who).reg i.b) (w.at who).M [] true).o1).put i.b nilV).put i.a (numV w.acts.length))).acts ++
   [beginS i.n who (transferS (w.at who).M (w.at who).obs ((w.at who).reg i.b) (w.at who).M [] true).M2 (transferS (w.at who).M (w.at who).obs ((w.at who).reg i.b) (w.at who).M [] true).o2 (transferS (w.at who).M (w.at who).obs ((w.at who).reg i.b) (w.at who).M [] true).v],w.prints⟩,0)
def performS (w:Wd) (who:Nat) (i:Ins):Wd × Int :=
 if i.op = 13 ∨ i.op = 14 then sendS w who i
 else if i.op = 15 then reportS w who i
 else if i.op = 17 then spawnS w who i
 else (w.put who (aloneS (w.at who) who i).1,(aloneS (w.at who) who i).2)
def nextS (a:Ac) (i:Ins):Int :=
 if i.op = 0 then -1 else if i.op = 6 ∨ (i.op = 5 ∧ (a.reg i.a).k = 1 ∧ (a.reg i.a).n = 0) then a.pc + i.n else a.pc + 1
def takeS (a:Ac):Ac:=match a.box with
 | [] => a
 | v :: r => { (a.put 1 v) with box:=r,pc:=0 }
def insAt (X:Nat → Nat → Nat → Int) (k i:Int):Ins:=⟨X k.toNat i.toNat 0,X k.toNat i.toNat 1,X k.toNat i.toNat 2,X k.toNat i.toNat 3⟩
def doneS (w:Wd) (who:Nat) (i:Ins):Wd :=
 if (performS w who i).2 ≠ 0 then endS (performS w who i).1 who (performS w who i).2 else (performS w who i).1
def stepS (X:Nat → Nat → Nat → Int) (w:Wd) (who:Nat):Wd :=
 if livesS w who = false then w
 else if (w.at who).pc = -1 then w.put who (takeS (w.at who))
 else doneS (w.put who { (w.at who) with pc:=nextS (w.at who) (insAt X (w.at who).kind (w.at who).pc) }) who (insAt X (w.at who).kind (w.at who).pc)
def actS (X:Nat → Nat → Nat → Int) (w:Wd) (a:Ax):Wd :=
 if (w.acts.length:Int) ≤ a.who then w
 else if a.kind = 1 then stepS X w a.who.toNat
 else if a.kind = 2 then w.put a.who (clearS (w.at a.who))
 else tellS w a.who a.n a.m
def axFault (a:Ax):Int :=
 if a.kind ≠ 1 ∧ a.kind ≠ 2 ∧ a.kind ≠ 3 then 3
 else if a.who < 0 ∨ 8 ≤ a.who ∨ isW a.n = false ∨ isW a.m = false then 2
 else 0
def acMay (G:Nat) (L:Nat → Nat) (a:Ac) (num:Nat):Bool :=
 ((((((decide (0 ≤ a.kind) && decide (a.kind < (G:Int))) && (decide (-1 ≤ a.par) && decide (a.par < (num:Int)))) && (decide (-1 ≤ a.pc) && decide (a.pc < (L a.kind.toNat:Int)))) && (decide (0 ≤ a.fin) && decide (a.fin ≤ 8))) &&
  (decide (a.regs.length = 8) && decide (a.box.length ≤ 6))) && a.box.all (fun v => decide (v.k = 2))) && (hMay a.M a.obs a.roots && (decide (a.fin = 0) || (decide (a.box.length = 0) && (decide (a.obs.length = 0) && decide (a.pc = -1)))))
def prMay (n:Nat) (t:Int × Int):Bool:=(decide (0 ≤ t.1) && decide (t.1 < (n:Int))) && isW t.2
def acsMay (G:Nat) (L:Nat → Nat):List Ac → Nat → Bool
 | [],_ => true
 | a :: r,i => acMay G L a i && acsMay G L r (i + 1)
def wdMay (G:Nat) (L:Nat → Nat) (w:Wd):Bool :=
 ((decide (1 ≤ w.acts.length) && decide (w.acts.length ≤ 8)) && decide (w.prints.length ≤ 500)) && (w.prints.all (prMay w.acts.length) && acsMay G L w.acts 0)
def newW (M:Int):Wd:=⟨[beginS 0 (-1) M [⟨[numV 0,numV 0],false⟩] ⟨2,0⟩],[]⟩
def runS (X:Nat → Nat → Nat → Int):Wd → List Ax → Wd × Int
 | w,[] => (w,0)
 | w,a :: r => if axFault a ≠ 0 then (⟨[],[]⟩,axFault a) else runS X (actS X w a) r
end
section
open Go.RowKit
structure AcAt (w:World) (b o:Nat) (x:Ac) (oa:Option Addr) (oc:Nat) (ra:Option Addr) (rc:Nat) (ba:Option Addr) (bc:Nat):Prop where
 c0:w.cell? ⟨b,o,none⟩ = some (.int .i64 x.kind)
 c1:w.cell? ⟨b,o + 1,none⟩ = some (.int .i64 x.par)
 c2:w.cell? ⟨b,o + 2,none⟩ = some (.int .i64 x.M)
 c3:w.cell? ⟨b,o + 3,none⟩ = some (.slice oa x.obs.length oc)
 c4:w.cell? ⟨b,o + 4,none⟩ = some (.slice ra x.regs.length rc)
 c5:w.cell? ⟨b,o + 5,none⟩ = some (.int .i64 x.pc)
 c6:w.cell? ⟨b,o + 6,none⟩ = some (.slice ba x.box.length bc)
 c7:w.cell? ⟨b,o + 7,none⟩ = some (.int .i64 x.fin)
 obs:ObsAt w oa x.obs
 regs:ValsAt w ra x.regs
 box:ValsAt w ba x.box
 rlen:16 * x.regs.length ≤ 140737488351232
 blen:16 * x.box.length ≤ 140737488351232
theorem AcAt.keeps {w w':World} {b o:Nat} {x:Ac} {oa ra ba:Option Addr} {oc rc bc:Nat} (h:AcAt w b o x oa oc ra rc ba bc) (k:Keeps w w'):AcAt w' b o x oa oc ra rc ba bc :=
 ⟨k _ _ h.c0,k _ _ h.c1,k _ _ h.c2,k _ _ h.c3,k _ _ h.c4,k _ _ h.c5,k _ _ h.c6,k _ _ h.c7,h.obs.keeps k,h.regs.keeps k,h.box.keeps k,h.rlen,h.blen⟩
structure ActsAt (w:World) (ao:Option Addr) (l:List Ac):Prop where
 cell:∀ i x,l[i]? = some x → ∃ b o oa oc ra rc ba bc,ao = some ⟨b,o,none⟩ ∧ AcAt w b (o + i * 8) x oa oc ra rc ba bc
 many:112 * l.length ≤ 140737488351232
theorem ActsAt.keeps {w w':World} {ao:Option Addr} {l:List Ac} (h:ActsAt w ao l) (k:Keeps w w'):ActsAt w' ao l :=
 ⟨fun i x hi => by
  obtain ⟨b,o,oa,oc,ra,rc,ba,bc,e,h1⟩:=h.cell i x hi
  exact ⟨b,o,oa,oc,ra,rc,ba,bc,e,h1.keeps k⟩,h.many⟩
structure ToldAt (w:World) (ao:Option Addr) (l:List (Int × Int)):Prop where
 cell:∀ i x,l[i]? = some x → ∃ b o,ao = some ⟨b,o,none⟩ ∧ w.cell? ⟨b,o + i * 2,none⟩ = some (.int .i64 x.1) ∧ w.cell? ⟨b,o + i * 2 + 1,none⟩ = some (.int .i64 x.2)
 many:16 * l.length ≤ 140737488351232
theorem ToldAt.keeps {w w':World} {ao:Option Addr} {l:List (Int × Int)} (h:ToldAt w ao l) (k:Keeps w w'):ToldAt w' ao l :=
 ⟨fun i x hi => by
  obtain ⟨b,o,e,h1,h2⟩:=h.cell i x hi
  exact ⟨b,o,e,k _ _ h1,k _ _ h2⟩,h.many⟩
theorem ActsAt.nil (w:World) (ao:Option Addr):ActsAt w ao []:=⟨fun i x hi => by simp at hi,by show 112 * 0 ≤ 140737488351232; omega⟩
theorem ToldAt.nil (w:World) (ao:Option Addr):ToldAt w ao []:=⟨fun i x hi => by simp at hi,by show 16 * 0 ≤ 140737488351232; omega⟩
end
section
open Go.RowKit
theorem boxes1 (w:World) (o0:Obj):(w.alloc o0).heap[w.heap.size]? = some o0 ∧ Keeps w (w.alloc o0) ∧ Below w.heap.size w (w.alloc o0) ∧ (w.alloc o0).heap.size = w.heap.size + 1:=by
 exact ⟨Deep.blk_alloc_new w o0,Keeps.alloc w o0,below_box w o0,by simp⟩
theorem boxes2 (w:World) (o0 o1:Obj):((w.alloc o0).alloc o1).heap[w.heap.size]? = some o0 ∧ ((w.alloc o0).alloc o1).heap[w.heap.size + 1]? = some o1 ∧ Keeps w ((w.alloc o0).alloc o1) ∧ Below w.heap.size w ((w.alloc o0).alloc o1) ∧ ((w.alloc o0).alloc o1).heap.size = w.heap.size + 1 + 1:=by
 obtain ⟨h0,hk,hb,hs⟩:=boxes1 w o0
 exact ⟨(Deep.blk_alloc_lt _ _ _ (by rw [hs]; omega)).trans h0,by rw [← hs]; exact Deep.blk_alloc_new _ _,hk.trans (Keeps.alloc _ _),hb.alloc (by rw [hs]; omega) _,by simp [hs]⟩
theorem boxes3 (w:World) (o0 o1 o2:Obj):(((w.alloc o0).alloc o1).alloc o2).heap[w.heap.size]? = some o0 ∧ (((w.alloc o0).alloc o1).alloc o2).heap[w.heap.size + 1]? = some o1 ∧ (((w.alloc o0).alloc o1).alloc o2).heap[w.heap.size + 1 + 1]? = some o2 ∧ Keeps w (((w.alloc o0).alloc o1).alloc o2) ∧ Below w.heap.size w (((w.alloc o0).alloc o1).alloc o2) ∧ (((w.alloc o0).alloc o1).alloc o2).heap.size = w.heap.size + 1 + 1 + 1:=by
 obtain ⟨h0,h1,hk,hb,hs⟩:=boxes2 w o0 o1
 exact ⟨(Deep.blk_alloc_lt _ _ _ (by rw [hs]; omega)).trans h0,(Deep.blk_alloc_lt _ _ _ (by rw [hs]; omega)).trans h1,by rw [← hs]; exact Deep.blk_alloc_new _ _,hk.trans (Keeps.alloc _ _),hb.alloc (by rw [hs]; omega) _,by simp [hs]⟩
theorem boxes4 (w:World) (o0 o1 o2 o3:Obj):((((w.alloc o0).alloc o1).alloc o2).alloc o3).heap[w.heap.size]? = some o0 ∧ ((((w.alloc o0).alloc o1).alloc o2).alloc o3).heap[w.heap.size + 1]? = some o1 ∧ ((((w.alloc o0).alloc o1).alloc o2).alloc o3).heap[w.heap.size + 1 + 1]? = some o2 ∧ ((((w.alloc o0).alloc o1).alloc o2).alloc o3).heap[w.heap.size + 1 + 1 + 1]? = some o3 ∧ Keeps w ((((w.alloc o0).alloc o1).alloc o2).alloc o3) ∧ Below w.heap.size w ((((w.alloc o0).alloc o1).alloc o2).alloc o3) ∧ ((((w.alloc o0).alloc o1).alloc o2).alloc o3).heap.size = w.heap.size + 1 + 1 + 1 + 1:=by
 obtain ⟨h0,h1,h2,hk,hb,hs⟩:=boxes3 w o0 o1 o2
 exact ⟨(Deep.blk_alloc_lt _ _ _ (by rw [hs]; omega)).trans h0,(Deep.blk_alloc_lt _ _ _ (by rw [hs]; omega)).trans h1,(Deep.blk_alloc_lt _ _ _ (by rw [hs]; omega)).trans h2,by rw [← hs]; exact Deep.blk_alloc_new _ _,hk.trans (Keeps.alloc _ _),hb.alloc (by rw [hs]; omega) _,by simp [hs]⟩
theorem boxes5 (w:World) (o0 o1 o2 o3 o4:Obj):(((((w.alloc o0).alloc o1).alloc o2).alloc o3).alloc o4).heap[w.heap.size]? = some o0 ∧ (((((w.alloc o0).alloc o1).alloc o2).alloc o3).alloc o4).heap[w.heap.size + 1]? = some o1 ∧ (((((w.alloc o0).alloc o1).alloc o2).alloc o3).alloc o4).heap[w.heap.size + 1 + 1]? = some o2 ∧ (((((w.alloc o0).alloc o1).alloc o2).alloc o3).alloc o4).heap[w.heap.size + 1 + 1 + 1]? = some o3 ∧ (((((w.alloc o0).alloc o1).alloc o2).alloc o3).alloc o4).heap[w.heap.size + 1 + 1 + 1 + 1]? = some o4 ∧ Keeps w (((((w.alloc o0).alloc o1).alloc o2).alloc o3).alloc o4) ∧ Below w.heap.size w (((((w.alloc o0).alloc o1).alloc o2).alloc o3).alloc o4) ∧ (((((w.alloc o0).alloc o1).alloc o2).alloc o3).alloc o4).heap.size = w.heap.size + 1 + 1 + 1 + 1 + 1:=by
 obtain ⟨h0,h1,h2,h3,hk,hb,hs⟩:=boxes4 w o0 o1 o2 o3
 exact ⟨(Deep.blk_alloc_lt _ _ _ (by rw [hs]; omega)).trans h0,(Deep.blk_alloc_lt _ _ _ (by rw [hs]; omega)).trans h1,(Deep.blk_alloc_lt _ _ _ (by rw [hs]; omega)).trans h2,(Deep.blk_alloc_lt _ _ _ (by rw [hs]; omega)).trans h3,by rw [← hs]; exact Deep.blk_alloc_new _ _,hk.trans (Keeps.alloc _ _),hb.alloc (by rw [hs]; omega) _,by simp [hs]⟩
theorem boxes6 (w:World) (o0 o1 o2 o3 o4 o5:Obj):((((((w.alloc o0).alloc o1).alloc o2).alloc o3).alloc o4).alloc o5).heap[w.heap.size]? = some o0 ∧ ((((((w.alloc o0).alloc o1).alloc o2).alloc o3).alloc o4).alloc o5).heap[w.heap.size + 1]? = some o1 ∧ ((((((w.alloc o0).alloc o1).alloc o2).alloc o3).alloc o4).alloc o5).heap[w.heap.size + 1 + 1]? = some o2 ∧ ((((((w.alloc o0).alloc o1).alloc o2).alloc o3).alloc o4).alloc o5).heap[w.heap.size + 1 + 1 + 1]? = some o3 ∧ ((((((w.alloc o0).alloc o1).alloc o2).alloc o3).alloc o4).alloc o5).heap[w.heap.size + 1 + 1 + 1 + 1]? = some o4 ∧ ((((((w.alloc o0).alloc o1).alloc o2).alloc o3).alloc o4).alloc o5).heap[w.heap.size + 1 + 1 + 1 + 1 + 1]? = some o5 ∧ Keeps w ((((((w.alloc o0).alloc o1).alloc o2).alloc o3).alloc o4).alloc o5) ∧ Below w.heap.size w ((((((w.alloc o0).alloc o1).alloc o2).alloc o3).alloc o4).alloc o5) ∧ ((((((w.alloc o0).alloc o1).alloc o2).alloc o3).alloc o4).alloc o5).heap.size = w.heap.size + 1 + 1 + 1 + 1 + 1 + 1:=by
 obtain ⟨h0,h1,h2,h3,h4,hk,hb,hs⟩:=boxes5 w o0 o1 o2 o3 o4
 exact ⟨(Deep.blk_alloc_lt _ _ _ (by rw [hs]; omega)).trans h0,(Deep.blk_alloc_lt _ _ _ (by rw [hs]; omega)).trans h1,(Deep.blk_alloc_lt _ _ _ (by rw [hs]; omega)).trans h2,(Deep.blk_alloc_lt _ _ _ (by rw [hs]; omega)).trans h3,(Deep.blk_alloc_lt _ _ _ (by rw [hs]; omega)).trans h4,by rw [← hs]; exact Deep.blk_alloc_new _ _,hk.trans (Keeps.alloc _ _),hb.alloc (by rw [hs]; omega) _,by simp [hs]⟩
end
end Go.Proofs.YtddokajfafmhhaaGreatDoor
