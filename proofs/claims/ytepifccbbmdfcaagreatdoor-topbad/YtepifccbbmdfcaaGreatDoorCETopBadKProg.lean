/- KProg. -/
import Derived.Test.YtepifccbbmdfcaaGreatDoorCBHOpen
namespace Go.Proofs.YtepifccbbmdfcaaGreatDoor
set_option maxRecDepth 100000
set_option maxHeartbeats 8000000
section
def noIns:Ins:=⟨0,0,0,0⟩
section
variable {bs:List Int} {k k1 k2 k3:Nat} {q a b n er:Int}
end
end
section
open Go.RowKit
section
variable {α:Type} {f:α->List Value} {s:Nat} {e tS:TypeId} {bytes:Nat} {P:Program}
theorem SeqOwn.below {w w':World} {base:Nat} {v:Value} {l:List α} (h:SeqOwn f s e w base v l) (hb:Below w.heap.size w w'):SeqOwn f s e w' base v l:=by
 refine World.ownsRow.kept h (row:=none) ⟨hb.os,hb.tape,hb.output,hb.size,fun j hj _=>hb.block j hj⟩ ?_
 cases h0:v.ownBlock with
 | none=>exact Or.inl rfl
 | some g=>exact Or.inr (by simp)
theorem SeqOwn.grown {w w':World} {base:Nat} {v:Value} {l:List α} {row:Option Nat} (h:SeqOwn f s e w base v l) (hg:w.grownBy w' row) (hn:v.ownBlock=none\/v.ownBlock≠row):SeqOwn f s e w' base v l:=World.ownsRow.kept h hg hn
theorem SeqOwn.le {w:World} {base base':Nat} {v:Value} {l:List α} (h:SeqOwn f s e w base v l) (hb:base'<=base):SeqOwn f s e w base' v l:=by
 refine⟨h.1,?_⟩
 rcases h.2 with hn | ⟨g,cap,cur,h0,h1,h2⟩
 ·exact Or.inl hn
 ·exact Or.inr ⟨g,cap,cur,h0,by omega,h2⟩
theorem wpList_seqCopy (T:RowT P f s tS e bytes) {w:World} {ops:Array Oper} {rest:List Oper} {o:Oper} {a:Act} {Q:Exit->Act->World->Prop} (hgd:o.guard=none) (p q:Operand)
  (ho:o.op=.call { callee:=.builtin .append,args:=#[p,q],argTypes:=#[tS,tS] }) (hp:a.eval p=.slice none 0 0)
  (fs:List α) (fa:Option Addr) (fc:Nat) (hq:a.eval q=.slice fa fs.length fc) (hfs:SeqAt f s w fa fs) (hl:fs.length*bytes<=140737488355328) (hl2:fs.length<=maxLen)
  (h:∀ va cap w',SeqOwn f s e w' w.heap.size (.slice va fs.length cap) fs->Below w.heap.size w w'->wpList P ops Q rest (a.put o.dst (.slice va fs.length cap)) w') :
  wpList P ops Q (o :: rest) a w:=by
 by_cases hpos:0<fs.length
 ·refine wpList_seq T hgd p q ho hp (l:=[]) (base:=w.heap.size) (seqOwn_nil _ _) (Nat.le_refl _) fs fa fc hq hfs hpos (by simpa using hl) (by simpa using hl2) ?_
  intro g cap w' hO _ hb _;simp only[List.length_nil,Nat.zero_add,List.nil_append] at hO ⊢;exact h _ _ _ hO hb
 ·have he:fs=[]:=List.eq_nil_of_length_eq_zero (by omega)
  subst he;refine wpList_plain hgd fun K hK=>?_
  have hr:=run_seq_zero (P:=P) (ty:=o.type) T (World.ownsRow_nil w w.heap.size e s) fa fc
  unfold Oper.wp execOp
  simp only[List.length_nil] at hq;simp only[ho,resolve,invoke,builtin,Sem.run_bind,Sem.run_pure,Result.andThen_ok,List.map_toArray,List.map_cons,List.map_nil,hp,hq,hr];exact hK _ _ (h none 0 w (seqOwn_nil _ _) (Below.refl _ _))
theorem step_seqCopy (T:RowT P f s tS e bytes) {w:World} {ops:Array Oper} {o:Oper} {a:Act} {K:Act->World->Prop} {Q:Exit->Act->World->Prop} {E:Prop} (hgd:o.guard=none) (p q:Operand)
  (ho:o.op=.call { callee:=.builtin .append,args:=#[p,q],argTypes:=#[tS,tS] }) (hp:a.eval p=.slice none 0 0)
  (fs:List α) (fa:Option Addr) (fc:Nat) (hq:a.eval q=.slice fa fs.length fc) (hfs:SeqAt f s w fa fs) (hl:fs.length*bytes<=140737488355328) (hl2:fs.length<=maxLen)
  (h:∀ va cap w',SeqOwn f s e w' w.heap.size (.slice va fs.length cap) fs->Below w.heap.size w w'->K (a.put o.dst (.slice va fs.length cap)) w') :
  if Region.wanted o (yielded ops a.tmps)=true then Oper.wp P o a w K Q else E:=by
 by_cases hpos:0<fs.length
 ·refine step_seq T hgd p q ho hp (l:=[]) (base:=w.heap.size) (seqOwn_nil _ _) (Nat.le_refl _) fs fa fc hq hfs hpos (by simpa using hl) (by simpa using hl2) ?_
  intro g cap w' hO _ hb _;simp only[List.length_nil,Nat.zero_add,List.nil_append] at hO ⊢;exact h _ _ _ hO hb
 ·have he:fs=[]:=List.eq_nil_of_length_eq_zero (by omega)
  subst he;have hw:Region.wanted o (yielded ops a.tmps)=true:=by simp[Region.wanted,hgd]
  rw[if_pos hw];have hr:=run_seq_zero (P:=P) (ty:=o.type) T (World.ownsRow_nil w w.heap.size e s) fa fc
  unfold Oper.wp execOp
  simp only[List.length_nil] at hq;simp only[ho,resolve,invoke,builtin,Sem.run_bind,Sem.run_pure,Result.andThen_ok,List.map_toArray,List.map_cons,List.map_nil,hp,hq,hr];exact h none 0 w (seqOwn_nil _ _) (Below.refl _ _)
end
end
section
open Go.RowKit
theorem anew_any (ao:Option Addr) (G cap:Nat) (A:Nat->Option Addr) (L C:Nat->Nat) (X:Nat->Nat->Nat->Int) (most:Int) (w:World) (hT:TabAt 0 w) (hp:ProgAt w ao G A L C X) :
  Calls Tryz.prog 24 #[.agg #[.slice ao G cap],.int .i64 most] w fun e w'=>∃ aa ca,
   e=.returned (.tuple #[.agg #[.slice aa (wnew G L X most).acts.length ca,.slice none (wnew G L X most).prints.length 0],.int .i64 (wnewE G L X most)])/\Below w.heap.size w w'/\ActsAt w' aa (wnew G L X most).acts/\ToldAt w' none (wnew G L X most).prints :=
 (anewB_any ao G cap A L C X most w hT hp).mono fun _ _ ⟨aa,ca,h1,h2,h3,h4,_⟩=>⟨aa,ca,h1,h2,h3,h4⟩
end
section
def lenOf (rows:List (List Ins)) (r:Nat):Nat:=(rows.getD r []).length
def xOf (rows:List (List Ins)) (r i f:Nat):Int:=fld ((rows.getD r []).getD i noIns) f
def ckL (rows:List (List Ins)):Int × Int × Int:=ckS rows.length (lenOf rows) (xOf rows)
end
section
def pick (n many:Int):Int:=(if n<0 then -(n+1) else n) % many
theorem pick_bd {n many:Int} (h:0<many):0<=pick n many/\pick n many<many:=⟨Int.emod_nonneg _ (by omega),Int.emod_lt_of_pos _ h⟩
structure Rw where
 k:Int
 a:Int
 b:Int
 c:Int
def fit64 (n:Int):Prop:=-9223372036854775808<=n/\n<=9223372036854775807
def doneI:Ins:=⟨0,0,0,0⟩
def instrS (r:Rw):Ins :=
 if pick r.k 26<3 then ⟨1,pick r.a 6,0,pick r.c 12-3⟩
 else if pick r.k 26<5 then ⟨2+pick r.c 3,pick r.a 6,pick r.b 6,0⟩
 else if pick r.k 26<8 then ⟨7,pick r.a 6,0,1+pick r.c 4⟩
 else if pick r.k 26<10 then ⟨8,pick r.a 6,pick r.b 6,pick r.c 3⟩
 else if pick r.k 26<12 then ⟨9,pick r.a 6,pick r.b 6,pick r.c 2⟩
 else if pick r.k 26<14 then ⟨10,pick r.a 6,pick r.b 6,pick r.c 2⟩
 else if pick r.k 26<17 then ⟨11,pick r.a 6,pick r.b 6,pick r.c 2⟩
 else if pick r.k 26=17 then ⟨12,pick r.a 6,pick r.b 6,0⟩
 else if pick r.k 26<20 then ⟨13,pick r.a 6,pick r.b 6,0⟩
 else if pick r.k 26=20 then ⟨14,pick r.a 6,pick r.b 6,0⟩
 else if pick r.k 26<23 then ⟨15,pick r.a 6,0,0⟩
 else if pick r.k 26=23 then ⟨16,pick r.a 6,0,0⟩
 else if pick r.k 26=24 then ⟨17,pick r.a 6,pick r.b 6,pick r.c 3⟩
 else ⟨18,pick r.a 6,0,0⟩
def rightS (l:List Ins):Bool:=decide ((ckL [l++[doneI],[doneI],[doneI]]).2.2=0)
def nextK (out:List Ins) (r:Rw):List Ins:=if pick (r.k.tdiv 26) 5=0 then out++[⟨5,pick r.b 6,0,2⟩,instrS r] else out++[instrS r]
def stepB (most:Nat) (out:List Ins) (r:Rw):List Ins:=if out.length<most then (if rightS (nextK out r)=true then nextK out r else out) else out
def codeS (most:Nat) (l:List Rw):List Ins:=l.foldl (stepB most) []
def behS (most:Nat) (l:List Rw):List Ins:=codeS most l++[doneI]
def thirds (l:List Rw):Nat->Nat->List Rw
 | 0,_=>[]
 | n+1,i=>match l[i]? with
  | some r=>r :: thirds l n (i+3)
  | none=>[]
def third (l:List Rw) (k:Nat):List Rw:=thirds l l.length k
def programS (l:List Rw) (most:Nat):List (List Ins):=[behS most (third l 0),behS most (third l 1),behS most (third l 2)]
end
section
open Go.RowKit
theorem picked_any (n many:Int) (w:World) (h1:-9223372036854775808<=n) (h2:n<=9223372036854775807) (hm:0<many) (hm':many<=1000000) :
  Calls Tryz.prog 9 #[.int .i64 n,.int .i64 many] w fun e w'=>e=.returned (.int .i64 (pick n many))/\w=w':=by
 by_cases hn:n<0
 ·have hP:pick n many=(-(n+1)) % many:=by simp[pick,hn]
  rw[hP];clear hP
  go_enter Tryz.func9,Tryz.ntmps9
  go_wp2
  go_ret
  exact⟨ret_num (by first | rfl | (rw[<- Int.tmod_eq_emod_of_nonneg (by omega),Int.neg_tmod]) | skip),rfl⟩
 ·have hP:pick n many=n % many:=by simp[pick,hn]
  have hd:decide (n<0)=false:=by simp;omega
  rw[hP];clear hP
  go_enter Tryz.func9,Tryz.ntmps9
  go_wp2
  go_ret
  exact⟨ret_num (by first | rfl | (rw[<- Int.tmod_eq_emod_of_nonneg (by omega),Int.neg_tmod]) | skip),rfl⟩
def RawsAt (w:World) (ao:Option Addr) (l:List Rw):Prop :=
 ∀ (i:Nat) r,l[i]?=some r->∃ b o,ao=some ⟨b,o,none⟩/\b<w.heap.size/\w.cell? ⟨b,o+i*4,none⟩=some (.int .i64 r.k)/\w.cell? ⟨b,o+i*4+1,none⟩=some (.int .i64 r.a)/\w.cell? ⟨b,o+i*4+2,none⟩=some (.int .i64 r.b)/\w.cell? ⟨b,o+i*4+3,none⟩=some (.int .i64 r.c) /\
  fit64 r.k/\fit64 r.a/\fit64 r.b/\fit64 r.c
theorem RawsAt.keeps {w w':World} {ao:Option Addr} {l:List Rw} (h:RawsAt w ao l) (k:Keeps w w'):RawsAt w' ao l:=fun i r hi=>by
 obtain⟨b,o,e,_,h1,h2,h3,h4,h5⟩:=h i r hi;exact⟨b,o,e,World.block_lt_of_cell? _ _ (k _ _ h1),k _ _ h1,k _ _ h2,k _ _ h3,k _ _ h4,h5⟩
end
section
def insB1 (x:Ins):Prop:=(0<=x.op/\x.op<=19)/\(0<=x.a/\x.a<=7)/\(0<=x.b/\x.b<=7)/\(-1099511627776<=x.n/\x.n<=1099511627776)
def rowX (l:List Ins) (i f:Nat):Int:=fld (l.getD i noIns) f
structure RightRow (l:List Ins):Prop where
 fault:rowFault 3 l.length (rowX l)=0
 bad:rowBad (rowX l) l.length=none
theorem right_row {c:List Ins} (h:rightS c=true):RightRow (c++[doneI]):=by
 have h0:=of_decide_eq_true h
 unfold ckL ckS at h0
 by_cases hp:progFault [c++[doneI],[doneI],[doneI]].length (lenOf [c++[doneI],[doneI],[doneI]]) (xOf [c++[doneI],[doneI],[doneI]])≠0
 ·rw[if_pos hp] at h0;exact absurd h0 hp
 rw[if_neg hp] at h0;have hp0:=Classical.byContradiction hp;have hb:=verRows_ok 3 0 h0 0 (by omega) (by omega);refine⟨?_,hb⟩;have e:progFault 3 (lenOf [c++[doneI],[doneI],[doneI]]) (xOf [c++[doneI],[doneI],[doneI]])=first (fun r=>rowFault 3 (lenOf [c++[doneI],[doneI],[doneI]] r) (xOf [c++[doneI],[doneI],[doneI]] r)) 3 0:=by
  unfold progFault
  rw[if_neg (by decide),if_neg (by decide)]
 have hp1:progFault 3 (lenOf [c++[doneI],[doneI],[doneI]]) (xOf [c++[doneI],[doneI],[doneI]])=0:=hp0;rw[e] at hp1;exact first_nought 3 0 hp1 0 (by omega) (by omega)
theorem right_done:RightRow [doneI]:=by
 refine⟨by decide,?_⟩;have hf:flowS (rowX [doneI]) 1=[some [3,3,0,0,0,0,0,0]]:=(show IsFlow (rowX [doneI]) 1 [some [3,3,0,0,0,0,0,0]] from ⟨⟨0,by decide⟩,by decide⟩).eq.symm
 unfold rowBad
 rw[show [doneI].length=1 from rfl,hf]
 decide
theorem three_ok {a b c:List Ins} (ha:RightRow a) (hb:RightRow b) (hc:RightRow c):ckL [a,b,c]=(0,0,0):=by
 have hp:progFault 3 (lenOf [a,b,c]) (xOf [a,b,c])=0:=by
  unfold progFault
  rw[if_neg (by decide),if_neg (by decide)]
  show first (fun r=>rowFault 3 (lenOf [a,b,c] r) (xOf [a,b,c] r)) 3 0=0
  have h0:rowFault 3 (lenOf [a,b,c] 0) (xOf [a,b,c] 0)=0:=ha.fault;have h1:rowFault 3 (lenOf [a,b,c] 1) (xOf [a,b,c] 1)=0:=hb.fault;have h2:rowFault 3 (lenOf [a,b,c] 2) (xOf [a,b,c] 2)=0:=hc.fault;simp[first,h0,h1,h2]
 show(if progFault 3 (lenOf [a,b,c]) (xOf [a,b,c])≠0 then _ else _)=_
 rw[if_neg (by simp[hp])];have h0:rowBad (xOf [a,b,c] 0) (lenOf [a,b,c] 0)=none:=ha.bad;have h1:rowBad (xOf [a,b,c] 1) (lenOf [a,b,c] 1)=none:=hb.bad;have h2:rowBad (xOf [a,b,c] 2) (lenOf [a,b,c] 2)=none:=hc.bad
 show verRows (lenOf [a,b,c]) (xOf [a,b,c]) 3 0=(0,0,0)
 simp[verRows,h0,h1,h2]
theorem nextK_len (out:List Ins) (r:Rw):(nextK out r).length<=out.length+2:=by
 unfold nextK
 split <;> simp
theorem stepB_inv {most:Nat} {out:List Ins} (h:(out=[]\/rightS out=true)/\out.length<=most+1) (r:Rw):(stepB most out r=[]\/rightS (stepB most out r)=true)/\(stepB most out r).length<=most+1:=by
 unfold stepB
 split
 ·split
  ·rename_i h1 h2
   exact⟨Or.inr h2,by have:=nextK_len out r;omega⟩
  ·exact h
 ·exact h
theorem code_inv (most:Nat) (l:List Rw):(codeS most l=[]\/rightS (codeS most l)=true)/\(codeS most l).length<=most+1:=by
 unfold codeS
 suffices h:∀ (l:List Rw) (out:List Ins),((out=[]\/rightS out=true)/\out.length<=most+1)->((l.foldl (stepB most) out=[]\/rightS (l.foldl (stepB most) out)=true)/\(l.foldl (stepB most) out).length<=most+1) from h l [] ⟨Or.inl rfl,by simp⟩
 intro l
 induction l with
 | nil=>intro out h;exact h
 | cons r l ih=>intro out h;exact ih _ (stepB_inv h r)
theorem beh_right (most:Nat) (l:List Rw):RightRow (behS most l):=by
 unfold behS
 rcases (code_inv most l).1 with h | h
 ·rw[h];exact right_done
 ·exact right_row h
theorem program_ok (l:List Rw) (most:Nat):ckL (programS l most)=(0,0,0):=three_ok (beh_right _ _) (beh_right _ _) (beh_right _ _)
theorem ite_of {α:Type} {P:α->Prop} {c:Prop} [Decidable c] {a b:α} (h1:c->P a) (h2:¬ c->P b):P (if c then a else b):=by
 by_cases h:c
 ·rw[if_pos h];exact h1 h
 ·rw[if_neg h];exact h2 h
theorem instrS_bd (r:Rw):insB1 (instrS r):=by
 have hk:=pick_bd (n:=r.k) (many:=26) (by omega);have ha:=pick_bd (n:=r.a) (many:=6) (by omega);have hb:=pick_bd (n:=r.b) (many:=6) (by omega);have c12:=pick_bd (n:=r.c) (many:=12) (by omega);have c3:=pick_bd (n:=r.c) (many:=3) (by omega);have c4:=pick_bd (n:=r.c) (many:=4) (by omega);have c2:=pick_bd (n:=r.c) (many:=2) (by omega)
 unfold instrS
 repeat' (refine ite_of (fun _=>?_) (fun _=>?_))
 all_goals (unfold insB1;simp only;omega)
theorem nextK_bd {out:List Ins} (h:∀ x∈out,insB1 x) (r:Rw):∀ x∈nextK out r,insB1 x:=by
 have hb:=pick_bd (n:=r.b) (many:=6) (by omega);have hi:=instrS_bd r
 unfold nextK
 intro x hx
 split at hx
 ·simp only[List.mem_append,List.mem_cons,List.not_mem_nil,or_false] at hx
  rcases hx with hx | rfl | rfl
  ·exact h x hx
  ·unfold insB1;simp only;omega
  ·exact hi
 ·simp only[List.mem_append,List.mem_cons,List.not_mem_nil,or_false] at hx
  rcases hx with hx | rfl
  ·exact h x hx
  ·exact hi
theorem code_bd (most:Nat) (l:List Rw):∀ x∈codeS most l,insB1 x:=by
 unfold codeS
 suffices h:∀ (l:List Rw) (out:List Ins),(∀ x∈out,insB1 x)->∀ x∈l.foldl (stepB most) out,insB1 x from h l [] (by simp)
 intro l
 induction l with
 | nil=>intro out h;exact h
 | cons r l ih =>
  intro out h;refine ih _ ?_
  unfold stepB
  split
  ·split
   ·exact nextK_bd h r
   ·exact h
  ·exact h
end
end Go.Proofs.YtepifccbbmdfcaaGreatDoor
