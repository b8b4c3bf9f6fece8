/- Bufs. -/
import Derived.Laws.BytesArg
import Derived.Test.YtddokajfafmhhaaGreatDoorCETopBytesTSame
namespace Go.Proofs.YtddokajfafmhhaaGreatDoor
section
theorem drop_step (bs:List Int) (k:Nat) (h:k<bs.length):bs.drop k=[bs.getD k 0]++bs.drop (k+1):=by
 rw[List.drop_eq_getElem_cons h];simp[h]
theorem next_back {bs:List Int} {k k':Nat} {c:Int} (h:rdNext bs k=(c,0,k')):bs.drop k=[c]++bs.drop k'/\k'<=bs.length:=by
 unfold rdNext at h
 split at h
 ·rename_i hk
  simp only[Prod.mk.injEq] at h;obtain⟨rfl,_,rfl⟩:=h;exact⟨drop_step bs k hk,hk⟩
 ·simp at h
theorem next_bytes {bs:List Int} (hf:∀ i,0<=bs.getD i 0/\bs.getD i 0<=255) (k:Nat):0<=(rdNext bs k).1/\(rdNext bs k).1<=255:=by
 unfold rdNext
 split
 ·exact hf k
 ·simp
theorem regs_back {bs:List Int} (hf:∀ i,0<=bs.getD i 0/\bs.getD i 0<=255) {k k':Nat} {a b:Int} (h:rdRegs bs k=(a,b,0,k')):bs.drop k=[a+8*b]++bs.drop k'/\k'<=bs.length/\0<=a/\a<=7/\0<=b/\b<=7:=by
 have hb:=next_bytes hf k
 unfold rdRegs at h
 split at h
 ·rename_i he
  simp only[Prod.mk.injEq] at h;exact absurd h.2.2.1 he
 ·rename_i he
  split at h
  ·simp at h
  ·rename_i h64
   simp only[Prod.mk.injEq] at h;obtain⟨rfl,rfl,_,rfl⟩:=h;obtain⟨hd,hl⟩:=next_back (bs:=bs) (k:=k) (c:=(rdNext bs k).1) (k':=(rdNext bs k).2.2) (Prod.ext rfl (Prod.ext (by simpa using he) rfl));refine⟨?_,hl,by omega,by omega,by omega,by omega⟩;rw[hd]
   congr 2
   omega
theorem sev_more (k:Nat):∀ n:Int,n<128 ^ (k+1)->sev (k+1) n=sev (k+2) n:=by
 induction k with
 | zero =>
  intro n h;have:n<128:=by simpa using h
  simp[sev,this]
 | succ k ih =>
  intro n h
  by_cases hn:n<128
  ·rw[sev_small _ n hn,sev_small _ n hn]
  ·rw[sev_big (k+1) n hn,sev_big (k+2) n hn,ih (n / 128)]
   have e:(128:Int) ^ (k+1+1)=128 ^ (k+1)*128:=Int.pow_succ ..;rw[e] at h;exact Int.ediv_lt_of_lt_mul (by omega) h
theorem num_back {bs:List Int} (hf:∀ i,0<=bs.getD i 0/\bs.getD i 0<=255):∀ (f i:Nat) (s p:Int) (k k':Nat) (n:Int),rdNum bs f i s p k=(n,0,k') ->
  ∃ m:Int,0<=m/\m<128 ^ f/\(0<i->0<m)/\n=unzig (s+m*p)/\bs.drop k=sev f m++bs.drop k'/\k'<=bs.length:=by
 intro f
 induction f with
 | zero=>intro i s p k k' n h;simp[rdNum] at h
 | succ f ih =>
  intro i s p k k' n h;have hb:=next_bytes hf k
  unfold rdNum at h
  split at h
  ·rename_i he
   simp only[Prod.mk.injEq] at h;exact absurd h.2.1 he
  ·rename_i he
   obtain⟨hd,hl⟩:=next_back (bs:=bs) (k:=k) (c:=(rdNext bs k).1) (k':=(rdNext bs k).2.2) (Prod.ext rfl (Prod.ext (by simpa using he) rfl))
   split at h
   ·rename_i h128
    obtain⟨m,m0,m1,mi,hn,hdr,hk⟩:=ih _ _ _ _ _ _ h;have mpos:=mi (by omega);have e:(128:Int) ^ (f+1)=128 ^ f*128:=Int.pow_succ ..;refine⟨(rdNext bs k).1 % 128+128*m,by omega,by rw[e];omega,fun _=>by omega,?_,?_,hk⟩
    ·rw[hn]
     congr 1
     rw[Int.add_mul,Int.add_assoc]
     congr 2
     rw[Int.mul_comm p 128,<- Int.mul_assoc,Int.mul_comm m 128]
    ·rw[hd,hdr,sev_big f _ (by omega)]
     rw[show((rdNext bs k).1 % 128+128*m) % 128+128=(rdNext bs k).1 by omega,show((rdNext bs k).1 % 128+128*m) / 128=m by omega];simp
   ·rename_i h128
    split at h
    ·simp at h
    ·rename_i hz
     simp only[Prod.mk.injEq] at h;obtain⟨rfl,_,rfl⟩:=h;refine⟨(rdNext bs k).1,hb.1,?_,fun hi=>?_,?_,?_,hl⟩
     ·have e:(128:Int) ^ (f+1)=128 ^ f*128:=Int.pow_succ ..
      have:(0:Int)<128 ^ f:=Int.pow_pos (by omega);rw[e];omega
     ·rcases Int.lt_or_le 0 (rdNext bs k).1 with h' | h'
      ·exact h'
      ·exact absurd ⟨by omega,hi⟩ hz
     ·rw[show(rdNext bs k).1 % 128=(rdNext bs k).1 by omega]
     ·rw[hd,sev_small f _ (by omega)]
theorem zig_unzig (t:Int) (h:0<=t):zig (unzig t)=t:=by
 unfold unzig
 split
 ·rename_i h1
  unfold zig
  rw[if_pos (by omega)];omega
 ·unfold zig
  rw[if_neg (by omega)];omega
theorem ab_back {bs:List Int} (hf:∀ i,0<=bs.getD i 0/\bs.getD i 0<=255) {op:Int} {k k':Nat} {a b:Int} (hk:k<=bs.length) (h:rdAB bs op k=(a,b,0,k')):bs.drop k=(if aOf op then [a+8*b] else [])++bs.drop k'/\k'<=bs.length/\0<=a/\a<=7/\0<=b/\b<=7:=by
 unfold rdAB at h
 split at h
 ·rename_i ha
  simpa[ha] using regs_back hf h
 ·rename_i ha
  simp only[Prod.mk.injEq] at h;obtain⟨rfl,rfl,_,rfl⟩:=h;simp[ha,hk]
theorem n_back {bs:List Int} (hf:∀ i,0<=bs.getD i 0/\bs.getD i 0<=255) {op:Int} {k k':Nat} {n:Int} (hk:k<=bs.length) (h:rdN bs op k=(n,0,k')):bs.drop k=(if nOf op then sev 7 (zig n) else [])++bs.drop k'/\k'<=bs.length/\-4398046511104<=n/\n<=4398046511104:=by
 unfold rdN at h
 split at h
 ·rename_i ha
  obtain⟨m,m0,m1,_,hn,hd,hl⟩:=num_back hf 6 0 0 1 k k' n h;have e:n=unzig m:=by rw[hn];congr 1;omega
  have hm:m<4398046511104:=by simpa using m1
  have hz:zig n=m:=by rw[e];exact zig_unzig m m0
  refine⟨?_,hl,?_,?_⟩
  ·rw[if_pos ha,hz,hd,sev_more 5 m m1]
  ·rw[e];unfold unzig;split <;> omega
  ·rw[e];unfold unzig;split <;> omega
 ·rename_i ha
  simp only[Prod.mk.injEq] at h;obtain⟨rfl,_,rfl⟩:=h;simp[ha,hk]
def insBd (x:Ins):Prop:=0<=x.op/\x.op<=255/\0<=x.a/\x.a<=7/\0<=x.b/\x.b<=7/\-4398046511104<=x.n/\x.n<=4398046511104
def insB (x:Ins):List Int:=insBytes x.op x.a x.b x.n
theorem ins_back {bs:List Int} (hf:∀ i,0<=bs.getD i 0/\bs.getD i 0<=255) {k k':Nat} {x:Ins} (h:rdIns bs k=(x,0,k')):bs.drop k=insB x++bs.drop k'/\k'<=bs.length/\insBd x:=by
 have hb:=next_bytes hf k
 unfold rdIns at h
 split at h
 ·rename_i he;simp only[Prod.mk.injEq] at h;exact absurd h.2.1 he
 ·rename_i he
  obtain⟨hd,hl⟩:=next_back (bs:=bs) (k:=k) (c:=(rdNext bs k).1) (k':=(rdNext bs k).2.2) (Prod.ext rfl (Prod.ext (by simpa using he) rfl))
  split at h
  ·simp at h
  ·split at h
   ·rename_i he2;simp only[Prod.mk.injEq] at h;exact absurd h.2.1 he2
   ·rename_i he2
    obtain⟨ha,hl2,a1,a2,b1,b2⟩:=ab_back hf (op:=(rdNext bs k).1) (k':=(rdAB bs (rdNext bs k).1 (rdNext bs k).2.2).2.2.2) hl (Prod.ext rfl (Prod.ext rfl (Prod.ext (by simpa using he2) rfl)))
    split at h
    ·rename_i he3;simp only[Prod.mk.injEq] at h;exact absurd h.2.1 he3
    ·rename_i he3
     obtain⟨hn,hl3,n1,n2⟩:=n_back hf (op:=(rdNext bs k).1) (k':=(rdN bs (rdNext bs k).1 (rdAB bs (rdNext bs k).1 (rdNext bs k).2.2).2.2.2).2.2) hl2 (Prod.ext rfl (Prod.ext (by simpa using he3) rfl));simp only[Prod.mk.injEq] at h;obtain⟨rfl,_,rfl⟩:=h;refine⟨?_,hl3,hb.1,hb.2,a1,a2,b1,b2,n1,n2⟩;rw[hd,ha,hn];simp[insB,insBytes]
theorem inss_back {bs:List Int} (hf:∀ i,0<=bs.getD i 0/\bs.getD i 0<=255):∀ (f:Nat) (l l':List Ins) (k k':Nat),k<=bs.length->rdInss bs f l k=(l',0,k') ->
  ∃ m,l'=l++m/\m.length=f/\bs.drop k=m.flatMap insB++bs.drop k'/\k'<=bs.length/\∀ x,x∈m->insBd x:=by
 intro f
 induction f with
 | zero =>
  intro l l' k k' hk h;simp only[rdInss,Prod.mk.injEq] at h;obtain⟨rfl,_,rfl⟩:=h;exact⟨[],by simp,rfl,by simp,hk,fun x hx=>by cases hx⟩
 | succ f ih =>
  intro l l' k k' hk h
  unfold rdInss at h
  split at h
  ·rename_i he;simp only[Prod.mk.injEq] at h;exact absurd h.2.1 he
  ·rename_i he
   obtain⟨hd,hl,hbd⟩:=ins_back hf (x:=(rdIns bs k).1) (k':=(rdIns bs k).2.2) (Prod.ext rfl (Prod.ext (by simpa using he) rfl));obtain⟨m,e,hm,hd2,hl2,hbd2⟩:=ih _ _ _ _ hl h;refine⟨(rdIns bs k).1 :: m,by rw[e];simp,by simp[hm],?_,hl2,fun x hx=>?_⟩
   ·rw[hd,hd2];simp
   ·rcases List.mem_cons.1 hx with rfl | hx
    ·exact hbd
    ·exact hbd2 x hx
def rowB (l:List Ins):List Int:=(l.length:Int) :: l.flatMap insB
theorem row_back {bs:List Int} (hf:∀ i,0<=bs.getD i 0/\bs.getD i 0<=255) {k k':Nat} {l:List Ins} (h:rdRow bs k=(l,0,k')):bs.drop k=rowB l++bs.drop k'/\k'<=bs.length/\l.length<=255/\∀ x,x∈l->insBd x:=by
 have hb:=next_bytes hf k
 unfold rdRow at h
 split at h
 ·rename_i he;simp only[Prod.mk.injEq] at h;exact absurd h.2.1 he
 ·rename_i he
  obtain⟨hd,hl⟩:=next_back (bs:=bs) (k:=k) (c:=(rdNext bs k).1) (k':=(rdNext bs k).2.2) (Prod.ext rfl (Prod.ext (by simpa using he) rfl));obtain⟨m,e,hm,hd2,hl2,hbd⟩:=inss_back hf _ _ _ _ _ hl h;simp only[List.nil_append] at e;subst e;refine⟨?_,hl2,by omega,hbd⟩;rw[hd,hd2];simp[rowB];omega
theorem rows_back {bs:List Int} (hf:∀ i,0<=bs.getD i 0/\bs.getD i 0<=255):∀ (f:Nat) (l l':List (List Ins)) (k k':Nat),k<=bs.length->rdRows bs f l k=(l',0,k') ->
  ∃ m,l'=l++m/\m.length=f/\bs.drop k=m.flatMap rowB++bs.drop k'/\k'<=bs.length/\∀ r,r∈m->r.length<=255/\∀ x,x∈r->insBd x:=by
 intro f
 induction f with
 | zero =>
  intro l l' k k' hk h;simp only[rdRows,Prod.mk.injEq] at h;obtain⟨rfl,_,rfl⟩:=h;exact⟨[],by simp,rfl,by simp,hk,fun x hx=>by cases hx⟩
 | succ f ih =>
  intro l l' k k' hk h
  unfold rdRows at h
  split at h
  ·rename_i he;simp only[Prod.mk.injEq] at h;exact absurd h.2.1 he
  ·rename_i he
   obtain⟨hd,hl,hlen,hbd⟩:=row_back hf (l:=(rdRow bs k).1) (k':=(rdRow bs k).2.2) (Prod.ext rfl (Prod.ext (by simpa using he) rfl));obtain⟨m,e,hm,hd2,hl2,hbd2⟩:=ih _ _ _ _ hl h;refine⟨(rdRow bs k).1 :: m,by rw[e];simp,by simp[hm],?_,hl2,fun r hr=>?_⟩
   ·rw[hd,hd2];simp
   ·rcases List.mem_cons.1 hr with rfl | hr
    ·exact⟨hlen,hbd⟩
    ·exact hbd2 r hr
theorem begin_back {bs:List Int} {k k':Nat} (h:rdBegin bs k=(0,k')):bs.drop k=[116,119]++bs.drop k'/\k'<=bs.length:=by
 unfold rdBegin at h
 split at h
 ·rename_i he;simp only[Prod.mk.injEq] at h;exact absurd h.1 he
 ·rename_i he
  obtain⟨hd,hl⟩:=next_back (bs:=bs) (k:=k) (c:=(rdNext bs k).1) (k':=(rdNext bs k).2.2) (Prod.ext rfl (Prod.ext (by simpa using he) rfl))
  split at h
  ·simp at h
  ·rename_i hc
   split at h
   ·rename_i he2;simp only[Prod.mk.injEq] at h;exact absurd h.1 he2
   ·rename_i he2
    obtain⟨hd2,hl2⟩:=next_back (bs:=bs) (k:=(rdNext bs k).2.2) (c:=(rdNext bs (rdNext bs k).2.2).1) (k':=(rdNext bs (rdNext bs k).2.2).2.2) (Prod.ext rfl (Prod.ext (by simpa using he2) rfl))
    split at h
    ·simp at h
    ·rename_i hc2
     simp only[Prod.mk.injEq,true_and] at h;subst h;refine⟨?_,hl2⟩;rw[hd,hd2];have e1:(rdNext bs k).1=116:=by simpa using hc
     have e2:(rdNext bs (rdNext bs k).2.2).1=119:=by simpa using hc2
     rw[e1,e2]
     rfl
theorem all_back {bs:List Int} (hf:∀ i,0<=bs.getD i 0/\bs.getD i 0<=255) {rows:List (List Ins)} (h:rdAll bs=(rows,0)) :
  bs=[116,119,(rows.length:Int)]++rows.flatMap rowB/\rows.length<=255/\∀ r,r∈rows->r.length<=255/\∀ x,x∈r->insBd x:=by
 unfold rdAll at h
 split at h
 ·rename_i he;simp only[Prod.mk.injEq] at h;exact absurd h.2 he
 ·rename_i he
  obtain⟨hd,hl⟩:=begin_back (bs:=bs) (k:=0) (k':=(rdBegin bs 0).2) (Prod.ext (by simpa using he) rfl)
  split at h
  ·rename_i he2;simp only[Prod.mk.injEq] at h;exact absurd h.2 he2
  ·rename_i he2
   split at h
   ·simp at h
   ·rename_i hlt
    simp only[Prod.mk.injEq,and_true] at h;generalize hk:(rdBegin bs 0).2=k at *;have hP:rdProg bs k=(rows,0,(rdProg bs k).2.2):=Prod.ext h (Prod.ext (by simpa using he2) rfl);have hb:=next_bytes hf k;generalize (rdProg bs k).2.2=k2 at hP hlt
    unfold rdProg at hP
    split at hP
    ·rename_i he3;simp only[Prod.mk.injEq] at hP;exact absurd hP.2.1 he3
    ·rename_i he3
     obtain⟨hd2,hl2⟩:=next_back (bs:=bs) (k:=k) (c:=(rdNext bs k).1) (k':=(rdNext bs k).2.2) (Prod.ext rfl (Prod.ext (by simpa using he3) rfl));obtain⟨m,e,hm,hd3,hl3,hbd⟩:=rows_back hf _ _ _ _ _ hl2 hP;simp only[List.nil_append] at e;subst e;refine⟨?_,by omega,hbd⟩;have hend:bs.drop k2=[]:=List.drop_eq_nil_of_le (by omega);rw[List.drop_zero] at hd;rw[hd,hd2,hd3,hend];simp;omega
end
section
theorem next_fwd {bs:List Int} {k:Nat} {c:Int} {r:List Int} (h:bs.drop k=c :: r):rdNext bs k=(c,0,k+1)/\bs.drop (k+1)=r:=by
 have hk:k<bs.length:=by
  rcases Nat.lt_or_ge k bs.length with h1 | h1
  ·exact h1
  ·rw[List.drop_eq_nil_of_le h1] at h;cases h
 rw[List.drop_eq_getElem_cons hk] at h;simp only[List.cons.injEq] at h;refine⟨?_,h.2⟩;simp[rdNext,hk,h.1]
theorem next_end {bs:List Int} {k:Nat} (h:bs.drop k=[]):rdNext bs k=(0,5,k):=by
 have hk:¬ k<bs.length:=by
  intro h1;rw[List.drop_eq_getElem_cons h1] at h;cases h
 simp[rdNext,hk]
def Cut (p e:List Int):Prop:=p <+: e/\p≠e
theorem Cut.split {p a b:List Int} (h:Cut p (a++b)):Cut p a\/∃ q,p=a++q/\Cut q b:=by
 obtain⟨h1,h2⟩:=h
 by_cases hp:p <+: a
 ·by_cases he:p=a
  ·subst he
   exact .inr ⟨[],by simp,List.nil_prefix,fun e=>h2 (by rw[<- e];simp)⟩
  ·exact .inl ⟨hp,he⟩
 ·rcases List.prefix_or_prefix_of_prefix h1 (List.prefix_append a b) with h3 | h3
  ·exact absurd h3 hp
  ·obtain⟨q,rfl⟩:=h3
   exact .inr ⟨q,rfl,(List.prefix_append_right_inj a).1 h1,fun e=>h2 (by rw[e])⟩
theorem Cut.one {p:List Int} {c:Int} (h:Cut p [c]):p=[]:=by
 obtain⟨⟨t,ht⟩,h2⟩:=h
 cases p with
 | nil=>rfl
 | cons x p =>
  simp only[List.cons_append,List.cons.injEq,List.append_eq_nil_iff] at ht;exact absurd (by rw[ht.1,ht.2.1]) h2
theorem Cut.nil {p:List Int} (h:Cut p []):False:=h.2 (List.prefix_nil.1 h.1)
theorem Cut.cons {p e:List Int} {c:Int} (h:Cut p (c :: e)):p=[]\/∃ q,p=c :: q/\Cut q e:=by
 rcases Cut.split (a:=[c]) (b:=e) (by simpa using h) with h | ⟨q,rfl,h2⟩
 ·exact .inl h.one
 ·exact .inr ⟨q,rfl,h2⟩
theorem num_fwd:∀ (f i:Nat) (s p:Int) (bs:List Int) (k:Nat) (m:Int) (r:List Int),0<=m->m<128 ^ (f+1)->(0<i->0<m)->bs.drop k=sev (f+1) m++r ->
  rdNum bs (f+1) i s p k=(unzig (s+m*p),0,k+(sev (f+1) m).length)/\bs.drop (k+(sev (f+1) m).length)=r:=by
 intro f
 induction f with
 | zero =>
  intro i s p bs k m r h0 h1 hi h;have hm:m<128:=by simpa using h1
  rw[sev_small _ m hm] at h ⊢;obtain⟨e1,e2⟩:=next_fwd h;have hn:¬ (m=0/\0<i):=fun c=>by have:=hi c.2;omega
  refine⟨?_,e2⟩
  unfold rdNum
  simp only[e1];rw[if_neg (by simp),if_neg (by omega),if_neg hn,show m % 128=m by omega]
  rfl
 | succ f ih =>
  intro i s p bs k m r h0 h1 hi h
  by_cases hm:m<128
  ·rw[sev_small _ m hm] at h ⊢
   obtain⟨e1,e2⟩:=next_fwd h;have hn:¬ (m=0/\0<i):=fun c=>by have:=hi c.2;omega
   refine⟨?_,e2⟩
   unfold rdNum
   simp only[e1];rw[if_neg (by simp),if_neg (by omega),if_neg hn,show m % 128=m by omega]
   rfl
  ·rw[sev_big _ m hm] at h ⊢
   obtain⟨e1,e2⟩:=next_fwd h;have e:(128:Int) ^ (f+1+1)=128 ^ (f+1)*128:=Int.pow_succ ..;rw[e] at h1;obtain⟨e3,e4⟩:=ih (i+1) (s+(m % 128+128) % 128*p) (p*128) bs (k+1) (m / 128) r (by omega) (Int.ediv_lt_of_lt_mul (by omega) h1) (fun _=>by omega) e2;have ek:k+((m % 128+128) :: sev (f+1) (m / 128)).length=k+1+(sev (f+1) (m / 128)).length:=by simp;omega
   rw[ek];refine⟨?_,e4⟩
   unfold rdNum
   simp only[e1];rw[if_neg (by simp),if_pos (by omega),e3]
   congr 2
   rw[Int.add_assoc]
   congr 1
   rw[Int.mul_comm p 128,<- Int.mul_assoc,<- Int.add_mul]
   congr 1
   omega
theorem num_cut:∀ (f i:Nat) (s p:Int) (bs:List Int) (k:Nat) (m:Int),m<128 ^ (f+1)->Cut (bs.drop k) (sev (f+1) m)->(rdNum bs (f+1) i s p k).2.1=5:=by
 intro f
 induction f with
 | zero =>
  intro i s p bs k m h1 h;have hm:m<128:=by simpa using h1
  rw[sev_small _ m hm] at h
  unfold rdNum
  simp[next_end h.one]
 | succ f ih =>
  intro i s p bs k m h1 h
  by_cases hm:m<128
  ·rw[sev_small _ m hm] at h
   unfold rdNum
   simp[next_end h.one]
  ·rw[sev_big _ m hm] at h
   have e:(128:Int) ^ (f+1+1)=128 ^ (f+1)*128:=Int.pow_succ ..;rw[e] at h1
   rcases h.cons with h | ⟨q,hq,h⟩
   ·unfold rdNum
    simp[next_end h]
   ·obtain⟨e1,e2⟩:=next_fwd hq
    rw[<- e2] at h
    unfold rdNum
    simp only[e1];rw[if_neg (by simp),if_pos (by omega)];exact ih _ _ _ _ _ _ (Int.ediv_lt_of_lt_mul (by omega) h1) h
theorem unzig_zig (n:Int):unzig (zig n)=n:=by
 unfold zig
 split
 ·unfold unzig
  rw[if_pos (by omega)];omega
 ·unfold unzig
  rw[if_neg (by omega)];omega
theorem parts_zero {op a b n:Int} (h:partsFault op a b n=0):okOp op=true/\(0<=a/\a<=7/\0<=b/\b<=7)/\(-1099511627776<=n/\n<=1099511627776)/\(aOf op=false->a=0/\b=0)/\(nOf op=false->n=0):=by
 unfold partsFault at h
 split at h
 ·omega
 ·rename_i h1
  split at h
  ·omega
  ·rename_i h2
   split at h
   ·omega
   ·rename_i h3
    simp only[not_or] at h2 h3;obtain⟨ha,hb,hl,hh⟩:=h2;simp only[okReg,Bool.and_eq_false_iff,decide_eq_false_iff_not,not_or,Classical.not_not] at ha hb;have ho:okOp op=true:=by simpa using h1
    simp[okOp] at ho
    unfold loOf at hl
    unfold hiOf at hh
    refine⟨by simp[okOp,ho],⟨ha.1,ha.2,hb.1,hb.2⟩,⟨?_,?_⟩,fun h4=>?_,fun h4=>?_⟩
    ·split at hl
     ·omega
     ·split at hl
      ·omega
      ·split at hl <;> omega
    ·split at hh
     ·omega
     ·split at hh
      ·omega
      ·split at hh
       ·omega
       ·split at hh
        ·omega
        ·split at hh <;> omega
    ·have h5:bOf op=false:=by
      simp[aOf] at h4;have:op=0\/op=6\/op=19:=by omega
      rcases this with rfl | rfl | rfl <;> rfl
     constructor
     ·rcases Classical.em (a=0) with h6 | h6
      ·exact h6
      ·exact absurd ⟨h6,h4⟩ h3.1
     ·rcases Classical.em (b=0) with h6 | h6
      ·exact h6
      ·exact absurd ⟨h6,h5⟩ h3.2
    ·simp[nOf] at h4
     rw[if_neg (by omega),if_neg (by omega),if_neg (by omega)] at hl;rw[if_neg (by omega),if_neg (by omega),if_neg (by omega),if_neg (by omega),if_neg (by omega)] at hh;omega
def insOk (x:Ins):Prop:=partsFault x.op x.a x.b x.n=0
theorem ab_fwd {op a b:Int} {bs r:List Int} {k:Nat} (hb:0<=a/\a<=7/\0<=b/\b<=7) (hz:aOf op=false->a=0/\b=0) (h:bs.drop k=(if aOf op then [a+8*b] else [])++r) :
  rdAB bs op k=(a,b,0,k+(if aOf op then [a+8*b] else []).length)/\bs.drop (k+(if aOf op then [a+8*b] else []).length)=r:=by
 unfold rdAB
 cases ha:aOf op with
 | false =>
  obtain⟨rfl,rfl⟩:=hz ha;simp[ha] at h
  simpa using h
 | true =>
  simp[ha] at h;obtain⟨e1,e2⟩:=next_fwd h;refine⟨?_,by simpa using e2⟩;simp only[if_true,rdRegs,e1];rw[if_neg (by simp),if_neg (by omega)];simp;omega
theorem n_fwd {op n:Int} {bs r:List Int} {k:Nat} (hn:-1099511627776<=n/\n<=1099511627776) (hz:nOf op=false->n=0) (h:bs.drop k=(if nOf op then sev 7 (zig n) else [])++r) :
  rdN bs op k=(n,0,k+(if nOf op then sev 7 (zig n) else []).length)/\bs.drop (k+(if nOf op then sev 7 (zig n) else []).length)=r:=by
 unfold rdN
 cases ha:nOf op with
 | false =>
  obtain rfl:=hz ha;simp[ha] at h
  simpa using h
 | true =>
  simp only[ha,if_true] at h ⊢;obtain⟨z1,z2⟩:=zig_bd hn.1 hn.2;have z3:zig n<128 ^ (5+1):=by
   have:(128:Int) ^ (5+1)=4398046511104:=by decide
   omega
  rw[<- sev_more 5 _ z3] at h ⊢;obtain⟨e1,e2⟩:=num_fwd 5 0 0 1 bs k (zig n) r z1 z3 (fun c=>by omega) h;refine⟨?_,e2⟩;rw[e1,Int.mul_one,Int.zero_add,unzig_zig]
theorem n_cut {op n:Int} {bs:List Int} {k:Nat} (hn:-1099511627776<=n/\n<=1099511627776) (h:Cut (bs.drop k) (if nOf op then sev 7 (zig n) else [])):(rdN bs op k).2.1=5:=by
 unfold rdN
 cases ha:nOf op with
 | false=>simp[ha] at h;exact h.nil.elim
 | true =>
  simp only[ha,if_true] at h ⊢;obtain⟨z1,z2⟩:=zig_bd hn.1 hn.2;have z3:zig n<128 ^ (5+1):=by
   have:(128:Int) ^ (5+1)=4398046511104:=by decide
   omega
  rw[<- sev_more 5 _ z3] at h;exact num_cut 5 0 0 1 bs k (zig n) z3 h
theorem ins_fwd {x:Ins} {bs r:List Int} {k:Nat} (hx:insOk x) (h:bs.drop k=insB x++r):rdIns bs k=(x,0,k+(insB x).length)/\bs.drop (k+(insB x).length)=r:=by
 obtain⟨op,a,b,n⟩:=x;obtain⟨ho,hab,hn,za,zn⟩:=parts_zero hx;simp only[insB,insBytes,List.cons_append,List.nil_append,List.append_assoc] at h ⊢;obtain⟨e1,e2⟩:=next_fwd h;obtain⟨e3,e4⟩:=ab_fwd hab za e2;obtain⟨e5,e6⟩:=n_fwd hn zn e4;have ek:k+(op :: ((if aOf op then [a+8*b] else [])++(if nOf op then sev 7 (zig n) else []))).length=k+1+(if aOf op then [a+8*b] else []).length+(if nOf op then sev 7 (zig n) else []).length:=by
  simp only[List.length_cons,List.length_append];omega
 rw[ek];exact⟨rdIns_ok e1 ho e3 e5,e6⟩
theorem ins_cut {x:Ins} {bs:List Int} {k:Nat} (hx:insOk x) (h:Cut (bs.drop k) (insB x)):(rdIns bs k).2.1=5:=by
 obtain⟨op,a,b,n⟩:=x;obtain⟨ho,hab,hn,za,zn⟩:=parts_zero hx;simp only[insB,insBytes,List.cons_append,List.nil_append] at h
 rcases h.cons with h | ⟨q,hq,h⟩
 ·simp[rdIns,next_end h]
 ·obtain⟨e1,e2⟩:=next_fwd hq
  rcases h.split with h | ⟨q2,rfl,h2⟩
  ·have:(rdAB bs op (k+1)).2.2.1=5:=by
    unfold rdAB
    cases ha:aOf op with
    | false=>simp[ha] at h;exact h.nil.elim
    | true =>
     simp[ha] at h;rw[<- e2] at h;simp[rdRegs,next_end h.one]
   have e3:rdAB bs op (k+1)=((rdAB bs op (k+1)).1,(rdAB bs op (k+1)).2.1,5,(rdAB bs op (k+1)).2.2.2):=by rw[<- this]
   rw[rdIns_ab e1 ho e3 (by decide)]
  ·obtain⟨e3,e4⟩:=ab_fwd hab za e2
   rw[<- e4] at h2;have:=n_cut hn h2;generalize k+1+(if aOf op then [a+8*b] else []).length=k2 at *;have e5:rdN bs op k2=((rdN bs op k2).1,5,(rdN bs op k2).2.2):=by rw[<- this]
   rw[rdIns_n e1 ho e3 e5 (by decide)]
theorem inss_fwd:∀ (m l:List Ins) (bs r:List Int) (k:Nat),(∀ x∈m,insOk x)->bs.drop k=m.flatMap insB++r ->
  rdInss bs m.length l k=(l++m,0,k+(m.flatMap insB).length)/\bs.drop (k+(m.flatMap insB).length)=r:=by
 intro m
 induction m with
 | nil=>intro l bs r k _ h;simpa[rdInss] using h
 | cons x m ih =>
  intro l bs r k hx h;rw[List.flatMap_cons,List.append_assoc] at h;obtain⟨e1,e2⟩:=ins_fwd (hx x (by simp)) h;obtain⟨e3,e4⟩:=ih (l++[x]) bs r _ (fun y hy=>hx y (by simp[hy])) e2;rw[List.flatMap_cons,List.length_append,<- Nat.add_assoc];refine⟨?_,e4⟩;rw[List.length_cons,rdInss,e1,if_neg (by simp),e3];simp
theorem inss_cut:∀ (m l:List Ins) (bs:List Int) (k:Nat),(∀ x∈m,insOk x)->Cut (bs.drop k) (m.flatMap insB)->(rdInss bs m.length l k).2.1=5:=by
 intro m
 induction m with
 | nil=>intro l bs k _ h;exact h.nil.elim
 | cons x m ih =>
  intro l bs k hx h;rw[List.flatMap_cons] at h;rw[List.length_cons,rdInss]
  rcases h.split with h | ⟨q,hq,h⟩
  ·have:=ins_cut (hx x (by simp)) h
   rw[this,if_pos (by decide)]
  ·obtain⟨e1,e2⟩:=ins_fwd (hx x (by simp)) hq
   rw[e1,if_neg (by simp)];exact ih _ _ _ (fun y hy=>hx y (by simp[hy])) (by rw[e2];exact h)
theorem row_fwd {l:List Ins} {bs r:List Int} {k:Nat} (hx:∀ x∈l,insOk x) (h:bs.drop k=rowB l++r):rdRow bs k=(l,0,k+(rowB l).length)/\bs.drop (k+(rowB l).length)=r:=by
 obtain⟨e1,e2⟩:=next_fwd (show bs.drop k=(l.length:Int) :: (l.flatMap insB++r) by rw[h];rfl);obtain⟨e3,e4⟩:=inss_fwd l [] bs r _ hx e2;have ek:k+(rowB l).length=k+1+(l.flatMap insB).length:=by simp only[rowB,List.length_cons];omega
 rw[ek];refine⟨?_,e4⟩;rw[rdRow,e1,if_neg (by simp)]
 simpa using e3
theorem row_cut {l:List Ins} {bs:List Int} {k:Nat} (hx:∀ x∈l,insOk x) (h:Cut (bs.drop k) (rowB l)):(rdRow bs k).2.1=5:=by
 rcases Cut.cons (c:=(l.length:Int)) (e:=l.flatMap insB) h with h | ⟨q,hq,h⟩
 ·simp[rdRow,next_end h]
 ·obtain⟨e1,e2⟩:=next_fwd hq
  rw[rdRow,e1,if_neg (by simp)];have:=inss_cut l [] bs (k+1) hx (by rw[e2];exact h)
  simpa using this
theorem rows_fwd:∀ (m l:List (List Ins)) (bs r:List Int) (k:Nat),(∀ y∈m,∀ x∈y,insOk x)->bs.drop k=m.flatMap rowB++r ->
  rdRows bs m.length l k=(l++m,0,k+(m.flatMap rowB).length)/\bs.drop (k+(m.flatMap rowB).length)=r:=by
 intro m
 induction m with
 | nil=>intro l bs r k _ h;simpa[rdRows] using h
 | cons x m ih =>
  intro l bs r k hx h;rw[List.flatMap_cons,List.append_assoc] at h;obtain⟨e1,e2⟩:=row_fwd (hx x (by simp)) h;obtain⟨e3,e4⟩:=ih (l++[x]) bs r _ (fun y hy=>hx y (by simp[hy])) e2;rw[List.flatMap_cons,List.length_append,<- Nat.add_assoc];refine⟨?_,e4⟩;rw[List.length_cons,rdRows,e1,if_neg (by simp),e3];simp
theorem rows_cut:∀ (m l:List (List Ins)) (bs:List Int) (k:Nat),(∀ y∈m,∀ x∈y,insOk x)->Cut (bs.drop k) (m.flatMap rowB)->(rdRows bs m.length l k).2.1=5:=by
 intro m
 induction m with
 | nil=>intro l bs k _ h;exact h.nil.elim
 | cons x m ih =>
  intro l bs k hx h;rw[List.flatMap_cons] at h;rw[List.length_cons,rdRows]
  rcases h.split with h | ⟨q,hq,h⟩
  ·have:=row_cut (hx x (by simp)) h
   rw[this,if_pos (by decide)]
  ·obtain⟨e1,e2⟩:=row_fwd (hx x (by simp)) hq
   rw[e1,if_neg (by simp)];exact ih _ _ _ (fun y hy=>hx y (by simp[hy])) (by rw[e2];exact h)
def progB (rows:List (List Ins)):List Int:=[116,119,(rows.length:Int)]++rows.flatMap rowB
theorem prog_fwd {rows:List (List Ins)} (hx:∀ y∈rows,∀ x∈y,insOk x) (r:List Int):rdBegin (progB rows++r) 0=(0,2)/\rdProg (progB rows++r) 2=(rows,0,(progB rows).length):=by
 have h0:(progB rows++r).drop 0=116 :: 119 :: (rows.length:Int) :: (rows.flatMap rowB++r):=by simp[progB]
 obtain⟨e1,e2⟩:=next_fwd h0;obtain⟨e3,e4⟩:=next_fwd e2;obtain⟨e5,e6⟩:=next_fwd e4;obtain⟨e7,_⟩:=rows_fwd rows [] _ r _ hx e6;refine⟨by simp[rdBegin,e1,e3],?_⟩;rw[rdProg,show rdNext (progB rows++r) 2=_ from e5,if_neg (by simp)];have el:(progB rows).length=0+1+1+1+(rows.flatMap rowB).length:=by simp[progB];omega
 rw[el]
 simpa using e7
theorem all_fwd {rows:List (List Ins)} (hx:∀ y∈rows,∀ x∈y,insOk x):rdAll (progB rows)=(rows,0):=by
 obtain⟨e1,e2⟩:=prog_fwd hx [];rw[List.append_nil] at e1 e2;rw[rdAll,e1,if_neg (by simp),e2,if_neg (by simp),if_neg (by simp)]
theorem all_more {rows:List (List Ins)} (hx:∀ y∈rows,∀ x∈y,insOk x) (c:Int):(rdAll (progB rows++[c])).2=4:=by
 obtain⟨e1,e2⟩:=prog_fwd hx [c];rw[rdAll,e1,if_neg (by simp),e2,if_neg (by simp),if_pos (by simp)]
theorem all_cut {rows:List (List Ins)} (hx:∀ y∈rows,∀ x∈y,insOk x) {p:List Int} (h:Cut p (progB rows)):(rdAll p).2=5:=by
 have h0:Cut p (116 :: 119 :: (rows.length:Int) :: rows.flatMap rowB):=by simpa[progB] using h
 rcases h0.cons with rfl | ⟨q,hq,h0⟩
 ·simp[rdAll,rdBegin,rdNext]
 ·obtain⟨e1,e2⟩:=next_fwd (bs:=p) (k:=0) (by simpa using hq)
  rcases h0.cons with hn | ⟨q2,hq2,h0⟩
  ·rw[hn] at e2
   have:=next_end e2;simp at this
   simp[rdAll,rdBegin,e1,this]
  ·obtain⟨e3,e4⟩:=next_fwd (e2.trans hq2)
   have hb:rdBegin p 0=(0,2):=by simp[rdBegin,e1,e3]
   rw[rdAll,hb,if_neg (by simp)];have:(rdProg p 2).2.1=5:=by
    rcases h0.cons with hn | ⟨q3,hq3,h0⟩
    ·rw[hn] at e4
     have:=next_end e4;simp at this
     simp[rdProg,this]
    ·obtain⟨e5,e6⟩:=next_fwd (e4.trans hq3)
     rw[rdProg,show rdNext p 2=_ from e5,if_neg (by simp)];have:=rows_cut rows [] p _ hx (by rw[e6];exact h0)
     simpa using this
   simp only[this];rw[if_pos (by decide)]
end
section
theorem sev_bd:∀ (k:Nat) (n:Int),0<=n->∀ b∈sev k n,0<=b/\b<=255
 | 0,n,_,b,h=>by simp[sev] at h
 | k+1,n,hn,b,h=>by
  unfold sev at h
  split at h
  ·simp at h;omega
  ·rcases List.mem_cons.1 h with rfl | h
   ·omega
   ·exact sev_bd k (n / 128) (by omega) b h
theorem insB_bd {x:Ins} (hx:insOk x):∀ b∈insB x,0<=b/\b<=255:=fun b hb=>by
 obtain⟨op,a,bb,n⟩:=x;obtain⟨ho,hab,hn,_,_⟩:=parts_zero hx;simp only[okOp,Bool.and_eq_true,decide_eq_true_eq] at ho;simp only at hab hn;simp only[insB,insBytes,List.mem_append,List.mem_singleton] at hb
 rcases hb with rfl | hb | hb
 ·omega
 ·split at hb
  ·simp at hb;omega
  ·cases hb
 ·split at hb
  ·exact sev_bd 7 _ (zig_bd hn.1 hn.2).1 b hb
  ·cases hb
theorem progB_bd {rows:List (List Ins)} (hx:∀ y∈rows,∀ x∈y,insOk x) (hl:∀ y∈rows,y.length<=255) (hm:rows.length<=255):∀ b∈progB rows,0<=b/\b<=255:=fun b hb=>by
 simp only[progB,List.mem_append,List.mem_cons,List.not_mem_nil,or_false,List.mem_flatMap] at hb
 rcases hb with(rfl | rfl | rfl) | ⟨y,hy,hb⟩
 ·omega
 ·omega
 ·omega
 ·simp only[rowB,List.mem_cons,List.mem_flatMap] at hb
  rcases hb with rfl | ⟨x,hxy,hb⟩
  ·have:=hl y hy;omega
  ·exact insB_bd (hx y hy x hxy) b hb
theorem getD_bd {bs:List Int} (h:∀ b∈bs,0<=b/\b<=255):∀ i,0<=bs.getD i 0/\bs.getD i 0<=255:=fun i=>by
 by_cases hi:i<bs.length
 ·have:bs.getD i 0=bs[i]:=by simp[hi]
  rw[this];exact h _ (List.getElem_mem hi)
 ·have:bs.getD i 0=0:=by simp[hi]
  rw[this];omega
theorem insOk_of_form {rows:List (List Ins)} (h:rowsFault rows=0):(∀ y∈rows,∀ x∈y,insOk x)/\(∀ y∈rows,y.length<=60)/\rows.length<=6:=by
 obtain⟨h1,h2,h3⟩:=prog_ok h;have get:∀ y∈rows,∃ r,r<rows.length/\rows.getD r []=y:=fun y hy=>by
  obtain⟨r,hr,e⟩:=List.mem_iff_getElem.1 hy;exact⟨r,hr,by simp[hr,e]⟩
 refine⟨fun y hy x hxy=>?_,fun y hy=>?_,h2⟩
 ·obtain⟨r,hr,e⟩:=get y hy
  obtain⟨_,_,hi⟩:=row_ok (h3 r hr);obtain⟨i,hil,ex⟩:=List.mem_iff_getElem.1 hxy;have hil':i<lenOf rows r:=by unfold lenOf;rw[e];exact hil
  have:=hi i hil';have ei:∀ f,xOf rows r i f=fld x f:=fun f=>by
   unfold xOf
   rw[e];have:y.getD i noIns=x:=by simp[hil,ex]
   rw[this]
  simp only[ei] at this
  unfold insFault at this
  split at this
  ·rename_i h0;exact absurd this h0
  ·rename_i h0
   exact Classical.not_not.1 h0
 ·obtain⟨r,hr,e⟩:=get y hy
  have:=(row_ok (h3 r hr)).2.1
  unfold lenOf at this
  rw[e] at this
  exact this
theorem progB_of (rows:List (List Ins)):progBytes rows.length (lenOf rows) (xOf rows) rows.length=progB rows:=by
 unfold progBytes kindBytes progB
 rw[Deep.flatMap_by_index rows [] rowB]
 congr 2
 funext r
 unfold rowB rowBytes lenOf
 rw[Deep.flatMap_by_index (rows.getD r []) noIns insB]
 rfl
theorem cut_take {bs:List Int} {n:Nat} (h:n<bs.length):Cut (bs.take n) bs:=⟨List.take_prefix _ _,fun e=>by
 have:=congrArg List.length e;simp at this
 omega⟩
end
section
open Go.RowKit
def Buf (w:World) (base:Nat) (e:TypeId) (v:Value) (bs:List Int):Prop:=w.ownsRow base e 1 v bs.length (bs.map (Value.int .u8))
structure ByteType (P:Program) (t e:TypeId) (i:TypeInfo):Prop where
 ht:P.underlying t=some (.slice e)
 hi:P.info? e=some i
 hz:i.zero=some (.int .u8 0)
 hsize:i.size=1
 hby:i.bytes=1
section
variable {P:Program} {w:World} {base:Nat} {t e:TypeId} {v:Value} {bs:List Int}
theorem Buf.alloc (h:Buf w base e v bs) (o:Obj):Buf (w.alloc o) base e v bs:=World.ownsRow.alloc h o
theorem Buf.le {base':Nat} (h:Buf w base e v bs) (hb:base'<=base):Buf w base' e v bs :=
 ⟨h.1,h.2.elim Or.inl (fun⟨g,cap,cur,hv,hg,r⟩=>Or.inr ⟨g,cap,cur,hv,Nat.le_trans hb hg,r⟩)⟩
theorem Buf.lit (w:World) (base:Nat) (e:TypeId) (bs:List Int) (hb:base<=w.heap.size) (hm:bs.length<=1000000) :
  Buf (w.alloc (.cells (bs.map (Value.int .u8)).toArray e)) base e (.slice (some ⟨w.heap.size,0,none⟩) bs.length bs.length) bs:=by
 have:=World.ownsRow_lit (base:=base) (e:=e) (size:=1) w (bs.map (Value.int .u8)).toArray bs.length hb (by unfold maxLen;omega) (by simp)
 simpa[Buf] using this
theorem Buf.nil (w:World) (base:Nat) (e:TypeId):Buf w base e (.slice none 0 0) []:=World.ownsRow_nil w base e 1
theorem Buf.other (h:Buf w base e v bs) {k:Nat} {c:Array Value} {t':TypeId} {fr:Nat × Nat} (hk:w.heap[k]?=some (.cells c t' fr)) (hne:t'≠e):some k≠v.ownBlock:=by
 rcases h.2 with⟨rfl,_⟩ | ⟨g,cap,cur,rfl,_,hg,_⟩
 ·simp[Value.ownBlock]
 ·simp only[Value.ownBlock]
  intro e';simp only[Option.some.injEq] at e';subst e';rw[hk] at hg;simp only[Option.some.injEq,Obj.cells.injEq] at hg;exact hne hg.2.1
theorem Buf.form (h:Buf w base e v bs):(v=.slice none 0 0/\bs=[])\/∃ g cap,v=.slice (some ⟨g,0,none⟩) bs.length cap/\base<=g:=by
 rcases h.2 with⟨hv,hn⟩ | ⟨g,cap,_,hv,hb,_⟩
 ·exact Or.inl ⟨hv,List.eq_nil_of_length_eq_zero hn⟩
 ·exact Or.inr ⟨g,cap,hv,hb⟩
theorem Buf.cells (h:Buf w base e v bs) {g cap n:Nat} (hv:v=.slice (some ⟨g,0,none⟩) n cap):∀ j u,(bs.map (Value.int .u8))[j]?=some u->w.cell? ((⟨g,0,none⟩:Addr).add j)=some u :=
 World.ownsRow.cells h (by rw[hv];rfl)
theorem below_grown (h:Buf w base e v bs) {w':World} (hg:w.grownBy w' v.ownBlock) (hb:base<=w.heap.size):Below base w w' :=
 (Below.refl _ _).grown hg hb (fun k hk=>(World.ownsRow.lt h k hk).1)
theorem Buf.keep (h:Buf w base e v bs) {w':World} (hg:w.grownBy w' v.ownBlock) {k:Nat} {c:Array Value} {t':TypeId} (hk:w.heap[k]?=some (.cells c t' (0,0))) (hne:t'≠e):w'.heap[k]?=some (.cells c t' (0,0)) :=
 (hg.block k (Array.getElem?_eq_some_iff.1 hk).1 (h.other hk hne)).trans hk
theorem cell_new_at (w:World) (x:Value) (e:TypeId) (m:Nat) (h:m=w.heap.size):(w.alloc (.cells #[x] e)).cell? ⟨m,0,none⟩=some x:=by subst h;simp
theorem block_new (w:World) (o:Obj):(w.alloc o).heap[w.heap.size]?=some o:=Deep.blk_alloc_new w o
theorem block_old {w:World} {k:Nat} {x:Obj} (h:w.heap[k]?=some x) (o:Obj):(w.alloc o).heap[k]?=some x :=
 (Deep.blk_alloc_lt w o k (Array.getElem?_eq_some_iff.1 h).1).trans h
theorem ccell_blk {w:World} {k:Nat} {c:Array Value} {t':TypeId} (h:w.heap[k]?=some (.cells c t' (0,0))) (j:Nat):w.cell? ⟨k,j,none⟩=c[j]?:=by simp[World.cell?,h]
theorem wpList_gather {i:TypeInfo} (B:ByteType P t e i) {ops:Array Oper} {rest:List Oper} {o:Oper} {a:Act} {Q:Exit->Act->World->Prop} (hgd:o.guard=none) (s x:Operand)
  (ho:o.op=.call { callee:=.builtin .append,args:=#[s,x],argTypes:=#[t,t] }) (hs:a.eval s=v) (hB:Buf w base e v bs)
  (ys:List Int) (ad:Addr) (c:Nat) (hx:a.eval x=.slice (some ad) ys.length c) (hy:∀ j u,(ys.map (Value.int .u8))[j]?=some u->w.cell? (ad.add j)=some u)
  (hl:bs.length<=1000000) (hl':ys.length<=1000000) (hbase:base<=w.heap.size)
  (h:∀ v' w',Buf w' base e v' (bs++ys)->w.grownBy w' v.ownBlock->Below base w w'->wpList P ops Q rest (a.put o.dst v') w'):wpList P ops Q (o :: rest) a w:=by
 refine wpList_append_own w hgd s x t ho base e i (.int .u8 0) 1 1 B.ht B.hi B.hz B.hsize B.hby rfl (by decide) v bs.length (bs.map (Value.int .u8)) hs hB ad ys.length c (ys.map (Value.int .u8)) hx (by simp) hy ?_ (by unfold maxLen;omega) (by omega) hbase ?_
 ·intro u hu
  simp only[List.mem_map] at hu;obtain⟨n,_,rfl⟩:=hu
  rfl
 ·intro v' w' h1 h2 _
  refine h v' w' ?_ h2 (below_grown hB h2 hbase)
  simpa[Buf] using h1
theorem wpList_push {i:TypeInfo} (B:ByteType P t e i) {ops:Array Oper} {rest:List Oper} {o:Oper} {a:Act} {Q:Exit->Act->World->Prop} (hgd:o.guard=none) (s x:Operand)
  (ho:o.op=.call { callee:=.builtin .append,args:=#[s,x],argTypes:=#[t,t] }) (hs:a.eval s=v) (hB:Buf w base e v bs)
  (c:Int) (n0:Nat) (hx:a.eval x=.slice (some ⟨n0,0,none⟩) 1 1) (hc:w.cell? ⟨n0,0,none⟩=some (.int .u8 c)) (hl:bs.length<=1000000) (hbase:base<=w.heap.size)
  (h:∀ v' w',Buf w' base e v' (bs++[c])->w.grownBy w' v.ownBlock->Below base w w'->wpList P ops Q rest (a.put o.dst v') w'):wpList P ops Q (o :: rest) a w:=by
 refine wpList_gather B hgd s x ho hs hB [c] ⟨n0,0,none⟩ 1 hx ?_ hl (by simp) hbase h;intro j u hj
 match j,hj with
 | 0,hj =>
  simp at hj;subst hj
  simpa[Addr.add] using hc
end
end
end Go.Proofs.YtddokajfafmhhaaGreatDoor
