/- JEchoTells. -/
import Derived.Test.YtepifccbbmdfcaaGreatDoorCEEchoTellsTEchoS
namespace Go.Proofs.YtepifccbbmdfcaaGreatDoor
set_option maxRecDepth 100000
set_option maxHeartbeats 8000000
section
def stA:Ax:=⟨1,0,0,0⟩
def stB:Ax:=⟨1,1,0,0⟩
def roundA (i n:Int):List Ax:=⟨3,0,i,n⟩ :: (List.replicate 14 stA++List.replicate 7 stB)
theorem run_a {V:Wd} {r:List Ax}:runS eX V (stA :: r)=runS eX (actS eX V ⟨1,0,0,0⟩) r:=rfl
theorem run_b {V:Wd} {r:List Ax}:runS eX V (stB :: r)=runS eX (actS eX V ⟨1,1,0,0⟩) r:=rfl
theorem run_t {V:Wd} {r:List Ax} {i n:Int} (h:axFault ⟨3,0,i,n⟩=0):runS eX V (⟨3,0,i,n⟩ :: r)=runS eX (actS eX V ⟨3,0,i,n⟩) r:=by
 show(if axFault ⟨3,0,i,n⟩≠0 then _ else _)=_
 rw[if_neg (by simp[h])]
theorem tellFault {i n:Int} (hi:isW i=true) (hn:isW n=true):axFault ⟨3,0,i,n⟩=0:=by simp[axFault,hi,hn]
theorem isW_b {n:Int} (h:isW n=true):-1099511627776<=n/\n<=1099511627776:=by
 simpa[isW] using h
theorem two_may {m:Int} {i n:Int} (hi:isW i=true) (hn:isW n=true):oMay m ⟨[numV i,numV n],false⟩=true:=by
 simp[oMay,numE_may (isW_b hi),numE_may (isW_b hn)]
theorem H0.app {l:List Ob} {n:Nat} {c:List Vl} (h:H0 l n c) (hn:n<12) {o:Ob} (ho:oMay (n+1:Nat) o=true):H0 (l++[o]) (n+1) c where
 may:=app_may h.may (by rw[h.len];omega) (by rw[h.len];exact ho)
 len:=by simp[h.len]
 at0:=by rw[List.getElem?_append_left (lt_at h.at0)];exact h.at0
theorem last_at (l:List Ob) (o:Ob):(l++[o])[l.length]?=some o:=by simp
theorem rw0_eq:rw0=rg ⟨2,0⟩ nilV nilV nilV nilV nilV:=rfl
theorem roundA_eq (i n:Int) (r:List Ax):roundA i n++r=⟨3,0,i,n⟩ :: stA :: stA :: stA :: stA :: stA :: stA :: stA :: stA :: stA :: stA :: stA :: stA :: stA :: stA :: (List.replicate 7 stB++r):=rfl
theorem seven_eq (r:List Ax):List.replicate 7 stB++r=stB :: stB :: stB :: stB :: stB :: stB :: stB :: r:=rfl
theorem H0.bury {l:List Ob} {n:Nat} {c:List Vl} (h:H0 l n c) {p:Nat} (hp:p≠0):H0 (l.set p ⟨[],true⟩) n c where
 may:=bury_may' h.may
 len:=by simp[h.len]
 at0:=by rw[List.getElem?_set_ne hp];exact h.at0
theorem H0.put {l:List Ob} {n:Nat} {c:List Vl} (h:H0 l n c) {x:Int} (hx:isW x=true):H0 (l.set 0 ⟨c.set 0 (numV x),false⟩) n (c.set 0 (numV x)) where
 may:=set_may' h.may h.at0 (numE_may (isW_b hx))
 len:=by simp[h.len]
 at0:=by rw[List.getElem?_set_self (lt_at h.at0)]
theorem nums_two {i n:Int}:∀ v∈[numV i,numV n],v.k≠2:=fun v hv=>by
 simp at hv
 rcases hv with rfl | rfl <;> simp[numV]
theorem other_ok {l0 L1:List Ob} {k:Nat} {s i n:Int} {P:List (Int × Int)} (h1:H0 L1 k [numV s]) (hk:k<12) (hi:isW i=true) (hn:isW n=true) (hs:isW (s+n)=true) (hP:P.length<500) :
  ∃ L2,(∀ r,runS eX (W2 l0 rw0 (-1) [] (L1++[⟨[numV i,numV n],false⟩]) rw0 (-1) [⟨2,L1.length⟩] P) (List.replicate 7 stB++r)=runS eX (W2 l0 rw0 (-1) [] L2 rw0 (-1) [] (P++[(1,s+n)])) r)/\H0 L2 (k+1) [numV (s+n)]:=by
 have h2:=h1.app hk (o:=⟨[numV i,numV n],false⟩) (two_may hi hn);have hl:=last_at L1 ⟨[numV i,numV n],false⟩;have h3:=h2.put hs;refine⟨_,fun r=>?_,h3⟩;rw[rw0_eq,seven_eq,run_b,takeB,run_b,b_0 h2.may hl rfl,run_b,b_1 h2.may h2.at0 rfl,run_b,b_2 hs,run_b,b_3 h2.may h2.at0 rfl (isW_b hs),run_b,b_4 hP,run_b,b_5]
theorem round2_ok {L0 L1:List Ob} {k0 k1:Nat} {y:Vl} {s i n:Int} {P:List (Int × Int)} (h0:H0 L0 k0 [numV 1,y]) (h1:H0 L1 k1 [numV s]) (hk0:k0<12) (hk1:k1<12) (hi:isW i=true) (hn:isW n=true) (hs:isW (s+n)=true) (hP:P.length+1<500) :
  ∃ M0 M1,(∀ r,runS eX (W2 L0 rw0 (-1) [] L1 rw0 (-1) [] P) (roundA i n++r)=runS eX (W2 M0 rw0 (-1) [] M1 rw0 (-1) [] (P++[(0,i),(1,s+n)])) r)/\H0 M0 (k0+1) [numV 1,y]/\H0 M1 (k1+1) [numV (s+n)]:=by
 have g0:=h0.app hk0 (o:=⟨[numV i,numV n],false⟩) (two_may hi hn);have gl:=last_at L0 ⟨[numV i,numV n],false⟩;have hne:L0.length≠0:=by have:=lt_at h0.at0;omega
 have g1:=g0.bury hne;obtain⟨M1,e1,hM1⟩:=other_ok (l0:=(L0++[(⟨[numV i,numV n],false⟩:Ob)]).set L0.length ⟨[],true⟩) (P:=P++[(0,i)]) h1 hk1 hi hn hs (by simp;omega);refine⟨_,M1,fun r=>?_,g1,hM1⟩;have hl0:=h0.len;have hl1:=h1.len;rw[show P++[(0,i),(1,s+n)]=P++[(0,i)]++[(1,s+n)] by simp,<- e1,rw0_eq,roundA_eq];rw[run_t (tellFault hi hn),tell2 h0.may (by omega),run_a,take2,run_a,s2_0 g0.may gl rfl,run_a,s2_1 (by omega),run_a,s2_2 g0.may g0.at0 rfl,run_a,s2_3,run_a,
  send_at g0.may gl nums_two h1.may (by omega) eI0_4 (by decide) (pe:=5) rfl,run_a,s2_5 eI0_5 (by decide) rfl,run_a,idle2,run_a,idle2,run_a,idle2,run_a,idle2,run_a,idle2,run_a,idle2,run_a,idle2]
theorem round1_ok {n:Int} (hn:isW n=true) :
  ∃ M0 M1,(∀ r,runS eX (newW 12) (roundA 0 n++r)=runS eX (W2 M0 rw0 (-1) [] M1 rw0 (-1) [] [(0,0),(1,0+n)]) r)/\H0 M0 3 [numV 1,numV 0]/\H0 M1 2 [numV (0+n)]:=by
 have hz:isW 0=true:=rfl;obtain⟨A,hA⟩:∃ A:List Ob,A=[⟨[numV 0,numV 0],false⟩]:=⟨_,rfl⟩;have h0:H0 A 1 [numV 0,numV 0]:=by subst hA;exact⟨rfl,rfl,rfl⟩
 have hA1:=h0.len;have g0:=h0.app (by omega) (o:=⟨[numV 0,numV n],false⟩) (two_may hz hn);have gl:=last_at A ⟨[numV 0,numV n],false⟩;obtain⟨B,hB⟩:∃ B:List Ob,B=A++[⟨[numV 0,numV n],false⟩]:=⟨_,rfl⟩;rw[hA1,<- hB] at gl;rw[<- hB] at g0;have hB1:=g0.len;have k0:=g0.app (by omega) (o:=⟨[nilV],false⟩) rfl;have kl:=last_at B ⟨[nilV],false⟩;have kp:(B++[⟨[nilV],false⟩])[1]?=some ⟨[numV 0,numV n],false⟩:=by rw[List.getElem?_append_left (by omega)];exact gl
 obtain⟨C,hC⟩:∃ C:List Ob,C=B++[⟨[nilV],false⟩]:=⟨_,rfl⟩;rw[hB1,<- hC] at kl;rw[<- hC] at k0 kp;have hC1:=k0.len;obtain⟨D,hD⟩:∃ D:List Ob,D=C.set 2 ⟨[nilV].set 0 (numV 0),false⟩:=⟨_,rfl⟩;have m0:H0 D 3 [numV 0,numV 0]:=by
  rw[hD];exact⟨set_may' k0.may kl (numE_may (by omega)),by simp[hC1],by rw[List.getElem?_set_ne (by omega)];exact k0.at0⟩
 have ml:D[2]?=some ⟨[nilV].set 0 (numV 0),false⟩:=by rw[hD,List.getElem?_set_self (by omega)]
 have mp:D[1]?=some ⟨[numV 0,numV n],false⟩:=by rw[hD,List.getElem?_set_ne (by omega)];exact kp
 have q0:=m0.bury (p:=2) (by omega);have qp:(D.set 2 ⟨[],true⟩)[1]?=some ⟨[numV 0,numV n],false⟩:=by rw[List.getElem?_set_ne (by omega)];exact mp
 obtain⟨E,hE⟩:∃ E:List Ob,E=D.set 2 ⟨[],true⟩:=⟨_,rfl⟩;rw[<- hE] at q0 qp;have u0:=q0.put (x:=1) rfl;have up:(E.set 0 ⟨[numV 0,numV 0].set 0 (numV 1),false⟩)[1]?=some ⟨[numV 0,numV n],false⟩:=by rw[List.getElem?_set_ne (by omega)];exact qp
 obtain⟨F,hF⟩:∃ F:List Ob,F=E.set 0 ⟨[numV 0,numV 0].set 0 (numV 1),false⟩:=⟨_,rfl⟩;rw[<- hF] at u0 up;have v0:=u0.bury (p:=1) (by omega);have b0:H0 [⟨[nilV].set 0 (numV 0),false⟩] 1 [numV 0]:=⟨rfl,rfl,rfl⟩;obtain⟨M1,e1,hM1⟩:=other_ok (l0:=F.set 1 ⟨[],true⟩) (P:=[(0,0)]) b0 (by omega) hz hn (by simpa using hn) (by simp);refine⟨_,M1,fun r=>?_,v0,hM1⟩;have e2:newW 12=W1 A (rg ⟨2,0⟩ nilV nilV nilV nilV nilV) (-1) [] []:=by rw[hA];rfl
 rw[show [(0,0),(1,0+n)]=([(0,0)]:List (Int × Int))++[(1,0+n)] from rfl,<- e1,e2,roundA_eq];rw[run_t (tellFault hz hn),tell1 h0.may (by omega),run_a,hA1,<- hB,take1,run_a,s1_0 g0.may gl rfl,run_a,s1_1 (by simp),run_a,s1_2 g0.may g0.at0 rfl,run_a,s1_3,run_a,
  s1_6 g0.may (by omega),hB1,<- hC,run_a,s1_7,run_a,s1_8 (p:=2) k0.may kl rfl,<- hD,run_a,s1_9 (p:=2) m0.may ml (by simp[numV]),<- hE,run_a,s2_10 q0.may q0.at0 rfl,<- hF,run_a]
 rw[rw0_eq,send_at (p:=1) u0.may up nums_two b0.may (by simp) eI0_11 (by decide) (pe:=12) rfl,run_a,s2_5 eI0_12 (by decide) rfl,run_a,idle2,run_a,idle2]
 rfl
def sumN (ms:List Int):Nat->Int
 | 0=>0
 | k+1=>sumN ms k+ms.getD k 0
def echoA (ms:List Int) (k:Nat):List Ax:=(List.range k).flatMap fun i:Nat=>roundA i (ms.getD i 0)
def echoW (ms:List Int) (k:Nat):List (Int × Int):=(List.range k).flatMap fun i:Nat=>[(0,(i:Int)),(1,sumN ms (i+1))]
theorem echoA_next (ms:List Int) (k:Nat):echoA ms (k+1)=echoA ms k++roundA k (ms.getD k 0):=by simp[echoA,List.range_succ]
theorem echoW_next (ms:List Int) (k:Nat):echoW ms (k+1)=echoW ms k++[(0,(k:Int)),(1,sumN ms (k+1))]:=by simp[echoW,List.range_succ]
theorem echoA_len (ms:List Int):∀ k:Nat,(echoA ms k).length=22*k
 | 0=>rfl
 | k+1=>by rw[echoA_next,List.length_append,echoA_len ms k];simp[roundA];omega
theorem echoW_len (ms:List Int):∀ k:Nat,(echoW ms k).length=2*k
 | 0=>rfl
 | k+1=>by rw[echoW_next,List.length_append,echoW_len ms k];simp;omega
theorem sumN_bd {ms:List Int} (h:∀ i,0<=ms.getD i 0/\ms.getD i 0<100):∀ k:Nat,0<=sumN ms k/\sumN ms k<=100*k
 | 0=>⟨Int.le_refl _,Int.le_refl _⟩
 | k+1=>by
  have:=sumN_bd h k;have:=h k;simp only[sumN];omega
theorem isW_of {n:Int} (h:0<=n/\n<=1000):isW n=true:=by simp[isW];omega
theorem echo_run {ms:List Int} (h:∀ i,0<=ms.getD i 0/\ms.getD i 0<100):∀ k:Nat,k<10->∃ M0 M1,(∀ r,runS eX (newW 12) (echoA ms (k+1)++r)=runS eX (W2 M0 rw0 (-1) [] M1 rw0 (-1) [] (echoW ms (k+1))) r)/\H0 M0 (k+3) [numV 1,numV 0]/\H0 M1 (k+2) [numV (sumN ms (k+1))]
 | 0,_=>by
  have hn:isW (ms.getD 0 0)=true:=isW_of (by have:=h 0;omega);obtain⟨M0,M1,e,h0,h1⟩:=round1_ok hn;exact⟨M0,M1,fun r=>by rw[show echoA ms (0+1)=roundA 0 (ms.getD 0 0) by simp[echoA,List.range_succ]];exact e r,h0,h1⟩
 | k+1,hk=>by
  obtain⟨K0,K1,e,k0,k1⟩:=echo_run h k (by omega);have hb:=sumN_bd h (k+1);have hb2:=sumN_bd h (k+1+1);have hn:isW (ms.getD (k+1) 0)=true:=isW_of (by have:=h (k+1);omega);obtain⟨M0,M1,e',h0,h1⟩:=round2_ok (i:=((k+1:Nat):Int)) (n:=ms.getD (k+1) 0) (P:=echoW ms (k+1)) k0 k1 (by omega) (by omega) (isW_of (by omega)) hn (isW_of (by show 0<=sumN ms (k+1+1)/\sumN ms (k+1+1)<=1000;omega)) (by rw[echoW_len];omega)
  exact⟨M0,M1,fun r=>by rw[echoA_next,List.append_assoc,e,e',echoW_next ms (k+1)];rfl,h0,h1⟩
theorem echo_done {ms:List Int} (h:∀ i,0<=ms.getD i 0/\ms.getD i 0<100) (k:Nat) (hk:k<=10):(runS eX (newW 12) (echoA ms k)).2=0/\(runS eX (newW 12) (echoA ms k)).1.prints=echoW ms k/\(runS eX (newW 12) (echoA ms k)).1.acts.length=1+min (2*k) 1:=by
 match k,hk with
 | 0,_=>exact⟨rfl,rfl,rfl⟩
 | k+1,hk =>
  obtain⟨M0,M1,e,_,_⟩:=echo_run h k (by omega);have:=e [];rw[List.append_nil] at this
  rw[this];exact⟨rfl,rfl,by show 2=_;omega⟩
end
section
open Go.RowKit
theorem seqTl_new2 (w:World) (x y:Int × Int) (t:TypeId) (B:Nat) (hB:B=w.heap.size):SeqAt fTl 2 (w.alloc (.cells #[.int .i64 x.1,.int .i64 x.2,.int .i64 y.1,.int .i64 y.2] t)) (some ⟨B,0,none⟩) [x,y]:=fun i z hz=>by
 have hb:=Deep.blk_alloc_new w (.cells #[.int .i64 x.1,.int .i64 x.2,.int .i64 y.1,.int .i64 y.2] t);rw[<- hB] at hb
 match i,hz with
 | 0,hz =>
  simp at hz;subst hz;refine⟨B,0,rfl,fun j u hu=>?_⟩;rw[cellBlk hb]
  match j,hu with
  | 0,hu=>simpa[fTl] using hu
  | 1,hu=>simpa[fTl] using hu
  | j+2,hu=>simp[fTl] at hu
 | 1,hz =>
  simp at hz;subst hz;refine⟨B,0,rfl,fun j u hu=>?_⟩;rw[cellBlk hb]
  match j,hu with
  | 0,hu=>simpa[fTl] using hu
  | 1,hu=>simpa[fTl] using hu
  | j+2,hu=>simp[fTl] at hu
 | i+2,hz=>simp at hz
def msOf (ns:List Int):List Int:=ns.map fun n=>pick n 100
theorem msOf_bd (ns:List Int) (i:Nat):0<=(msOf ns).getD i 0/\(msOf ns).getD i 0<100:=by
 unfold msOf
 rw[List.getD_eq_getElem?_getD,List.getElem?_map]
 cases ns[i]? with
 | none=>exact⟨Int.le_refl _,by decide⟩
 | some n=>exact pick_bd (n:=n) (many:=100) (by omega)
theorem msOf_at {ns:List Int} {i:Nat} {n:Int} (h:ns[i]?=some n):(msOf ns).getD i 0=pick n 100:=by
 unfold msOf
 rw[List.getD_eq_getElem?_getD,List.getElem?_map,h]
 rfl
def echoP (ms:List Int) (i a b:Nat):List Ax:=echoA ms i++(⟨3,0,(i:Int),ms.getD i 0⟩ :: (List.replicate a ⟨1,0,0,0⟩++List.replicate b ⟨1,1,0,0⟩))
theorem echoP_next1 (ms:List Int) (i a:Nat):echoP ms i (a+1) 0=echoP ms i a 0++[⟨1,0,0,0⟩]:=by simp[echoP,List.replicate_succ']
theorem echoP_next2 (ms:List Int) (i a b:Nat):echoP ms i a (b+1)=echoP ms i a b++[⟨1,1,0,0⟩]:=by simp[echoP,List.replicate_succ']
theorem echoP_len (ms:List Int) (i a b:Nat):(echoP ms i a b).length=22*i+1+(a+b):=by simp[echoP,echoA_len];omega
theorem echoP_all (ms:List Int) (i:Nat):echoP ms i 14 7=echoA ms (i+1):=by rw[echoA_next];rfl
theorem echoP_none (ms:List Int) (i:Nat):echoP ms i 0 0=echoA ms i++[⟨3,0,(i:Int),ms.getD i 0⟩]:=by simp[echoP]
theorem echo_ck:ckS 2 (lenOf echoR) (xOf echoR)=(0,0,0):=by decide +kernel
theorem echo_runW (ms:List Int) (h:∀ i,0<=ms.getD i 0/\ms.getD i 0<100) (k:Nat) (hk:k<=10):(runWS 2 (lenOf echoR) (xOf echoR) 12 (echoA ms k)).2=0/\(runWS 2 (lenOf echoR) (xOf echoR) 12 (echoA ms k)).1.prints=echoW ms k/\(runWS 2 (lenOf echoR) (xOf echoR) 12 (echoA ms k)).1.acts.length=1+min (2*k) 1:=by
 have hE:wnewE 2 (lenOf echoR) (xOf echoR) 12=0:=by
  unfold wnewE
  rw[echo_ck,if_neg (by simp),if_neg (by omega)]
 have hl:=echoA_len ms k;have e:runWS 2 (lenOf echoR) (xOf echoR) 12 (echoA ms k)=runS eX (newW 12) (echoA ms k):=by
  unfold runWS
  rw[hE,if_neg (by simp),if_neg (by omega)]
  rfl
 rw[e];exact echo_done h k hk
theorem echoTells_any (ns:List Int) (na:Option Addr) (nc:Nat) (w:World) (hT:TabAt 0 w) (hN:IntsAt w na ns) (hf:∀ n∈ns,fit64 n) :
  Calls Tryz.prog 3 #[.slice na ns.length nc] w fun e w'=>e=.returned (.bool true)/\Below w.heap.size w w':=by
 have hbd:=msOf_bd ns;obtain⟨k,hk⟩:∃ k,k=min ns.length 10:=⟨_,rfl⟩;have hk10:k<=10:=by omega
 have hkn:k<=ns.length:=by omega
 have hkor:ns.length<=k\/10<=k:=by omega
 clear hk;obtain⟨hbe,hbp,hba⟩:=echo_runW (msOf ns) hbd k hk10;have HMS:Aside (∀ (i:Nat) n,ns[i]?=some n->(msOf ns).getD i 0=pick n 100):=fun i n hi=>msOf_at hi
 generalize msOf ns=ms at *;have HAT:Aside (∀ (i:Nat),i<k->∃ n,ns[i]?=some n/\fit64 n):=fun i hi=>by
  obtain⟨n,hn⟩:=at_some (l:=ns) (i:=i) (by omega);exact⟨n,hn,hf n (List.mem_of_getElem? hn)⟩
 have HBD:Aside (∀ i,0<=sumN ms i/\sumN ms i<=100*i):=sumN_bd hbd;generalize hLN:ns.length=LN at *;have HLN:Aside (ns.length=LN):=hLN;clear hLN hf;have hmx:maxLen=9223372036854775807:=rfl;have hO1:SeqOwn fAx 4 27 w w.heap.size (.slice none 0 0) (echoA ms 0):=seqOwn_nil _ _;have hO2:SeqOwn fTl 2 29 w w.heap.size (.slice none 0 0) (echoW ms 0):=seqOwn_nil _ _
 go_enter Tryz.func3,Tryz.ntmps3
 go_wp2_with fail
 go_loopg [6,3,4,5,7] k (fun gg s6 s3 s4 s5 s7 wr=>∃ (i:Nat) (oa ob:Option Addr) (oc od:Nat),i<=k/\gg=k-i/\s6=.int .i64 i/\s3=.slice oa (22*i) oc/\s4=.slice ob (2*i) od/\s5=.int .i64 (sumN ms i)/\Aside (SeqOwn fAx 4 27 wr w.heap.size (.slice oa (22*i) oc) (echoA ms i))/\Aside (SeqOwn fTl 2 29 wr w.heap.size (.slice ob (2*i) od) (echoW ms i))/\Aside (Below w.heap.size w wr))
 case atStart=>exact⟨0,none,none,0,0,Nat.zero_le _,rfl,rfl,rfl,rfl,rfl,hO1,hO2,Below.refl _ _⟩
 case round =>
  obtain⟨i,oa,ob,oc,od,hi,rfl,rfl,rfl,rfl,rfl,HO,HP,HB⟩:=hrel;clear hO1 hO2;obtain⟨wO,hwO⟩:∃ wO,wO=wr:=⟨_,rfl⟩;subst hwO
  by_cases hiK:i<k
  ·have hiz:(i:Int)<(LN:Int):=by omega
   have hiz10:(i:Int)<10:=by omega
   obtain⟨n,hn,hfn⟩:=HAT.out i hiK;have HPK:Aside (ms.getD i 0=pick n 100):=HMS.out i n hn;have HSB:Aside (0<=sumN ms i/\sumN ms i<=1000):=by have:=HBD.out i;exact⟨this.1,by omega⟩
   have HSB2:Aside (0<=sumN ms (i+1)/\sumN ms (i+1)<=1000):=by have:=HBD.out (i+1);exact⟨this.1,by omega⟩
   have hpb:=pick_bd (n:=n) (many:=100) (by omega);obtain⟨bn,on,rfl,cn⟩:=hN.keeps (Keeps.below HB.out) i n hn;clear hn
   go_wp2_with fail
   refine(picked_any n 100 wO hfn.1 hfn.2 (by omega) (by omega)).mono ?_;rintro e w' ⟨rfl,rfl⟩;rw[<- HPK.out];rw[<- HPK.out] at hpb;generalize hM0:ms.getD i 0=M0 at *;have HM0:Aside (ms.getD i 0=M0):=hM0;clear hM0;have bx:=below_box wO (.cells #[.int .i64 3,.int .i64 0,.int .i64 i,.int .i64 M0] 27);have hsn:=seqAx_new wO (⟨3,0,(i:Int),M0⟩:Ax) 27 wO.heap.size rfl;have hO3:=HO.out.below bx;have hP3:=HP.out.below bx
   have hsz:=HB.out.size;have hB3:=HB.out.trans (bx.mono hsz);have htl:=echoA_len ms i;have sx:(wO.alloc (.cells #[.int .i64 3,.int .i64 0,.int .i64 i,.int .i64 M0] 27)).heap.size=wO.heap.size+1:=by simp
   rw[<- htl] at hO3
   go_upto_region 9 with(first | (at_builtin;refine wpList_seq Tryz.rowAx rfl _ _ (by rfl) (v:=.slice oa (echoA ms i).length oc) (by simp[Act.eval,htl]) hO3 (by omega) [(⟨3,0,(i:Int),M0⟩:Ax)] (some ⟨wO.heap.size,0,none⟩) 1 (by simp[Act.eval]) hsn (by simp) (by simp;omega) (by simp;omega) ?_;rintro g cap w5 hO4 hg4 hb4 hB4) | fail)
   have hO5:Aside (SeqOwn fAx 4 27 w5 w.heap.size (.slice (some ⟨g,0,none⟩) (22*i+1+0) cap) (echoP ms i 0 0)):=by
    show SeqOwn _ _ _ _ _ _ _
    rw[echoP_none,HM0.out]
    simpa[htl] using hO4
   have hP5:Aside (SeqOwn fTl 2 29 w5 w.heap.size (.slice ob (2*i) od) (echoW ms i)):=hP3.kept hg4 (owns_other hP3 hO3 (by decide));have hB5:Aside (Below w.heap.size w w5):=hB3.trans hb4;clear hO4 hO3 hB3 hg4 hb4 hB4 hsn bx hP3 HO HP HB
   go_wp2_with fail
   go_loopg [31,3] 14 (fun gg s31 s3 wr=>∃ (a:Nat) (oa:Option Addr) (oc:Nat),a<=14/\gg=14-a/\s31=.int .i64 a/\s3=.slice oa (22*i+1+a) oc/\Aside (SeqOwn fAx 4 27 wr w.heap.size (.slice oa (22*i+1+a) oc) (echoP ms i a 0))/\Aside (SeqOwn fTl 2 29 wr w.heap.size (.slice ob (2*i) od) (echoW ms i))/\Aside (Below w.heap.size w wr))
   case atStart=>exact⟨0,some ⟨g,0,none⟩,cap,Nat.zero_le _,rfl,rfl,rfl,hO5,hP5,hB5⟩
   case round =>
    obtain⟨a,oe,of_,ha,rfl,rfl,rfl,HO,HP,HB⟩:=hrel;clear hO5 hP5 hB5;obtain⟨wP,hwP⟩:∃ wP,wP=wr:=⟨_,rfl⟩;subst hwP
    by_cases haL:a<14
    ·have haz:(a:Int)<14:=by omega
     have bx:=below_box wP (.cells #[.int .i64 1,.int .i64 0,.int .i64 0,.int .i64 0] 27);have hsn:=seqAx_new wP (⟨1,0,0,0⟩:Ax) 27 wP.heap.size rfl;have hO3:=HO.out.below bx;have hP3:=HP.out.below bx;have hsz:=HB.out.size;have hB3:=HB.out.trans (bx.mono hsz);have hel:=echoP_len ms i a 0;have sx:(wP.alloc (.cells #[.int .i64 1,.int .i64 0,.int .i64 0,.int .i64 0] 27)).heap.size=wP.heap.size+1:=by simp
     rw[show 22*i+1+a=(echoP ms i a 0).length by omega] at hO3
     go_upto_region 12 with(first | (at_builtin;refine wpList_seq Tryz.rowAx rfl _ _ (by rfl) (v:=.slice oe (echoP ms i a 0).length of_) (by simp[Act.eval,hel]) hO3 (by omega) [(⟨1,0,0,0⟩:Ax)] (some ⟨wP.heap.size,0,none⟩) 1 (by simp[Act.eval]) hsn (by simp) (by simp;omega) (by simp;omega) ?_;rintro g cap w5 hO4 hg4 hb4 hB4) | fail)
     have hO5:Aside (SeqOwn fAx 4 27 w5 w.heap.size (.slice (some ⟨g,0,none⟩) (22*i+1+(a+1)) cap) (echoP ms i (a+1) 0)):=by
      show SeqOwn _ _ _ _ _ _ _
      rw[echoP_next1]
      simpa[hel,Nat.add_assoc] using hO4
     have hP5:Aside (SeqOwn fTl 2 29 w5 w.heap.size (.slice ob (2*i) od) (echoW ms i)):=hP3.kept hg4 (owns_other hP3 hO3 (by decide));have hB5:Aside (Below w.heap.size w w5):=hB3.trans hb4;clear hO4 hO3 hB3 hg4 hb4 hB4 hsn bx hP3 HO HP HB;go_wp2
     go_roundg (14-(a+1))
     case measure=>go_light;omega
     case rel=>go_light;exact⟨a+1,some ⟨g,0,none⟩,cap,by omega,rfl,by go_num,by simp[Nat.add_assoc],hO5,hP5,hB5⟩
    ·have hge:¬ (a:Int)<14:=by omega
     have hae:a=14:=by omega
     subst hae
     go_wp2_with fail
     go_loopg [38,3] 7 (fun gg s38 s3 wr=>∃ (a:Nat) (oa:Option Addr) (oc:Nat),a<=7/\gg=7-a/\s38=.int .i64 a/\s3=.slice oa (22*i+15+a) oc/\Aside (SeqOwn fAx 4 27 wr w.heap.size (.slice oa (22*i+15+a) oc) (echoP ms i 14 a))/\Aside (SeqOwn fTl 2 29 wr w.heap.size (.slice ob (2*i) od) (echoW ms i))/\Aside (Below w.heap.size w wr))
     case atStart=>exact⟨0,oe,of_,Nat.zero_le _,rfl,rfl,rfl,HO,HP,HB⟩
     case round =>
      obtain⟨a,og,oh,ha,rfl,rfl,rfl,HO2,HP2,HB2⟩:=hrel;clear HO HP HB;obtain⟨wQ,hwQ⟩:∃ wQ,wQ=wr:=⟨_,rfl⟩;subst hwQ
      by_cases haL:a<7
      ·have haz:(a:Int)<7:=by omega
       have bx:=below_box wQ (.cells #[.int .i64 1,.int .i64 1,.int .i64 0,.int .i64 0] 27);have hsn:=seqAx_new wQ (⟨1,1,0,0⟩:Ax) 27 wQ.heap.size rfl;have hO3:=HO2.out.below bx;have hP3:=HP2.out.below bx;have hsz:=HB2.out.size;have hB3:=HB2.out.trans (bx.mono hsz);have hel:=echoP_len ms i 14 a;have sx:(wQ.alloc (.cells #[.int .i64 1,.int .i64 1,.int .i64 0,.int .i64 0] 27)).heap.size=wQ.heap.size+1:=by simp
       rw[show 22*i+15+a=(echoP ms i 14 a).length by omega] at hO3
       go_upto_region 16 with(first | (at_builtin;refine wpList_seq Tryz.rowAx rfl _ _ (by rfl) (v:=.slice og (echoP ms i 14 a).length oh) (by simp[Act.eval,hel];omega) hO3 (by omega) [(⟨1,1,0,0⟩:Ax)] (some ⟨wQ.heap.size,0,none⟩) 1 (by simp[Act.eval]) hsn (by simp) (by simp;omega) (by simp;omega) ?_;rintro g cap w5 hO4 hg4 hb4 hB4) | fail)
       have hO5:Aside (SeqOwn fAx 4 27 w5 w.heap.size (.slice (some ⟨g,0,none⟩) (22*i+15+(a+1)) cap) (echoP ms i 14 (a+1))):=by
        show SeqOwn _ _ _ _ _ _ _
        rw[echoP_next2];simp only[hel,List.length_cons,List.length_nil] at hO4;rw[show 22*i+15+(a+1)=22*i+1+(14+a)+(0+1) by omega];exact hO4
       have hP5:Aside (SeqOwn fTl 2 29 w5 w.heap.size (.slice ob (2*i) od) (echoW ms i)):=hP3.kept hg4 (owns_other hP3 hO3 (by decide));have hB5:Aside (Below w.heap.size w w5):=hB3.trans hb4;clear hO4 hO3 hB3 hg4 hb4 hB4 hsn bx hP3 HO2 HP2 HB2;go_wp2
       go_roundg (7-(a+1))
       case measure=>go_light;omega
       case rel=>go_light;exact⟨a+1,some ⟨g,0,none⟩,cap,by omega,rfl,by go_num,by simp;omega,hO5,hP5,hB5⟩
      ·have hge:¬ (a:Int)<7:=by omega
       have hae:a=7:=by omega
       subst hae;have hsb:=HSB.out;have hsn1:sumN ms (i+1)=sumN ms i+M0:=by rw[<- HM0.out];rfl
       have HWN:Aside (echoW ms (i+1)=echoW ms i++[((0:Int),(i:Int)),(1,sumN ms i+M0)]):=by
        show echoW ms (i+1)=_
        rw[echoW_next,hsn1]
       have HSN:Aside (sumN ms (i+1)=sumN ms i+M0):=hsn1;clear hsn1;generalize sumN ms i=S0 at *;have hsw:IntKind.i64.wrap (S0+M0)=S0+M0:=by rw[IntKind.wrap_i64];omega
       have bx:=below_box wQ (.cells #[.int .i64 0,.int .i64 i,.int .i64 1,.int .i64 (S0+M0)] 29);have hsn:=seqTl_new2 wQ ((0:Int),(i:Int)) ((1:Int),S0+M0) 29 wQ.heap.size rfl;have hO3:=HO2.out.below bx;have hP3:=HP2.out.below bx;have hsz:=HB2.out.size;have hB3:=HB2.out.trans (bx.mono hsz);have hel:=echoW_len ms i;have sx:(wQ.alloc (.cells #[.int .i64 0,.int .i64 i,.int .i64 1,.int .i64 (S0+M0)] 29)).heap.size=wQ.heap.size+1:=by simp
       rw[<- hel] at hP3
       go_upto_region 6 with(first | (at_builtin;refine wpList_seq Tryz.rowTl rfl _ _ (by rfl) (v:=.slice ob (echoW ms i).length od) (by simp[Act.eval,hel]) hP3 (by omega) [((0:Int),(i:Int)),((1:Int),S0+M0)] (some ⟨wQ.heap.size,0,none⟩) 2 (by simp[Act.eval]) hsn (by simp) (by simp;omega) (by simp;omega) ?_;rintro g cap w5 hP4 hg4 hb4 hB4) | fail)
       have hP5:Aside (SeqOwn fTl 2 29 w5 w.heap.size (.slice (some ⟨g,0,none⟩) (2*(i+1)) cap) (echoW ms (i+1))):=by
        show SeqOwn _ _ _ _ _ _ _
        rw[HWN.out];simp only[hel,List.length_cons,List.length_nil] at hP4;rw[show 2*(i+1)=2*i+(0+1+1) by omega];exact hP4
       have hO5:Aside (SeqOwn fAx 4 27 w5 w.heap.size (.slice og (22*(i+1)) oh) (echoA ms (i+1))):=by
        have:=hO3.kept hg4 (owns_other hO3 hP3 (by decide));rw[echoP_all] at this
        show SeqOwn _ _ _ _ _ _ _
        rw[show 22*(i+1)=22*i+15+7 by omega];exact this
       have hB5:Aside (Below w.heap.size w w5):=hB3.trans hb4;clear hP4 hO3 hB3 hg4 hb4 hB4 hsn bx hP3 HO2 HP2 HB2;go_wp2
       go_roundg (k-(i+1))
       case measure=>go_light;omega
       case rel=>go_light;exact⟨i+1,og,some ⟨g,0,none⟩,oh,cap,by omega,rfl,by go_num,by simp;omega,by simp;omega,by rw[HSN.out],hO5,hP5,hB5⟩
  ·have hik:i=k:=by omega
   subst hik;have hAX:AxsAt wO oa (echoA ms i):=seqAx_to (HO.out.at Tryz.rowAx.len);have hAL:=echoA_len ms i;have hWL:=echoW_len ms i;clear HO
   by_cases hl:(i:Int)<(LN:Int)
   ·have hl10:¬ (i:Int)<10:=by omega
    go_upto_region 19 with fail
    go_wp2_with fail
    refine(echo_any wO).mono ?_;rintro e w1 ⟨ao,rfl,hb1,hK⟩;obtain⟨A,C,hPA⟩:=prog_of hK (by decide) (fitC_of echo_fits);have hW1:=HB.out.trans (hb1.mono HB.out.size);have hr:=run_any ao 2 2 A (lenOf echoR) C (xOf echoR) 12 oa oc (echoA ms i) w1 (hT.keeps (Keeps.below hW1)) hPA (hAX.keeps (Keeps.below hb1)) (by omega);have HP1:Aside (SeqOwn fTl 2 29 w1 w.heap.size (.slice ob (2*i) od) (echoW ms i)):=HP.out.below hb1
    rw[hAL] at hr;generalize runWS 2 (lenOf echoR) (xOf echoR) 12 (echoA ms i)=R at *;obtain⟨V,ee⟩:=R;simp only at hbe hbp hba;subst hbe;have HBP:Aside (V.prints=echoW ms i):=hbp;have HBA:Aside (V.acts.length=1+min (2*i) 1):=hba;clear hbp hba hAX hK hPA HB hb1 HP
    go_wp2_with fail
    refine hr.mono ?_;rintro e w2 ⟨aa,ac,pa,pc,rfl,hb2,hVA,hVP,_⟩
    dsimp only at hVA hVP ⊢
    have hW2:=hW1.trans (hb2.mono hW1.size);have HP2:Aside (SeqOwn fTl 2 29 w2 w.heap.size (.slice ob (2*i) od) (echoW ms i)):=HP1.out.below hb2;have hLP:V.prints.length=2*i:=by rw[HBP.out,hWL]
    rw[hLP];clear hLP;generalize V.acts.length=NA at *;obtain⟨NW,_,cb,cs⟩:=boxes1 w2 (.cells #[.slice aa NA ac,.slice pa (2*i) pc] 32);have hW3:=hW2.trans (cb.mono hW2.size);have HVP:Aside (ToldAt (w2.alloc (.cells #[.slice aa NA ac,.slice pa (2*i) pc] 32)) pa V.prints):=hVP.keeps (Keeps.below cb);have HP3:Aside (SeqOwn fTl 2 29 (w2.alloc (.cells #[.slice aa NA ac,.slice pa (2*i) pc] 32)) w.heap.size (.slice ob (2*i) od) (echoW ms i)):=HP2.out.below cb
    clear hr hVA hVP hW1 hb2 cb HP1 HP2 hW2
    go_upto_region 20 with fail
    generalize w2.alloc (.cells #[.slice aa NA ac,.slice pa (2*i) pc] 32)=w3 at *;have q0:w3.cell? ⟨w2.heap.size,0,none⟩=some (.slice aa NA ac):=cell_blk NW 0;have q1:w3.cell? ⟨w2.heap.size,1,none⟩=some (.slice pa (2*i) pc):=cell_blk NW 1;clear NW cs;generalize w2.heap.size=Q at *;have hTW:ToldAt w3 ob (echoW ms i):=seqTl_to (HP3.out.at Tryz.rowTl.len) (by rw[hWL];omega);have hTV:ToldAt w3 pa (echoW ms i):=by rw[<- HBP.out];exact HVP.out
    have he:=equalTold_any pa ob pc od (echoW ms i) w3 hTV hTW;rw[hWL] at he;have hNA:(NA:Int)=1+min ((2*i:Nat):Int) 1:=by have:=HBA.out;omega
    have hwm:IntKind.i64.wrap (1+min ((2*i:Nat):Int) 1)=1+min ((2*i:Nat):Int) 1:=by rw[IntKind.wrap_i64];omega
    clear HP3 HVP hTW hTV HBA hWL hAL;have hLPb:2*i<=20:=by omega
    generalize 2*i=LP at *
    go_wp2_with fail
    refine he.mono ?_;rintro e w9 ⟨rfl,nn,rfl⟩;go_wp2
    go_ret
    exact⟨by simp,below_drewN hW3 nn⟩
   ·go_upto_region 19 with fail
    go_wp2_with fail
    refine(echo_any wO).mono ?_;rintro e w1 ⟨ao,rfl,hb1,hK⟩;obtain⟨A,C,hPA⟩:=prog_of hK (by decide) (fitC_of echo_fits);have hW1:=HB.out.trans (hb1.mono HB.out.size);have hr:=run_any ao 2 2 A (lenOf echoR) C (xOf echoR) 12 oa oc (echoA ms i) w1 (hT.keeps (Keeps.below hW1)) hPA (hAX.keeps (Keeps.below hb1)) (by omega);have HP1:Aside (SeqOwn fTl 2 29 w1 w.heap.size (.slice ob (2*i) od) (echoW ms i)):=HP.out.below hb1
    rw[hAL] at hr;generalize runWS 2 (lenOf echoR) (xOf echoR) 12 (echoA ms i)=R at *;obtain⟨V,ee⟩:=R;simp only at hbe hbp hba;subst hbe;have HBP:Aside (V.prints=echoW ms i):=hbp;have HBA:Aside (V.acts.length=1+min (2*i) 1):=hba;clear hbp hba hAX hK hPA HB hb1 HP
    go_wp2_with fail
    refine hr.mono ?_;rintro e w2 ⟨aa,ac,pa,pc,rfl,hb2,hVA,hVP,_⟩
    dsimp only at hVA hVP ⊢
    have hW2:=hW1.trans (hb2.mono hW1.size);have HP2:Aside (SeqOwn fTl 2 29 w2 w.heap.size (.slice ob (2*i) od) (echoW ms i)):=HP1.out.below hb2;have hLP:V.prints.length=2*i:=by rw[HBP.out,hWL]
    rw[hLP];clear hLP;generalize V.acts.length=NA at *;obtain⟨NW,_,cb,cs⟩:=boxes1 w2 (.cells #[.slice aa NA ac,.slice pa (2*i) pc] 32);have hW3:=hW2.trans (cb.mono hW2.size);have HVP:Aside (ToldAt (w2.alloc (.cells #[.slice aa NA ac,.slice pa (2*i) pc] 32)) pa V.prints):=hVP.keeps (Keeps.below cb);have HP3:Aside (SeqOwn fTl 2 29 (w2.alloc (.cells #[.slice aa NA ac,.slice pa (2*i) pc] 32)) w.heap.size (.slice ob (2*i) od) (echoW ms i)):=HP2.out.below cb
    clear hr hVA hVP hW1 hb2 cb HP1 HP2 hW2
    go_upto_region 20 with fail
    generalize w2.alloc (.cells #[.slice aa NA ac,.slice pa (2*i) pc] 32)=w3 at *;have q0:w3.cell? ⟨w2.heap.size,0,none⟩=some (.slice aa NA ac):=cell_blk NW 0;have q1:w3.cell? ⟨w2.heap.size,1,none⟩=some (.slice pa (2*i) pc):=cell_blk NW 1;clear NW cs;generalize w2.heap.size=Q at *;have hTW:ToldAt w3 ob (echoW ms i):=seqTl_to (HP3.out.at Tryz.rowTl.len) (by rw[hWL];omega);have hTV:ToldAt w3 pa (echoW ms i):=by rw[<- HBP.out];exact HVP.out
    have he:=equalTold_any pa ob pc od (echoW ms i) w3 hTV hTW;rw[hWL] at he;have hNA:(NA:Int)=1+min ((2*i:Nat):Int) 1:=by have:=HBA.out;omega
    have hwm:IntKind.i64.wrap (1+min ((2*i:Nat):Int) 1)=1+min ((2*i:Nat):Int) 1:=by rw[IntKind.wrap_i64];omega
    clear HP3 HVP hTW hTV HBA hWL hAL;have hLPb:2*i<=20:=by omega
    generalize 2*i=LP at *
    go_wp2_with fail
    refine he.mono ?_;rintro e w9 ⟨rfl,nn,rfl⟩;go_wp2
    go_ret
    exact⟨by simp,below_drewN hW3 nn⟩
theorem echoTells_walk (a0:Option Addr) (c0:Nat) (l0:List Int) (w:World) (hT:TabAt 0 w) (h0:IntsAt w a0 l0) (hb0:∀ n∈l0,-9223372036854775808<=n/\n<=9223372036854775807) :
  Calls Tryz.prog 3 #[.slice a0 l0.length c0] w fun e w'=>e=.returned (.bool true)/\Below w.heap.size w w' :=
 echoTells_any l0 a0 c0 w hT h0 hb0
end
section
open Go.ChangeShapes Go.WideShapes Go.ChangeAt Go.RowKit Go.Deep
theorem getElem?_ofRange {α:Type} {f:Nat->α} {n i:Nat} {v:α} (h:((List.range n).map f)[i]?=some v):i<n/\f i=v:=by
 rw[List.getElem?_map] at h;obtain⟨j,hj,rfl⟩:=Option.map_eq_some_iff.1 h;obtain⟨hi,rfl⟩:=List.getElem?_eq_some_iff.1 hj;rw[List.length_range] at hi;exact⟨hi,by simp⟩
section
variable {H:Type} {enc:TypeId × Value->H} {P:Program} {w:World} {base:Nat} {spare:Nat->Bool} {held:Bool}
variable {tH tOO tO tVV tV tN tB:TypeId} {h0 h1 o0 o1 v0 v1:Field}
end
end
section
open Go.ChangeShapes Go.WideShapes Go.ChangeAt Go.RowKit Go.Deep
theorem open_ints {H:Type} {enc:TypeId × Value->H} {P:Program} {w:World} {base:Nat} {held:Bool} {tS tN:TypeId} (hS:P.underlying tS=some (.slice tN)) (cN:P.cellsOf tN=1) (hN:P.underlying tN=some (.int .i64))
  {v:Value} {d:DataW H} {p:List MemPlace} {r:Reach} {b0:Nat} (hv:Value.okWide P w r b0 tS v) (h:DataW.Trod enc P w base (fun _=>true) held tS v d p) :
  ∃ (ao:Option Addr) (l:List Int) (cap:Nat),v=.slice ao l.length cap/\IntsAt w ao l/\∀ n∈l,-9223372036854775808<=n/\n<=9223372036854775807:=by
 obtain⟨a0,n0,c0,rfl⟩:=okWide_slice hS hv;obtain⟨fuel,hf⟩:=h
 rcases open_slice hS hf with⟨hcs,hx⟩ | ⟨a,len,cap,m,n,D,Pl,hcs,_,hl,hm,hmm,hx,hel⟩
 ·simp only[Value.cells,List.cons.injEq,and_true,Value.slice.injEq] at hcs
  obtain⟨rfl,rfl,rfl⟩:=hcs;exact⟨none,[],0,rfl,fun i v hi=>by simp at hi,fun n hn=>by simp at hn⟩
 ·simp only[Value.cells,List.cons.injEq,and_true,Value.slice.injEq] at hcs
  obtain⟨rfl,rfl,rfl⟩:=hcs
  try simp only[if_true] at hmm
  rw[cN] at hel;obtain⟨z,hz⟩:=choose_lt (α:=Int) (n:=m) (p:=fun i z=>w.cells? base (a.add (i*1)) 1=some [.int .i64 z]/\(-9223372036854775808<=z/\z<=9223372036854775807)) (fun i hi=>by
   obtain⟨cs',hc,ht⟩:=hel i hi;obtain⟨x,rfl,_,w0⟩:=DataW.trod_int hN ht;exact⟨x,hc,bounds_i64 w0⟩)
  refine⟨some a,(List.range n0).map (fun i=>z i),c0,by simp,fun i v hi=>?_,fun v hv=>?_⟩
  ·obtain⟨hi',rfl⟩:=getElem?_ofRange hi
   obtain⟨_,_,hc0⟩:=World.cells?_some (hz 0 (by omega)).1;obtain⟨_,_,hc⟩:=World.cells?_some (hz i (by omega)).1;obtain⟨b,o,sp⟩:=a;have hsp:sp=none:=by
    have:=World.cell?_spot ((hc0 0 (by omega)).trans rfl)
    simpa[Addr.add] using this
   subst hsp;have d0:=hc 0 (by omega);rw[add_plain,add_plain] at d0;exact⟨b,o,rfl,by simpa using d0⟩
  ·obtain⟨i,hi,rfl⟩:=List.mem_map.1 hv
   have:=List.mem_range.1 hi;exact(hz i (by omega)).2
end
section
open Go.ChangeShapes Go.WideShapes Go.ChangeAt Go.RowKit
theorem and_up {a b:Bool} (ha:a=true) (hb:b=true):(a && b)=true:=by rw[ha,hb];rfl
theorem echoTells_facts:joinedFacts Tryz.prog 3 Tryz.f3 Rows.echoTellsSpec Rows.echoTellsRow=true:=by
 unfold joinedFacts
 refine and_up ?_ (by as_aux_lemma=>kernel_rfl);refine and_up ?_ (by as_aux_lemma=>kernel_rfl);refine and_up ?_ (by as_aux_lemma=>kernel_rfl);refine and_up ?_ (by as_aux_lemma=>kernel_rfl);refine and_up ?_ (by as_aux_lemma=>kernel_rfl);refine and_up ?_ (by as_aux_lemma=>kernel_rfl);refine and_up ?_ (by as_aux_lemma=>kernel_rfl);refine and_up ?_ (by as_aux_lemma=>kernel_rfl);refine and_up ?_ (by as_aux_lemma=>kernel_rfl)
 refine and_up ?_ (by as_aux_lemma=>kernel_rfl);refine and_up ?_ (by as_aux_lemma=>kernel_rfl);refine and_up ?_ (by as_aux_lemma=>kernel_rfl);refine and_up ?_ (by as_aux_lemma=>kernel_rfl);refine and_up ?_ (by as_aux_lemma=>kernel_rfl);refine and_up ?_ (by as_aux_lemma=>kernel_rfl);refine and_up ?_ (by as_aux_lemma=>kernel_rfl);refine and_up ?_ (by as_aux_lemma=>kernel_rfl);refine and_up ?_ (by as_aux_lemma=>kernel_rfl)
 refine and_up ?_ (by as_aux_lemma=>kernel_rfl);refine and_up ?_ (by as_aux_lemma=>kernel_rfl);refine and_up ?_ (by as_aux_lemma=>kernel_rfl);refine and_up ?_ (by as_aux_lemma=>kernel_rfl);refine and_up ?_ (by as_aux_lemma=>kernel_rfl);refine and_up ?_ (by as_aux_lemma=>kernel_rfl);refine and_up ?_ (by as_aux_lemma=>kernel_rfl);refine and_up ?_ (by as_aux_lemma=>kernel_rfl);refine and_up ?_ (by as_aux_lemma=>kernel_rfl)
 refine and_up ?_ (by as_aux_lemma=>kernel_rfl);refine and_up ?_ (by as_aux_lemma=>kernel_rfl);refine and_up ?_ (by as_aux_lemma=>kernel_rfl);refine and_up ?_ (by as_aux_lemma=>kernel_rfl)
 as_aux_lemma=>kernel_rfl
end
end Go.Proofs.YtepifccbbmdfcaaGreatDoor
