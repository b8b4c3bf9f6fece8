/- ADead HDrop. -/
import Derived.Test.YtddokajfafmhhaaGreatDoorCHBoxes
import Derived.Test.YtddokajfafmhhaaGreatDoorCHHeld
import Derived.Test.YtddokajfafmhhaaGreatDoorCHLaws3
namespace Go.Proofs.YtddokajfafmhhaaGreatDoor
section
open Go.RowKit Go.Maps
set_option maxHeartbeats 1600000 in
theorem leadsToDead_any (M:Int) (ao:Option Addr) (cap:Nat) (l:List Ob) (k n:Int) (w:World) (h:ObsAt w ao l) (hA:hMay M l [⟨k,n⟩] = true) :
  Calls Tryz.prog 131 #[.agg #[.int .i64 M,.slice ao l.length cap],.agg #[.int .i64 k,.int .i64 n]] w fun e w' => e = .returned (.bool ((reach l [⟨k,n⟩]).any fun p => (obAt l p).dead)) ∧ Below w.heap.size w w':=by
 have hE:∀ wy,Keeps w wy → ObsAt wy ao l:=fun wy hk => h.keeps hk
 have hone:Aside (∀ wy:World,ValsAt (wy.alloc (.cells #[.int .i64 k,.int .i64 n] 86)) (some ⟨wy.heap.size,0,none⟩) [⟨k,n⟩]):=fun wy => vals_one wy k n _
 clear h
 obtain ⟨N0,N1,k1,b1,hs'⟩:=boxes2 w (Obj.cells #[.int .i64 M,.slice ao l.length cap] 39) (Obj.cells #[.int .i64 k,.int .i64 n] 86)
 have hl60:=hMay_bound hA
 have hok:=reach_ok hA [⟨k,n⟩] (hMay_roots' hA)
 have hol:=hok.len
 go_enter Tryz.func131,Tryz.ntmps131
 go_upto_region 1 with fail
 generalize (w.alloc (Obj.cells #[.int .i64 M,.slice ao l.length cap] 39)).alloc (Obj.cells #[.int .i64 k,.int .i64 n] 86) = W at *
 have hs:w.heap.size + 1 + 1 ≤ W.heap.size:=Nat.le_of_eq hs'.symm
 clear hs'
 have c0:=cell_blk N0 0
 have c1:=cell_blk N0 1
 have c2:=cell_blk N1 0
 have c3:=cell_blk N1 1
 simp at c0 c1 c2 c3
 go_wp2_with fail
 obtain ⟨-,ka,ba,-⟩:=boxes1 W (Obj.cells #[.int .i64 k,.int .i64 n] 86)
 have hv1:=hone.out W
 generalize W.alloc (Obj.cells #[.int .i64 k,.int .i64 n] 86) = Wa at *
 refine (reach_any M ao cap l _ 1 [⟨k,n⟩] Wa (hE _ (k1.trans ka)) hv1 (by simp)).mono ?_
 have hRS:reachS M l [⟨k,n⟩] = (reach l [⟨k,n⟩],0):=by rw [reachS,if_pos hA]
 rw [hRS]
 simp only
 rintro e w3 ⟨ov,oc,rfl,hb3,hI⟩
 have bb:Below W.heap.size W w3:=ba.trans (hb3.mono ba.size)
 have hA3:=hI.at
 have hob:=hE _ (k1.trans (Keeps.below bb))
 replace c1:=Keeps.below bb _ _ c1
 replace b1:=b1.trans (bb.mono b1.size)
 clear hb3 bb hv1 ka ba c0 c2 c3 N0 N1 hI hRS hone
 obtain ⟨rr,hrr⟩:∃ rr,rr = reach l [⟨k,n⟩]:=⟨_,rfl⟩
 have HRR:Aside (rr = reach l [⟨k,n⟩]):=hrr
 rw [← hrr] at hA3 hok hol ⊢
 clear hrr
 obtain ⟨R,hR⟩:∃ R,R = rr.length:=⟨_,rfl⟩
 have HR:Aside (R = rr.length):=hR
 rw [← hR] at hol ⊢
 clear hR
 go_wp2
 go_loopg [18,8] R (fun g s18 s8 wr => ∃ i:Nat,i ≤ R ∧ g = R - i ∧ s18 = .int .i64 i ∧ wr = w3 ∧ Aside (∀ p ∈ rr.take i,(obAt l p).dead = false))
 case atStart => exact ⟨0,Nat.zero_le _,rfl,rfl,rfl,fun p hp => by simp at hp⟩
 case round =>
  obtain ⟨i,hi,rfl,rfl,rfl,hD⟩:=hrel
  by_cases hiR:i < R
  ·have hiz:(i:Int) < (R:Int):=by omega
   obtain ⟨p,hp⟩:=at_some (l:=rr) (i:=i) (by rw [← HR.out]; exact hiR)
   have hpm:=List.mem_of_getElem? hp
   have hpb:=hok.2 p hpm
   obtain ⟨q,rfl⟩:=Int.eq_ofNat_of_zero_le hpb.1
   have hqz:(q:Int) < (l.length:Int):=hpb.2
   obtain ⟨⟨fs,dead⟩,hx⟩:=at_some (l:=l) (i:=q) (by omega)
   have hd:Aside ((obAt l (q:Int)).dead = dead):=by show (obAt l (q:Int)).dead = dead; simp [obAt,hx]
   have HTK:Aside (rr.take (i + 1) = rr.take i ++ [(q:Int)]):=by show rr.take (i + 1) = _; rw [List.take_add_one,hp]; rfl
   obtain ⟨b,o,fa,fc,rfl,d1,d2,_,_⟩:=hob.cell q _ hx
   obtain ⟨ib,io,rfl,d3⟩:=hA3 i _ hp
   simp only at d1 d2
   have HPM:Aside ((q:Int) ∈ rr):=hpm
   clear hp hx hpm
   cases dead with
   | true =>
    have HS:Aside (rr.any (fun p => (obAt l p).dead) = true):=List.any_eq_true.2 ⟨_,HPM.out,hd.out⟩
    go_wp2
    go_ret
    exact ⟨by rw [← HRR.out,HS.out]; rfl,b1⟩
   | false =>
    go_wp2
    go_roundg (R - (i + 1))
    case measure => go_light; omega
    case rel => go_light; exact ⟨i + 1,by omega,rfl,by go_num,rfl,fun p hp => by rw [HTK.out] at hp; rcases List.mem_append.1 hp with hp | hp; exact hD.out p hp; simp at hp; rw [hp]; exact hd.out⟩
  ·have hnone:Aside (rr.any (fun p => (obAt l p).dead) = false):=by
    show rr.any _ = false
    rw [List.any_eq_false]
    intro p hp
    have:=hD.out p (by rw [List.take_of_length_le (by rw [← HR.out]; omega)]; exact hp)
    simp [this]
   go_wp2
   go_ret
   exact ⟨by rw [← HRR.out,hnone.out]; rfl,b1⟩
end
section
theorem wpAnyN_drop {P:Program} {ops:Array Oper} {Q:Exit → Act → World → Prop} {md:Region.Mode} {S:World → Prop} {need:Nat → Bool} {i:Nat} {oi:Oper} {fuel:Nat} {listed:Array Bool} {a:Act} {w:World} (hi:ops[i]? = some oi)
  (hs:Region.noSelect ops = true) (hf:Region.free md ops listed i = true) (hr:(Region.ready md ops listed).contains i = true) (hn:(waits md ops need i && closedB md ops listed) = true)
  (hQ:∀ c a w,Q (.panic c) (a.put oi.dst undef) w → Q (.panic c) a w) (hw:Region.wanted oi (yielded ops a.tmps) = false) (hS:S w)
  (h:wpAnyN P md ops Q S need fuel (listed.setIfInBounds i true) (a.put oi.dst undef) w):wpAnyN P md ops Q S need (fuel + 1) listed a w :=
 have hn':=Bool.and_eq_true_iff.1 hn
 wpAnyN_first hi (Region.noSelect_spec hs) hQ (waits_spec hn'.1) fuel listed a w (closed_spec hn'.2) (Region.free_spec hi hf) (by simpa using hr) (Or.inr ⟨hw,rfl⟩) hS h
open Go.RowKit in
theorem skN {P:Program} {ops:Array Oper} {Q:Exit → Act → World → Prop} {md:Region.Mode} {S:World → Prop} {need:Nat → Bool} (i:Nat) {oi:Oper} {fuel:Nat} {listed:Array Bool} {a a':Act} {w:World} (hS:S w) (h:wpAnyN P md ops Q S need fuel (listed.setIfInBounds i true) a' w)
  (hi:ops[i]? = some oi:=by rfl) (hs:Region.noSelect ops = true:=by kernel_rfl) (hf:Region.free md ops listed i = true:=by kernel_rfl) (hr:(Region.ready md ops listed).contains i = true:=by kernel_rfl)
  (hn:(waits md ops need i && closedB md ops listed) = true:=by kernel_rfl) (hw:Region.wanted oi (yielded ops a.tmps) = false:=by rfl)
  (hp:a.put oi.dst undef = a':=by simp only [Act.put,List.getElem_toArray,List.getElem_cons_zero,List.getElem_cons_succ,List.setIfInBounds_toArray,List.set_cons_zero,List.set_cons_succ]; exact rfl)
  (hQ:∀ c a w,Q (.panic c) (a.put oi.dst undef) w → Q (.panic c) a w:=by exact fun _ _ _ h => h) :
  wpAnyN P md ops Q S need (fuel + 1) listed a w :=
 wpAnyN_drop hi hs hf hr hn hQ hw hS (hp ▸ h)
end
end Go.Proofs.YtddokajfafmhhaaGreatDoor
