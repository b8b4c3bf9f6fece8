/- What goes to another heap: the walks of transferable and bury. -/
import Derived.Test.YtbifdcchdoflpadHMoveO
import Derived.Test.YtbifdcchdoflpadHGot
import Derived.WalkKit
import Derived.WalkSpells
import Derived.WalkLawsBesides
import Derived.Deep.LoopGhost
import Derived.Deep.Light
namespace Go.Proofs.Ytbifdcchdoflpad
open Go.RowKit Go.Maps

/-- What transferable answers. -/
def trS (M : Int) (l : List Ob) (v : Vl) (M' : Int) (l' : List Ob) : List Int × Int :=
  if (hMay M l [v] && hMay M' l' []) = true then
    if (reach l [v]).any (fun p => (obAt l p).dead) = true then ([], 10)
    else if M' < ((l'.length + (reach l [v]).length : Nat) : Int) then ([], 7)
    else (reach l [v], 0)
  else ([], 8)

theorem mMay_of {M : Int} {l : List Ob} {r : List Vl} (h : hMay M l r = true) : 0 ≤ M ∧ M ≤ 60 := by
  simp only [hMay, mMay, Bool.and_eq_true, decide_eq_true_eq] at h
  omega

set_option maxHeartbeats 1600000 in
theorem transferable_any (M : Int) (ao : Option Addr) (cap : Nat) (l : List Ob) (k n : Int) (M' : Int) (ao' : Option Addr) (cap' : Nat) (l' : List Ob) (w : World) (h : ObsAt w ao l) (h' : ObsAt w ao' l') :
    Calls Try.prog 21 #[.agg #[.int .i64 M, .slice ao l.length cap], .agg #[.int .i64 k, .int .i64 n], .agg #[.int .i64 M', .slice ao' l'.length cap']] w fun e w' =>
      ∃ ov oc, e = .returned (.tuple #[.slice ov (trS M l ⟨k, n⟩ M' l').1.length oc, .int .i64 (trS M l ⟨k, n⟩ M' l').2]) ∧ Below w.heap.size w w' ∧ IntsOwn w' w.heap.size (.slice ov (trS M l ⟨k, n⟩ M' l').1.length oc) (trS M l ⟨k, n⟩ M' l').1 := by
  have hE : ∀ wy, Keeps w wy → ObsAt wy ao l ∧ ObsAt wy ao' l' := fun wy hk => ⟨h.keeps hk, h'.keeps hk⟩
  have hone : Aside (∀ wy : World, ValsAt (wy.alloc (.cells #[.int .i64 k, .int .i64 n] 30)) (some ⟨wy.heap.size, 0, none⟩) [⟨k, n⟩]) := fun wy => vals_one wy k n _
  clear h h'
  go_enter Try.func21, Try.ntmps21
  go_upto_region 1 with fail
  have HB := boxes3 w (Obj.cells #[.int .i64 M, .slice ao l.length cap] 25) (Obj.cells #[.int .i64 k, .int .i64 n] 30) (Obj.cells #[.int .i64 M', .slice ao' l'.length cap'] 25)
  obtain ⟨N0, N1, N2, k1, b1, hs'⟩ := HB
  generalize ((w.alloc (Obj.cells #[.int .i64 M, .slice ao l.length cap] 25)).alloc (Obj.cells #[.int .i64 k, .int .i64 n] 30)).alloc (Obj.cells #[.int .i64 M', .slice ao' l'.length cap'] 25) = W at *
  have hs : w.heap.size + 1 + 1 + 1 ≤ W.heap.size := Nat.le_of_eq hs'.symm
  clear hs'
  have c0 := cell_blk N0 0
  have c1 := cell_blk N0 1
  have c2 := cell_blk N1 0
  have c3 := cell_blk N1 1
  simp at c0 c1 c2 c3
  go_wp2_with fail
  obtain ⟨-, ka, ba, -⟩ := boxes1 W (Obj.cells #[.int .i64 k, .int .i64 n] 30)
  have hv1 := hone.out W
  generalize W.alloc (Obj.cells #[.int .i64 k, .int .i64 n] 30) = Wa at *
  refine (check_any M ao cap l _ 1 [⟨k, n⟩] Wa (hE _ (k1.trans ka)).1 hv1 (by simp)).mono ?_
  rintro e w1 ⟨rfl, hb1⟩
  have bb : Below W.heap.size W w1 := ba.trans (hb1.mono ba.size)
  replace N0 := (bb.block _ (by omega)).trans N0
  replace N1 := (bb.block _ (by omega)).trans N1
  replace N2 := (bb.block _ (by omega)).trans N2
  replace k1 := k1.trans (Keeps.below bb)
  replace b1 := b1.trans (bb.mono b1.size)
  replace hs : w.heap.size + 1 + 1 + 1 ≤ w1.heap.size := by have := bb.size; omega
  have hv2 := fun wy => hone.out wy
  clear hb1 ka ba hv1 bb c0 c1 c2 c3 hone
  have c0 := cell_blk N0 0
  have c1 := cell_blk N0 1
  have c2 := cell_blk N1 0
  have c3 := cell_blk N1 1
  have c4 := cell_blk N2 0
  have c5 := cell_blk N2 1
  simp at c0 c1 c2 c3 c4 c5
  cases hA : hMay M l [⟨k, n⟩] with
  | false =>
    have HS : Aside (trS M l ⟨k, n⟩ M' l' = ([], 8)) := by show trS _ _ _ _ _ = _; simp [trS, hA]
    rw [erS_false]
    go_wp2
    go_ret2
    rw [HS.out]
    exact ⟨none, 0, rfl, b1, World.ownsRow_nil _ _ _ _⟩
  | true =>
    rw [erS_true]
    have hck := check_any M' ao' cap' l' none 0 [] w1 (hE _ k1).2 (fun i v hi => by simp at hi) (by simp)
    go_wp2_with fail
    refine hck.mono ?_
    clear hck
    rintro e w2 ⟨rfl, hb2⟩
    replace N0 := (hb2.block _ (by omega)).trans N0
    replace N2 := (hb2.block _ (by omega)).trans N2
    replace k1 := k1.trans (Keeps.below hb2)
    replace b1 := b1.trans (hb2.mono b1.size)
    replace hs : w.heap.size + 1 + 1 + 1 ≤ w2.heap.size := by have := hb2.size; omega
    replace c0 := Keeps.below hb2 _ _ c0
    replace c1 := Keeps.below hb2 _ _ c1
    replace c2 := Keeps.below hb2 _ _ c2
    replace c3 := Keeps.below hb2 _ _ c3
    replace c4 := Keeps.below hb2 _ _ c4
    replace c5 := Keeps.below hb2 _ _ c5
    clear hb2 N1
    cases hB : hMay M' l' [] with
    | false =>
      have HS : Aside (trS M l ⟨k, n⟩ M' l' = ([], 8)) := by show trS _ _ _ _ _ = _; simp [trS, hB]
      rw [erS_false]
      go_wp2
      go_ret2
      rw [HS.out]
      exact ⟨none, 0, rfl, b1, World.ownsRow_nil _ _ _ _⟩
    | true =>
      rw [erS_true]
      have hl60 := hMay_bound hA
      have hl60' := hMay_bound hB
      have hM60 := mMay_of hB
      have hok := reach_ok hA [⟨k, n⟩] (hMay_roots' hA)
      have hol := hok.len
      obtain ⟨-, ka, ba, -⟩ := boxes1 w2 (Obj.cells #[.int .i64 k, .int .i64 n] 30)
      have hv1 := hv2 w2
      go_upto_region 4 with (go_at_call 20; refine (reached_any M ao cap l _ 1 [⟨k, n⟩] _ (hE _ (k1.trans ka)).1 hv1 (by simp) hA).mono ?_; rintro e w3 ⟨ov, oc, rfl, hb3, hI⟩; have bb : Below w2.heap.size w2 w3 := ba.trans (hb3.mono ba.size); have kb := Keeps.below bb; replace c1 := kb _ _ c1; replace c4 := kb _ _ c4; replace c5 := kb _ _ c5)
      have hI3 : IntsOwn w3 w.heap.size _ _ := ownsRow_le hI (by have := ba.size; omega)
      have hA3 := hI.at
      have hob := (hE _ (k1.trans kb)).1
      replace b1 := b1.trans (bb.mono b1.size)
      clear hb3 kb bb hv1 ka ba hv2 c0 c2 c3 N0 N2 hI
      obtain ⟨rr, hrr⟩ : ∃ rr, rr = reach l [⟨k, n⟩] := ⟨_, rfl⟩
      have HRR : Aside (rr = reach l [⟨k, n⟩]) := hrr
      rw [← hrr] at hI3 hA3 hok hol ⊢
      have HT : Aside (trS M l ⟨k, n⟩ M' l' = if rr.any (fun p => (obAt l p).dead) = true then ([], 10) else if M' < ((l'.length + rr.length : Nat) : Int) then ([], 7) else (rr, 0)) := by
        show trS _ _ _ _ _ = _
        rw [trS, hA, hB, ← hrr]
        rfl
      clear hrr
      obtain ⟨R, hR⟩ : ∃ R, R = rr.length := ⟨_, rfl⟩
      have HR : Aside (R = rr.length) := hR
      rw [← hR] at hI3 hol ⊢
      clear hR
      go_wp2
      go_loopg [27, 10] R (fun g s27 s10 wr => ∃ i : Nat, i ≤ R ∧ g = R - i ∧ s27 = .int .i64 i ∧ wr = w3 ∧ Aside (∀ p ∈ rr.take i, (obAt l p).dead = false))
      case atStart => exact ⟨0, Nat.zero_le _, rfl, rfl, rfl, fun p hp => by simp at hp⟩
      case round =>
        obtain ⟨i, hi, rfl, rfl, rfl, hD⟩ := hrel
        by_cases hiR : i < R
        · have hiz : (i : Int) < (R : Int) := by omega
          obtain ⟨p, hp⟩ := at_some (l := rr) (i := i) (by rw [← HR.out]; exact hiR)
          have hpm := List.mem_of_getElem? hp
          have hpb := hok.2 p hpm
          obtain ⟨q, rfl⟩ := Int.eq_ofNat_of_zero_le hpb.1
          have hqz : (q : Int) < (l.length : Int) := hpb.2
          obtain ⟨⟨fs, dead⟩, hx⟩ := at_some (l := l) (i := q) (by omega)
          have hd : Aside ((obAt l (q : Int)).dead = dead) := by show (obAt l (q : Int)).dead = dead; simp [obAt, hx]
          have HTK : Aside (rr.take (i + 1) = rr.take i ++ [(q : Int)]) := by show rr.take (i + 1) = _; rw [List.take_add_one, hp]; rfl
          obtain ⟨b, o, fa, fc, rfl, d1, d2, _, _⟩ := hob.cell q _ hx
          obtain ⟨ib, io, rfl, d3⟩ := hA3 i _ hp
          simp only at d1 d2
          have HPM : Aside ((q : Int) ∈ rr) := hpm
          clear hp hx hpm
          cases dead with
          | true =>
            have HS : Aside (trS M l ⟨k, n⟩ M' l' = ([], 10)) := by
              show trS _ _ _ _ _ = _
              rw [HT.out, if_pos (List.any_eq_true.2 ⟨_, HPM.out, hd.out⟩)]
            go_wp2
            go_ret2
            rw [HS.out]
            exact ⟨none, 0, rfl, b1, World.ownsRow_nil _ _ _ _⟩
          | false =>
            go_wp2
            go_roundg (R - (i + 1))
            case measure => go_light; omega
            case rel => go_light; exact ⟨i + 1, by omega, rfl, by go_num, rfl, fun p hp => by rw [HTK.out] at hp; rcases List.mem_append.1 hp with hp | hp; exact hD.out p hp; simp at hp; rw [hp]; exact hd.out⟩
        · have hnone : Aside (rr.any (fun p => (obAt l p).dead) = false) := by
            show rr.any _ = false
            rw [List.any_eq_false]
            intro p hp
            have := hD.out p (by rw [List.take_of_length_le (by rw [← HR.out]; omega)]; exact hp)
            simp [this]
          by_cases hroom : M' < ((l'.length + R : Nat) : Int)
          · have HS : Aside (trS M l ⟨k, n⟩ M' l' = ([], 7)) := by
              show trS _ _ _ _ _ = _
              rw [HT.out, hnone.out, ← HR.out]
              simp
              omega
            have hz : M' < (l'.length : Int) + (R : Int) := by omega
            go_wp2
            go_ret2
            rw [HS.out]
            exact ⟨none, 0, rfl, b1, World.ownsRow_nil _ _ _ _⟩
          · have HS : Aside (trS M l ⟨k, n⟩ M' l' = (rr, 0)) := by
              show trS _ _ _ _ _ = _
              rw [HT.out, hnone.out, ← HR.out]
              simp
              omega
            have hz : decide (M' < (l'.length : Int) + (R : Int)) = false := by simp; omega
            go_wp2
            go_ret2
            rw [HS.out]
            refine ⟨ov, oc, by rw [HR.out]; rfl, b1, ?_⟩
            rw [← HR.out]
            exact hI3

end Go.Proofs.Ytbifdcchdoflpad
