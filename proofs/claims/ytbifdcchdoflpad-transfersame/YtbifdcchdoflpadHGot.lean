/- The walks of Get and GotOf: a field of an object. -/
import Derived.Test.YtbifdcchdoflpadHGet
import Derived.Test.YtbifdcchdoflpadHLaws
import Derived.WalkKit
import Derived.WalkSpells
import Derived.WalkLawsBesides
import Derived.Deep.LoopGhost
import Derived.Deep.Light
import Derived.Deep.QuietTactic
import Derived.BigQuiet
import Derived.BigRegion
namespace Go.Proofs.Ytbifdcchdoflpad
open Go.RowKit

/-- What Get answers: the value, the error. -/
def getS (M : Int) (l : List Ob) (v : Vl) (f : Int) : Vl × Int :=
  if hMay M l [v] = false then (⟨0, 0⟩, 8) else if fieldErr l v f ≠ 0 then (⟨0, 0⟩, fieldErr l v f)
  else match l[v.n.toNat]? with
    | none => (⟨0, 0⟩, 0)
    | some o => match o.fs[f.toNat]? with
      | none => (⟨0, 0⟩, 0)
      | some x => (x, 0)

theorem hMay_vMay {M : Int} {l : List Ob} {r : List Vl} (h : hMay M l r = true) {v : Vl} (hv : v ∈ r) : vMay l.length v = true := by
  simp only [hMay, Bool.and_eq_true] at h
  exact List.all_eq_true.1 h.2 v hv

/-- Where no error is, there is a field. -/
theorem field_there {l : List Ob} {v : Vl} {f : Int} (hv : vMay l.length v = true) (he : fieldErr l v f = 0) : v.k = 2 ∧ ∃ (p q : Nat) (o : Ob) (x : Vl), v.n = p ∧ f = q ∧ l[p]? = some o ∧ o.fs[q]? = some x ∧ o.dead = false := by
  by_cases hk : v.k = 2
  · obtain ⟨p, o, hp, hlt, ho⟩ := ref_place hv hk
    simp only [fieldErr, hk, hp, Int.toNat_natCast, ho] at he
    cases hd : o.dead with
    | true => simp [hd] at he
    | false =>
      simp only [hd] at he
      by_cases hf : f < 0 ∨ (o.fs.length : Int) ≤ f
      · simp [hf] at he
      · obtain ⟨q, hq⟩ := Int.eq_ofNat_of_zero_le (show 0 ≤ f by omega)
        have hql : q < o.fs.length := by omega
        exact ⟨hk, p, q, o, o.fs[q], hp, hq, ho, List.getElem?_eq_getElem hql, hd⟩
  · simp [fieldErr, hk] at he

/-- A struct of two cells, written. -/
theorem two_cells {W : World} {N1 : Nat} {a0 a1 : Value} {t1 : TypeId} (h1 : W.heap[N1]? = some (.cells #[a0, a1] t1 (0, 0))) (x y : Value) :
    ((W.setCell ⟨N1, 0, none⟩ x).setCell ⟨N1, 1, none⟩ y).cell? ⟨N1, 0, none⟩ = some x ∧ ((W.setCell ⟨N1, 0, none⟩ x).setCell ⟨N1, 1, none⟩ y).cell? ⟨N1, 1, none⟩ = some y := by
  have m1 := setCell_blk (setCell_blk h1 0 x) 1 y
  exact ⟨by simp [World.cell?, m1], by simp [World.cell?, m1]⟩

theorem vals_one (w : World) (k n : Int) (t : TypeId) : ValsAt (w.alloc (.cells #[.int .i64 k, .int .i64 n] t)) (some ⟨w.heap.size, 0, none⟩) [⟨k, n⟩] := fun i v hi => by
  match i, hi with
  | 0, hi =>
    simp at hi
    subst hi
    exact ⟨_, _, rfl, by simp, by simp⟩

set_option maxHeartbeats 1600000 in
theorem get_any (M : Int) (ao : Option Addr) (cap : Nat) (l : List Ob) (k n f : Int) (w : World) (h : ObsAt w ao l) :
    Calls Try.prog 13 #[.agg #[.int .i64 M, .slice ao l.length cap], .agg #[.int .i64 k, .int .i64 n], .int .i64 f] w fun e w' =>
      e = .returned (.tuple #[.agg #[.int .i64 (getS M l ⟨k, n⟩ f).1.k, .int .i64 (getS M l ⟨k, n⟩ f).1.n], .int .i64 (getS M l ⟨k, n⟩ f).2]) ∧ Below w.heap.size w w' := by
  obtain ⟨r, hr⟩ : ∃ r, r = getS M l ⟨k, n⟩ f := ⟨_, rfl⟩
  have HR : Aside (r = getS M l ⟨k, n⟩ f) := hr
  rw [← hr]
  clear hr
  go_enter Try.func13, Try.ntmps13
  go_wp2_with fail
  have HB := boxes4 w (Obj.cells #[.int .i64 M, .slice ao l.length cap] 25) (Obj.cells #[.int .i64 k, .int .i64 n] 30) (Obj.cells #[.int .i64 0, .int .i64 0] 30) (Obj.cells #[.int .i64 k, .int .i64 n] 30)
  have hv1 := vals_one (((w.alloc (Obj.cells #[.int .i64 M, .slice ao l.length cap] 25)).alloc (Obj.cells #[.int .i64 k, .int .i64 n] 30)).alloc (Obj.cells #[.int .i64 0, .int .i64 0] 30)) k n 30
  simp only [Deep.nblk_alloc] at hv1
  generalize (((w.alloc (Obj.cells #[.int .i64 M, .slice ao l.length cap] 25)).alloc (Obj.cells #[.int .i64 k, .int .i64 n] 30)).alloc (Obj.cells #[.int .i64 0, .int .i64 0] 30)).alloc (Obj.cells #[.int .i64 k, .int .i64 n] 30) = W at *
  obtain ⟨N0, N1, N2, N3, k1, b1, hs⟩ := HB
  clear N3
  refine (check_any M ao cap l _ 1 [⟨k, n⟩] W (h.keeps k1) hv1 (by simp)).mono ?_
  rintro e w1 ⟨rfl, hb⟩
  replace N0 := (hb.block _ (by omega)).trans N0
  replace N1 := (hb.block _ (by omega)).trans N1
  replace N2 := (hb.block _ (by omega)).trans N2
  replace b1 := b1.trans (hb.mono (by omega))
  replace k1 := k1.trans (Keeps.below hb)
  replace hs : w.heap.size + 1 + 1 + 1 ≤ w1.heap.size := by have := hb.size; omega
  clear hb hv1
  clear W
  have c2 : w1.cell? ⟨w.heap.size + 1 + 1, 0, none⟩ = some (.int .i64 0) := by simp [World.cell?, N2]
  have c3 : w1.cell? ⟨w.heap.size + 1 + 1, 1, none⟩ = some (.int .i64 0) := by simp [World.cell?, N2]
  have f2 : ∀ j, w1.frozen? ⟨w.heap.size + 1 + 1, j, none⟩ = false := fun j => by simp [World.frozen?, N2]
  cases hq : hMay M l [⟨k, n⟩] with
  | false =>
    have HE : Aside (r = (⟨0, 0⟩, 8)) := by show r = _; rw [HR.out, getS, if_pos hq]
    clear HR
    simp only [erS_false]
    go_wp2
    obtain ⟨m1, m2⟩ := two_cells N2 (.int .i64 0) (.int .i64 0)
    refine bodyPost_ret (v := .tuple #[.agg #[.int .i64 0, .int .i64 0], .int .i64 8]) (by simp [results, Try.results13, go_sem, m1, m2]) rfl ⟨by rw [HE.out], ?_⟩
    exact (b1.setCell (by show w.heap.size ≤ w.heap.size + 1 + 1; omega) _).setCell (by show w.heap.size ≤ w.heap.size + 1 + 1; omega) _
  | true =>
    simp only [erS_true]
    have hvm := hMay_vMay hq (v := ⟨k, n⟩) (by simp)
    have p0 : w1.cell? ⟨w.heap.size, 0, none⟩ = some (.int .i64 M) := by simp [World.cell?, N0]
    have p1 : w1.cell? ⟨w.heap.size, 1, none⟩ = some (.slice ao l.length cap) := by simp [World.cell?, N0]
    have p2 : w1.cell? ⟨w.heap.size + 1, 0, none⟩ = some (.int .i64 k) := by simp [World.cell?, N1]
    have p3 : w1.cell? ⟨w.heap.size + 1, 1, none⟩ = some (.int .i64 n) := by simp [World.cell?, N1]
    go_wp2_with fail
    refine (checkField_any M ao cap l k n f w1 (h.keeps k1) hvm).mono ?_
    rintro e w2 ⟨rfl, hb2⟩
    replace N0 := (hb2.block _ (by omega)).trans N0
    replace N1 := (hb2.block _ (by omega)).trans N1
    replace N2 := (hb2.block _ (by omega)).trans N2
    replace b1 := b1.trans (hb2.mono (by omega))
    replace k1 := k1.trans (Keeps.below hb2)
    clear hb2 p0 p1 p2 p3 c2 c3 f2
    have p1 : w2.cell? ⟨w.heap.size, 1, none⟩ = some (.slice ao l.length cap) := by simp [World.cell?, N0]
    have p3 : w2.cell? ⟨w.heap.size + 1, 1, none⟩ = some (.int .i64 n) := by simp [World.cell?, N1]
    have c2 : w2.cell? ⟨w.heap.size + 1 + 1, 0, none⟩ = some (.int .i64 0) := by simp [World.cell?, N2]
    have c3 : w2.cell? ⟨w.heap.size + 1 + 1, 1, none⟩ = some (.int .i64 0) := by simp [World.cell?, N2]
    have f2 : ∀ j, w2.frozen? ⟨w.heap.size + 1 + 1, j, none⟩ = false := fun j => by simp [World.frozen?, N2]
    by_cases he : fieldErr l ⟨k, n⟩ f = 0
    · obtain ⟨hk2, p, q, ob, x, hp, hqf, hob, hx, _⟩ := field_there hvm he
      simp only at hk2 hp
      have HE : Aside (r = (x, 0)) := by show r = _; rw [HR.out, getS, if_neg (by simp [hq]), if_neg (by simp [he])]; simp [hp, hqf, hob, hx]
      rw [he]
      clear he hq HR hvm
      subst hk2 hp hqf
      obtain ⟨xk, xn⟩ := x
      obtain ⟨fs, dead⟩ := ob
      obtain ⟨b, o, fa, fc, rfl, d1, d2, hfs, hfl⟩ := (h.keeps k1).cell p _ hob
      simp only at d1 d2 hfs hx hfl
      obtain ⟨fb, fo, rfl, e1, e2⟩ := hfs q _ hx
      simp only at e1 e2
      have hpz : (p : Int) < (l.length : Int) := by have := (List.getElem?_eq_some_iff.1 hob).1; omega
      have hqz : (q : Int) < (fs.length : Int) := by have := (List.getElem?_eq_some_iff.1 hx).1; omega
      clear hob hx hfs
      go_wp2
      obtain ⟨m1, m2⟩ := two_cells N2 (.int .i64 xk) (.int .i64 xn)
      refine bodyPost_ret (v := .tuple #[.agg #[.int .i64 xk, .int .i64 xn], .int .i64 0]) (by simp [results, Try.results13, go_sem, m1, m2]) rfl ⟨by rw [HE.out], ?_⟩
      exact (b1.setCell (by show w.heap.size ≤ w.heap.size + 1 + 1; omega) _).setCell (by show w.heap.size ≤ w.heap.size + 1 + 1; omega) _
    · have HE : Aside (r = (⟨0, 0⟩, fieldErr l ⟨k, n⟩ f)) := by show r = _; rw [HR.out, getS, if_neg (by simp [hq]), if_pos he]
      have hne : (fieldErr l ⟨k, n⟩ f != 0) = true := by simp [he]
      clear HR he hq
      go_wp2
      obtain ⟨m1, m2⟩ := two_cells N2 (.int .i64 0) (.int .i64 0)
      refine bodyPost_ret (v := .tuple #[.agg #[.int .i64 0, .int .i64 0], .int .i64 (fieldErr l ⟨k, n⟩ f)]) (by simp [results, Try.results13, go_sem, m1, m2]) rfl ⟨by rw [HE.out], ?_⟩
      exact (b1.setCell (by show w.heap.size ≤ w.heap.size + 1 + 1; omega) _).setCell (by show w.heap.size ≤ w.heap.size + 1 + 1; omega) _

end Go.Proofs.Ytbifdcchdoflpad
