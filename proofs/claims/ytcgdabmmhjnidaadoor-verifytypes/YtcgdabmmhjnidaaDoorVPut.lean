/- A struct is written whole into a block, cell by cell; rows of structs. -/
import Derived.WalkKit
import Derived.Deep.OwnRows
import Derived.Test.YtcgdabmmhjnidaaDoorHViews
namespace Go.Proofs.YtcgdabmmhjnidaaDoor
open Go.RowKit

/-- These cells are written one behind the other, from o on. -/
def putAt (w : World) (A o : Nat) : List Value → World
  | [] => w
  | x :: r => putAt (w.setCell ⟨A, o, none⟩ x) A (o + 1) r

theorem putAt_nil (w : World) (A o : Nat) : putAt w A o [] = w := rfl
theorem putAt_cons (w : World) (A o : Nat) (x : Value) (r : List Value) : putAt w A o (x :: r) = putAt (w.setCell ⟨A, o, none⟩ x) A (o + 1) r := rfl

theorem setBlk {w : World} {g : Nat} {cur : Array Value} {t : TypeId} {fr : Nat × Nat} (h : w.heap[g]? = some (.cells cur t fr)) (j : Nat) (u : Value) : (w.setCell ⟨g, j, none⟩ u).heap[g]? = some (.cells (cur.setIfInBounds j u) t fr) := by
  simp only [World.setCell, Array.getElem?_modify, h]
  simp

/-- A list with a part of it written anew. -/
def overAt (c : List Value) (o : Nat) : List Value → List Value
  | [] => c
  | x :: r => overAt (c.set o x) (o + 1) r

theorem overAt_length (c : List Value) (o : Nat) : ∀ xs : List Value, (overAt c o xs).length = c.length := by
  intro xs
  induction xs generalizing c o with
  | nil => rfl
  | cons x r ih => rw [overAt, ih]; simp

theorem overAt_get (c : List Value) (o : Nat) : ∀ (xs : List Value) (j : Nat), o + xs.length ≤ c.length → (overAt c o xs)[j]? = if o ≤ j ∧ j < o + xs.length then xs[j - o]? else c[j]? := by
  intro xs
  induction xs generalizing c o with
  | nil => intro j _; rw [overAt, if_neg (by simp)]
  | cons x r ih =>
    intro j hl
    rw [overAt, ih _ _ j (by simp at hl ⊢; omega)]
    simp only [List.length_cons] at hl ⊢
    by_cases h1 : o + 1 ≤ j ∧ j < o + 1 + r.length
    · rw [if_pos h1, if_pos (by omega), show j - o = (j - (o + 1)) + 1 by omega, List.getElem?_cons_succ]
    · rw [if_neg h1, List.getElem?_set]
      by_cases h2 : o = j
      · subst h2
        rw [if_pos rfl, if_pos (by omega), if_pos (by omega), Nat.sub_self]
        rfl
      · rw [if_neg h2, if_neg (by omega)]

theorem putAt_blk {g : Nat} {t : TypeId} {fr : Nat × Nat} : ∀ (xs : List Value) (o : Nat) {w : World} {cur : Array Value}, w.heap[g]? = some (.cells cur t fr) → (putAt w g o xs).heap[g]? = some (.cells (overAt cur.toList o xs).toArray t fr)
  | [], _, _, cur, h => by simpa [putAt, overAt] using h
  | x :: r, o, w, cur, h => by
    rw [putAt, putAt_blk r (o + 1) (setBlk h o x)]
    simp [overAt]

theorem cellBlk {w : World} {k : Nat} {c : Array Value} {t' : TypeId} (h : w.heap[k]? = some (.cells c t' (0, 0))) (j : Nat) : w.cell? ⟨k, j, none⟩ = c[j]? := by simp [World.cell?, h]

theorem overAt_whole (c : List Value) (xs : List Value) (h : xs.length = c.length) : overAt c 0 xs = xs := by
  refine List.ext_getElem? fun j => ?_
  rw [overAt_get _ _ _ _ (by omega)]
  by_cases hj : j < xs.length
  · rw [if_pos (by omega), Nat.sub_zero]
  · rw [if_neg (by omega), List.getElem?_eq_none (by omega), List.getElem?_eq_none (by omega)]

/-- A block that is written whole. -/
theorem putAt_whole {g : Nat} {t : TypeId} {fr : Nat × Nat} {w : World} {cur : Array Value} (h : w.heap[g]? = some (.cells cur t fr)) (xs : List Value) (hx : xs.length = cur.size) : (putAt w g 0 xs).heap[g]? = some (.cells xs.toArray t fr) := by
  rw [putAt_blk xs 0 h, overAt_whole _ _ (by simpa using hx)]

theorem putAt_other {g k : Nat} (hk : k ≠ g) : ∀ (xs : List Value) (o : Nat) {w : World}, (putAt w g o xs).heap[k]? = w.heap[k]?
  | [], _, _ => rfl
  | x :: r, o, w => by rw [putAt, putAt_other hk r]; exact Deep.blk_setCell_other w ⟨g, o, none⟩ x k hk

theorem putAt_below {B : Nat} {w0 : World} {A : Nat} (hA : B ≤ A) : ∀ (xs : List Value) (o : Nat) {w : World}, Below B w0 w → Below B w0 (putAt w A o xs)
  | [], _, _, h => h
  | x :: r, o, _, h => putAt_below hA r (o + 1) (h.setCell hA x)

theorem putAt_grown {g : Nat} : ∀ (xs : List Value) (o : Nat) {w0 w : World}, w0.grownBy w (some g) → w0.grownBy (putAt w g o xs) (some g)
  | [], _, _, _, h => h
  | x :: r, o, w0, w, h => putAt_grown r (o + 1) ⟨h.os, h.tape, h.output, by simpa [World.setCell] using h.size, fun k hk hn => (Below.heap_setCell _ _ _ _ (fun e => hn (by rw [e]))).trans (h.block k hk hn)⟩

theorem putAt_size : ∀ (xs : List Value) (g o : Nat) (w : World), (putAt w g o xs).heap.size = w.heap.size
  | [], _, _, _ => rfl
  | x :: r, g, o, w => by rw [putAt, putAt_size r]; simp [World.setCell]

section
variable {α : Type} {f : α → List Value} {s : Nat}

theorem flat_length (hf : ∀ x, (f x).length = s) : ∀ l : List α, (l.flatMap f).length = l.length * s
  | [] => by simp
  | x :: r => by simp [hf, flat_length hf r, Nat.add_mul]; omega

theorem flat_get (hf : ∀ x, (f x).length = s) : ∀ (l : List α) (j i : Nat) {x : α}, l[j]? = some x → i < s → (l.flatMap f)[j * s + i]? = (f x)[i]?
  | [], j, i, x, h, _ => by simp at h
  | y :: r, 0, i, x, h, hi => by
    simp at h
    subst h
    simp only [List.flatMap_cons, Nat.zero_mul, Nat.zero_add]
    rw [List.getElem?_append_left (by rw [hf]; exact hi)]
  | y :: r, j + 1, i, x, h, hi => by
    simp only [List.getElem?_cons_succ] at h
    simp only [List.flatMap_cons]
    rw [List.getElem?_append_right (by rw [hf, Nat.add_mul]; omega), hf, show (j + 1) * s + i - s = j * s + i by rw [Nat.add_mul]; omega]
    exact flat_get hf r j i h hi

theorem overAt_app (a b : List Value) : ∀ (xs : List Value) (o : Nat), a.length ≤ o → overAt (a ++ b) o xs = a ++ overAt b (o - a.length) xs := by
  intro xs
  induction xs generalizing b with
  | nil => intro o _; rfl
  | cons x r ih =>
    intro o ho
    rw [overAt, overAt, List.set_append, if_neg (by omega), ih _ _ (by omega), show o + 1 - a.length = o - a.length + 1 by omega]

theorem overAt_first : ∀ (a b xs : List Value), a.length = xs.length → overAt (a ++ b) 0 xs = xs ++ b := by
  intro a b xs h
  refine List.ext_getElem? fun j => ?_
  rw [overAt_get _ _ _ _ (by simp; omega)]
  by_cases hj : j < xs.length
  · rw [if_pos (by omega), List.getElem?_append_left hj, Nat.sub_zero]
  · rw [if_neg (by omega), List.getElem?_append_right (by omega), List.getElem?_append_right (by omega), h]

theorem flat_set (hf : ∀ x, (f x).length = s) : ∀ (l : List α) (j : Nat) (y : α), j < l.length → overAt (l.flatMap f) (j * s) (f y) = (l.set j y).flatMap f
  | [], j, y, h => by simp at h
  | x :: r, 0, y, h => by
    simp only [List.flatMap_cons, Nat.zero_mul, List.set_cons_zero]
    exact overAt_first _ _ _ (by rw [hf, hf])
  | x :: r, j + 1, y, h => by
    simp only [List.flatMap_cons, List.set_cons_succ]
    rw [overAt_app _ _ _ _ (by rw [hf, Nat.add_mul]; omega), hf, show (j + 1) * s - s = j * s by rw [Nat.add_mul]; omega, flat_set hf r j y (by simpa using h)]
end

section
variable {w : World} {base : Nat} {e : TypeId} {size : Nat} {v : Value} {n : Nat} {xs : List Value}

theorem ownsRow_at (h : w.ownsRow base e size v n xs) {g : Nat} (hg : v.ownBlock = some g) {j : Nat} {u : Value} (hu : xs[j]? = some u) : w.cell? ⟨g, j, none⟩ = some u := by
  have := h.cells hg j u hu
  have hadd : (⟨g, 0, none⟩ : Addr).add j = ⟨g, j, none⟩ := by unfold Addr.add; split <;> simp_all
  rwa [hadd] at this

theorem overAt_take (c : List Value) (o m : Nat) : ∀ ys : List Value, o + ys.length ≤ m → m ≤ c.length → (overAt c o ys).take m = overAt (c.take m) o ys := by
  intro ys hm hc
  refine List.ext_getElem? fun j => ?_
  rw [List.getElem?_take, overAt_get _ _ _ _ (by omega), overAt_get _ _ _ _ (by rw [List.length_take]; omega), List.getElem?_take]
  by_cases hj : j < m
  · rw [if_pos hj, if_pos hj]
  · rw [if_neg hj, if_neg hj, if_neg (by omega)]

/-- Cells of a row are written. -/
theorem ownsRow_putAt (h : w.ownsRow base e size v n xs) {g : Nat} (hg : v.ownBlock = some g) (o : Nat) (ys : List Value) (ho : o + ys.length ≤ xs.length) : (putAt w g o ys).ownsRow base e size v n (overAt xs o ys) := by
  rcases h.2 with ⟨rfl, _⟩ | ⟨g', cap, cur, rfl, hb, hgg, h1, h2, h3, h4⟩
  · simp [Value.ownBlock] at hg
  · simp only [Value.ownBlock, Option.some.injEq] at hg
    subst hg
    have hx := h.1
    refine ⟨by rw [overAt_length]; exact h.1, .inr ⟨g', cap, (overAt cur.toList o ys).toArray, rfl, hb, putAt_blk ys o hgg, h1, h2, by simpa [overAt_length] using h3, ?_⟩⟩
    have hc : n * size ≤ cur.toList.length := by simp [h3]; exact Nat.mul_le_mul_right _ h1
    rw [List.toList_toArray, overAt_take _ _ _ _ (by omega) hc, h4]

theorem ownsRow_frozenAt (h : w.ownsRow base e size v n xs) {g : Nat} (hg : v.ownBlock = some g) (j : Nat) : w.frozen? ⟨g, j, none⟩ = false := by
  rcases h.2 with ⟨rfl, _⟩ | ⟨g', cap, cur, rfl, hb, hgg, _⟩
  · simp [Value.ownBlock] at hg
  · simp only [Value.ownBlock, Option.some.injEq] at hg
    subst hg
    simp [World.frozen?, hgg]

theorem ownsRow_shape (h : w.ownsRow base e size v n xs) : (v = .slice none 0 0 ∧ n = 0) ∨ ∃ g cap, v = .slice (some ⟨g, 0, none⟩) n cap ∧ base ≤ g ∧ g < w.heap.size := by
  rcases h.2 with ⟨rfl, hn⟩ | ⟨g, cap, cur, rfl, hb, hg, _⟩
  · exact Or.inl ⟨rfl, hn⟩
  · exact Or.inr ⟨g, cap, rfl, hb, (Array.getElem?_eq_some_iff.1 hg).1⟩

end
end Go.Proofs.YtcgdabmmhjnidaaDoor
