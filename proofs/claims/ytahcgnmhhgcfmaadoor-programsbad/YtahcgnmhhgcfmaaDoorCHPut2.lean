/- A variable of two cells is written. -/
import Derived.Test.YtahcgnmhhgcfmaaDoorCHOwn
namespace Go.Proofs.YtahcgnmhhgcfmaaDoor
open Go.RowKit

/-- Two cells of a variable are written. -/
def put2 (w : World) (A : Nat) (x y : Value) : World := (w.setCell ⟨A, 0, none⟩ x).setCell ⟨A, 1, none⟩ y

theorem put2_blk {w : World} {A : Nat} {a b : Value} {t : TypeId} (h : w.heap[A]? = some (.cells #[a, b] t (0, 0))) (x y : Value) : (put2 w A x y).heap[A]? = some (.cells #[x, y] t (0, 0)) := by
  have := setCell_blk (setCell_blk h 0 x) 1 y
  simpa [put2] using this

theorem put2_other {w : World} {A k : Nat} (x y : Value) (h : k ≠ A) : (put2 w A x y).heap[k]? = w.heap[k]? :=
  (Deep.blk_setCell_other _ ⟨A, 1, none⟩ _ _ h).trans (Deep.blk_setCell_other _ ⟨A, 0, none⟩ _ _ h)

theorem put2_below {B : Nat} {w0 w : World} (h : Below B w0 w) {A : Nat} (hA : B ≤ A) (x y : Value) : Below B w0 (put2 w A x y) := (h.setCell hA _).setCell hA _

theorem put2_size (w : World) (A : Nat) (x y : Value) : (put2 w A x y).heap.size = w.heap.size := by simp [put2, World.setCell]

theorem two_blk {w : World} {A : Nat} {c : Array Value} {t : TypeId} (h : w.heap[A]? = some (.cells c t (0, 0))) (j k : Nat) (x y : Value) : ((w.setCell ⟨A, j, none⟩ x).setCell ⟨A, k, none⟩ y).heap[A]? = some (.cells ((c.setIfInBounds j x).setIfInBounds k y) t (0, 0)) :=
  setCell_blk (setCell_blk h j x) k y

theorem two_below {B : Nat} {w0 w : World} (h : Below B w0 w) {A : Nat} (hA : B ≤ A) (j k : Nat) (x y : Value) : Below B w0 ((w.setCell ⟨A, j, none⟩ x).setCell ⟨A, k, none⟩ y) := (h.setCell hA _).setCell hA _

theorem two_size (w : World) (A j k : Nat) (x y : Value) : ((w.setCell ⟨A, j, none⟩ x).setCell ⟨A, k, none⟩ y).heap.size = w.heap.size := by simp [World.setCell]

theorem two_other {w : World} {A B : Nat} (j k : Nat) (x y : Value) (h : B ≠ A) : ((w.setCell ⟨A, j, none⟩ x).setCell ⟨A, k, none⟩ y).heap[B]? = w.heap[B]? :=
  (Deep.blk_setCell_other _ ⟨A, k, none⟩ _ _ h).trans (Deep.blk_setCell_other _ ⟨A, j, none⟩ _ _ h)

end Go.Proofs.YtahcgnmhhgcfmaaDoor
