/- What is known of registers: the program's goesOnAt, behind and comeTo. -/
import Derived.Test.YtahcgnmhhgcfmaaDoorChecked
import Derived.Test.YtahcgnmhhgcfmaaDoorCPlain
import Derived.Test.YtahcgnmhhgcfmaaDoorCVJoin
import Derived.WalkKit
import Derived.WalkSpells
import Derived.WalkLawsBesides
import Derived.Deep.LoopGhost
import Derived.Deep.Light
namespace Go.Proofs.YtahcgnmhhgcfmaaDoor
open Go.RowKit

theorem vCell_blk {w : World} {k : Nat} {c : Array Value} {t' : TypeId} (h : w.heap[k]? = some (.cells c t' (0, 0))) (j : Nat) : w.cell? ⟨k, j, none⟩ = c[j]? := by simp [World.cell?, h]

/-- An instruction as a value. -/
abbrev insV (op a b n : Int) : Value := .agg #[.int .i64 op, .int .i64 a, .int .i64 b, .int .i64 n]

/-- Eight registers as a value. -/
abbrev regV (k : List Int) : Value := .agg #[.int .i64 (vAt k 0), .int .i64 (vAt k 1), .int .i64 (vAt k 2), .int .i64 (vAt k 3), .int .i64 (vAt k 4), .int .i64 (vAt k 5), .int .i64 (vAt k 6), .int .i64 (vAt k 7)]

/-- These numbers lie in a row. -/
def VInts (w : World) (ao : Option Addr) (l : List Int) : Prop := ∀ (i : Nat) z, l[i]? = some z → ∃ b o, ao = some ⟨b, o, none⟩ ∧ w.cell? ⟨b, o + i, none⟩ = some (.int .i64 z)

theorem vInts1 (w : World) (x : Int) (t : TypeId) (B : Nat) (hB : w.heap.size = B) : VInts (w.alloc (.cells #[.int .i64 x] t)) (some ⟨B, 0, none⟩) [x] := fun i z hz => by
  subst hB
  match i, hz with
  | 0, hz => simp at hz; subst hz; exact ⟨_, _, rfl, by simp⟩
  | i + 1, hz => simp at hz

theorem vInts2 (w : World) (x y : Int) (t : TypeId) (B : Nat) (hB : w.heap.size = B) : VInts (w.alloc (.cells #[.int .i64 x, .int .i64 y] t)) (some ⟨B, 0, none⟩) [x, y] := fun i z hz => by
  subst hB
  match i, hz with
  | 0, hz => simp at hz; subst hz; exact ⟨_, _, rfl, by simp⟩
  | 1, hz => simp at hz; subst hz; exact ⟨_, _, rfl, by simp⟩
  | i + 2, hz => simp at hz

set_option maxHeartbeats 1000000 in
theorem goesOnAt_any (op a b n place : Int) (w : World) (hp : 0 ≤ place ∧ place ≤ 1000) (hn : op = 5 ∨ op = 6 → -1000 ≤ n ∧ n ≤ 1000) :
    Calls Tryd.prog 64 #[insV op a b n, .int .i64 place] w fun e w' => ∃ ga gc, e = .returned (.slice ga (vGoes op n place).length gc) ∧ VInts w' ga (vGoes op n place) ∧ Below w.heap.size w w' := by
  by_cases h0 : op = 0
  · subst h0
    go_enter Tryd.func64, Tryd.ntmps64
    go_wp2
    go_ret
    exact ⟨none, 0, rfl, fun i z hz => by simp [vGoes] at hz, below_box _ _⟩
  · have e0 : (op == 0) = false := by simp [h0]
    by_cases h19 : op = 19
    · subst h19
      go_enter Tryd.func64, Tryd.ntmps64
      go_wp2
      go_ret
      exact ⟨none, 0, rfl, fun i z hz => by simp [vGoes] at hz, below_box _ _⟩
    · have e19 : (op == 19) = false := by simp [h19]
      by_cases h6 : op = 6
      · subst h6
        replace hn := hn (Or.inr rfl)
        have hw : IntKind.i64.wrap (place + n) = place + n := IntWalk.i64_in _ (by omega)
        go_enter Tryd.func64, Tryd.ntmps64
        go_wp2
        go_ret
        exact ⟨some ⟨w.heap.size + 1, 0, none⟩, 1, rfl, vInts1 _ _ _ _ (by simp), (below_box _ _).alloc (by simp) _⟩
      · have e6 : (op == 6) = false := by simp [h6]
        by_cases h5 : op = 5
        · subst h5
          replace hn := hn (Or.inl rfl)
          have hw : IntKind.i64.wrap (place + n) = place + n := IntWalk.i64_in _ (by omega)
          go_enter Tryd.func64, Tryd.ntmps64
          go_wp2
          go_ret
          exact ⟨some ⟨w.heap.size + 1, 0, none⟩, 2, rfl, vInts2 _ _ _ _ _ (by simp), (below_box _ _).alloc (by simp) _⟩
        · have e5 : (op == 5) = false := by simp [h5]
          have HV : Aside (vGoes op n place = [place + 1]) := by show vGoes op n place = _; simp [vGoes, h0, h19, h6, h5]
          clear h0 h19 h6 h5 hn
          go_enter Tryd.func64, Tryd.ntmps64
          go_wp2
          go_ret
          rw [HV.out]
          exact ⟨some ⟨w.heap.size + 1, 0, none⟩, 1, rfl, vInts1 _ _ _ _ (by simp), (below_box _ _).alloc (by simp) _⟩

/-- Eight registers as cells. -/
abbrev regA (k : List Int) : Array Value := #[.int .i64 (vAt k 0), .int .i64 (vAt k 1), .int .i64 (vAt k 2), .int .i64 (vAt k 3), .int .i64 (vAt k 4), .int .i64 (vAt k 5), .int .i64 (vAt k 6), .int .i64 (vAt k 7)]

theorem reg_at {w : World} {B : Nat} {k : List Int} {t : TypeId} (h : w.heap[B]? = some (.cells (regA k) t (0, 0))) {a : Nat} (ha : a < 8) : w.cell? ⟨B, a, none⟩ = some (.int .i64 (vAt k a)) := by
  rw [vCell_blk h]
  match a, ha with
  | 0, _ => rfl
  | 1, _ => rfl
  | 2, _ => rfl
  | 3, _ => rfl
  | 4, _ => rfl
  | 5, _ => rfl
  | 6, _ => rfl
  | 7, _ => rfl
  | a + 8, h => omega

theorem vAt_put {k : List Int} (hk : k.length = 8) {a : Nat} (ha : a < 8) (x : Int) (i : Nat) : vAt (vPut k a x) i = if i = a then x else vAt k i := by
  unfold vAt vPut
  simp only [Int.toNat_natCast, List.getElem?_set]
  by_cases h : i = a
  · subst h
    rw [if_pos rfl, if_pos rfl, if_pos (by omega)]
    rfl
  · rw [if_neg h, if_neg (fun e => h e.symm)]

theorem reg_set {w : World} {B : Nat} {k : List Int} {t : TypeId} (h : w.heap[B]? = some (.cells (regA k) t (0, 0))) (hk : k.length = 8) {a : Nat} (ha : a < 8) (x : Int) : (w.setCell ⟨B, a, none⟩ (.int .i64 x)).heap[B]? = some (.cells (regA (vPut k a x)) t (0, 0)) := by
  have e : (w.setCell ⟨B, a, none⟩ (.int .i64 x)).heap[B]? = some (.cells ((regA k).setIfInBounds a (.int .i64 x)) t (0, 0)) := by
    simp only [World.setCell, Array.getElem?_modify, h]
    simp
  rw [e]
  have p0 : vAt (vPut k a x) 0 = if 0 = a then x else vAt k 0 := vAt_put hk ha x 0
  have p1 : vAt (vPut k a x) 1 = if 1 = a then x else vAt k 1 := vAt_put hk ha x 1
  have p2 : vAt (vPut k a x) 2 = if 2 = a then x else vAt k 2 := vAt_put hk ha x 2
  have p3 : vAt (vPut k a x) 3 = if 3 = a then x else vAt k 3 := vAt_put hk ha x 3
  have p4 : vAt (vPut k a x) 4 = if 4 = a then x else vAt k 4 := vAt_put hk ha x 4
  have p5 : vAt (vPut k a x) 5 = if 5 = a then x else vAt k 5 := vAt_put hk ha x 5
  have p6 : vAt (vPut k a x) 6 = if 6 = a then x else vAt k 6 := vAt_put hk ha x 6
  have p7 : vAt (vPut k a x) 7 = if 7 = a then x else vAt k 7 := vAt_put hk ha x 7
  rw [regA, regA, p0, p1, p2, p3, p4, p5, p6, p7]
  match a, ha with
  | 0, _ => rfl
  | 1, _ => rfl
  | 2, _ => rfl
  | 3, _ => rfl
  | 4, _ => rfl
  | 5, _ => rfl
  | 6, _ => rfl
  | 7, _ => rfl
  | a + 8, h => omega

end Go.Proofs.YtahcgnmhhgcfmaaDoor
