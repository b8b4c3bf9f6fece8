/- A point that is come to: the program's comeTo. -/
import Derived.Test.YtahcgnmhhgcfmaaDoorCVMayDo
import Derived.Test.YtahcgnmhhgcfmaaDoorCPlain
namespace Go.Proofs.YtahcgnmhhgcfmaaDoor
open Go.RowKit

/-- A point as a value, and as cells. -/
abbrev ptV (c : Bool) (k : List Int) : Value := .agg #[.bool c, .int .i64 (vAt k 0), .int .i64 (vAt k 1), .int .i64 (vAt k 2), .int .i64 (vAt k 3), .int .i64 (vAt k 4), .int .i64 (vAt k 5), .int .i64 (vAt k 6), .int .i64 (vAt k 7)]
abbrev ptA (c : Bool) (k : List Int) : Array Value := #[.bool c, .int .i64 (vAt k 0), .int .i64 (vAt k 1), .int .i64 (vAt k 2), .int .i64 (vAt k 3), .int .i64 (vAt k 4), .int .i64 (vAt k 5), .int .i64 (vAt k 6), .int .i64 (vAt k 7)]

set_option maxHeartbeats 1000000 in
theorem comeTo_new (k on : List Int) (w : World) :
    Calls Tryd.prog 65 #[ptV false k, regV on] w fun e w' => e = .returned (ptV true on) ∧ Below w.heap.size w w' := by
  go_enter Tryd.func65, Tryd.ntmps65
  go_wp2
  exact bodyPost_ret (v := ptV true on) (by simp [results, Tryd.results65, go_sem]) rfl ⟨rfl, ((below_box _ _).alloc (by simp) _).alloc (by simp; omega) _⟩

theorem pt_at {w : World} {B : Nat} {c : Bool} {k : List Int} {t : TypeId} (h : w.heap[B]? = some (.cells (ptA c k) t (0, 0))) {a : Nat} (ha : a < 8) : w.cell? ⟨B, 1 + a, none⟩ = some (.int .i64 (vAt k a)) := by
  rw [vCell_blk h]
  match a, ha with
  | 0, _ => rfl
  | 1, _ => rfl
  | 2, _ => rfl
  | 3, _ => rfl
  | 4, _ => rfl
  | 5, _ => rfl
  | 6, _ => rfl
  | 7, _ => rfl
  | a + 8, h => omega

theorem pt_set {w : World} {B : Nat} {c : Bool} {k : List Int} {t : TypeId} (h : w.heap[B]? = some (.cells (ptA c k) t (0, 0))) (hk : k.length = 8) {a : Nat} (ha : a < 8) (x : Int) : (w.setCell ⟨B, 1 + a, none⟩ (.int .i64 x)).heap[B]? = some (.cells (ptA c (vPut k a x)) t (0, 0)) := by
  rw [vSet_blk h]
  have p0 : vAt (vPut k a x) 0 = if 0 = a then x else vAt k 0 := vAt_put hk ha x 0
  have p1 : vAt (vPut k a x) 1 = if 1 = a then x else vAt k 1 := vAt_put hk ha x 1
  have p2 : vAt (vPut k a x) 2 = if 2 = a then x else vAt k 2 := vAt_put hk ha x 2
  have p3 : vAt (vPut k a x) 3 = if 3 = a then x else vAt k 3 := vAt_put hk ha x 3
  have p4 : vAt (vPut k a x) 4 = if 4 = a then x else vAt k 4 := vAt_put hk ha x 4
  have p5 : vAt (vPut k a x) 5 = if 5 = a then x else vAt k 5 := vAt_put hk ha x 5
  have p6 : vAt (vPut k a x) 6 = if 6 = a then x else vAt k 6 := vAt_put hk ha x 6
  have p7 : vAt (vPut k a x) 7 = if 7 = a then x else vAt k 7 := vAt_put hk ha x 7
  rw [ptA, ptA, p0, p1, p2, p3, p4, p5, p6, p7]
  match a, ha with
  | 0, _ => rfl
  | 1, _ => rfl
  | 2, _ => rfl
  | 3, _ => rfl
  | 4, _ => rfl
  | 5, _ => rfl
  | 6, _ => rfl
  | 7, _ => rfl
  | a + 8, h => omega

/-- The first r registers are joined. -/
def kJ (k on : List Int) : Nat → List Int
  | 0 => k
  | r + 1 => vPut (kJ k on r) r (vJoin (vAt (kJ k on r) r) (vAt on r))

theorem kJ_len {k on : List Int} (hk : k.length = 8) : ∀ r, (kJ k on r).length = 8
  | 0 => hk
  | r + 1 => by rw [kJ, vPut_length]; exact kJ_len hk r

theorem kJ_at {k on : List Int} (hk : k.length = 8) : ∀ r : Nat, r ≤ 8 → ∀ i : Nat, vAt (kJ k on r) i = if i < r then vJoin (vAt k i) (vAt on i) else vAt k i
  | 0, _, i => by simp [kJ]
  | r + 1, hr, i => by
    have ih := kJ_at (on := on) hk r (by omega)
    rw [kJ, vAt_put (kJ_len hk r) (by omega)]
    by_cases e : i = r
    · subst e
      rw [if_pos rfl, if_pos (by omega), ih, if_neg (by omega)]
    · rw [if_neg e, ih]
      by_cases h : i < r
      · rw [if_pos h, if_pos (by omega)]
      · rw [if_neg h, if_neg (by omega)]

theorem vAt_ext {a b : List Int} (ha : a.length = 8) (hb : b.length = 8) (h : ∀ i : Nat, i < 8 → vAt a i = vAt b i) : a = b := by
  refine List.ext_getElem (by omega) fun i h1 h2 => ?_
  have := h i (by omega)
  unfold vAt at this
  simp only [Int.toNat_natCast, List.getElem?_eq_getElem h1, List.getElem?_eq_getElem h2] at this
  exact this

theorem kJ_all {k on : List Int} (hk : k.length = 8) (ho : on.length = 8) : kJ k on 8 = List.zipWith vJoin k on := by
  refine vAt_ext (kJ_len hk 8) (by simp [hk, ho]) fun i hi => ?_
  rw [kJ_at hk 8 (by omega), if_pos hi]
  unfold vAt
  simp only [Int.toNat_natCast, List.getElem?_zipWith]
  rw [List.getElem?_eq_getElem (by omega), List.getElem?_eq_getElem (by omega)]
  rfl

set_option maxHeartbeats 1000000 in
theorem comeTo_more (k on : List Int) (w : World) (hk : k.length = 8) (ho : on.length = 8) :
    Calls Tryd.prog 65 #[ptV true k, regV on] w fun e w' => e = .returned (ptV true (List.zipWith vJoin k on)) ∧ Below w.heap.size w w' := by
  go_enter Tryd.func65, Tryd.ntmps65
  go_upto_region 3 with fail
  obtain ⟨N0, N1, N2, b1, hs⟩ := vBoxes3 w (Obj.cells (ptA true k) 75) (Obj.cells (regA on) 73) (Obj.cells #[.bool false, .int .i64 0, .int .i64 0, .int .i64 0, .int .i64 0, .int .i64 0, .int .i64 0, .int .i64 0, .int .i64 0] 75)
  generalize ((w.alloc (Obj.cells (ptA true k) 75)).alloc (Obj.cells (regA on) 73)).alloc (Obj.cells #[.bool false, .int .i64 0, .int .i64 0, .int .i64 0, .int .i64 0, .int .i64 0, .int .i64 0, .int .i64 0, .int .i64 0] 75) = W at *
  go_wp2
  go_loopg [11] 8 (fun g s11 wr => ∃ r : Nat, r ≤ 8 ∧ g = 8 - r ∧ s11 = .int .i64 r ∧ wr.heap[w.heap.size]? = some (.cells (ptA true (kJ k on r)) 75 (0, 0)) ∧ wr.heap[w.heap.size + 1]? = some (.cells (regA on) 73 (0, 0)) ∧ wr.heap[w.heap.size + 1 + 1]? = some (.cells #[.bool false, .int .i64 0, .int .i64 0, .int .i64 0, .int .i64 0, .int .i64 0, .int .i64 0, .int .i64 0, .int .i64 0] 75 (0, 0)) ∧ Below w.heap.size w wr)
  case atStart => exact ⟨0, Nat.zero_le _, rfl, rfl, N0, N1, N2, b1⟩
  case round =>
    clear N0 N1 N2 b1 hs
    obtain ⟨r, hr, rfl, rfl, N0, N1, N2, b1⟩ := hrel
    by_cases hr8 : r < 8
    · have hrz : (r : Int) < 8 := by omega
      have hl := kJ_len (on := on) hk r
      have q0 := pt_at N0 hr8
      have q1 := reg_at N1 hr8
      have fz : ∀ j, wr.frozen? ⟨w.heap.size, j, none⟩ = false := fun j => by simp [World.frozen?, N0]
      go_upto_region 6 with fail
      refine wp_region_need (fun j => j != 11) (fun w' => w'.cell? ⟨w.heap.size, 1 + r, none⟩ = some (.int .i64 (vAt (kJ k on r) r)) ∧ w'.cell? ⟨w.heap.size + 1, r, none⟩ = some (.int .i64 (vAt on r))) (by kernel_rfl) ⟨q0, q1⟩ (fun hS => ?_)
      refine wpAnyN_take (i := 0) (v := ?v1) rfl (by kernel_rfl) (by kernel_rfl) (by kernel_rfl) (by kernel_rfl) (fun _ _ _ h => h) (by rfl) ?hy1 hS ?rest1
      case hy1 => (intro wy hSy; (try dsimp only at hSy); go_simp; try (with_reducible rfl))
      simp only [Act.put, List.getElem_toArray, List.getElem_cons_zero, List.setIfInBounds_toArray, List.set_cons_zero, List.set_cons_succ]
      refine wpAnyN_take (i := 1) (v := ?v2) rfl (by kernel_rfl) (by kernel_rfl) (by kernel_rfl) (by kernel_rfl) (fun _ _ _ h => h) (by rfl) ?hy2 hS ?rest2
      case hy2 => (intro wy hSy; (try dsimp only at hSy); go_simp; try (with_reducible rfl))
      simp only [Act.put, List.getElem_toArray, List.getElem_cons_zero, List.getElem_cons_succ, List.setIfInBounds_toArray, List.set_cons_zero, List.set_cons_succ]
      refine wpAnyN_take (i := 2) (v := ?v3) rfl (by kernel_rfl) (by kernel_rfl) (by kernel_rfl) (by kernel_rfl) (fun _ _ _ h => h) (by rfl) ?hy3 hS ?rest3
      case hy3 => (intro wy hSy; (try dsimp only at hSy); go_simp; try (with_reducible rfl))
      simp only [Act.put, List.getElem_toArray, List.getElem_cons_zero, List.getElem_cons_succ, List.setIfInBounds_toArray, List.set_cons_zero, List.set_cons_succ]
      refine wpAnyN_take (i := 3) (v := ?v4) rfl (by kernel_rfl) (by kernel_rfl) (by kernel_rfl) (by kernel_rfl) (fun _ _ _ h => h) (by rfl) ?hy4 hS ?rest4
      case hy4 => (intro wy hSy; (try dsimp only at hSy); go_simp; try (with_reducible rfl))
      simp only [Act.put, List.getElem_toArray, List.getElem_cons_zero, List.getElem_cons_succ, List.setIfInBounds_toArray, List.set_cons_zero, List.set_cons_succ]
      refine wpAnyN_take (i := 4) (v := ?v5) rfl (by kernel_rfl) (by kernel_rfl) (by kernel_rfl) (by kernel_rfl) (fun _ _ _ h => h) (by rfl) ?hy5 hS ?rest5
      case hy5 => (intro wy hSy; (try dsimp only at hSy); go_simp; try (with_reducible rfl))
      simp only [Act.put, List.getElem_toArray, List.getElem_cons_zero, List.getElem_cons_succ, List.setIfInBounds_toArray, List.set_cons_zero, List.set_cons_succ]
      refine wpAnyN_take (i := 5) (v := ?v6) rfl (by kernel_rfl) (by kernel_rfl) (by kernel_rfl) (by kernel_rfl) (fun _ _ _ h => h) (by rfl) ?hy6 hS ?rest6
      case hy6 => (intro wy hSy; (try dsimp only at hSy); go_simp; try (with_reducible rfl))
      simp only [Act.put, List.getElem_toArray, List.getElem_cons_zero, List.getElem_cons_succ, List.setIfInBounds_toArray, List.set_cons_zero, List.set_cons_succ]
      refine wpAnyN_take (i := 6) (v := ?v7) rfl (by kernel_rfl) (by kernel_rfl) (by kernel_rfl) (by kernel_rfl) (fun _ _ _ h => h) (by rfl) ?hy7 hS ?rest7
      case hy7 => (intro wy hSy; (try dsimp only at hSy); go_simp; try (with_reducible rfl))
      simp only [Act.put, List.getElem_toArray, List.getElem_cons_zero, List.getElem_cons_succ, List.setIfInBounds_toArray, List.set_cons_zero, List.set_cons_succ]
      refine wpAnyN_take (i := 7) (v := ?v8) rfl (by kernel_rfl) (by kernel_rfl) (by kernel_rfl) (by kernel_rfl) (fun _ _ _ h => h) (by rfl) ?hy8 hS ?rest8
      case hy8 => (intro wy hSy; (try dsimp only at hSy); go_simp; try (with_reducible rfl))
      simp only [Act.put, List.getElem_toArray, List.getElem_cons_zero, List.getElem_cons_succ, List.setIfInBounds_toArray, List.set_cons_zero, List.set_cons_succ]
      refine wpAnyN_take (i := 9) (v := ?v9) rfl (by kernel_rfl) (by kernel_rfl) (by kernel_rfl) (by kernel_rfl) (fun _ _ _ h => h) (by rfl) ?hy9 hS ?rest9
      case hy9 => (intro wy hSy; (try dsimp only at hSy); go_simp; try (with_reducible rfl))
      simp only [Act.put, List.getElem_toArray, List.getElem_cons_zero, List.getElem_cons_succ, List.setIfInBounds_toArray, List.set_cons_zero, List.set_cons_succ]
      refine wpAnyN_one (i := 8) (by kernel_rfl) rfl (fun K hK => ?_)
      simp only [List.getElem_toArray, List.getElem_cons_zero, List.getElem_cons_succ]
      go_simp
      refine (join_any _ _ _).mono ?_
      rintro e w' ⟨rfl, rfl⟩
      refine hK.out _ _ (fun _ => hS) ?_
      clear hK
      replace hS := hS
      try simp only [Act.put, List.getElem_toArray, List.getElem_cons_zero, List.getElem_cons_succ, List.setIfInBounds_toArray, List.set_cons_zero, List.set_cons_succ]
      refine wpAnyN_take (i := 10) (v := ?v10) rfl (by kernel_rfl) (by kernel_rfl) (by kernel_rfl) (by kernel_rfl) (fun _ _ _ h => h) (by rfl) ?hy10 hS ?rest10
      case hy10 => (intro wy hSy; (try dsimp only at hSy); go_simp; try (with_reducible rfl))
      simp only [Act.put, List.getElem_toArray, List.getElem_cons_zero, List.getElem_cons_succ, List.setIfInBounds_toArray, List.set_cons_zero, List.set_cons_succ]
      refine wpAnyN_one (i := 11) (by kernel_rfl) rfl (fun K hK => ?_)
      simp only [List.getElem_toArray, List.getElem_cons_zero, List.getElem_cons_succ]
      go_simp
      refine hK.out _ _ (fun h => absurd h (by decide)) ?_
      clear hK
      refine wpAnyN_done (by kernel_rfl) ?_ _
      refine NoPanic.normal ?_
      try simp only [Act.put, List.getElem_toArray, List.getElem_cons_zero, List.getElem_cons_succ, List.setIfInBounds_toArray, List.set_cons_zero, List.set_cons_succ]
      have M0 : ((wr.setCell ⟨w.heap.size, 1 + r, none⟩ (.int .i64 (vJoin (vAt (kJ k on r) r) (vAt on r)))).drew).heap[w.heap.size]? = some (.cells (ptA true (kJ k on (r + 1))) 75 (0, 0)) := pt_set N0 hl hr8 _
      have M1 : ((wr.setCell ⟨w.heap.size, 1 + r, none⟩ (.int .i64 (vJoin (vAt (kJ k on r) r) (vAt on r)))).drew).heap[w.heap.size + 1]? = _ := (Deep.blk_setCell_other wr ⟨w.heap.size, 1 + r, none⟩ _ (w.heap.size + 1) (by show w.heap.size + 1 ≠ w.heap.size; omega)).trans N1
      have M2 : ((wr.setCell ⟨w.heap.size, 1 + r, none⟩ (.int .i64 (vJoin (vAt (kJ k on r) r) (vAt on r)))).drew).heap[w.heap.size + 1 + 1]? = _ := (Deep.blk_setCell_other wr ⟨w.heap.size, 1 + r, none⟩ _ (w.heap.size + 1 + 1) (by show w.heap.size + 1 + 1 ≠ w.heap.size; omega)).trans N2
      have b2 : Below w.heap.size w ((wr.setCell ⟨w.heap.size, 1 + r, none⟩ (.int .i64 (vJoin (vAt (kJ k on r) r) (vAt on r)))).drew) := (b1.setCell (Nat.le_refl _) _).drew
      clear N0 N1 N2 b1 q0 q1 fz hS
      generalize (wr.setCell ⟨w.heap.size, 1 + r, none⟩ (.int .i64 (vJoin (vAt (kJ k on r) r) (vAt on r)))).drew = wx at *
      go_wp2
      go_roundg (8 - (r + 1))
      case measure => go_light; omega
      case rel => go_light; exact ⟨r + 1, by omega, rfl, by go_num, M0, M1, M2, b2⟩
    · obtain rfl : r = 8 := by omega
      rw [kJ_all hk ho] at N0
      obtain ⟨z, hz⟩ : ∃ z, z = List.zipWith vJoin k on := ⟨_, rfl⟩
      rw [← hz] at N0
      have Z : Aside (z = List.zipWith vJoin k on) := hz
      clear hz
      have g0 := vCell_blk N0 0
      have g1 := vCell_blk N0 1
      have g2 := vCell_blk N0 2
      have g3 := vCell_blk N0 3
      have g4 := vCell_blk N0 4
      have g5 := vCell_blk N0 5
      have g6 := vCell_blk N0 6
      have g7 := vCell_blk N0 7
      have g8 := vCell_blk N0 8
      have z0 := vCell_blk N2 0
      have z1 := vCell_blk N2 1
      have z2 := vCell_blk N2 2
      have z3 := vCell_blk N2 3
      have z4 := vCell_blk N2 4
      have z5 := vCell_blk N2 5
      have z6 := vCell_blk N2 6
      have z7 := vCell_blk N2 7
      have z8 := vCell_blk N2 8
      simp at g0 g1 g2 g3 g4 g5 g6 g7 g8 z0 z1 z2 z3 z4 z5 z6 z7 z8
      have fr : ∀ j, wr.frozen? ⟨w.heap.size + 1 + 1, j, none⟩ = false := fun j => by simp [World.frozen?, N2]
      clear N0 N1
      go_wp2
      change bodyPost _ _ _ _ _ (putAt wr (w.heap.size + 1 + 1) 0 (ptA true z).toList)
      have P := putAt_blk (ptA true z).toList 0 N2
      have bp := putAt_below (A := w.heap.size + 1 + 1) (by omega) (ptA true z).toList 0 b1
      clear N2 b1 g0 g1 g2 g3 g4 g5 g6 g7 g8 z0 z1 z2 z3 z4 z5 z6 z7 z8 fr
      generalize putAt wr (w.heap.size + 1 + 1) 0 (ptA true z).toList = wy at *
      have y0 := vCell_blk P 0
      have y1 := vCell_blk P 1
      have y2 := vCell_blk P 2
      have y3 := vCell_blk P 3
      have y4 := vCell_blk P 4
      have y5 := vCell_blk P 5
      have y6 := vCell_blk P 6
      have y7 := vCell_blk P 7
      have y8 := vCell_blk P 8
      simp [overAt] at y0 y1 y2 y3 y4 y5 y6 y7 y8
      exact bodyPost_ret (v := ptV true z) (by simp [results, Tryd.results65, go_sem, y0, y1, y2, y3, y4, y5, y6, y7, y8]) rfl ⟨by rw [Z.out], bp⟩

/-- A point as cells: none: it was never come to. -/
def ptC (p : Pt) : List Value := match p with
  | none => (ptA false []).toList
  | some k => (ptA true k).toList

def ptOf (p : Pt) : Value := match p with
  | none => ptV false []
  | some k => ptV true k

theorem comeTo_any (p : Pt) (on : List Int) (w : World) (hp : ∀ k, p = some k → k.length = 8) (ho : on.length = 8) :
    Calls Tryd.prog 65 #[ptOf p, regV on] w fun e w' => e = .returned (ptOf (vCome p on)) ∧ Below w.heap.size w w' := by
  cases p with
  | none => exact comeTo_new [] on w
  | some k => exact comeTo_more k on w (hp k rfl) ho

theorem ptC_len (p : Pt) : (ptC p).length = 9 := by cases p <;> rfl
theorem ptC_one (p : Pt) : ∀ v ∈ ptC p, v.oneCell' = true := by
  cases p <;> intro v hv <;> simp [ptC] at hv <;> rcases hv with h | h | h | h | h | h | h | h | h <;> rw [h] <;> rfl

end Go.Proofs.YtahcgnmhhgcfmaaDoor
