/- The reference's mayBeDone. (Written by tools/mk_rmay.py.) -/
import Derived.Test.YtahcgnmhhgcfmaaDoorCRLater
import Derived.Test.YtahcgnmhhgcfmaaDoorCVJoin
namespace Go.Proofs.YtahcgnmhhgcfmaaDoor
open Go.RowKit

set_option maxRecDepth 100000 in
set_option maxHeartbeats 1000000 in
theorem rMay0_any (n : Int) (a b : Nat) (k : List Int) (ka : Option Addr) (kc : Nat) (w : World) (hV : VInts w ka k) (hk : k.length = 8) (ha : a < 8) (hb : b < 8) :
    Calls Tryd.prog 53 #[.slice ka 8 kc, insV 0 a b n] w fun e w' => e = .returned (.bool (vMayDo 0 a b k)) ∧ Below w.heap.size w w' := by
  obtain ⟨r, hr⟩ : ∃ r, r = vMayDo 0 a b k := ⟨_, rfl⟩
  have HR : Aside (r = vMayDo 0 a b k) := hr
  rw [← hr]
  clear hr
  have haz : (a : Int) < 8 := by omega
  have hbz : (b : Int) < 8 := by omega
  obtain ⟨kb, ko, rfl, r0⟩ := hV 0 (vAt k 0) (vAt_some hk (by omega))
  obtain ⟨_, _, e1, ra⟩ := hV a (vAt k a) (vAt_some hk ha)
  obtain ⟨_, _, e2, rb⟩ := hV b (vAt k b) (vAt_some hk hb)
  simp only [Option.some.injEq, Addr.mk.injEq, and_true] at e1 e2
  obtain ⟨rfl, rfl⟩ := e1
  obtain ⟨rfl, rfl⟩ := e2
  rw [Nat.add_zero] at r0
  have hkl := World.block_lt_of_cell? _ _ ra
  go_enter Tryd.func53, Tryd.ntmps53
  go_upto_region 1 with fail
  obtain ⟨N0, k1, bq, hs⟩ := boxes1 w (Obj.cells #[.int .i64 0, .int .i64 a, .int .i64 b, .int .i64 n] 40)
  generalize w.alloc (Obj.cells #[.int .i64 0, .int .i64 a, .int .i64 b, .int .i64 n] 40) = wq at *
  have i0 := vCell_blk N0 0
  have i1 := vCell_blk N0 1
  have i2 := vCell_blk N0 2
  simp at i0 i1 i2
  replace ra := k1 _ _ ra
  replace rb := k1 _ _ rb
  replace r0 := k1 _ _ r0
  clear N0 k1 hs hV
  cases t0 : vObj (vAt k 0) with
  | false =>
    have HV : r = false := by rw [HR.out]; (try simp at t0); simp [vMayDo, t0]
    go_wp2_with (go_at_call 73; refine (vIsObjectR_any _ _).mono ?_; rintro e w' ⟨rfl, rfl⟩; try (first | rw [t0]))
    go_ret
    exact ⟨by first | rfl | (rw [HV]; rfl), bq⟩
  | true =>
    have HV : r = true := by rw [HR.out]; (try simp at t0); simp [vMayDo, t0]
    go_wp2_with (go_at_call 73; refine (vIsObjectR_any _ _).mono ?_; rintro e w' ⟨rfl, rfl⟩; try (first | rw [t0]))
    go_ret
    exact ⟨by first | rfl | (rw [HV]; rfl), bq⟩

set_option maxRecDepth 100000 in
set_option maxHeartbeats 1000000 in
theorem rMay1_any (n : Int) (a b : Nat) (k : List Int) (ka : Option Addr) (kc : Nat) (w : World) (hV : VInts w ka k) (hk : k.length = 8) (ha : a < 8) (hb : b < 8) :
    Calls Tryd.prog 53 #[.slice ka 8 kc, insV 1 a b n] w fun e w' => e = .returned (.bool (vMayDo 1 a b k)) ∧ Below w.heap.size w w' := by
  obtain ⟨r, hr⟩ : ∃ r, r = vMayDo 1 a b k := ⟨_, rfl⟩
  have HR : Aside (r = vMayDo 1 a b k) := hr
  rw [← hr]
  clear hr
  have haz : (a : Int) < 8 := by omega
  have hbz : (b : Int) < 8 := by omega
  obtain ⟨kb, ko, rfl, r0⟩ := hV 0 (vAt k 0) (vAt_some hk (by omega))
  obtain ⟨_, _, e1, ra⟩ := hV a (vAt k a) (vAt_some hk ha)
  obtain ⟨_, _, e2, rb⟩ := hV b (vAt k b) (vAt_some hk hb)
  simp only [Option.some.injEq, Addr.mk.injEq, and_true] at e1 e2
  obtain ⟨rfl, rfl⟩ := e1
  obtain ⟨rfl, rfl⟩ := e2
  rw [Nat.add_zero] at r0
  have hkl := World.block_lt_of_cell? _ _ ra
  go_enter Tryd.func53, Tryd.ntmps53
  go_upto_region 1 with fail
  obtain ⟨N0, k1, bq, hs⟩ := boxes1 w (Obj.cells #[.int .i64 1, .int .i64 a, .int .i64 b, .int .i64 n] 40)
  generalize w.alloc (Obj.cells #[.int .i64 1, .int .i64 a, .int .i64 b, .int .i64 n] 40) = wq at *
  have i0 := vCell_blk N0 0
  have i1 := vCell_blk N0 1
  have i2 := vCell_blk N0 2
  simp at i0 i1 i2
  replace ra := k1 _ _ ra
  replace rb := k1 _ _ rb
  replace r0 := k1 _ _ r0
  clear N0 k1 hs hV
  have HV : r = true := by rw [HR.out]; simp [vMayDo]
  go_wp2
  go_ret
  exact ⟨by first | rfl | (rw [HV]; rfl), bq⟩

set_option maxRecDepth 100000 in
set_option maxHeartbeats 1000000 in
theorem rMay2_any (n : Int) (a b : Nat) (k : List Int) (ka : Option Addr) (kc : Nat) (w : World) (hV : VInts w ka k) (hk : k.length = 8) (ha : a < 8) (hb : b < 8) :
    Calls Tryd.prog 53 #[.slice ka 8 kc, insV 2 a b n] w fun e w' => e = .returned (.bool (vMayDo 2 a b k)) ∧ Below w.heap.size w w' := by
  obtain ⟨r, hr⟩ : ∃ r, r = vMayDo 2 a b k := ⟨_, rfl⟩
  have HR : Aside (r = vMayDo 2 a b k) := hr
  rw [← hr]
  clear hr
  have haz : (a : Int) < 8 := by omega
  have hbz : (b : Int) < 8 := by omega
  obtain ⟨kb, ko, rfl, r0⟩ := hV 0 (vAt k 0) (vAt_some hk (by omega))
  obtain ⟨_, _, e1, ra⟩ := hV a (vAt k a) (vAt_some hk ha)
  obtain ⟨_, _, e2, rb⟩ := hV b (vAt k b) (vAt_some hk hb)
  simp only [Option.some.injEq, Addr.mk.injEq, and_true] at e1 e2
  obtain ⟨rfl, rfl⟩ := e1
  obtain ⟨rfl, rfl⟩ := e2
  rw [Nat.add_zero] at r0
  have hkl := World.block_lt_of_cell? _ _ ra
  go_enter Tryd.func53, Tryd.ntmps53
  go_upto_region 1 with fail
  obtain ⟨N0, k1, bq, hs⟩ := boxes1 w (Obj.cells #[.int .i64 2, .int .i64 a, .int .i64 b, .int .i64 n] 40)
  generalize w.alloc (Obj.cells #[.int .i64 2, .int .i64 a, .int .i64 b, .int .i64 n] 40) = wq at *
  have i0 := vCell_blk N0 0
  have i1 := vCell_blk N0 1
  have i2 := vCell_blk N0 2
  simp at i0 i1 i2
  replace ra := k1 _ _ ra
  replace rb := k1 _ _ rb
  replace r0 := k1 _ _ r0
  clear N0 k1 hs hV
  cases t0 : (vAt k a == 1) with
  | false =>
    have HV : r = false := by rw [HR.out]; (try simp at t0); simp [vMayDo, t0]
    go_wp2
    go_ret
    exact ⟨by first | rfl | (rw [HV]; rfl), bq⟩
  | true =>
    cases t1 : (vAt k b == 1) with
    | false =>
      have HV : r = false := by rw [HR.out]; (try simp at t1); simp [vMayDo, t1]
      go_wp2
      go_ret
      exact ⟨by first | rfl | (rw [HV]; rfl), bq⟩
    | true =>
      have HV : r = true := by rw [HR.out]; (try simp at t0); (try simp at t1); simp [vMayDo, t0, t1]
      go_wp2
      go_ret
      exact ⟨by first | rfl | (rw [HV]; rfl), bq⟩

set_option maxRecDepth 100000 in
set_option maxHeartbeats 1000000 in
theorem rMay3_any (n : Int) (a b : Nat) (k : List Int) (ka : Option Addr) (kc : Nat) (w : World) (hV : VInts w ka k) (hk : k.length = 8) (ha : a < 8) (hb : b < 8) :
    Calls Tryd.prog 53 #[.slice ka 8 kc, insV 3 a b n] w fun e w' => e = .returned (.bool (vMayDo 3 a b k)) ∧ Below w.heap.size w w' := by
  obtain ⟨r, hr⟩ : ∃ r, r = vMayDo 3 a b k := ⟨_, rfl⟩
  have HR : Aside (r = vMayDo 3 a b k) := hr
  rw [← hr]
  clear hr
  have haz : (a : Int) < 8 := by omega
  have hbz : (b : Int) < 8 := by omega
  obtain ⟨kb, ko, rfl, r0⟩ := hV 0 (vAt k 0) (vAt_some hk (by omega))
  obtain ⟨_, _, e1, ra⟩ := hV a (vAt k a) (vAt_some hk ha)
  obtain ⟨_, _, e2, rb⟩ := hV b (vAt k b) (vAt_some hk hb)
  simp only [Option.some.injEq, Addr.mk.injEq, and_true] at e1 e2
  obtain ⟨rfl, rfl⟩ := e1
  obtain ⟨rfl, rfl⟩ := e2
  rw [Nat.add_zero] at r0
  have hkl := World.block_lt_of_cell? _ _ ra
  go_enter Tryd.func53, Tryd.ntmps53
  go_upto_region 1 with fail
  obtain ⟨N0, k1, bq, hs⟩ := boxes1 w (Obj.cells #[.int .i64 3, .int .i64 a, .int .i64 b, .int .i64 n] 40)
  generalize w.alloc (Obj.cells #[.int .i64 3, .int .i64 a, .int .i64 b, .int .i64 n] 40) = wq at *
  have i0 := vCell_blk N0 0
  have i1 := vCell_blk N0 1
  have i2 := vCell_blk N0 2
  simp at i0 i1 i2
  replace ra := k1 _ _ ra
  replace rb := k1 _ _ rb
  replace r0 := k1 _ _ r0
  clear N0 k1 hs hV
  cases t0 : (vAt k a == 1) with
  | false =>
    have HV : r = false := by rw [HR.out]; (try simp at t0); simp [vMayDo, t0]
    go_wp2
    go_ret
    exact ⟨by first | rfl | (rw [HV]; rfl), bq⟩
  | true =>
    cases t1 : (vAt k b == 1) with
    | false =>
      have HV : r = false := by rw [HR.out]; (try simp at t1); simp [vMayDo, t1]
      go_wp2
      go_ret
      exact ⟨by first | rfl | (rw [HV]; rfl), bq⟩
    | true =>
      have HV : r = true := by rw [HR.out]; (try simp at t0); (try simp at t1); simp [vMayDo, t0, t1]
      go_wp2
      go_ret
      exact ⟨by first | rfl | (rw [HV]; rfl), bq⟩

set_option maxRecDepth 100000 in
set_option maxHeartbeats 1000000 in
theorem rMay4_any (n : Int) (a b : Nat) (k : List Int) (ka : Option Addr) (kc : Nat) (w : World) (hV : VInts w ka k) (hk : k.length = 8) (ha : a < 8) (hb : b < 8) :
    Calls Tryd.prog 53 #[.slice ka 8 kc, insV 4 a b n] w fun e w' => e = .returned (.bool (vMayDo 4 a b k)) ∧ Below w.heap.size w w' := by
  obtain ⟨r, hr⟩ : ∃ r, r = vMayDo 4 a b k := ⟨_, rfl⟩
  have HR : Aside (r = vMayDo 4 a b k) := hr
  rw [← hr]
  clear hr
  have haz : (a : Int) < 8 := by omega
  have hbz : (b : Int) < 8 := by omega
  obtain ⟨kb, ko, rfl, r0⟩ := hV 0 (vAt k 0) (vAt_some hk (by omega))
  obtain ⟨_, _, e1, ra⟩ := hV a (vAt k a) (vAt_some hk ha)
  obtain ⟨_, _, e2, rb⟩ := hV b (vAt k b) (vAt_some hk hb)
  simp only [Option.some.injEq, Addr.mk.injEq, and_true] at e1 e2
  obtain ⟨rfl, rfl⟩ := e1
  obtain ⟨rfl, rfl⟩ := e2
  rw [Nat.add_zero] at r0
  have hkl := World.block_lt_of_cell? _ _ ra
  go_enter Tryd.func53, Tryd.ntmps53
  go_upto_region 1 with fail
  obtain ⟨N0, k1, bq, hs⟩ := boxes1 w (Obj.cells #[.int .i64 4, .int .i64 a, .int .i64 b, .int .i64 n] 40)
  generalize w.alloc (Obj.cells #[.int .i64 4, .int .i64 a, .int .i64 b, .int .i64 n] 40) = wq at *
  have i0 := vCell_blk N0 0
  have i1 := vCell_blk N0 1
  have i2 := vCell_blk N0 2
  simp at i0 i1 i2
  replace ra := k1 _ _ ra
  replace rb := k1 _ _ rb
  replace r0 := k1 _ _ r0
  clear N0 k1 hs hV
  cases t0 : (vAt k a == 1) with
  | false =>
    have HV : r = false := by rw [HR.out]; (try simp at t0); simp [vMayDo, t0]
    go_wp2
    go_ret
    exact ⟨by first | rfl | (rw [HV]; rfl), bq⟩
  | true =>
    cases t1 : (vAt k b == 1) with
    | false =>
      have HV : r = false := by rw [HR.out]; (try simp at t1); simp [vMayDo, t1]
      go_wp2
      go_ret
      exact ⟨by first | rfl | (rw [HV]; rfl), bq⟩
    | true =>
      have HV : r = true := by rw [HR.out]; (try simp at t0); (try simp at t1); simp [vMayDo, t0, t1]
      go_wp2
      go_ret
      exact ⟨by first | rfl | (rw [HV]; rfl), bq⟩

set_option maxRecDepth 100000 in
set_option maxHeartbeats 1000000 in
theorem rMay5_any (n : Int) (a b : Nat) (k : List Int) (ka : Option Addr) (kc : Nat) (w : World) (hV : VInts w ka k) (hk : k.length = 8) (ha : a < 8) (hb : b < 8) :
    Calls Tryd.prog 53 #[.slice ka 8 kc, insV 5 a b n] w fun e w' => e = .returned (.bool (vMayDo 5 a b k)) ∧ Below w.heap.size w w' := by
  obtain ⟨r, hr⟩ : ∃ r, r = vMayDo 5 a b k := ⟨_, rfl⟩
  have HR : Aside (r = vMayDo 5 a b k) := hr
  rw [← hr]
  clear hr
  have haz : (a : Int) < 8 := by omega
  have hbz : (b : Int) < 8 := by omega
  obtain ⟨kb, ko, rfl, r0⟩ := hV 0 (vAt k 0) (vAt_some hk (by omega))
  obtain ⟨_, _, e1, ra⟩ := hV a (vAt k a) (vAt_some hk ha)
  obtain ⟨_, _, e2, rb⟩ := hV b (vAt k b) (vAt_some hk hb)
  simp only [Option.some.injEq, Addr.mk.injEq, and_true] at e1 e2
  obtain ⟨rfl, rfl⟩ := e1
  obtain ⟨rfl, rfl⟩ := e2
  rw [Nat.add_zero] at r0
  have hkl := World.block_lt_of_cell? _ _ ra
  go_enter Tryd.func53, Tryd.ntmps53
  go_upto_region 1 with fail
  obtain ⟨N0, k1, bq, hs⟩ := boxes1 w (Obj.cells #[.int .i64 5, .int .i64 a, .int .i64 b, .int .i64 n] 40)
  generalize w.alloc (Obj.cells #[.int .i64 5, .int .i64 a, .int .i64 b, .int .i64 n] 40) = wq at *
  have i0 := vCell_blk N0 0
  have i1 := vCell_blk N0 1
  have i2 := vCell_blk N0 2
  simp at i0 i1 i2
  replace ra := k1 _ _ ra
  replace rb := k1 _ _ rb
  replace r0 := k1 _ _ r0
  clear N0 k1 hs hV
  cases t0 : (vAt k a == 1) with
  | false =>
    have HV : r = false := by rw [HR.out]; (try simp at t0); simp [vMayDo, t0]
    go_wp2
    go_ret
    exact ⟨by first | rfl | (rw [HV]; rfl), bq⟩
  | true =>
    have HV : r = true := by rw [HR.out]; (try simp at t0); simp [vMayDo, t0]
    go_wp2
    go_ret
    exact ⟨by first | rfl | (rw [HV]; rfl), bq⟩

set_option maxRecDepth 100000 in
set_option maxHeartbeats 1000000 in
theorem rMay6_any (n : Int) (a b : Nat) (k : List Int) (ka : Option Addr) (kc : Nat) (w : World) (hV : VInts w ka k) (hk : k.length = 8) (ha : a < 8) (hb : b < 8) :
    Calls Tryd.prog 53 #[.slice ka 8 kc, insV 6 a b n] w fun e w' => e = .returned (.bool (vMayDo 6 a b k)) ∧ Below w.heap.size w w' := by
  obtain ⟨r, hr⟩ : ∃ r, r = vMayDo 6 a b k := ⟨_, rfl⟩
  have HR : Aside (r = vMayDo 6 a b k) := hr
  rw [← hr]
  clear hr
  have haz : (a : Int) < 8 := by omega
  have hbz : (b : Int) < 8 := by omega
  obtain ⟨kb, ko, rfl, r0⟩ := hV 0 (vAt k 0) (vAt_some hk (by omega))
  obtain ⟨_, _, e1, ra⟩ := hV a (vAt k a) (vAt_some hk ha)
  obtain ⟨_, _, e2, rb⟩ := hV b (vAt k b) (vAt_some hk hb)
  simp only [Option.some.injEq, Addr.mk.injEq, and_true] at e1 e2
  obtain ⟨rfl, rfl⟩ := e1
  obtain ⟨rfl, rfl⟩ := e2
  rw [Nat.add_zero] at r0
  have hkl := World.block_lt_of_cell? _ _ ra
  go_enter Tryd.func53, Tryd.ntmps53
  go_upto_region 1 with fail
  obtain ⟨N0, k1, bq, hs⟩ := boxes1 w (Obj.cells #[.int .i64 6, .int .i64 a, .int .i64 b, .int .i64 n] 40)
  generalize w.alloc (Obj.cells #[.int .i64 6, .int .i64 a, .int .i64 b, .int .i64 n] 40) = wq at *
  have i0 := vCell_blk N0 0
  have i1 := vCell_blk N0 1
  have i2 := vCell_blk N0 2
  simp at i0 i1 i2
  replace ra := k1 _ _ ra
  replace rb := k1 _ _ rb
  replace r0 := k1 _ _ r0
  clear N0 k1 hs hV
  have HV : r = true := by rw [HR.out]; simp [vMayDo]
  go_wp2
  go_ret
  exact ⟨by first | rfl | (rw [HV]; rfl), bq⟩

set_option maxRecDepth 100000 in
set_option maxHeartbeats 1000000 in
theorem rMay7_any (n : Int) (a b : Nat) (k : List Int) (ka : Option Addr) (kc : Nat) (w : World) (hV : VInts w ka k) (hk : k.length = 8) (ha : a < 8) (hb : b < 8) :
    Calls Tryd.prog 53 #[.slice ka 8 kc, insV 7 a b n] w fun e w' => e = .returned (.bool (vMayDo 7 a b k)) ∧ Below w.heap.size w w' := by
  obtain ⟨r, hr⟩ : ∃ r, r = vMayDo 7 a b k := ⟨_, rfl⟩
  have HR : Aside (r = vMayDo 7 a b k) := hr
  rw [← hr]
  clear hr
  have haz : (a : Int) < 8 := by omega
  have hbz : (b : Int) < 8 := by omega
  obtain ⟨kb, ko, rfl, r0⟩ := hV 0 (vAt k 0) (vAt_some hk (by omega))
  obtain ⟨_, _, e1, ra⟩ := hV a (vAt k a) (vAt_some hk ha)
  obtain ⟨_, _, e2, rb⟩ := hV b (vAt k b) (vAt_some hk hb)
  simp only [Option.some.injEq, Addr.mk.injEq, and_true] at e1 e2
  obtain ⟨rfl, rfl⟩ := e1
  obtain ⟨rfl, rfl⟩ := e2
  rw [Nat.add_zero] at r0
  have hkl := World.block_lt_of_cell? _ _ ra
  go_enter Tryd.func53, Tryd.ntmps53
  go_upto_region 1 with fail
  obtain ⟨N0, k1, bq, hs⟩ := boxes1 w (Obj.cells #[.int .i64 7, .int .i64 a, .int .i64 b, .int .i64 n] 40)
  generalize w.alloc (Obj.cells #[.int .i64 7, .int .i64 a, .int .i64 b, .int .i64 n] 40) = wq at *
  have i0 := vCell_blk N0 0
  have i1 := vCell_blk N0 1
  have i2 := vCell_blk N0 2
  simp at i0 i1 i2
  replace ra := k1 _ _ ra
  replace rb := k1 _ _ rb
  replace r0 := k1 _ _ r0
  clear N0 k1 hs hV
  have HV : r = true := by rw [HR.out]; simp [vMayDo]
  go_wp2
  go_ret
  exact ⟨by first | rfl | (rw [HV]; rfl), bq⟩

set_option maxRecDepth 100000 in
set_option maxHeartbeats 1000000 in
theorem rMay8_any (n : Int) (a b : Nat) (k : List Int) (ka : Option Addr) (kc : Nat) (w : World) (hV : VInts w ka k) (hk : k.length = 8) (ha : a < 8) (hb : b < 8) :
    Calls Tryd.prog 53 #[.slice ka 8 kc, insV 8 a b n] w fun e w' => e = .returned (.bool (vMayDo 8 a b k)) ∧ Below w.heap.size w w' := by
  obtain ⟨r, hr⟩ : ∃ r, r = vMayDo 8 a b k := ⟨_, rfl⟩
  have HR : Aside (r = vMayDo 8 a b k) := hr
  rw [← hr]
  clear hr
  have haz : (a : Int) < 8 := by omega
  have hbz : (b : Int) < 8 := by omega
  obtain ⟨kb, ko, rfl, r0⟩ := hV 0 (vAt k 0) (vAt_some hk (by omega))
  obtain ⟨_, _, e1, ra⟩ := hV a (vAt k a) (vAt_some hk ha)
  obtain ⟨_, _, e2, rb⟩ := hV b (vAt k b) (vAt_some hk hb)
  simp only [Option.some.injEq, Addr.mk.injEq, and_true] at e1 e2
  obtain ⟨rfl, rfl⟩ := e1
  obtain ⟨rfl, rfl⟩ := e2
  rw [Nat.add_zero] at r0
  have hkl := World.block_lt_of_cell? _ _ ra
  go_enter Tryd.func53, Tryd.ntmps53
  go_upto_region 1 with fail
  obtain ⟨N0, k1, bq, hs⟩ := boxes1 w (Obj.cells #[.int .i64 8, .int .i64 a, .int .i64 b, .int .i64 n] 40)
  generalize w.alloc (Obj.cells #[.int .i64 8, .int .i64 a, .int .i64 b, .int .i64 n] 40) = wq at *
  have i0 := vCell_blk N0 0
  have i1 := vCell_blk N0 1
  have i2 := vCell_blk N0 2
  simp at i0 i1 i2
  replace ra := k1 _ _ ra
  replace rb := k1 _ _ rb
  replace r0 := k1 _ _ r0
  clear N0 k1 hs hV
  cases t0 : vObj (vAt k b) with
  | false =>
    have HV : r = false := by rw [HR.out]; (try simp at t0); simp [vMayDo, t0]
    go_wp2_with (go_at_call 73; refine (vIsObjectR_any _ _).mono ?_; rintro e w' ⟨rfl, rfl⟩; try (first | rw [t0]))
    go_ret
    exact ⟨by first | rfl | (rw [HV]; rfl), bq⟩
  | true =>
    have HV : r = true := by rw [HR.out]; (try simp at t0); simp [vMayDo, t0]
    go_wp2_with (go_at_call 73; refine (vIsObjectR_any _ _).mono ?_; rintro e w' ⟨rfl, rfl⟩; try (first | rw [t0]))
    go_ret
    exact ⟨by first | rfl | (rw [HV]; rfl), bq⟩

set_option maxRecDepth 100000 in
set_option maxHeartbeats 1000000 in
theorem rMay9_any (n : Int) (a b : Nat) (k : List Int) (ka : Option Addr) (kc : Nat) (w : World) (hV : VInts w ka k) (hk : k.length = 8) (ha : a < 8) (hb : b < 8) :
    Calls Tryd.prog 53 #[.slice ka 8 kc, insV 9 a b n] w fun e w' => e = .returned (.bool (vMayDo 9 a b k)) ∧ Below w.heap.size w w' := by
  obtain ⟨r, hr⟩ : ∃ r, r = vMayDo 9 a b k := ⟨_, rfl⟩
  have HR : Aside (r = vMayDo 9 a b k) := hr
  rw [← hr]
  clear hr
  have haz : (a : Int) < 8 := by omega
  have hbz : (b : Int) < 8 := by omega
  obtain ⟨kb, ko, rfl, r0⟩ := hV 0 (vAt k 0) (vAt_some hk (by omega))
  obtain ⟨_, _, e1, ra⟩ := hV a (vAt k a) (vAt_some hk ha)
  obtain ⟨_, _, e2, rb⟩ := hV b (vAt k b) (vAt_some hk hb)
  simp only [Option.some.injEq, Addr.mk.injEq, and_true] at e1 e2
  obtain ⟨rfl, rfl⟩ := e1
  obtain ⟨rfl, rfl⟩ := e2
  rw [Nat.add_zero] at r0
  have hkl := World.block_lt_of_cell? _ _ ra
  go_enter Tryd.func53, Tryd.ntmps53
  go_upto_region 1 with fail
  obtain ⟨N0, k1, bq, hs⟩ := boxes1 w (Obj.cells #[.int .i64 9, .int .i64 a, .int .i64 b, .int .i64 n] 40)
  generalize w.alloc (Obj.cells #[.int .i64 9, .int .i64 a, .int .i64 b, .int .i64 n] 40) = wq at *
  have i0 := vCell_blk N0 0
  have i1 := vCell_blk N0 1
  have i2 := vCell_blk N0 2
  simp at i0 i1 i2
  replace ra := k1 _ _ ra
  replace rb := k1 _ _ rb
  replace r0 := k1 _ _ r0
  clear N0 k1 hs hV
  cases t0 : vObj (vAt k a) with
  | false =>
    have HV : r = false := by rw [HR.out]; (try simp at t0); simp [vMayDo, t0]
    go_wp2_with (go_at_call 73; refine (vIsObjectR_any _ _).mono ?_; rintro e w' ⟨rfl, rfl⟩; try (first | rw [t0]))
    go_ret
    exact ⟨by first | rfl | (rw [HV]; rfl), bq⟩
  | true =>
    cases t1 : (vAt k b == 1) with
    | false =>
      have HV : r = false := by rw [HR.out]; (try simp at t1); simp [vMayDo, t1]
      go_wp2_with (go_at_call 73; refine (vIsObjectR_any _ _).mono ?_; rintro e w' ⟨rfl, rfl⟩; try (first | rw [t0]))
      go_ret
      exact ⟨by first | rfl | (rw [HV]; rfl), bq⟩
    | true =>
      have HV : r = true := by rw [HR.out]; (try simp at t0); (try simp at t1); simp [vMayDo, t0, t1]
      go_wp2_with (go_at_call 73; refine (vIsObjectR_any _ _).mono ?_; rintro e w' ⟨rfl, rfl⟩; try (first | rw [t0]))
      go_ret
      exact ⟨by first | rfl | (rw [HV]; rfl), bq⟩

set_option maxRecDepth 100000 in
set_option maxHeartbeats 1000000 in
theorem rMay10_any (n : Int) (a b : Nat) (k : List Int) (ka : Option Addr) (kc : Nat) (w : World) (hV : VInts w ka k) (hk : k.length = 8) (ha : a < 8) (hb : b < 8) :
    Calls Tryd.prog 53 #[.slice ka 8 kc, insV 10 a b n] w fun e w' => e = .returned (.bool (vMayDo 10 a b k)) ∧ Below w.heap.size w w' := by
  obtain ⟨r, hr⟩ : ∃ r, r = vMayDo 10 a b k := ⟨_, rfl⟩
  have HR : Aside (r = vMayDo 10 a b k) := hr
  rw [← hr]
  clear hr
  have haz : (a : Int) < 8 := by omega
  have hbz : (b : Int) < 8 := by omega
  obtain ⟨kb, ko, rfl, r0⟩ := hV 0 (vAt k 0) (vAt_some hk (by omega))
  obtain ⟨_, _, e1, ra⟩ := hV a (vAt k a) (vAt_some hk ha)
  obtain ⟨_, _, e2, rb⟩ := hV b (vAt k b) (vAt_some hk hb)
  simp only [Option.some.injEq, Addr.mk.injEq, and_true] at e1 e2
  obtain ⟨rfl, rfl⟩ := e1
  obtain ⟨rfl, rfl⟩ := e2
  rw [Nat.add_zero] at r0
  have hkl := World.block_lt_of_cell? _ _ ra
  go_enter Tryd.func53, Tryd.ntmps53
  go_upto_region 1 with fail
  obtain ⟨N0, k1, bq, hs⟩ := boxes1 w (Obj.cells #[.int .i64 10, .int .i64 a, .int .i64 b, .int .i64 n] 40)
  generalize w.alloc (Obj.cells #[.int .i64 10, .int .i64 a, .int .i64 b, .int .i64 n] 40) = wq at *
  have i0 := vCell_blk N0 0
  have i1 := vCell_blk N0 1
  have i2 := vCell_blk N0 2
  simp at i0 i1 i2
  replace ra := k1 _ _ ra
  replace rb := k1 _ _ rb
  replace r0 := k1 _ _ r0
  clear N0 k1 hs hV
  cases t0 : vObj (vAt k b) with
  | false =>
    have HV : r = false := by rw [HR.out]; (try simp at t0); simp [vMayDo, t0]
    go_wp2_with (go_at_call 73; refine (vIsObjectR_any _ _).mono ?_; rintro e w' ⟨rfl, rfl⟩; try (first | rw [t0]))
    go_ret
    exact ⟨by first | rfl | (rw [HV]; rfl), bq⟩
  | true =>
    have HV : r = true := by rw [HR.out]; (try simp at t0); simp [vMayDo, t0]
    go_wp2_with (go_at_call 73; refine (vIsObjectR_any _ _).mono ?_; rintro e w' ⟨rfl, rfl⟩; try (first | rw [t0]))
    go_ret
    exact ⟨by first | rfl | (rw [HV]; rfl), bq⟩

set_option maxRecDepth 100000 in
set_option maxHeartbeats 1000000 in
theorem rMay11_any (n : Int) (a b : Nat) (k : List Int) (ka : Option Addr) (kc : Nat) (w : World) (hV : VInts w ka k) (hk : k.length = 8) (ha : a < 8) (hb : b < 8) :
    Calls Tryd.prog 53 #[.slice ka 8 kc, insV 11 a b n] w fun e w' => e = .returned (.bool (vMayDo 11 a b k)) ∧ Below w.heap.size w w' := by
  obtain ⟨r, hr⟩ : ∃ r, r = vMayDo 11 a b k := ⟨_, rfl⟩
  have HR : Aside (r = vMayDo 11 a b k) := hr
  rw [← hr]
  clear hr
  have haz : (a : Int) < 8 := by omega
  have hbz : (b : Int) < 8 := by omega
  obtain ⟨kb, ko, rfl, r0⟩ := hV 0 (vAt k 0) (vAt_some hk (by omega))
  obtain ⟨_, _, e1, ra⟩ := hV a (vAt k a) (vAt_some hk ha)
  obtain ⟨_, _, e2, rb⟩ := hV b (vAt k b) (vAt_some hk hb)
  simp only [Option.some.injEq, Addr.mk.injEq, and_true] at e1 e2
  obtain ⟨rfl, rfl⟩ := e1
  obtain ⟨rfl, rfl⟩ := e2
  rw [Nat.add_zero] at r0
  have hkl := World.block_lt_of_cell? _ _ ra
  go_enter Tryd.func53, Tryd.ntmps53
  go_upto_region 1 with fail
  obtain ⟨N0, k1, bq, hs⟩ := boxes1 w (Obj.cells #[.int .i64 11, .int .i64 a, .int .i64 b, .int .i64 n] 40)
  generalize w.alloc (Obj.cells #[.int .i64 11, .int .i64 a, .int .i64 b, .int .i64 n] 40) = wq at *
  have i0 := vCell_blk N0 0
  have i1 := vCell_blk N0 1
  have i2 := vCell_blk N0 2
  simp at i0 i1 i2
  replace ra := k1 _ _ ra
  replace rb := k1 _ _ rb
  replace r0 := k1 _ _ r0
  clear N0 k1 hs hV
  cases t0 : vObj (vAt k a) with
  | false =>
    have HV : r = false := by rw [HR.out]; (try simp at t0); simp [vMayDo, t0]
    go_wp2_with (go_at_call 73; refine (vIsObjectR_any _ _).mono ?_; rintro e w' ⟨rfl, rfl⟩; try (first | rw [t0]))
    go_ret
    exact ⟨by first | rfl | (rw [HV]; rfl), bq⟩
  | true =>
    cases t1 : vObj (vAt k b) with
    | false =>
      have HV : r = false := by rw [HR.out]; (try simp at t1); simp [vMayDo, t1]
      go_wp2_with (go_at_call 73; refine (vIsObjectR_any _ _).mono ?_; rintro e w' ⟨rfl, rfl⟩; try (first | rw [t0] | rw [t1]))
      go_ret
      exact ⟨by first | rfl | (rw [HV]; rfl), bq⟩
    | true =>
      have HV : r = true := by rw [HR.out]; (try simp at t0); (try simp at t1); simp [vMayDo, t0, t1]
      go_wp2_with (go_at_call 73; refine (vIsObjectR_any _ _).mono ?_; rintro e w' ⟨rfl, rfl⟩; try (first | rw [t0] | rw [t1]))
      go_ret
      exact ⟨by first | rfl | (rw [HV]; rfl), bq⟩

set_option maxRecDepth 100000 in
set_option maxHeartbeats 1000000 in
theorem rMay12_any (n : Int) (a b : Nat) (k : List Int) (ka : Option Addr) (kc : Nat) (w : World) (hV : VInts w ka k) (hk : k.length = 8) (ha : a < 8) (hb : b < 8) :
    Calls Tryd.prog 53 #[.slice ka 8 kc, insV 12 a b n] w fun e w' => e = .returned (.bool (vMayDo 12 a b k)) ∧ Below w.heap.size w w' := by
  obtain ⟨r, hr⟩ : ∃ r, r = vMayDo 12 a b k := ⟨_, rfl⟩
  have HR : Aside (r = vMayDo 12 a b k) := hr
  rw [← hr]
  clear hr
  have haz : (a : Int) < 8 := by omega
  have hbz : (b : Int) < 8 := by omega
  obtain ⟨kb, ko, rfl, r0⟩ := hV 0 (vAt k 0) (vAt_some hk (by omega))
  obtain ⟨_, _, e1, ra⟩ := hV a (vAt k a) (vAt_some hk ha)
  obtain ⟨_, _, e2, rb⟩ := hV b (vAt k b) (vAt_some hk hb)
  simp only [Option.some.injEq, Addr.mk.injEq, and_true] at e1 e2
  obtain ⟨rfl, rfl⟩ := e1
  obtain ⟨rfl, rfl⟩ := e2
  rw [Nat.add_zero] at r0
  have hkl := World.block_lt_of_cell? _ _ ra
  go_enter Tryd.func53, Tryd.ntmps53
  go_upto_region 1 with fail
  obtain ⟨N0, k1, bq, hs⟩ := boxes1 w (Obj.cells #[.int .i64 12, .int .i64 a, .int .i64 b, .int .i64 n] 40)
  generalize w.alloc (Obj.cells #[.int .i64 12, .int .i64 a, .int .i64 b, .int .i64 n] 40) = wq at *
  have i0 := vCell_blk N0 0
  have i1 := vCell_blk N0 1
  have i2 := vCell_blk N0 2
  simp at i0 i1 i2
  replace ra := k1 _ _ ra
  replace rb := k1 _ _ rb
  replace r0 := k1 _ _ r0
  clear N0 k1 hs hV
  cases t0 : (vAt k b != 0) with
  | false =>
    have HV : r = false := by rw [HR.out]; (try simp at t0); simp [vMayDo, t0]
    go_wp2
    go_ret
    exact ⟨by first | rfl | (rw [HV]; rfl), bq⟩
  | true =>
    have HV : r = true := by rw [HR.out]; (try simp at t0); simp [vMayDo, t0]
    go_wp2
    go_ret
    exact ⟨by first | rfl | (rw [HV]; rfl), bq⟩

set_option maxRecDepth 100000 in
set_option maxHeartbeats 1000000 in
theorem rMay13_any (n : Int) (a b : Nat) (k : List Int) (ka : Option Addr) (kc : Nat) (w : World) (hV : VInts w ka k) (hk : k.length = 8) (ha : a < 8) (hb : b < 8) :
    Calls Tryd.prog 53 #[.slice ka 8 kc, insV 13 a b n] w fun e w' => e = .returned (.bool (vMayDo 13 a b k)) ∧ Below w.heap.size w w' := by
  obtain ⟨r, hr⟩ : ∃ r, r = vMayDo 13 a b k := ⟨_, rfl⟩
  have HR : Aside (r = vMayDo 13 a b k) := hr
  rw [← hr]
  clear hr
  have haz : (a : Int) < 8 := by omega
  have hbz : (b : Int) < 8 := by omega
  obtain ⟨kb, ko, rfl, r0⟩ := hV 0 (vAt k 0) (vAt_some hk (by omega))
  obtain ⟨_, _, e1, ra⟩ := hV a (vAt k a) (vAt_some hk ha)
  obtain ⟨_, _, e2, rb⟩ := hV b (vAt k b) (vAt_some hk hb)
  simp only [Option.some.injEq, Addr.mk.injEq, and_true] at e1 e2
  obtain ⟨rfl, rfl⟩ := e1
  obtain ⟨rfl, rfl⟩ := e2
  rw [Nat.add_zero] at r0
  have hkl := World.block_lt_of_cell? _ _ ra
  go_enter Tryd.func53, Tryd.ntmps53
  go_upto_region 1 with fail
  obtain ⟨N0, k1, bq, hs⟩ := boxes1 w (Obj.cells #[.int .i64 13, .int .i64 a, .int .i64 b, .int .i64 n] 40)
  generalize w.alloc (Obj.cells #[.int .i64 13, .int .i64 a, .int .i64 b, .int .i64 n] 40) = wq at *
  have i0 := vCell_blk N0 0
  have i1 := vCell_blk N0 1
  have i2 := vCell_blk N0 2
  simp at i0 i1 i2
  replace ra := k1 _ _ ra
  replace rb := k1 _ _ rb
  replace r0 := k1 _ _ r0
  clear N0 k1 hs hV
  cases t0 : (vAt k a == 3) with
  | false =>
    have HV : r = false := by rw [HR.out]; (try simp at t0); simp [vMayDo, t0]
    go_wp2
    go_ret
    exact ⟨by first | rfl | (rw [HV]; rfl), bq⟩
  | true =>
    cases t1 : (vAt k b == 1) with
    | false =>
      have HV : r = false := by rw [HR.out]; (try simp at t1); simp [vMayDo, t1]
      go_wp2
      go_ret
      exact ⟨by first | rfl | (rw [HV]; rfl), bq⟩
    | true =>
      have HV : r = true := by rw [HR.out]; (try simp at t0); (try simp at t1); simp [vMayDo, t0, t1]
      go_wp2
      go_ret
      exact ⟨by first | rfl | (rw [HV]; rfl), bq⟩

set_option maxRecDepth 100000 in
set_option maxHeartbeats 1000000 in
theorem rMay14_any (n : Int) (a b : Nat) (k : List Int) (ka : Option Addr) (kc : Nat) (w : World) (hV : VInts w ka k) (hk : k.length = 8) (ha : a < 8) (hb : b < 8) :
    Calls Tryd.prog 53 #[.slice ka 8 kc, insV 14 a b n] w fun e w' => e = .returned (.bool (vMayDo 14 a b k)) ∧ Below w.heap.size w w' := by
  obtain ⟨r, hr⟩ : ∃ r, r = vMayDo 14 a b k := ⟨_, rfl⟩
  have HR : Aside (r = vMayDo 14 a b k) := hr
  rw [← hr]
  clear hr
  have haz : (a : Int) < 8 := by omega
  have hbz : (b : Int) < 8 := by omega
  obtain ⟨kb, ko, rfl, r0⟩ := hV 0 (vAt k 0) (vAt_some hk (by omega))
  obtain ⟨_, _, e1, ra⟩ := hV a (vAt k a) (vAt_some hk ha)
  obtain ⟨_, _, e2, rb⟩ := hV b (vAt k b) (vAt_some hk hb)
  simp only [Option.some.injEq, Addr.mk.injEq, and_true] at e1 e2
  obtain ⟨rfl, rfl⟩ := e1
  obtain ⟨rfl, rfl⟩ := e2
  rw [Nat.add_zero] at r0
  have hkl := World.block_lt_of_cell? _ _ ra
  go_enter Tryd.func53, Tryd.ntmps53
  go_upto_region 1 with fail
  obtain ⟨N0, k1, bq, hs⟩ := boxes1 w (Obj.cells #[.int .i64 14, .int .i64 a, .int .i64 b, .int .i64 n] 40)
  generalize w.alloc (Obj.cells #[.int .i64 14, .int .i64 a, .int .i64 b, .int .i64 n] 40) = wq at *
  have i0 := vCell_blk N0 0
  have i1 := vCell_blk N0 1
  have i2 := vCell_blk N0 2
  simp at i0 i1 i2
  replace ra := k1 _ _ ra
  replace rb := k1 _ _ rb
  replace r0 := k1 _ _ r0
  clear N0 k1 hs hV
  cases t0 : vObj (vAt k a) with
  | false =>
    have HV : r = false := by rw [HR.out]; (try simp at t0); simp [vMayDo, t0]
    go_wp2_with (go_at_call 73; refine (vIsObjectR_any _ _).mono ?_; rintro e w' ⟨rfl, rfl⟩; try (first | rw [t0]))
    go_ret
    exact ⟨by first | rfl | (rw [HV]; rfl), bq⟩
  | true =>
    cases t1 : (vAt k b == 1) with
    | false =>
      have HV : r = false := by rw [HR.out]; (try simp at t1); simp [vMayDo, t1]
      go_wp2_with (go_at_call 73; refine (vIsObjectR_any _ _).mono ?_; rintro e w' ⟨rfl, rfl⟩; try (first | rw [t0]))
      go_ret
      exact ⟨by first | rfl | (rw [HV]; rfl), bq⟩
    | true =>
      have HV : r = true := by rw [HR.out]; (try simp at t0); (try simp at t1); simp [vMayDo, t0, t1]
      go_wp2_with (go_at_call 73; refine (vIsObjectR_any _ _).mono ?_; rintro e w' ⟨rfl, rfl⟩; try (first | rw [t0]))
      go_ret
      exact ⟨by first | rfl | (rw [HV]; rfl), bq⟩

set_option maxRecDepth 100000 in
set_option maxHeartbeats 1000000 in
theorem rMay15_any (n : Int) (a b : Nat) (k : List Int) (ka : Option Addr) (kc : Nat) (w : World) (hV : VInts w ka k) (hk : k.length = 8) (ha : a < 8) (hb : b < 8) :
    Calls Tryd.prog 53 #[.slice ka 8 kc, insV 15 a b n] w fun e w' => e = .returned (.bool (vMayDo 15 a b k)) ∧ Below w.heap.size w w' := by
  obtain ⟨r, hr⟩ : ∃ r, r = vMayDo 15 a b k := ⟨_, rfl⟩
  have HR : Aside (r = vMayDo 15 a b k) := hr
  rw [← hr]
  clear hr
  have haz : (a : Int) < 8 := by omega
  have hbz : (b : Int) < 8 := by omega
  obtain ⟨kb, ko, rfl, r0⟩ := hV 0 (vAt k 0) (vAt_some hk (by omega))
  obtain ⟨_, _, e1, ra⟩ := hV a (vAt k a) (vAt_some hk ha)
  obtain ⟨_, _, e2, rb⟩ := hV b (vAt k b) (vAt_some hk hb)
  simp only [Option.some.injEq, Addr.mk.injEq, and_true] at e1 e2
  obtain ⟨rfl, rfl⟩ := e1
  obtain ⟨rfl, rfl⟩ := e2
  rw [Nat.add_zero] at r0
  have hkl := World.block_lt_of_cell? _ _ ra
  go_enter Tryd.func53, Tryd.ntmps53
  go_upto_region 1 with fail
  obtain ⟨N0, k1, bq, hs⟩ := boxes1 w (Obj.cells #[.int .i64 15, .int .i64 a, .int .i64 b, .int .i64 n] 40)
  generalize w.alloc (Obj.cells #[.int .i64 15, .int .i64 a, .int .i64 b, .int .i64 n] 40) = wq at *
  have i0 := vCell_blk N0 0
  have i1 := vCell_blk N0 1
  have i2 := vCell_blk N0 2
  simp at i0 i1 i2
  replace ra := k1 _ _ ra
  replace rb := k1 _ _ rb
  replace r0 := k1 _ _ r0
  clear N0 k1 hs hV
  cases t0 : (vAt k a == 1) with
  | false =>
    have HV : r = false := by rw [HR.out]; (try simp at t0); simp [vMayDo, t0]
    go_wp2
    go_ret
    exact ⟨by first | rfl | (rw [HV]; rfl), bq⟩
  | true =>
    have HV : r = true := by rw [HR.out]; (try simp at t0); simp [vMayDo, t0]
    go_wp2
    go_ret
    exact ⟨by first | rfl | (rw [HV]; rfl), bq⟩

set_option maxRecDepth 100000 in
set_option maxHeartbeats 1000000 in
theorem rMay16_any (n : Int) (a b : Nat) (k : List Int) (ka : Option Addr) (kc : Nat) (w : World) (hV : VInts w ka k) (hk : k.length = 8) (ha : a < 8) (hb : b < 8) :
    Calls Tryd.prog 53 #[.slice ka 8 kc, insV 16 a b n] w fun e w' => e = .returned (.bool (vMayDo 16 a b k)) ∧ Below w.heap.size w w' := by
  obtain ⟨r, hr⟩ : ∃ r, r = vMayDo 16 a b k := ⟨_, rfl⟩
  have HR : Aside (r = vMayDo 16 a b k) := hr
  rw [← hr]
  clear hr
  have haz : (a : Int) < 8 := by omega
  have hbz : (b : Int) < 8 := by omega
  obtain ⟨kb, ko, rfl, r0⟩ := hV 0 (vAt k 0) (vAt_some hk (by omega))
  obtain ⟨_, _, e1, ra⟩ := hV a (vAt k a) (vAt_some hk ha)
  obtain ⟨_, _, e2, rb⟩ := hV b (vAt k b) (vAt_some hk hb)
  simp only [Option.some.injEq, Addr.mk.injEq, and_true] at e1 e2
  obtain ⟨rfl, rfl⟩ := e1
  obtain ⟨rfl, rfl⟩ := e2
  rw [Nat.add_zero] at r0
  have hkl := World.block_lt_of_cell? _ _ ra
  go_enter Tryd.func53, Tryd.ntmps53
  go_upto_region 1 with fail
  obtain ⟨N0, k1, bq, hs⟩ := boxes1 w (Obj.cells #[.int .i64 16, .int .i64 a, .int .i64 b, .int .i64 n] 40)
  generalize w.alloc (Obj.cells #[.int .i64 16, .int .i64 a, .int .i64 b, .int .i64 n] 40) = wq at *
  have i0 := vCell_blk N0 0
  have i1 := vCell_blk N0 1
  have i2 := vCell_blk N0 2
  simp at i0 i1 i2
  replace ra := k1 _ _ ra
  replace rb := k1 _ _ rb
  replace r0 := k1 _ _ r0
  clear N0 k1 hs hV
  have HV : r = true := by rw [HR.out]; simp [vMayDo]
  go_wp2
  go_ret
  exact ⟨by first | rfl | (rw [HV]; rfl), bq⟩

set_option maxRecDepth 100000 in
set_option maxHeartbeats 1000000 in
theorem rMay17_any (n : Int) (a b : Nat) (k : List Int) (ka : Option Addr) (kc : Nat) (w : World) (hV : VInts w ka k) (hk : k.length = 8) (ha : a < 8) (hb : b < 8) :
    Calls Tryd.prog 53 #[.slice ka 8 kc, insV 17 a b n] w fun e w' => e = .returned (.bool (vMayDo 17 a b k)) ∧ Below w.heap.size w w' := by
  obtain ⟨r, hr⟩ : ∃ r, r = vMayDo 17 a b k := ⟨_, rfl⟩
  have HR : Aside (r = vMayDo 17 a b k) := hr
  rw [← hr]
  clear hr
  have haz : (a : Int) < 8 := by omega
  have hbz : (b : Int) < 8 := by omega
  obtain ⟨kb, ko, rfl, r0⟩ := hV 0 (vAt k 0) (vAt_some hk (by omega))
  obtain ⟨_, _, e1, ra⟩ := hV a (vAt k a) (vAt_some hk ha)
  obtain ⟨_, _, e2, rb⟩ := hV b (vAt k b) (vAt_some hk hb)
  simp only [Option.some.injEq, Addr.mk.injEq, and_true] at e1 e2
  obtain ⟨rfl, rfl⟩ := e1
  obtain ⟨rfl, rfl⟩ := e2
  rw [Nat.add_zero] at r0
  have hkl := World.block_lt_of_cell? _ _ ra
  go_enter Tryd.func53, Tryd.ntmps53
  go_upto_region 1 with fail
  obtain ⟨N0, k1, bq, hs⟩ := boxes1 w (Obj.cells #[.int .i64 17, .int .i64 a, .int .i64 b, .int .i64 n] 40)
  generalize w.alloc (Obj.cells #[.int .i64 17, .int .i64 a, .int .i64 b, .int .i64 n] 40) = wq at *
  have i0 := vCell_blk N0 0
  have i1 := vCell_blk N0 1
  have i2 := vCell_blk N0 2
  simp at i0 i1 i2
  replace ra := k1 _ _ ra
  replace rb := k1 _ _ rb
  replace r0 := k1 _ _ r0
  clear N0 k1 hs hV
  cases t0 : (vAt k b == 3) with
  | false =>
    have HV : r = false := by rw [HR.out]; (try simp at t0); simp [vMayDo, t0]
    go_wp2
    go_ret
    exact ⟨by first | rfl | (rw [HV]; rfl), bq⟩
  | true =>
    have HV : r = true := by rw [HR.out]; (try simp at t0); simp [vMayDo, t0]
    go_wp2
    go_ret
    exact ⟨by first | rfl | (rw [HV]; rfl), bq⟩

set_option maxRecDepth 100000 in
set_option maxHeartbeats 1000000 in
theorem rMay18_any (n : Int) (a b : Nat) (k : List Int) (ka : Option Addr) (kc : Nat) (w : World) (hV : VInts w ka k) (hk : k.length = 8) (ha : a < 8) (hb : b < 8) :
    Calls Tryd.prog 53 #[.slice ka 8 kc, insV 18 a b n] w fun e w' => e = .returned (.bool (vMayDo 18 a b k)) ∧ Below w.heap.size w w' := by
  obtain ⟨r, hr⟩ : ∃ r, r = vMayDo 18 a b k := ⟨_, rfl⟩
  have HR : Aside (r = vMayDo 18 a b k) := hr
  rw [← hr]
  clear hr
  have haz : (a : Int) < 8 := by omega
  have hbz : (b : Int) < 8 := by omega
  obtain ⟨kb, ko, rfl, r0⟩ := hV 0 (vAt k 0) (vAt_some hk (by omega))
  obtain ⟨_, _, e1, ra⟩ := hV a (vAt k a) (vAt_some hk ha)
  obtain ⟨_, _, e2, rb⟩ := hV b (vAt k b) (vAt_some hk hb)
  simp only [Option.some.injEq, Addr.mk.injEq, and_true] at e1 e2
  obtain ⟨rfl, rfl⟩ := e1
  obtain ⟨rfl, rfl⟩ := e2
  rw [Nat.add_zero] at r0
  have hkl := World.block_lt_of_cell? _ _ ra
  go_enter Tryd.func53, Tryd.ntmps53
  go_upto_region 1 with fail
  obtain ⟨N0, k1, bq, hs⟩ := boxes1 w (Obj.cells #[.int .i64 18, .int .i64 a, .int .i64 b, .int .i64 n] 40)
  generalize w.alloc (Obj.cells #[.int .i64 18, .int .i64 a, .int .i64 b, .int .i64 n] 40) = wq at *
  have i0 := vCell_blk N0 0
  have i1 := vCell_blk N0 1
  have i2 := vCell_blk N0 2
  simp at i0 i1 i2
  replace ra := k1 _ _ ra
  replace rb := k1 _ _ rb
  replace r0 := k1 _ _ r0
  clear N0 k1 hs hV
  have HV : r = true := by rw [HR.out]; simp [vMayDo]
  go_wp2
  go_ret
  exact ⟨by first | rfl | (rw [HV]; rfl), bq⟩

set_option maxRecDepth 100000 in
set_option maxHeartbeats 1000000 in
theorem rMay19_any (n : Int) (a b : Nat) (k : List Int) (ka : Option Addr) (kc : Nat) (w : World) (hV : VInts w ka k) (hk : k.length = 8) (ha : a < 8) (hb : b < 8) :
    Calls Tryd.prog 53 #[.slice ka 8 kc, insV 19 a b n] w fun e w' => e = .returned (.bool (vMayDo 19 a b k)) ∧ Below w.heap.size w w' := by
  obtain ⟨r, hr⟩ : ∃ r, r = vMayDo 19 a b k := ⟨_, rfl⟩
  have HR : Aside (r = vMayDo 19 a b k) := hr
  rw [← hr]
  clear hr
  have haz : (a : Int) < 8 := by omega
  have hbz : (b : Int) < 8 := by omega
  obtain ⟨kb, ko, rfl, r0⟩ := hV 0 (vAt k 0) (vAt_some hk (by omega))
  obtain ⟨_, _, e1, ra⟩ := hV a (vAt k a) (vAt_some hk ha)
  obtain ⟨_, _, e2, rb⟩ := hV b (vAt k b) (vAt_some hk hb)
  simp only [Option.some.injEq, Addr.mk.injEq, and_true] at e1 e2
  obtain ⟨rfl, rfl⟩ := e1
  obtain ⟨rfl, rfl⟩ := e2
  rw [Nat.add_zero] at r0
  have hkl := World.block_lt_of_cell? _ _ ra
  go_enter Tryd.func53, Tryd.ntmps53
  go_upto_region 1 with fail
  obtain ⟨N0, k1, bq, hs⟩ := boxes1 w (Obj.cells #[.int .i64 19, .int .i64 a, .int .i64 b, .int .i64 n] 40)
  generalize w.alloc (Obj.cells #[.int .i64 19, .int .i64 a, .int .i64 b, .int .i64 n] 40) = wq at *
  have i0 := vCell_blk N0 0
  have i1 := vCell_blk N0 1
  have i2 := vCell_blk N0 2
  simp at i0 i1 i2
  replace ra := k1 _ _ ra
  replace rb := k1 _ _ rb
  replace r0 := k1 _ _ r0
  clear N0 k1 hs hV
  have HV : r = true := by rw [HR.out]; simp [vMayDo]
  go_wp2
  go_ret
  exact ⟨by first | rfl | (rw [HV]; rfl), bq⟩

theorem rMayBeDone_any (op n : Int) (a b : Nat) (k : List Int) (ka : Option Addr) (kc : Nat) (w : World) (hop : 0 ≤ op ∧ op ≤ 19) (hV : VInts w ka k) (hk : k.length = 8) (ha : a < 8) (hb : b < 8) :
    Calls Tryd.prog 53 #[.slice ka 8 kc, insV op a b n] w fun e w' => e = .returned (.bool (vMayDo op a b k)) ∧ Below w.heap.size w w' := by
  have h : op = 0 ∨ op = 1 ∨ op = 2 ∨ op = 3 ∨ op = 4 ∨ op = 5 ∨ op = 6 ∨ op = 7 ∨ op = 8 ∨ op = 9 ∨ op = 10 ∨ op = 11 ∨ op = 12 ∨ op = 13 ∨ op = 14 ∨ op = 15 ∨ op = 16 ∨ op = 17 ∨ op = 18 ∨ op = 19 := by omega
  rcases h with rfl | rfl | rfl | rfl | rfl | rfl | rfl | rfl | rfl | rfl | rfl | rfl | rfl | rfl | rfl | rfl | rfl | rfl | rfl | rfl
  · exact rMay0_any n a b k ka kc w hV hk ha hb
  · exact rMay1_any n a b k ka kc w hV hk ha hb
  · exact rMay2_any n a b k ka kc w hV hk ha hb
  · exact rMay3_any n a b k ka kc w hV hk ha hb
  · exact rMay4_any n a b k ka kc w hV hk ha hb
  · exact rMay5_any n a b k ka kc w hV hk ha hb
  · exact rMay6_any n a b k ka kc w hV hk ha hb
  · exact rMay7_any n a b k ka kc w hV hk ha hb
  · exact rMay8_any n a b k ka kc w hV hk ha hb
  · exact rMay9_any n a b k ka kc w hV hk ha hb
  · exact rMay10_any n a b k ka kc w hV hk ha hb
  · exact rMay11_any n a b k ka kc w hV hk ha hb
  · exact rMay12_any n a b k ka kc w hV hk ha hb
  · exact rMay13_any n a b k ka kc w hV hk ha hb
  · exact rMay14_any n a b k ka kc w hV hk ha hb
  · exact rMay15_any n a b k ka kc w hV hk ha hb
  · exact rMay16_any n a b k ka kc w hV hk ha hb
  · exact rMay17_any n a b k ka kc w hV hk ha hb
  · exact rMay18_any n a b k ka kc w hV hk ha hb
  · exact rMay19_any n a b k ka kc w hV hk ha hb

end Go.Proofs.YtahcgnmhhgcfmaaDoor
