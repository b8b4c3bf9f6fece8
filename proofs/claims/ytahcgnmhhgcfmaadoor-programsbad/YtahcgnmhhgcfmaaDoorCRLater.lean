/- The reference's laterOf: what is known behind an instruction. (Written by tools/mk_later.py.) -/
import Derived.Test.YtahcgnmhhgcfmaaDoorCHApp
import Derived.Test.YtahcgnmhhgcfmaaDoorCVRegs
import Derived.Test.YtahcgnmhhgcfmaaDoorCPlain
namespace Go.Proofs.YtahcgnmhhgcfmaaDoor
open Go.RowKit

theorem fI_len (x : Int) : (fI x).length = 1 := rfl

theorem seqI_set {w : World} {base g n c : Nat} {l : List Int} {e : TypeId} (h : SeqOwn fI 1 e w base (.slice (some ⟨g, 0, none⟩) n c) l) {a : Nat} (ha : a < l.length) (y : Int) : SeqOwn fI 1 e (w.setCell ⟨g, a, none⟩ (.int .i64 y)) base (.slice (some ⟨g, 0, none⟩) n c) (l.set a y) := by
  have := SeqOwn.put fI_len h ha y
  rw [Nat.mul_one] at this
  exact this

theorem seqI_cell {w : World} {base g n c : Nat} {l : List Int} {e : TypeId} (h : SeqOwn fI 1 e w base (.slice (some ⟨g, 0, none⟩) n c) l) {a : Nat} {x : Int} (ha : l[a]? = some x) : w.cell? ⟨g, a, none⟩ = some (.int .i64 x) := by
  obtain ⟨b, o, e1, hc⟩ := seqI_to (SeqOwn.at fI_len h) a x ha
  rcases ownsRow_shape h with ⟨hv, _⟩ | ⟨g', cap, hv, _⟩
  · simp at hv
  · simp only [Option.some.injEq, Addr.mk.injEq, and_true] at e1
    obtain ⟨rfl, rfl⟩ := e1
    rwa [Nat.zero_add] at hc

theorem vAt_some {k : List Int} (hk : k.length = 8) {a : Nat} (ha : a < 8) : k[a]? = some (vAt k a) := by
  unfold vAt
  rw [Int.toNat_natCast, List.getElem?_eq_getElem (by omega)]
  rfl

set_option maxRecDepth 100000 in
set_option maxHeartbeats 1000000 in
theorem later0_any (n : Int) (a b : Nat) (k : List Int) (ka : Option Addr) (kc : Nat) (w : World) (hV : VInts w ka k) (hk : k.length = 8) (ha : a < 8) (hb : b < 8) :
    Calls Tryd.prog 69 #[.slice ka 8 kc, insV 0 a b n] w fun e w' => ∃ va vc, e = .returned (.slice va 8 vc) ∧ SeqOwn fI 1 3 w' w.heap.size (.slice va 8 vc) (vBehind 0 a b k) ∧ Below w.heap.size w w' := by
  have haz : (a : Int) < 8 := by omega
  have hbz : (b : Int) < 8 := by omega
  have ha0 : (0 : Int) ≤ (a : Int) := Int.natCast_nonneg _
  have hb0 : (0 : Int) ≤ (b : Int) := Int.natCast_nonneg _
  obtain ⟨R, hR⟩ : ∃ R, R = vBehind 0 a b k := ⟨_, rfl⟩
  have HR : Aside (R = vBehind 0 a b k) := hR
  rw [← hR]
  clear hR
  obtain ⟨kb, ko, rfl, kcell⟩ := hV b (vAt k b) (vAt_some hk hb)
  have hklt := World.block_lt_of_cell? _ _ kcell
  go_enter Tryd.func69, Tryd.ntmps69
  obtain ⟨N0, k1, b1, s1⟩ := boxes1 w (Obj.cells #[.int .i64 0, .int .i64 (a : Int), .int .i64 (b : Int), .int .i64 n] 40)
  go_upto_region 1 with fail
  generalize w.alloc (Obj.cells #[.int .i64 0, .int .i64 (a : Int), .int .i64 (b : Int), .int .i64 n] 40) = W at *
  have hsq : SeqAt fI 1 W (some ⟨kb, ko, none⟩) k := (seqI_of hV).keeps k1
  go_upto_region 2 with (at_builtin; refine wpList_seqCopy Tryd.rowI rfl _ _ (by rfl) (by rfl) k (some ⟨kb, ko, none⟩) kc (by simp [Act.eval, hk]) hsq (by rw [hk]; decide) (by rw [hk]; decide) ?_; rintro va vc w2 hO hb2; rw [hk] at hO ⊢)
  obtain ⟨g, rfl⟩ : ∃ g, va = some ⟨g, 0, none⟩ := by
    rcases ownsRow_shape hO with ⟨_, hn⟩ | ⟨g, _, hv, _⟩
    · omega
    · simp only [Value.slice.injEq] at hv
      exact ⟨g, hv.1⟩
  have hgl := SeqOwn.lt hO
  have hbF := b1.trans (hb2.mono b1.size)
  have N2 := (hb2.block _ (by omega : w.heap.size < W.heap.size)).trans N0
  replace kcell := Keeps.below hb2 _ _ (k1 _ _ kcell)
  replace hO := hO.le b1.size
  have i0 := vCell_blk N2 0
  have i1 := vCell_blk N2 1
  have i2 := vCell_blk N2 2
  simp at i0 i1 i2
  have fz : ∀ j, w2.frozen? ⟨g, j, none⟩ = false := fun j => ownsRow_frozenAt hO rfl j
  have ca := seqI_cell hO (vAt_some hk ha)
  have cb := seqI_cell hO (vAt_some hk hb)
  have hgw : w.heap.size ≠ g := by omega
  have hkg : kb ≠ g := by simp only at hklt; omega
  clear b1 hb2 N0 k1 hsq hV
  have HE : Aside (R = k) := by show R = k; rw [HR.out]; simp [vBehind]
  clear HR
  go_wp2
  go_ret
  exact ⟨_, _, rfl, by rw [HE.out]; exact hO, hbF⟩

set_option maxRecDepth 100000 in
set_option maxHeartbeats 1000000 in
theorem later1_any (n : Int) (a b : Nat) (k : List Int) (ka : Option Addr) (kc : Nat) (w : World) (hV : VInts w ka k) (hk : k.length = 8) (ha : a < 8) (hb : b < 8) :
    Calls Tryd.prog 69 #[.slice ka 8 kc, insV 1 a b n] w fun e w' => ∃ va vc, e = .returned (.slice va 8 vc) ∧ SeqOwn fI 1 3 w' w.heap.size (.slice va 8 vc) (vBehind 1 a b k) ∧ Below w.heap.size w w' := by
  have haz : (a : Int) < 8 := by omega
  have hbz : (b : Int) < 8 := by omega
  have ha0 : (0 : Int) ≤ (a : Int) := Int.natCast_nonneg _
  have hb0 : (0 : Int) ≤ (b : Int) := Int.natCast_nonneg _
  obtain ⟨R, hR⟩ : ∃ R, R = vBehind 1 a b k := ⟨_, rfl⟩
  have HR : Aside (R = vBehind 1 a b k) := hR
  rw [← hR]
  clear hR
  obtain ⟨kb, ko, rfl, kcell⟩ := hV b (vAt k b) (vAt_some hk hb)
  have hklt := World.block_lt_of_cell? _ _ kcell
  go_enter Tryd.func69, Tryd.ntmps69
  obtain ⟨N0, k1, b1, s1⟩ := boxes1 w (Obj.cells #[.int .i64 1, .int .i64 (a : Int), .int .i64 (b : Int), .int .i64 n] 40)
  go_upto_region 1 with fail
  generalize w.alloc (Obj.cells #[.int .i64 1, .int .i64 (a : Int), .int .i64 (b : Int), .int .i64 n] 40) = W at *
  have hsq : SeqAt fI 1 W (some ⟨kb, ko, none⟩) k := (seqI_of hV).keeps k1
  go_upto_region 2 with (at_builtin; refine wpList_seqCopy Tryd.rowI rfl _ _ (by rfl) (by rfl) k (some ⟨kb, ko, none⟩) kc (by simp [Act.eval, hk]) hsq (by rw [hk]; decide) (by rw [hk]; decide) ?_; rintro va vc w2 hO hb2; rw [hk] at hO ⊢)
  obtain ⟨g, rfl⟩ : ∃ g, va = some ⟨g, 0, none⟩ := by
    rcases ownsRow_shape hO with ⟨_, hn⟩ | ⟨g, _, hv, _⟩
    · omega
    · simp only [Value.slice.injEq] at hv
      exact ⟨g, hv.1⟩
  have hgl := SeqOwn.lt hO
  have hbF := b1.trans (hb2.mono b1.size)
  have N2 := (hb2.block _ (by omega : w.heap.size < W.heap.size)).trans N0
  replace kcell := Keeps.below hb2 _ _ (k1 _ _ kcell)
  replace hO := hO.le b1.size
  have i0 := vCell_blk N2 0
  have i1 := vCell_blk N2 1
  have i2 := vCell_blk N2 2
  simp at i0 i1 i2
  have fz : ∀ j, w2.frozen? ⟨g, j, none⟩ = false := fun j => ownsRow_frozenAt hO rfl j
  have ca := seqI_cell hO (vAt_some hk ha)
  have cb := seqI_cell hO (vAt_some hk hb)
  have hgw : w.heap.size ≠ g := by omega
  have hkg : kb ≠ g := by simp only at hklt; omega
  clear b1 hb2 N0 k1 hsq hV
  have HE : Aside (R = k.set a 1) := by show R = _; rw [HR.out]; simp [vBehind, vPut]
  have hF := seqI_set hO (a := a) (by omega) 1
  have hFB := hbF.setCell (p := ⟨g, a, none⟩) (by show w.heap.size ≤ g; omega) (.int .i64 1)
  rw [← HE.out] at hF
  have HF : Aside (SeqOwn fI 1 3 (w2.setCell ⟨g, a, none⟩ (.int .i64 1)) w.heap.size (.slice (some ⟨g, 0, none⟩) 8 vc) R ∧ Below w.heap.size w (w2.setCell ⟨g, a, none⟩ (.int .i64 1))) := ⟨hF, hFB⟩
  clear hF hFB HR HE hO hbF
  go_wp2
  go_ret
  exact ⟨_, _, rfl, HF.out.1, HF.out.2⟩

set_option maxRecDepth 100000 in
set_option maxHeartbeats 1000000 in
theorem later2_any (n : Int) (a b : Nat) (k : List Int) (ka : Option Addr) (kc : Nat) (w : World) (hV : VInts w ka k) (hk : k.length = 8) (ha : a < 8) (hb : b < 8) :
    Calls Tryd.prog 69 #[.slice ka 8 kc, insV 2 a b n] w fun e w' => ∃ va vc, e = .returned (.slice va 8 vc) ∧ SeqOwn fI 1 3 w' w.heap.size (.slice va 8 vc) (vBehind 2 a b k) ∧ Below w.heap.size w w' := by
  have haz : (a : Int) < 8 := by omega
  have hbz : (b : Int) < 8 := by omega
  have ha0 : (0 : Int) ≤ (a : Int) := Int.natCast_nonneg _
  have hb0 : (0 : Int) ≤ (b : Int) := Int.natCast_nonneg _
  obtain ⟨R, hR⟩ : ∃ R, R = vBehind 2 a b k := ⟨_, rfl⟩
  have HR : Aside (R = vBehind 2 a b k) := hR
  rw [← hR]
  clear hR
  obtain ⟨kb, ko, rfl, kcell⟩ := hV b (vAt k b) (vAt_some hk hb)
  have hklt := World.block_lt_of_cell? _ _ kcell
  go_enter Tryd.func69, Tryd.ntmps69
  obtain ⟨N0, k1, b1, s1⟩ := boxes1 w (Obj.cells #[.int .i64 2, .int .i64 (a : Int), .int .i64 (b : Int), .int .i64 n] 40)
  go_upto_region 1 with fail
  generalize w.alloc (Obj.cells #[.int .i64 2, .int .i64 (a : Int), .int .i64 (b : Int), .int .i64 n] 40) = W at *
  have hsq : SeqAt fI 1 W (some ⟨kb, ko, none⟩) k := (seqI_of hV).keeps k1
  go_upto_region 2 with (at_builtin; refine wpList_seqCopy Tryd.rowI rfl _ _ (by rfl) (by rfl) k (some ⟨kb, ko, none⟩) kc (by simp [Act.eval, hk]) hsq (by rw [hk]; decide) (by rw [hk]; decide) ?_; rintro va vc w2 hO hb2; rw [hk] at hO ⊢)
  obtain ⟨g, rfl⟩ : ∃ g, va = some ⟨g, 0, none⟩ := by
    rcases ownsRow_shape hO with ⟨_, hn⟩ | ⟨g, _, hv, _⟩
    · omega
    · simp only [Value.slice.injEq] at hv
      exact ⟨g, hv.1⟩
  have hgl := SeqOwn.lt hO
  have hbF := b1.trans (hb2.mono b1.size)
  have N2 := (hb2.block _ (by omega : w.heap.size < W.heap.size)).trans N0
  replace kcell := Keeps.below hb2 _ _ (k1 _ _ kcell)
  replace hO := hO.le b1.size
  have i0 := vCell_blk N2 0
  have i1 := vCell_blk N2 1
  have i2 := vCell_blk N2 2
  simp at i0 i1 i2
  have fz : ∀ j, w2.frozen? ⟨g, j, none⟩ = false := fun j => ownsRow_frozenAt hO rfl j
  have ca := seqI_cell hO (vAt_some hk ha)
  have cb := seqI_cell hO (vAt_some hk hb)
  have hgw : w.heap.size ≠ g := by omega
  have hkg : kb ≠ g := by simp only at hklt; omega
  clear b1 hb2 N0 k1 hsq hV
  have HE : Aside (R = k.set a 1) := by show R = _; rw [HR.out]; simp [vBehind, vPut]
  have hF := seqI_set hO (a := a) (by omega) 1
  have hFB := hbF.setCell (p := ⟨g, a, none⟩) (by show w.heap.size ≤ g; omega) (.int .i64 1)
  rw [← HE.out] at hF
  have HF : Aside (SeqOwn fI 1 3 (w2.setCell ⟨g, a, none⟩ (.int .i64 1)) w.heap.size (.slice (some ⟨g, 0, none⟩) 8 vc) R ∧ Below w.heap.size w (w2.setCell ⟨g, a, none⟩ (.int .i64 1))) := ⟨hF, hFB⟩
  clear hF hFB HR HE hO hbF
  go_wp2
  go_ret
  exact ⟨_, _, rfl, HF.out.1, HF.out.2⟩

set_option maxRecDepth 100000 in
set_option maxHeartbeats 1000000 in
theorem later3_any (n : Int) (a b : Nat) (k : List Int) (ka : Option Addr) (kc : Nat) (w : World) (hV : VInts w ka k) (hk : k.length = 8) (ha : a < 8) (hb : b < 8) :
    Calls Tryd.prog 69 #[.slice ka 8 kc, insV 3 a b n] w fun e w' => ∃ va vc, e = .returned (.slice va 8 vc) ∧ SeqOwn fI 1 3 w' w.heap.size (.slice va 8 vc) (vBehind 3 a b k) ∧ Below w.heap.size w w' := by
  have haz : (a : Int) < 8 := by omega
  have hbz : (b : Int) < 8 := by omega
  have ha0 : (0 : Int) ≤ (a : Int) := Int.natCast_nonneg _
  have hb0 : (0 : Int) ≤ (b : Int) := Int.natCast_nonneg _
  obtain ⟨R, hR⟩ : ∃ R, R = vBehind 3 a b k := ⟨_, rfl⟩
  have HR : Aside (R = vBehind 3 a b k) := hR
  rw [← hR]
  clear hR
  obtain ⟨kb, ko, rfl, kcell⟩ := hV b (vAt k b) (vAt_some hk hb)
  have hklt := World.block_lt_of_cell? _ _ kcell
  go_enter Tryd.func69, Tryd.ntmps69
  obtain ⟨N0, k1, b1, s1⟩ := boxes1 w (Obj.cells #[.int .i64 3, .int .i64 (a : Int), .int .i64 (b : Int), .int .i64 n] 40)
  go_upto_region 1 with fail
  generalize w.alloc (Obj.cells #[.int .i64 3, .int .i64 (a : Int), .int .i64 (b : Int), .int .i64 n] 40) = W at *
  have hsq : SeqAt fI 1 W (some ⟨kb, ko, none⟩) k := (seqI_of hV).keeps k1
  go_upto_region 2 with (at_builtin; refine wpList_seqCopy Tryd.rowI rfl _ _ (by rfl) (by rfl) k (some ⟨kb, ko, none⟩) kc (by simp [Act.eval, hk]) hsq (by rw [hk]; decide) (by rw [hk]; decide) ?_; rintro va vc w2 hO hb2; rw [hk] at hO ⊢)
  obtain ⟨g, rfl⟩ : ∃ g, va = some ⟨g, 0, none⟩ := by
    rcases ownsRow_shape hO with ⟨_, hn⟩ | ⟨g, _, hv, _⟩
    · omega
    · simp only [Value.slice.injEq] at hv
      exact ⟨g, hv.1⟩
  have hgl := SeqOwn.lt hO
  have hbF := b1.trans (hb2.mono b1.size)
  have N2 := (hb2.block _ (by omega : w.heap.size < W.heap.size)).trans N0
  replace kcell := Keeps.below hb2 _ _ (k1 _ _ kcell)
  replace hO := hO.le b1.size
  have i0 := vCell_blk N2 0
  have i1 := vCell_blk N2 1
  have i2 := vCell_blk N2 2
  simp at i0 i1 i2
  have fz : ∀ j, w2.frozen? ⟨g, j, none⟩ = false := fun j => ownsRow_frozenAt hO rfl j
  have ca := seqI_cell hO (vAt_some hk ha)
  have cb := seqI_cell hO (vAt_some hk hb)
  have hgw : w.heap.size ≠ g := by omega
  have hkg : kb ≠ g := by simp only at hklt; omega
  clear b1 hb2 N0 k1 hsq hV
  have HE : Aside (R = k.set a 1) := by show R = _; rw [HR.out]; simp [vBehind, vPut]
  have hF := seqI_set hO (a := a) (by omega) 1
  have hFB := hbF.setCell (p := ⟨g, a, none⟩) (by show w.heap.size ≤ g; omega) (.int .i64 1)
  rw [← HE.out] at hF
  have HF : Aside (SeqOwn fI 1 3 (w2.setCell ⟨g, a, none⟩ (.int .i64 1)) w.heap.size (.slice (some ⟨g, 0, none⟩) 8 vc) R ∧ Below w.heap.size w (w2.setCell ⟨g, a, none⟩ (.int .i64 1))) := ⟨hF, hFB⟩
  clear hF hFB HR HE hO hbF
  go_wp2
  go_ret
  exact ⟨_, _, rfl, HF.out.1, HF.out.2⟩

set_option maxRecDepth 100000 in
set_option maxHeartbeats 1000000 in
theorem later4_any (n : Int) (a b : Nat) (k : List Int) (ka : Option Addr) (kc : Nat) (w : World) (hV : VInts w ka k) (hk : k.length = 8) (ha : a < 8) (hb : b < 8) :
    Calls Tryd.prog 69 #[.slice ka 8 kc, insV 4 a b n] w fun e w' => ∃ va vc, e = .returned (.slice va 8 vc) ∧ SeqOwn fI 1 3 w' w.heap.size (.slice va 8 vc) (vBehind 4 a b k) ∧ Below w.heap.size w w' := by
  have haz : (a : Int) < 8 := by omega
  have hbz : (b : Int) < 8 := by omega
  have ha0 : (0 : Int) ≤ (a : Int) := Int.natCast_nonneg _
  have hb0 : (0 : Int) ≤ (b : Int) := Int.natCast_nonneg _
  obtain ⟨R, hR⟩ : ∃ R, R = vBehind 4 a b k := ⟨_, rfl⟩
  have HR : Aside (R = vBehind 4 a b k) := hR
  rw [← hR]
  clear hR
  obtain ⟨kb, ko, rfl, kcell⟩ := hV b (vAt k b) (vAt_some hk hb)
  have hklt := World.block_lt_of_cell? _ _ kcell
  go_enter Tryd.func69, Tryd.ntmps69
  obtain ⟨N0, k1, b1, s1⟩ := boxes1 w (Obj.cells #[.int .i64 4, .int .i64 (a : Int), .int .i64 (b : Int), .int .i64 n] 40)
  go_upto_region 1 with fail
  generalize w.alloc (Obj.cells #[.int .i64 4, .int .i64 (a : Int), .int .i64 (b : Int), .int .i64 n] 40) = W at *
  have hsq : SeqAt fI 1 W (some ⟨kb, ko, none⟩) k := (seqI_of hV).keeps k1
  go_upto_region 2 with (at_builtin; refine wpList_seqCopy Tryd.rowI rfl _ _ (by rfl) (by rfl) k (some ⟨kb, ko, none⟩) kc (by simp [Act.eval, hk]) hsq (by rw [hk]; decide) (by rw [hk]; decide) ?_; rintro va vc w2 hO hb2; rw [hk] at hO ⊢)
  obtain ⟨g, rfl⟩ : ∃ g, va = some ⟨g, 0, none⟩ := by
    rcases ownsRow_shape hO with ⟨_, hn⟩ | ⟨g, _, hv, _⟩
    · omega
    · simp only [Value.slice.injEq] at hv
      exact ⟨g, hv.1⟩
  have hgl := SeqOwn.lt hO
  have hbF := b1.trans (hb2.mono b1.size)
  have N2 := (hb2.block _ (by omega : w.heap.size < W.heap.size)).trans N0
  replace kcell := Keeps.below hb2 _ _ (k1 _ _ kcell)
  replace hO := hO.le b1.size
  have i0 := vCell_blk N2 0
  have i1 := vCell_blk N2 1
  have i2 := vCell_blk N2 2
  simp at i0 i1 i2
  have fz : ∀ j, w2.frozen? ⟨g, j, none⟩ = false := fun j => ownsRow_frozenAt hO rfl j
  have ca := seqI_cell hO (vAt_some hk ha)
  have cb := seqI_cell hO (vAt_some hk hb)
  have hgw : w.heap.size ≠ g := by omega
  have hkg : kb ≠ g := by simp only at hklt; omega
  clear b1 hb2 N0 k1 hsq hV
  have HE : Aside (R = k.set a 1) := by show R = _; rw [HR.out]; simp [vBehind, vPut]
  have hF := seqI_set hO (a := a) (by omega) 1
  have hFB := hbF.setCell (p := ⟨g, a, none⟩) (by show w.heap.size ≤ g; omega) (.int .i64 1)
  rw [← HE.out] at hF
  have HF : Aside (SeqOwn fI 1 3 (w2.setCell ⟨g, a, none⟩ (.int .i64 1)) w.heap.size (.slice (some ⟨g, 0, none⟩) 8 vc) R ∧ Below w.heap.size w (w2.setCell ⟨g, a, none⟩ (.int .i64 1))) := ⟨hF, hFB⟩
  clear hF hFB HR HE hO hbF
  go_wp2
  go_ret
  exact ⟨_, _, rfl, HF.out.1, HF.out.2⟩

set_option maxRecDepth 100000 in
set_option maxHeartbeats 1000000 in
theorem later5_any (n : Int) (a b : Nat) (k : List Int) (ka : Option Addr) (kc : Nat) (w : World) (hV : VInts w ka k) (hk : k.length = 8) (ha : a < 8) (hb : b < 8) :
    Calls Tryd.prog 69 #[.slice ka 8 kc, insV 5 a b n] w fun e w' => ∃ va vc, e = .returned (.slice va 8 vc) ∧ SeqOwn fI 1 3 w' w.heap.size (.slice va 8 vc) (vBehind 5 a b k) ∧ Below w.heap.size w w' := by
  have haz : (a : Int) < 8 := by omega
  have hbz : (b : Int) < 8 := by omega
  have ha0 : (0 : Int) ≤ (a : Int) := Int.natCast_nonneg _
  have hb0 : (0 : Int) ≤ (b : Int) := Int.natCast_nonneg _
  obtain ⟨R, hR⟩ : ∃ R, R = vBehind 5 a b k := ⟨_, rfl⟩
  have HR : Aside (R = vBehind 5 a b k) := hR
  rw [← hR]
  clear hR
  obtain ⟨kb, ko, rfl, kcell⟩ := hV b (vAt k b) (vAt_some hk hb)
  have hklt := World.block_lt_of_cell? _ _ kcell
  go_enter Tryd.func69, Tryd.ntmps69
  obtain ⟨N0, k1, b1, s1⟩ := boxes1 w (Obj.cells #[.int .i64 5, .int .i64 (a : Int), .int .i64 (b : Int), .int .i64 n] 40)
  go_upto_region 1 with fail
  generalize w.alloc (Obj.cells #[.int .i64 5, .int .i64 (a : Int), .int .i64 (b : Int), .int .i64 n] 40) = W at *
  have hsq : SeqAt fI 1 W (some ⟨kb, ko, none⟩) k := (seqI_of hV).keeps k1
  go_upto_region 2 with (at_builtin; refine wpList_seqCopy Tryd.rowI rfl _ _ (by rfl) (by rfl) k (some ⟨kb, ko, none⟩) kc (by simp [Act.eval, hk]) hsq (by rw [hk]; decide) (by rw [hk]; decide) ?_; rintro va vc w2 hO hb2; rw [hk] at hO ⊢)
  obtain ⟨g, rfl⟩ : ∃ g, va = some ⟨g, 0, none⟩ := by
    rcases ownsRow_shape hO with ⟨_, hn⟩ | ⟨g, _, hv, _⟩
    · omega
    · simp only [Value.slice.injEq] at hv
      exact ⟨g, hv.1⟩
  have hgl := SeqOwn.lt hO
  have hbF := b1.trans (hb2.mono b1.size)
  have N2 := (hb2.block _ (by omega : w.heap.size < W.heap.size)).trans N0
  replace kcell := Keeps.below hb2 _ _ (k1 _ _ kcell)
  replace hO := hO.le b1.size
  have i0 := vCell_blk N2 0
  have i1 := vCell_blk N2 1
  have i2 := vCell_blk N2 2
  simp at i0 i1 i2
  have fz : ∀ j, w2.frozen? ⟨g, j, none⟩ = false := fun j => ownsRow_frozenAt hO rfl j
  have ca := seqI_cell hO (vAt_some hk ha)
  have cb := seqI_cell hO (vAt_some hk hb)
  have hgw : w.heap.size ≠ g := by omega
  have hkg : kb ≠ g := by simp only at hklt; omega
  clear b1 hb2 N0 k1 hsq hV
  have HE : Aside (R = k) := by show R = k; rw [HR.out]; simp [vBehind]
  clear HR
  go_wp2
  go_ret
  exact ⟨_, _, rfl, by rw [HE.out]; exact hO, hbF⟩

set_option maxRecDepth 100000 in
set_option maxHeartbeats 1000000 in
theorem later6_any (n : Int) (a b : Nat) (k : List Int) (ka : Option Addr) (kc : Nat) (w : World) (hV : VInts w ka k) (hk : k.length = 8) (ha : a < 8) (hb : b < 8) :
    Calls Tryd.prog 69 #[.slice ka 8 kc, insV 6 a b n] w fun e w' => ∃ va vc, e = .returned (.slice va 8 vc) ∧ SeqOwn fI 1 3 w' w.heap.size (.slice va 8 vc) (vBehind 6 a b k) ∧ Below w.heap.size w w' := by
  have haz : (a : Int) < 8 := by omega
  have hbz : (b : Int) < 8 := by omega
  have ha0 : (0 : Int) ≤ (a : Int) := Int.natCast_nonneg _
  have hb0 : (0 : Int) ≤ (b : Int) := Int.natCast_nonneg _
  obtain ⟨R, hR⟩ : ∃ R, R = vBehind 6 a b k := ⟨_, rfl⟩
  have HR : Aside (R = vBehind 6 a b k) := hR
  rw [← hR]
  clear hR
  obtain ⟨kb, ko, rfl, kcell⟩ := hV b (vAt k b) (vAt_some hk hb)
  have hklt := World.block_lt_of_cell? _ _ kcell
  go_enter Tryd.func69, Tryd.ntmps69
  obtain ⟨N0, k1, b1, s1⟩ := boxes1 w (Obj.cells #[.int .i64 6, .int .i64 (a : Int), .int .i64 (b : Int), .int .i64 n] 40)
  go_upto_region 1 with fail
  generalize w.alloc (Obj.cells #[.int .i64 6, .int .i64 (a : Int), .int .i64 (b : Int), .int .i64 n] 40) = W at *
  have hsq : SeqAt fI 1 W (some ⟨kb, ko, none⟩) k := (seqI_of hV).keeps k1
  go_upto_region 2 with (at_builtin; refine wpList_seqCopy Tryd.rowI rfl _ _ (by rfl) (by rfl) k (some ⟨kb, ko, none⟩) kc (by simp [Act.eval, hk]) hsq (by rw [hk]; decide) (by rw [hk]; decide) ?_; rintro va vc w2 hO hb2; rw [hk] at hO ⊢)
  obtain ⟨g, rfl⟩ : ∃ g, va = some ⟨g, 0, none⟩ := by
    rcases ownsRow_shape hO with ⟨_, hn⟩ | ⟨g, _, hv, _⟩
    · omega
    · simp only [Value.slice.injEq] at hv
      exact ⟨g, hv.1⟩
  have hgl := SeqOwn.lt hO
  have hbF := b1.trans (hb2.mono b1.size)
  have N2 := (hb2.block _ (by omega : w.heap.size < W.heap.size)).trans N0
  replace kcell := Keeps.below hb2 _ _ (k1 _ _ kcell)
  replace hO := hO.le b1.size
  have i0 := vCell_blk N2 0
  have i1 := vCell_blk N2 1
  have i2 := vCell_blk N2 2
  simp at i0 i1 i2
  have fz : ∀ j, w2.frozen? ⟨g, j, none⟩ = false := fun j => ownsRow_frozenAt hO rfl j
  have ca := seqI_cell hO (vAt_some hk ha)
  have cb := seqI_cell hO (vAt_some hk hb)
  have hgw : w.heap.size ≠ g := by omega
  have hkg : kb ≠ g := by simp only at hklt; omega
  clear b1 hb2 N0 k1 hsq hV
  have HE : Aside (R = k) := by show R = k; rw [HR.out]; simp [vBehind]
  clear HR
  go_wp2
  go_ret
  exact ⟨_, _, rfl, by rw [HE.out]; exact hO, hbF⟩

set_option maxRecDepth 100000 in
set_option maxHeartbeats 1000000 in
theorem later7_any (n : Int) (a b : Nat) (k : List Int) (ka : Option Addr) (kc : Nat) (w : World) (hV : VInts w ka k) (hk : k.length = 8) (ha : a < 8) (hb : b < 8) :
    Calls Tryd.prog 69 #[.slice ka 8 kc, insV 7 a b n] w fun e w' => ∃ va vc, e = .returned (.slice va 8 vc) ∧ SeqOwn fI 1 3 w' w.heap.size (.slice va 8 vc) (vBehind 7 a b k) ∧ Below w.heap.size w w' := by
  have haz : (a : Int) < 8 := by omega
  have hbz : (b : Int) < 8 := by omega
  have ha0 : (0 : Int) ≤ (a : Int) := Int.natCast_nonneg _
  have hb0 : (0 : Int) ≤ (b : Int) := Int.natCast_nonneg _
  obtain ⟨R, hR⟩ : ∃ R, R = vBehind 7 a b k := ⟨_, rfl⟩
  have HR : Aside (R = vBehind 7 a b k) := hR
  rw [← hR]
  clear hR
  obtain ⟨kb, ko, rfl, kcell⟩ := hV b (vAt k b) (vAt_some hk hb)
  have hklt := World.block_lt_of_cell? _ _ kcell
  go_enter Tryd.func69, Tryd.ntmps69
  obtain ⟨N0, k1, b1, s1⟩ := boxes1 w (Obj.cells #[.int .i64 7, .int .i64 (a : Int), .int .i64 (b : Int), .int .i64 n] 40)
  go_upto_region 1 with fail
  generalize w.alloc (Obj.cells #[.int .i64 7, .int .i64 (a : Int), .int .i64 (b : Int), .int .i64 n] 40) = W at *
  have hsq : SeqAt fI 1 W (some ⟨kb, ko, none⟩) k := (seqI_of hV).keeps k1
  go_upto_region 2 with (at_builtin; refine wpList_seqCopy Tryd.rowI rfl _ _ (by rfl) (by rfl) k (some ⟨kb, ko, none⟩) kc (by simp [Act.eval, hk]) hsq (by rw [hk]; decide) (by rw [hk]; decide) ?_; rintro va vc w2 hO hb2; rw [hk] at hO ⊢)
  obtain ⟨g, rfl⟩ : ∃ g, va = some ⟨g, 0, none⟩ := by
    rcases ownsRow_shape hO with ⟨_, hn⟩ | ⟨g, _, hv, _⟩
    · omega
    · simp only [Value.slice.injEq] at hv
      exact ⟨g, hv.1⟩
  have hgl := SeqOwn.lt hO
  have hbF := b1.trans (hb2.mono b1.size)
  have N2 := (hb2.block _ (by omega : w.heap.size < W.heap.size)).trans N0
  replace kcell := Keeps.below hb2 _ _ (k1 _ _ kcell)
  replace hO := hO.le b1.size
  have i0 := vCell_blk N2 0
  have i1 := vCell_blk N2 1
  have i2 := vCell_blk N2 2
  simp at i0 i1 i2
  have fz : ∀ j, w2.frozen? ⟨g, j, none⟩ = false := fun j => ownsRow_frozenAt hO rfl j
  have ca := seqI_cell hO (vAt_some hk ha)
  have cb := seqI_cell hO (vAt_some hk hb)
  have hgw : w.heap.size ≠ g := by omega
  have hkg : kb ≠ g := by simp only at hklt; omega
  clear b1 hb2 N0 k1 hsq hV
  have HE : Aside (R = k.set a 3) := by show R = _; rw [HR.out]; simp [vBehind, vPut]
  have hF := seqI_set hO (a := a) (by omega) 3
  have hFB := hbF.setCell (p := ⟨g, a, none⟩) (by show w.heap.size ≤ g; omega) (.int .i64 3)
  rw [← HE.out] at hF
  have HF : Aside (SeqOwn fI 1 3 (w2.setCell ⟨g, a, none⟩ (.int .i64 3)) w.heap.size (.slice (some ⟨g, 0, none⟩) 8 vc) R ∧ Below w.heap.size w (w2.setCell ⟨g, a, none⟩ (.int .i64 3))) := ⟨hF, hFB⟩
  clear hF hFB HR HE hO hbF
  go_wp2
  go_ret
  exact ⟨_, _, rfl, HF.out.1, HF.out.2⟩

set_option maxRecDepth 100000 in
set_option maxHeartbeats 1000000 in
theorem later8_any (n : Int) (a b : Nat) (k : List Int) (ka : Option Addr) (kc : Nat) (w : World) (hV : VInts w ka k) (hk : k.length = 8) (ha : a < 8) (hb : b < 8) :
    Calls Tryd.prog 69 #[.slice ka 8 kc, insV 8 a b n] w fun e w' => ∃ va vc, e = .returned (.slice va 8 vc) ∧ SeqOwn fI 1 3 w' w.heap.size (.slice va 8 vc) (vBehind 8 a b k) ∧ Below w.heap.size w w' := by
  have haz : (a : Int) < 8 := by omega
  have hbz : (b : Int) < 8 := by omega
  have ha0 : (0 : Int) ≤ (a : Int) := Int.natCast_nonneg _
  have hb0 : (0 : Int) ≤ (b : Int) := Int.natCast_nonneg _
  obtain ⟨R, hR⟩ : ∃ R, R = vBehind 8 a b k := ⟨_, rfl⟩
  have HR : Aside (R = vBehind 8 a b k) := hR
  rw [← hR]
  clear hR
  obtain ⟨kb, ko, rfl, kcell⟩ := hV b (vAt k b) (vAt_some hk hb)
  have hklt := World.block_lt_of_cell? _ _ kcell
  go_enter Tryd.func69, Tryd.ntmps69
  obtain ⟨N0, k1, b1, s1⟩ := boxes1 w (Obj.cells #[.int .i64 8, .int .i64 (a : Int), .int .i64 (b : Int), .int .i64 n] 40)
  go_upto_region 1 with fail
  generalize w.alloc (Obj.cells #[.int .i64 8, .int .i64 (a : Int), .int .i64 (b : Int), .int .i64 n] 40) = W at *
  have hsq : SeqAt fI 1 W (some ⟨kb, ko, none⟩) k := (seqI_of hV).keeps k1
  go_upto_region 2 with (at_builtin; refine wpList_seqCopy Tryd.rowI rfl _ _ (by rfl) (by rfl) k (some ⟨kb, ko, none⟩) kc (by simp [Act.eval, hk]) hsq (by rw [hk]; decide) (by rw [hk]; decide) ?_; rintro va vc w2 hO hb2; rw [hk] at hO ⊢)
  obtain ⟨g, rfl⟩ : ∃ g, va = some ⟨g, 0, none⟩ := by
    rcases ownsRow_shape hO with ⟨_, hn⟩ | ⟨g, _, hv, _⟩
    · omega
    · simp only [Value.slice.injEq] at hv
      exact ⟨g, hv.1⟩
  have hgl := SeqOwn.lt hO
  have hbF := b1.trans (hb2.mono b1.size)
  have N2 := (hb2.block _ (by omega : w.heap.size < W.heap.size)).trans N0
  replace kcell := Keeps.below hb2 _ _ (k1 _ _ kcell)
  replace hO := hO.le b1.size
  have i0 := vCell_blk N2 0
  have i1 := vCell_blk N2 1
  have i2 := vCell_blk N2 2
  simp at i0 i1 i2
  have fz : ∀ j, w2.frozen? ⟨g, j, none⟩ = false := fun j => ownsRow_frozenAt hO rfl j
  have ca := seqI_cell hO (vAt_some hk ha)
  have cb := seqI_cell hO (vAt_some hk hb)
  have hgw : w.heap.size ≠ g := by omega
  have hkg : kb ≠ g := by simp only at hklt; omega
  clear b1 hb2 N0 k1 hsq hV
  have HE : Aside (R = k.set a 1) := by show R = _; rw [HR.out]; simp [vBehind, vPut]
  have hF := seqI_set hO (a := a) (by omega) 1
  have hFB := hbF.setCell (p := ⟨g, a, none⟩) (by show w.heap.size ≤ g; omega) (.int .i64 1)
  rw [← HE.out] at hF
  have HF : Aside (SeqOwn fI 1 3 (w2.setCell ⟨g, a, none⟩ (.int .i64 1)) w.heap.size (.slice (some ⟨g, 0, none⟩) 8 vc) R ∧ Below w.heap.size w (w2.setCell ⟨g, a, none⟩ (.int .i64 1))) := ⟨hF, hFB⟩
  clear hF hFB HR HE hO hbF
  go_wp2
  go_ret
  exact ⟨_, _, rfl, HF.out.1, HF.out.2⟩

set_option maxRecDepth 100000 in
set_option maxHeartbeats 1000000 in
theorem later9_any (n : Int) (a b : Nat) (k : List Int) (ka : Option Addr) (kc : Nat) (w : World) (hV : VInts w ka k) (hk : k.length = 8) (ha : a < 8) (hb : b < 8) :
    Calls Tryd.prog 69 #[.slice ka 8 kc, insV 9 a b n] w fun e w' => ∃ va vc, e = .returned (.slice va 8 vc) ∧ SeqOwn fI 1 3 w' w.heap.size (.slice va 8 vc) (vBehind 9 a b k) ∧ Below w.heap.size w w' := by
  have haz : (a : Int) < 8 := by omega
  have hbz : (b : Int) < 8 := by omega
  have ha0 : (0 : Int) ≤ (a : Int) := Int.natCast_nonneg _
  have hb0 : (0 : Int) ≤ (b : Int) := Int.natCast_nonneg _
  obtain ⟨R, hR⟩ : ∃ R, R = vBehind 9 a b k := ⟨_, rfl⟩
  have HR : Aside (R = vBehind 9 a b k) := hR
  rw [← hR]
  clear hR
  obtain ⟨kb, ko, rfl, kcell⟩ := hV b (vAt k b) (vAt_some hk hb)
  have hklt := World.block_lt_of_cell? _ _ kcell
  go_enter Tryd.func69, Tryd.ntmps69
  obtain ⟨N0, k1, b1, s1⟩ := boxes1 w (Obj.cells #[.int .i64 9, .int .i64 (a : Int), .int .i64 (b : Int), .int .i64 n] 40)
  go_upto_region 1 with fail
  generalize w.alloc (Obj.cells #[.int .i64 9, .int .i64 (a : Int), .int .i64 (b : Int), .int .i64 n] 40) = W at *
  have hsq : SeqAt fI 1 W (some ⟨kb, ko, none⟩) k := (seqI_of hV).keeps k1
  go_upto_region 2 with (at_builtin; refine wpList_seqCopy Tryd.rowI rfl _ _ (by rfl) (by rfl) k (some ⟨kb, ko, none⟩) kc (by simp [Act.eval, hk]) hsq (by rw [hk]; decide) (by rw [hk]; decide) ?_; rintro va vc w2 hO hb2; rw [hk] at hO ⊢)
  obtain ⟨g, rfl⟩ : ∃ g, va = some ⟨g, 0, none⟩ := by
    rcases ownsRow_shape hO with ⟨_, hn⟩ | ⟨g, _, hv, _⟩
    · omega
    · simp only [Value.slice.injEq] at hv
      exact ⟨g, hv.1⟩
  have hgl := SeqOwn.lt hO
  have hbF := b1.trans (hb2.mono b1.size)
  have N2 := (hb2.block _ (by omega : w.heap.size < W.heap.size)).trans N0
  replace kcell := Keeps.below hb2 _ _ (k1 _ _ kcell)
  replace hO := hO.le b1.size
  have i0 := vCell_blk N2 0
  have i1 := vCell_blk N2 1
  have i2 := vCell_blk N2 2
  simp at i0 i1 i2
  have fz : ∀ j, w2.frozen? ⟨g, j, none⟩ = false := fun j => ownsRow_frozenAt hO rfl j
  have ca := seqI_cell hO (vAt_some hk ha)
  have cb := seqI_cell hO (vAt_some hk hb)
  have hgw : w.heap.size ≠ g := by omega
  have hkg : kb ≠ g := by simp only at hklt; omega
  clear b1 hb2 N0 k1 hsq hV
  have HE : Aside (R = k) := by show R = k; rw [HR.out]; simp [vBehind]
  clear HR
  go_wp2
  go_ret
  exact ⟨_, _, rfl, by rw [HE.out]; exact hO, hbF⟩

set_option maxRecDepth 100000 in
set_option maxHeartbeats 1000000 in
theorem later10_any (n : Int) (a b : Nat) (k : List Int) (ka : Option Addr) (kc : Nat) (w : World) (hV : VInts w ka k) (hk : k.length = 8) (ha : a < 8) (hb : b < 8) :
    Calls Tryd.prog 69 #[.slice ka 8 kc, insV 10 a b n] w fun e w' => ∃ va vc, e = .returned (.slice va 8 vc) ∧ SeqOwn fI 1 3 w' w.heap.size (.slice va 8 vc) (vBehind 10 a b k) ∧ Below w.heap.size w w' := by
  have haz : (a : Int) < 8 := by omega
  have hbz : (b : Int) < 8 := by omega
  have ha0 : (0 : Int) ≤ (a : Int) := Int.natCast_nonneg _
  have hb0 : (0 : Int) ≤ (b : Int) := Int.natCast_nonneg _
  obtain ⟨R, hR⟩ : ∃ R, R = vBehind 10 a b k := ⟨_, rfl⟩
  have HR : Aside (R = vBehind 10 a b k) := hR
  rw [← hR]
  clear hR
  obtain ⟨kb, ko, rfl, kcell⟩ := hV b (vAt k b) (vAt_some hk hb)
  have hklt := World.block_lt_of_cell? _ _ kcell
  go_enter Tryd.func69, Tryd.ntmps69
  obtain ⟨N0, k1, b1, s1⟩ := boxes1 w (Obj.cells #[.int .i64 10, .int .i64 (a : Int), .int .i64 (b : Int), .int .i64 n] 40)
  go_upto_region 1 with fail
  generalize w.alloc (Obj.cells #[.int .i64 10, .int .i64 (a : Int), .int .i64 (b : Int), .int .i64 n] 40) = W at *
  have hsq : SeqAt fI 1 W (some ⟨kb, ko, none⟩) k := (seqI_of hV).keeps k1
  go_upto_region 2 with (at_builtin; refine wpList_seqCopy Tryd.rowI rfl _ _ (by rfl) (by rfl) k (some ⟨kb, ko, none⟩) kc (by simp [Act.eval, hk]) hsq (by rw [hk]; decide) (by rw [hk]; decide) ?_; rintro va vc w2 hO hb2; rw [hk] at hO ⊢)
  obtain ⟨g, rfl⟩ : ∃ g, va = some ⟨g, 0, none⟩ := by
    rcases ownsRow_shape hO with ⟨_, hn⟩ | ⟨g, _, hv, _⟩
    · omega
    · simp only [Value.slice.injEq] at hv
      exact ⟨g, hv.1⟩
  have hgl := SeqOwn.lt hO
  have hbF := b1.trans (hb2.mono b1.size)
  have N2 := (hb2.block _ (by omega : w.heap.size < W.heap.size)).trans N0
  replace kcell := Keeps.below hb2 _ _ (k1 _ _ kcell)
  replace hO := hO.le b1.size
  have i0 := vCell_blk N2 0
  have i1 := vCell_blk N2 1
  have i2 := vCell_blk N2 2
  simp at i0 i1 i2
  have fz : ∀ j, w2.frozen? ⟨g, j, none⟩ = false := fun j => ownsRow_frozenAt hO rfl j
  have ca := seqI_cell hO (vAt_some hk ha)
  have cb := seqI_cell hO (vAt_some hk hb)
  have hgw : w.heap.size ≠ g := by omega
  have hkg : kb ≠ g := by simp only at hklt; omega
  clear b1 hb2 N0 k1 hsq hV
  have HE : Aside (R = (k.set a 2).set b 2) := by show R = _; rw [HR.out]; simp [vBehind, vPut]
  have hF1 := seqI_set hO (a := a) (by omega) 2
  have hB1 := hbF.setCell (p := ⟨g, a, none⟩) (by show w.heap.size ≤ g; omega) (.int .i64 2)
  have hF := seqI_set hF1 (a := b) (by simp; omega) 2
  have hFB := hB1.setCell (p := ⟨g, b, none⟩) (by show w.heap.size ≤ g; omega) (.int .i64 2)
  rw [← HE.out] at hF
  have HF : Aside (SeqOwn fI 1 3 ((w2.setCell ⟨g, a, none⟩ (.int .i64 2)).setCell ⟨g, b, none⟩ (.int .i64 2)) w.heap.size (.slice (some ⟨g, 0, none⟩) 8 vc) R ∧ Below w.heap.size w ((w2.setCell ⟨g, a, none⟩ (.int .i64 2)).setCell ⟨g, b, none⟩ (.int .i64 2))) := ⟨hF, hFB⟩
  obtain ⟨x2, hx2⟩ : ∃ x, (k.set a 2)[b]? = some x := ⟨_, List.getElem?_eq_getElem (by simp; omega)⟩
  have c2 := seqI_cell hF1 hx2
  have fz2 : ∀ j, (w2.setCell ⟨g, a, none⟩ (.int .i64 2)).frozen? ⟨g, j, none⟩ = false := fun j => ownsRow_frozenAt hF1 rfl j
  have N3 : (w2.setCell ⟨g, a, none⟩ (.int .i64 2)).heap[w.heap.size]? = _ := (Deep.blk_setCell_other w2 ⟨g, a, none⟩ (.int .i64 2) w.heap.size hgw).trans N2
  have j0 := vCell_blk N3 0
  have j1 := vCell_blk N3 1
  have j2 := vCell_blk N3 2
  simp at j0 j1 j2
  clear hF hFB HR HE hO hbF hF1 hB1 hx2
  go_upto_region 14 with fail
  generalize w2.setCell ⟨g, a, none⟩ (.int .i64 2) = w3 at *
  clear i0 i1 i2 ca cb fz N2 N3
  go_wp2
  go_ret
  exact ⟨_, _, rfl, HF.out.1, HF.out.2⟩

set_option maxRecDepth 100000 in
set_option maxHeartbeats 1000000 in
theorem later11_any (n : Int) (a b : Nat) (k : List Int) (ka : Option Addr) (kc : Nat) (w : World) (hV : VInts w ka k) (hk : k.length = 8) (ha : a < 8) (hb : b < 8) :
    Calls Tryd.prog 69 #[.slice ka 8 kc, insV 11 a b n] w fun e w' => ∃ va vc, e = .returned (.slice va 8 vc) ∧ SeqOwn fI 1 3 w' w.heap.size (.slice va 8 vc) (vBehind 11 a b k) ∧ Below w.heap.size w w' := by
  have haz : (a : Int) < 8 := by omega
  have hbz : (b : Int) < 8 := by omega
  have ha0 : (0 : Int) ≤ (a : Int) := Int.natCast_nonneg _
  have hb0 : (0 : Int) ≤ (b : Int) := Int.natCast_nonneg _
  obtain ⟨R, hR⟩ : ∃ R, R = vBehind 11 a b k := ⟨_, rfl⟩
  have HR : Aside (R = vBehind 11 a b k) := hR
  rw [← hR]
  clear hR
  obtain ⟨kb, ko, rfl, kcell⟩ := hV b (vAt k b) (vAt_some hk hb)
  have hklt := World.block_lt_of_cell? _ _ kcell
  go_enter Tryd.func69, Tryd.ntmps69
  obtain ⟨N0, k1, b1, s1⟩ := boxes1 w (Obj.cells #[.int .i64 11, .int .i64 (a : Int), .int .i64 (b : Int), .int .i64 n] 40)
  go_upto_region 1 with fail
  generalize w.alloc (Obj.cells #[.int .i64 11, .int .i64 (a : Int), .int .i64 (b : Int), .int .i64 n] 40) = W at *
  have hsq : SeqAt fI 1 W (some ⟨kb, ko, none⟩) k := (seqI_of hV).keeps k1
  go_upto_region 2 with (at_builtin; refine wpList_seqCopy Tryd.rowI rfl _ _ (by rfl) (by rfl) k (some ⟨kb, ko, none⟩) kc (by simp [Act.eval, hk]) hsq (by rw [hk]; decide) (by rw [hk]; decide) ?_; rintro va vc w2 hO hb2; rw [hk] at hO ⊢)
  obtain ⟨g, rfl⟩ : ∃ g, va = some ⟨g, 0, none⟩ := by
    rcases ownsRow_shape hO with ⟨_, hn⟩ | ⟨g, _, hv, _⟩
    · omega
    · simp only [Value.slice.injEq] at hv
      exact ⟨g, hv.1⟩
  have hgl := SeqOwn.lt hO
  have hbF := b1.trans (hb2.mono b1.size)
  have N2 := (hb2.block _ (by omega : w.heap.size < W.heap.size)).trans N0
  replace kcell := Keeps.below hb2 _ _ (k1 _ _ kcell)
  replace hO := hO.le b1.size
  have i0 := vCell_blk N2 0
  have i1 := vCell_blk N2 1
  have i2 := vCell_blk N2 2
  simp at i0 i1 i2
  have fz : ∀ j, w2.frozen? ⟨g, j, none⟩ = false := fun j => ownsRow_frozenAt hO rfl j
  have ca := seqI_cell hO (vAt_some hk ha)
  have cb := seqI_cell hO (vAt_some hk hb)
  have hgw : w.heap.size ≠ g := by omega
  have hkg : kb ≠ g := by simp only at hklt; omega
  clear b1 hb2 N0 k1 hsq hV
  by_cases hab : (a : Int) = b
  · obtain rfl : a = b := by omega
    have hq : ((a : Int) == (a : Int)) = true := by simp
    clear hab
    clear kcell
    have HE : Aside (R = k.set a 2) := by show R = _; rw [HR.out]; simp [vBehind, vPut]
    have hF := seqI_set hO (a := a) (by omega) 2
    have hFB := hbF.setCell (p := ⟨g, a, none⟩) (by show w.heap.size ≤ g; omega) (.int .i64 2)
    rw [← HE.out] at hF
    have HF : Aside (SeqOwn fI 1 3 (w2.setCell ⟨g, a, none⟩ (.int .i64 2)) w.heap.size (.slice (some ⟨g, 0, none⟩) 8 vc) R ∧ Below w.heap.size w (w2.setCell ⟨g, a, none⟩ (.int .i64 2))) := ⟨hF, hFB⟩
    clear hF hFB HR HE hO hbF 
    go_wp2
    go_ret
    exact ⟨_, _, rfl, HF.out.1, HF.out.2⟩
  · have hq : ((a : Int) == (b : Int)) = false := by simpa using hab
    by_cases h2 : vAt k b = 2
    · have hq2 : (vAt k b == 2) = true := by simp [h2]
      have HE : Aside (R = k.set a 2) := by show R = _; rw [HR.out]; simp [vBehind, vPut, hab, h2]
      have hF := seqI_set hO (a := a) (by omega) 2
      have hFB := hbF.setCell (p := ⟨g, a, none⟩) (by show w.heap.size ≤ g; omega) (.int .i64 2)
      rw [← HE.out] at hF
      have HF : Aside (SeqOwn fI 1 3 (w2.setCell ⟨g, a, none⟩ (.int .i64 2)) w.heap.size (.slice (some ⟨g, 0, none⟩) 8 vc) R ∧ Below w.heap.size w (w2.setCell ⟨g, a, none⟩ (.int .i64 2))) := ⟨hF, hFB⟩
      clear hF hFB HR HE hO hbF h2 hab
      go_wp2
      go_ret
      exact ⟨_, _, rfl, HF.out.1, HF.out.2⟩
    · have hq2 : (vAt k b == 2) = false := by simpa using h2
      have HE : Aside (R = k.set b 0) := by show R = _; rw [HR.out]; simp [vBehind, vPut, hab, h2]
      have hF := seqI_set hO (a := b) (by omega) 0
      have hFB := hbF.setCell (p := ⟨g, b, none⟩) (by show w.heap.size ≤ g; omega) (.int .i64 0)
      rw [← HE.out] at hF
      have HF : Aside (SeqOwn fI 1 3 (w2.setCell ⟨g, b, none⟩ (.int .i64 0)) w.heap.size (.slice (some ⟨g, 0, none⟩) 8 vc) R ∧ Below w.heap.size w (w2.setCell ⟨g, b, none⟩ (.int .i64 0))) := ⟨hF, hFB⟩
      clear hF hFB HR HE hO hbF h2 hab
      go_wp2
      go_ret
      exact ⟨_, _, rfl, HF.out.1, HF.out.2⟩

set_option maxRecDepth 100000 in
set_option maxHeartbeats 1000000 in
theorem later12_any (n : Int) (a b : Nat) (k : List Int) (ka : Option Addr) (kc : Nat) (w : World) (hV : VInts w ka k) (hk : k.length = 8) (ha : a < 8) (hb : b < 8) :
    Calls Tryd.prog 69 #[.slice ka 8 kc, insV 12 a b n] w fun e w' => ∃ va vc, e = .returned (.slice va 8 vc) ∧ SeqOwn fI 1 3 w' w.heap.size (.slice va 8 vc) (vBehind 12 a b k) ∧ Below w.heap.size w w' := by
  have haz : (a : Int) < 8 := by omega
  have hbz : (b : Int) < 8 := by omega
  have ha0 : (0 : Int) ≤ (a : Int) := Int.natCast_nonneg _
  have hb0 : (0 : Int) ≤ (b : Int) := Int.natCast_nonneg _
  obtain ⟨R, hR⟩ : ∃ R, R = vBehind 12 a b k := ⟨_, rfl⟩
  have HR : Aside (R = vBehind 12 a b k) := hR
  rw [← hR]
  clear hR
  obtain ⟨kb, ko, rfl, kcell⟩ := hV b (vAt k b) (vAt_some hk hb)
  have hklt := World.block_lt_of_cell? _ _ kcell
  go_enter Tryd.func69, Tryd.ntmps69
  obtain ⟨N0, k1, b1, s1⟩ := boxes1 w (Obj.cells #[.int .i64 12, .int .i64 (a : Int), .int .i64 (b : Int), .int .i64 n] 40)
  go_upto_region 1 with fail
  generalize w.alloc (Obj.cells #[.int .i64 12, .int .i64 (a : Int), .int .i64 (b : Int), .int .i64 n] 40) = W at *
  have hsq : SeqAt fI 1 W (some ⟨kb, ko, none⟩) k := (seqI_of hV).keeps k1
  go_upto_region 2 with (at_builtin; refine wpList_seqCopy Tryd.rowI rfl _ _ (by rfl) (by rfl) k (some ⟨kb, ko, none⟩) kc (by simp [Act.eval, hk]) hsq (by rw [hk]; decide) (by rw [hk]; decide) ?_; rintro va vc w2 hO hb2; rw [hk] at hO ⊢)
  obtain ⟨g, rfl⟩ : ∃ g, va = some ⟨g, 0, none⟩ := by
    rcases ownsRow_shape hO with ⟨_, hn⟩ | ⟨g, _, hv, _⟩
    · omega
    · simp only [Value.slice.injEq] at hv
      exact ⟨g, hv.1⟩
  have hgl := SeqOwn.lt hO
  have hbF := b1.trans (hb2.mono b1.size)
  have N2 := (hb2.block _ (by omega : w.heap.size < W.heap.size)).trans N0
  replace kcell := Keeps.below hb2 _ _ (k1 _ _ kcell)
  replace hO := hO.le b1.size
  have i0 := vCell_blk N2 0
  have i1 := vCell_blk N2 1
  have i2 := vCell_blk N2 2
  simp at i0 i1 i2
  have fz : ∀ j, w2.frozen? ⟨g, j, none⟩ = false := fun j => ownsRow_frozenAt hO rfl j
  have ca := seqI_cell hO (vAt_some hk ha)
  have cb := seqI_cell hO (vAt_some hk hb)
  have hgw : w.heap.size ≠ g := by omega
  have hkg : kb ≠ g := by simp only at hklt; omega
  clear b1 hb2 N0 k1 hsq hV
  by_cases h3 : vAt k b = 3
  · have hq : (vAt k b == 3) = true := by simp [h3]
    have HE : Aside (R = (k.set b 0).set a (vAt k b)) := by show R = _; rw [HR.out]; simp [vBehind, vPut, h3]
    have hF1 := seqI_set hO (a := b) (by omega) 0
    have hB1 := hbF.setCell (p := ⟨g, b, none⟩) (by show w.heap.size ≤ g; omega) (.int .i64 0)
    have N3 : (w2.setCell ⟨g, b, none⟩ (.int .i64 0)).heap[w.heap.size]? = _ := (Deep.blk_setCell_other w2 ⟨g, b, none⟩ (.int .i64 0) w.heap.size hgw).trans N2
    have kc3 : (w2.setCell ⟨g, b, none⟩ (.int .i64 0)).cell? ⟨kb, ko + b, none⟩ = some (.int .i64 (vAt k b)) := by
      rw [World.cell?_of_block (a := ⟨kb, ko + b, none⟩) (Deep.blk_setCell_other w2 ⟨g, b, none⟩ (.int .i64 0) kb hkg)]; exact kcell
    obtain ⟨x2, hx2⟩ : ∃ x, (k.set b 0)[a]? = some x := ⟨_, List.getElem?_eq_getElem (by simp; omega)⟩
    have c2 := seqI_cell hF1 hx2
    have fz2 : ∀ j, (w2.setCell ⟨g, b, none⟩ (.int .i64 0)).frozen? ⟨g, j, none⟩ = false := fun j => ownsRow_frozenAt hF1 rfl j
    have hlen : (k.set b 0).length = 8 := by simp [hk]
    clear HR hO hbF hx2 h3
    go_upto_region 24 with fail
    clear i0 i1 i2 ca cb fz N2 kcell
    generalize w2.setCell ⟨g, b, none⟩ (.int .i64 0) = w3 at *
    generalize k.set b 0 = k3 at *
    have j0 := vCell_blk N3 0
    have j1 := vCell_blk N3 1
    have j2 := vCell_blk N3 2
    simp at j0 j1 j2
    refine wp_region_need (fun j => j != 9) (fun w' => w'.cell? ⟨w.heap.size, 1, none⟩ = some (.int .i64 (a : Int)) ∧ w'.cell? ⟨w.heap.size, 2, none⟩ = some (.int .i64 (b : Int)) ∧ w'.cell? ⟨kb, ko + b, none⟩ = some (.int .i64 (vAt k b))) (by kernel_rfl) ⟨j1, j2, kc3⟩ (fun hS => ?_)
    refine wpAnyN_take (i := 0) (v := ?v1) rfl (by kernel_rfl) (by kernel_rfl) (by kernel_rfl) (by kernel_rfl) (fun _ _ _ h => h) (by rfl) ?hy1 hS ?rest1
    case hy1 => (intro wy hSy; (try dsimp only at hSy); go_simp; try (with_reducible rfl))
    simp only [Act.put, List.getElem_toArray, List.getElem_cons_zero, List.setIfInBounds_toArray, List.set_cons_zero, List.set_cons_succ]
    refine wpAnyN_take (i := 1) (v := ?v2) rfl (by kernel_rfl) (by kernel_rfl) (by kernel_rfl) (by kernel_rfl) (fun _ _ _ h => h) (by rfl) ?hy2 hS ?rest2
    case hy2 => (intro wy hSy; (try dsimp only at hSy); go_simp; try (with_reducible rfl))
    simp only [Act.put, List.getElem_toArray, List.getElem_cons_zero, List.getElem_cons_succ, List.setIfInBounds_toArray, List.set_cons_zero, List.set_cons_succ]
    refine wpAnyN_take (i := 2) (v := ?v3) rfl (by kernel_rfl) (by kernel_rfl) (by kernel_rfl) (by kernel_rfl) (fun _ _ _ h => h) (by rfl) ?hy3 hS ?rest3
    case hy3 => (intro wy hSy; (try dsimp only at hSy); go_simp; try (with_reducible rfl))
    simp only [Act.put, List.getElem_toArray, List.getElem_cons_zero, List.getElem_cons_succ, List.setIfInBounds_toArray, List.set_cons_zero, List.set_cons_succ]
    refine wpAnyN_take (i := 3) (v := ?v4) rfl (by kernel_rfl) (by kernel_rfl) (by kernel_rfl) (by kernel_rfl) (fun _ _ _ h => h) (by rfl) ?hy4 hS ?rest4
    case hy4 => (intro wy hSy; (try dsimp only at hSy); go_simp; try (with_reducible rfl))
    simp only [Act.put, List.getElem_toArray, List.getElem_cons_zero, List.getElem_cons_succ, List.setIfInBounds_toArray, List.set_cons_zero, List.set_cons_succ]
    refine wpAnyN_take (i := 4) (v := ?v5) rfl (by kernel_rfl) (by kernel_rfl) (by kernel_rfl) (by kernel_rfl) (fun _ _ _ h => h) (by rfl) ?hy5 hS ?rest5
    case hy5 => (intro wy hSy; (try dsimp only at hSy); go_simp; try (with_reducible rfl))
    simp only [Act.put, List.getElem_toArray, List.getElem_cons_zero, List.getElem_cons_succ, List.setIfInBounds_toArray, List.set_cons_zero, List.set_cons_succ]
    refine wpAnyN_take (i := 5) (v := ?v6) rfl (by kernel_rfl) (by kernel_rfl) (by kernel_rfl) (by kernel_rfl) (fun _ _ _ h => h) (by rfl) ?hy6 hS ?rest6
    case hy6 => (intro wy hSy; (try dsimp only at hSy); go_simp; try (with_reducible rfl))
    simp only [Act.put, List.getElem_toArray, List.getElem_cons_zero, List.getElem_cons_succ, List.setIfInBounds_toArray, List.set_cons_zero, List.set_cons_succ]
    refine wpAnyN_take (i := 6) (v := ?v7) rfl (by kernel_rfl) (by kernel_rfl) (by kernel_rfl) (by kernel_rfl) (fun _ _ _ h => h) (by rfl) ?hy7 hS ?rest7
    case hy7 => (intro wy hSy; (try dsimp only at hSy); go_simp; try (with_reducible rfl))
    simp only [Act.put, List.getElem_toArray, List.getElem_cons_zero, List.getElem_cons_succ, List.setIfInBounds_toArray, List.set_cons_zero, List.set_cons_succ]
    refine wpAnyN_take (i := 7) (v := ?v8) rfl (by kernel_rfl) (by kernel_rfl) (by kernel_rfl) (by kernel_rfl) (fun _ _ _ h => h) (by rfl) ?hy8 hS ?rest8
    case hy8 => (intro wy hSy; (try dsimp only at hSy); go_simp; try (with_reducible rfl))
    simp only [Act.put, List.getElem_toArray, List.getElem_cons_zero, List.getElem_cons_succ, List.setIfInBounds_toArray, List.set_cons_zero, List.set_cons_succ]
    refine wpAnyN_take (i := 8) (v := ?v9) rfl (by kernel_rfl) (by kernel_rfl) (by kernel_rfl) (by kernel_rfl) (fun _ _ _ h => h) (by rfl) ?hy9 hS ?rest9
    case hy9 => (intro wy hSy; (try dsimp only at hSy); go_simp; try (with_reducible rfl))
    simp only [Act.put, List.getElem_toArray, List.getElem_cons_zero, List.getElem_cons_succ, List.setIfInBounds_toArray, List.set_cons_zero, List.set_cons_succ]
    refine wpAnyN_one (i := 9) (by kernel_rfl) rfl (fun K hK => ?_)
    simp only [List.getElem_toArray, List.getElem_cons_zero, List.getElem_cons_succ]
    go_simp
    refine hK.out _ _ (fun h => absurd h (by decide)) ?_
    clear hK
    refine wpAnyN_done (by kernel_rfl) ?_ _
    refine NoPanic.normal ?_
    try simp only [Act.put, List.getElem_toArray, List.getElem_cons_zero, List.getElem_cons_succ, List.setIfInBounds_toArray, List.set_cons_zero, List.set_cons_succ]
    have hF := seqI_set hF1 (a := a) (by omega) (vAt k b)
    have hFB := hB1.setCell (p := ⟨g, a, none⟩) (by show w.heap.size ≤ g; omega) (.int .i64 (vAt k b))
    rw [← HE.out] at hF
    have hFd : SeqOwn fI 1 3 ((w3.setCell ⟨g, a, none⟩ (.int .i64 (vAt k b))).drew) w.heap.size (.slice (some ⟨g, 0, none⟩) 8 vc) R := hF.below (Below.refl _ _).drew
    have hBd := hFB.drew
    clear hF hFB HE hF1 hB1 j0 j1 j2 kc3 c2 fz2
    generalize (w3.setCell ⟨g, a, none⟩ (.int .i64 (vAt k b))).drew = w4 at *
    go_wp2
    go_ret
    exact ⟨_, _, rfl, hFd, hBd⟩
  · have hq : (vAt k b == 3) = false := by simpa using h3
    have HE : Aside (R = k.set a (vAt k b)) := by show R = _; rw [HR.out]; simp [vBehind, vPut, h3]
    clear h3
    go_upto_region 24 with fail
    refine wp_region_need (fun j => j != 9) (fun w' => w'.cell? ⟨w.heap.size, 1, none⟩ = some (.int .i64 (a : Int)) ∧ w'.cell? ⟨w.heap.size, 2, none⟩ = some (.int .i64 (b : Int)) ∧ w'.cell? ⟨kb, ko + b, none⟩ = some (.int .i64 (vAt k b))) (by kernel_rfl) ⟨i1, i2, kcell⟩ (fun hS => ?_)
    refine wpAnyN_take (i := 0) (v := ?v10) rfl (by kernel_rfl) (by kernel_rfl) (by kernel_rfl) (by kernel_rfl) (fun _ _ _ h => h) (by rfl) ?hy10 hS ?rest10
    case hy10 => (intro wy hSy; (try dsimp only at hSy); go_simp; try (with_reducible rfl))
    simp only [Act.put, List.getElem_toArray, List.getElem_cons_zero, List.setIfInBounds_toArray, List.set_cons_zero, List.set_cons_succ]
    refine wpAnyN_take (i := 1) (v := ?v11) rfl (by kernel_rfl) (by kernel_rfl) (by kernel_rfl) (by kernel_rfl) (fun _ _ _ h => h) (by rfl) ?hy11 hS ?rest11
    case hy11 => (intro wy hSy; (try dsimp only at hSy); go_simp; try (with_reducible rfl))
    simp only [Act.put, List.getElem_toArray, List.getElem_cons_zero, List.getElem_cons_succ, List.setIfInBounds_toArray, List.set_cons_zero, List.set_cons_succ]
    refine wpAnyN_take (i := 2) (v := ?v12) rfl (by kernel_rfl) (by kernel_rfl) (by kernel_rfl) (by kernel_rfl) (fun _ _ _ h => h) (by rfl) ?hy12 hS ?rest12
    case hy12 => (intro wy hSy; (try dsimp only at hSy); go_simp; try (with_reducible rfl))
    simp only [Act.put, List.getElem_toArray, List.getElem_cons_zero, List.getElem_cons_succ, List.setIfInBounds_toArray, List.set_cons_zero, List.set_cons_succ]
    refine wpAnyN_take (i := 3) (v := ?v13) rfl (by kernel_rfl) (by kernel_rfl) (by kernel_rfl) (by kernel_rfl) (fun _ _ _ h => h) (by rfl) ?hy13 hS ?rest13
    case hy13 => (intro wy hSy; (try dsimp only at hSy); go_simp; try (with_reducible rfl))
    simp only [Act.put, List.getElem_toArray, List.getElem_cons_zero, List.getElem_cons_succ, List.setIfInBounds_toArray, List.set_cons_zero, List.set_cons_succ]
    refine wpAnyN_take (i := 4) (v := ?v14) rfl (by kernel_rfl) (by kernel_rfl) (by kernel_rfl) (by kernel_rfl) (fun _ _ _ h => h) (by rfl) ?hy14 hS ?rest14
    case hy14 => (intro wy hSy; (try dsimp only at hSy); go_simp; try (with_reducible rfl))
    simp only [Act.put, List.getElem_toArray, List.getElem_cons_zero, List.getElem_cons_succ, List.setIfInBounds_toArray, List.set_cons_zero, List.set_cons_succ]
    refine wpAnyN_take (i := 5) (v := ?v15) rfl (by kernel_rfl) (by kernel_rfl) (by kernel_rfl) (by kernel_rfl) (fun _ _ _ h => h) (by rfl) ?hy15 hS ?rest15
    case hy15 => (intro wy hSy; (try dsimp only at hSy); go_simp; try (with_reducible rfl))
    simp only [Act.put, List.getElem_toArray, List.getElem_cons_zero, List.getElem_cons_succ, List.setIfInBounds_toArray, List.set_cons_zero, List.set_cons_succ]
    refine wpAnyN_take (i := 6) (v := ?v16) rfl (by kernel_rfl) (by kernel_rfl) (by kernel_rfl) (by kernel_rfl) (fun _ _ _ h => h) (by rfl) ?hy16 hS ?rest16
    case hy16 => (intro wy hSy; (try dsimp only at hSy); go_simp; try (with_reducible rfl))
    simp only [Act.put, List.getElem_toArray, List.getElem_cons_zero, List.getElem_cons_succ, List.setIfInBounds_toArray, List.set_cons_zero, List.set_cons_succ]
    refine wpAnyN_take (i := 7) (v := ?v17) rfl (by kernel_rfl) (by kernel_rfl) (by kernel_rfl) (by kernel_rfl) (fun _ _ _ h => h) (by rfl) ?hy17 hS ?rest17
    case hy17 => (intro wy hSy; (try dsimp only at hSy); go_simp; try (with_reducible rfl))
    simp only [Act.put, List.getElem_toArray, List.getElem_cons_zero, List.getElem_cons_succ, List.setIfInBounds_toArray, List.set_cons_zero, List.set_cons_succ]
    refine wpAnyN_take (i := 8) (v := ?v18) rfl (by kernel_rfl) (by kernel_rfl) (by kernel_rfl) (by kernel_rfl) (fun _ _ _ h => h) (by rfl) ?hy18 hS ?rest18
    case hy18 => (intro wy hSy; (try dsimp only at hSy); go_simp; try (with_reducible rfl))
    simp only [Act.put, List.getElem_toArray, List.getElem_cons_zero, List.getElem_cons_succ, List.setIfInBounds_toArray, List.set_cons_zero, List.set_cons_succ]
    refine wpAnyN_one (i := 9) (by kernel_rfl) rfl (fun K hK => ?_)
    simp only [List.getElem_toArray, List.getElem_cons_zero, List.getElem_cons_succ]
    go_simp
    refine hK.out _ _ (fun h => absurd h (by decide)) ?_
    clear hK
    refine wpAnyN_done (by kernel_rfl) ?_ _
    refine NoPanic.normal ?_
    try simp only [Act.put, List.getElem_toArray, List.getElem_cons_zero, List.getElem_cons_succ, List.setIfInBounds_toArray, List.set_cons_zero, List.set_cons_succ]
    have hF := seqI_set hO (a := a) (by omega) (vAt k b)
    have hFB := hbF.setCell (p := ⟨g, a, none⟩) (by show w.heap.size ≤ g; omega) (.int .i64 (vAt k b))
    rw [← HE.out] at hF
    have hFd : SeqOwn fI 1 3 ((w2.setCell ⟨g, a, none⟩ (.int .i64 (vAt k b))).drew) w.heap.size (.slice (some ⟨g, 0, none⟩) 8 vc) R := hF.below (Below.refl _ _).drew
    have hBd := hFB.drew
    clear hF hFB HE hO hbF i0 i1 i2 kcell ca cb fz N2
    generalize (w2.setCell ⟨g, a, none⟩ (.int .i64 (vAt k b))).drew = w4 at *
    go_wp2
    go_ret
    exact ⟨_, _, rfl, hFd, hBd⟩

set_option maxRecDepth 100000 in
set_option maxHeartbeats 1000000 in
theorem later13_any (n : Int) (a b : Nat) (k : List Int) (ka : Option Addr) (kc : Nat) (w : World) (hV : VInts w ka k) (hk : k.length = 8) (ha : a < 8) (hb : b < 8) :
    Calls Tryd.prog 69 #[.slice ka 8 kc, insV 13 a b n] w fun e w' => ∃ va vc, e = .returned (.slice va 8 vc) ∧ SeqOwn fI 1 3 w' w.heap.size (.slice va 8 vc) (vBehind 13 a b k) ∧ Below w.heap.size w w' := by
  have haz : (a : Int) < 8 := by omega
  have hbz : (b : Int) < 8 := by omega
  have ha0 : (0 : Int) ≤ (a : Int) := Int.natCast_nonneg _
  have hb0 : (0 : Int) ≤ (b : Int) := Int.natCast_nonneg _
  obtain ⟨R, hR⟩ : ∃ R, R = vBehind 13 a b k := ⟨_, rfl⟩
  have HR : Aside (R = vBehind 13 a b k) := hR
  rw [← hR]
  clear hR
  obtain ⟨kb, ko, rfl, kcell⟩ := hV b (vAt k b) (vAt_some hk hb)
  have hklt := World.block_lt_of_cell? _ _ kcell
  go_enter Tryd.func69, Tryd.ntmps69
  obtain ⟨N0, k1, b1, s1⟩ := boxes1 w (Obj.cells #[.int .i64 13, .int .i64 (a : Int), .int .i64 (b : Int), .int .i64 n] 40)
  go_upto_region 1 with fail
  generalize w.alloc (Obj.cells #[.int .i64 13, .int .i64 (a : Int), .int .i64 (b : Int), .int .i64 n] 40) = W at *
  have hsq : SeqAt fI 1 W (some ⟨kb, ko, none⟩) k := (seqI_of hV).keeps k1
  go_upto_region 2 with (at_builtin; refine wpList_seqCopy Tryd.rowI rfl _ _ (by rfl) (by rfl) k (some ⟨kb, ko, none⟩) kc (by simp [Act.eval, hk]) hsq (by rw [hk]; decide) (by rw [hk]; decide) ?_; rintro va vc w2 hO hb2; rw [hk] at hO ⊢)
  obtain ⟨g, rfl⟩ : ∃ g, va = some ⟨g, 0, none⟩ := by
    rcases ownsRow_shape hO with ⟨_, hn⟩ | ⟨g, _, hv, _⟩
    · omega
    · simp only [Value.slice.injEq] at hv
      exact ⟨g, hv.1⟩
  have hgl := SeqOwn.lt hO
  have hbF := b1.trans (hb2.mono b1.size)
  have N2 := (hb2.block _ (by omega : w.heap.size < W.heap.size)).trans N0
  replace kcell := Keeps.below hb2 _ _ (k1 _ _ kcell)
  replace hO := hO.le b1.size
  have i0 := vCell_blk N2 0
  have i1 := vCell_blk N2 1
  have i2 := vCell_blk N2 2
  simp at i0 i1 i2
  have fz : ∀ j, w2.frozen? ⟨g, j, none⟩ = false := fun j => ownsRow_frozenAt hO rfl j
  have ca := seqI_cell hO (vAt_some hk ha)
  have cb := seqI_cell hO (vAt_some hk hb)
  have hgw : w.heap.size ≠ g := by omega
  have hkg : kb ≠ g := by simp only at hklt; omega
  clear b1 hb2 N0 k1 hsq hV
  have HE : Aside (R = k.set a 0) := by show R = _; rw [HR.out]; simp [vBehind, vPut]
  have hF := seqI_set hO (a := a) (by omega) 0
  have hFB := hbF.setCell (p := ⟨g, a, none⟩) (by show w.heap.size ≤ g; omega) (.int .i64 0)
  rw [← HE.out] at hF
  have HF : Aside (SeqOwn fI 1 3 (w2.setCell ⟨g, a, none⟩ (.int .i64 0)) w.heap.size (.slice (some ⟨g, 0, none⟩) 8 vc) R ∧ Below w.heap.size w (w2.setCell ⟨g, a, none⟩ (.int .i64 0))) := ⟨hF, hFB⟩
  clear hF hFB HR HE hO hbF
  go_wp2
  go_ret
  exact ⟨_, _, rfl, HF.out.1, HF.out.2⟩

set_option maxRecDepth 100000 in
set_option maxHeartbeats 1000000 in
theorem later14_any (n : Int) (a b : Nat) (k : List Int) (ka : Option Addr) (kc : Nat) (w : World) (hV : VInts w ka k) (hk : k.length = 8) (ha : a < 8) (hb : b < 8) :
    Calls Tryd.prog 69 #[.slice ka 8 kc, insV 14 a b n] w fun e w' => ∃ va vc, e = .returned (.slice va 8 vc) ∧ SeqOwn fI 1 3 w' w.heap.size (.slice va 8 vc) (vBehind 14 a b k) ∧ Below w.heap.size w w' := by
  have haz : (a : Int) < 8 := by omega
  have hbz : (b : Int) < 8 := by omega
  have ha0 : (0 : Int) ≤ (a : Int) := Int.natCast_nonneg _
  have hb0 : (0 : Int) ≤ (b : Int) := Int.natCast_nonneg _
  obtain ⟨R, hR⟩ : ∃ R, R = vBehind 14 a b k := ⟨_, rfl⟩
  have HR : Aside (R = vBehind 14 a b k) := hR
  rw [← hR]
  clear hR
  obtain ⟨kb, ko, rfl, kcell⟩ := hV b (vAt k b) (vAt_some hk hb)
  have hklt := World.block_lt_of_cell? _ _ kcell
  go_enter Tryd.func69, Tryd.ntmps69
  obtain ⟨N0, k1, b1, s1⟩ := boxes1 w (Obj.cells #[.int .i64 14, .int .i64 (a : Int), .int .i64 (b : Int), .int .i64 n] 40)
  go_upto_region 1 with fail
  generalize w.alloc (Obj.cells #[.int .i64 14, .int .i64 (a : Int), .int .i64 (b : Int), .int .i64 n] 40) = W at *
  have hsq : SeqAt fI 1 W (some ⟨kb, ko, none⟩) k := (seqI_of hV).keeps k1
  go_upto_region 2 with (at_builtin; refine wpList_seqCopy Tryd.rowI rfl _ _ (by rfl) (by rfl) k (some ⟨kb, ko, none⟩) kc (by simp [Act.eval, hk]) hsq (by rw [hk]; decide) (by rw [hk]; decide) ?_; rintro va vc w2 hO hb2; rw [hk] at hO ⊢)
  obtain ⟨g, rfl⟩ : ∃ g, va = some ⟨g, 0, none⟩ := by
    rcases ownsRow_shape hO with ⟨_, hn⟩ | ⟨g, _, hv, _⟩
    · omega
    · simp only [Value.slice.injEq] at hv
      exact ⟨g, hv.1⟩
  have hgl := SeqOwn.lt hO
  have hbF := b1.trans (hb2.mono b1.size)
  have N2 := (hb2.block _ (by omega : w.heap.size < W.heap.size)).trans N0
  replace kcell := Keeps.below hb2 _ _ (k1 _ _ kcell)
  replace hO := hO.le b1.size
  have i0 := vCell_blk N2 0
  have i1 := vCell_blk N2 1
  have i2 := vCell_blk N2 2
  simp at i0 i1 i2
  have fz : ∀ j, w2.frozen? ⟨g, j, none⟩ = false := fun j => ownsRow_frozenAt hO rfl j
  have ca := seqI_cell hO (vAt_some hk ha)
  have cb := seqI_cell hO (vAt_some hk hb)
  have hgw : w.heap.size ≠ g := by omega
  have hkg : kb ≠ g := by simp only at hklt; omega
  clear b1 hb2 N0 k1 hsq hV
  have HE : Aside (R = k) := by show R = k; rw [HR.out]; simp [vBehind]
  clear HR
  go_wp2
  go_ret
  exact ⟨_, _, rfl, by rw [HE.out]; exact hO, hbF⟩

set_option maxRecDepth 100000 in
set_option maxHeartbeats 1000000 in
theorem later15_any (n : Int) (a b : Nat) (k : List Int) (ka : Option Addr) (kc : Nat) (w : World) (hV : VInts w ka k) (hk : k.length = 8) (ha : a < 8) (hb : b < 8) :
    Calls Tryd.prog 69 #[.slice ka 8 kc, insV 15 a b n] w fun e w' => ∃ va vc, e = .returned (.slice va 8 vc) ∧ SeqOwn fI 1 3 w' w.heap.size (.slice va 8 vc) (vBehind 15 a b k) ∧ Below w.heap.size w w' := by
  have haz : (a : Int) < 8 := by omega
  have hbz : (b : Int) < 8 := by omega
  have ha0 : (0 : Int) ≤ (a : Int) := Int.natCast_nonneg _
  have hb0 : (0 : Int) ≤ (b : Int) := Int.natCast_nonneg _
  obtain ⟨R, hR⟩ : ∃ R, R = vBehind 15 a b k := ⟨_, rfl⟩
  have HR : Aside (R = vBehind 15 a b k) := hR
  rw [← hR]
  clear hR
  obtain ⟨kb, ko, rfl, kcell⟩ := hV b (vAt k b) (vAt_some hk hb)
  have hklt := World.block_lt_of_cell? _ _ kcell
  go_enter Tryd.func69, Tryd.ntmps69
  obtain ⟨N0, k1, b1, s1⟩ := boxes1 w (Obj.cells #[.int .i64 15, .int .i64 (a : Int), .int .i64 (b : Int), .int .i64 n] 40)
  go_upto_region 1 with fail
  generalize w.alloc (Obj.cells #[.int .i64 15, .int .i64 (a : Int), .int .i64 (b : Int), .int .i64 n] 40) = W at *
  have hsq : SeqAt fI 1 W (some ⟨kb, ko, none⟩) k := (seqI_of hV).keeps k1
  go_upto_region 2 with (at_builtin; refine wpList_seqCopy Tryd.rowI rfl _ _ (by rfl) (by rfl) k (some ⟨kb, ko, none⟩) kc (by simp [Act.eval, hk]) hsq (by rw [hk]; decide) (by rw [hk]; decide) ?_; rintro va vc w2 hO hb2; rw [hk] at hO ⊢)
  obtain ⟨g, rfl⟩ : ∃ g, va = some ⟨g, 0, none⟩ := by
    rcases ownsRow_shape hO with ⟨_, hn⟩ | ⟨g, _, hv, _⟩
    · omega
    · simp only [Value.slice.injEq] at hv
      exact ⟨g, hv.1⟩
  have hgl := SeqOwn.lt hO
  have hbF := b1.trans (hb2.mono b1.size)
  have N2 := (hb2.block _ (by omega : w.heap.size < W.heap.size)).trans N0
  replace kcell := Keeps.below hb2 _ _ (k1 _ _ kcell)
  replace hO := hO.le b1.size
  have i0 := vCell_blk N2 0
  have i1 := vCell_blk N2 1
  have i2 := vCell_blk N2 2
  simp at i0 i1 i2
  have fz : ∀ j, w2.frozen? ⟨g, j, none⟩ = false := fun j => ownsRow_frozenAt hO rfl j
  have ca := seqI_cell hO (vAt_some hk ha)
  have cb := seqI_cell hO (vAt_some hk hb)
  have hgw : w.heap.size ≠ g := by omega
  have hkg : kb ≠ g := by simp only at hklt; omega
  clear b1 hb2 N0 k1 hsq hV
  have HE : Aside (R = k) := by show R = k; rw [HR.out]; simp [vBehind]
  clear HR
  go_wp2
  go_ret
  exact ⟨_, _, rfl, by rw [HE.out]; exact hO, hbF⟩

set_option maxRecDepth 100000 in
set_option maxHeartbeats 1000000 in
theorem later16_any (n : Int) (a b : Nat) (k : List Int) (ka : Option Addr) (kc : Nat) (w : World) (hV : VInts w ka k) (hk : k.length = 8) (ha : a < 8) (hb : b < 8) :
    Calls Tryd.prog 69 #[.slice ka 8 kc, insV 16 a b n] w fun e w' => ∃ va vc, e = .returned (.slice va 8 vc) ∧ SeqOwn fI 1 3 w' w.heap.size (.slice va 8 vc) (vBehind 16 a b k) ∧ Below w.heap.size w w' := by
  have haz : (a : Int) < 8 := by omega
  have hbz : (b : Int) < 8 := by omega
  have ha0 : (0 : Int) ≤ (a : Int) := Int.natCast_nonneg _
  have hb0 : (0 : Int) ≤ (b : Int) := Int.natCast_nonneg _
  obtain ⟨R, hR⟩ : ∃ R, R = vBehind 16 a b k := ⟨_, rfl⟩
  have HR : Aside (R = vBehind 16 a b k) := hR
  rw [← hR]
  clear hR
  obtain ⟨kb, ko, rfl, kcell⟩ := hV b (vAt k b) (vAt_some hk hb)
  have hklt := World.block_lt_of_cell? _ _ kcell
  go_enter Tryd.func69, Tryd.ntmps69
  obtain ⟨N0, k1, b1, s1⟩ := boxes1 w (Obj.cells #[.int .i64 16, .int .i64 (a : Int), .int .i64 (b : Int), .int .i64 n] 40)
  go_upto_region 1 with fail
  generalize w.alloc (Obj.cells #[.int .i64 16, .int .i64 (a : Int), .int .i64 (b : Int), .int .i64 n] 40) = W at *
  have hsq : SeqAt fI 1 W (some ⟨kb, ko, none⟩) k := (seqI_of hV).keeps k1
  go_upto_region 2 with (at_builtin; refine wpList_seqCopy Tryd.rowI rfl _ _ (by rfl) (by rfl) k (some ⟨kb, ko, none⟩) kc (by simp [Act.eval, hk]) hsq (by rw [hk]; decide) (by rw [hk]; decide) ?_; rintro va vc w2 hO hb2; rw [hk] at hO ⊢)
  obtain ⟨g, rfl⟩ : ∃ g, va = some ⟨g, 0, none⟩ := by
    rcases ownsRow_shape hO with ⟨_, hn⟩ | ⟨g, _, hv, _⟩
    · omega
    · simp only [Value.slice.injEq] at hv
      exact ⟨g, hv.1⟩
  have hgl := SeqOwn.lt hO
  have hbF := b1.trans (hb2.mono b1.size)
  have N2 := (hb2.block _ (by omega : w.heap.size < W.heap.size)).trans N0
  replace kcell := Keeps.below hb2 _ _ (k1 _ _ kcell)
  replace hO := hO.le b1.size
  have i0 := vCell_blk N2 0
  have i1 := vCell_blk N2 1
  have i2 := vCell_blk N2 2
  simp at i0 i1 i2
  have fz : ∀ j, w2.frozen? ⟨g, j, none⟩ = false := fun j => ownsRow_frozenAt hO rfl j
  have ca := seqI_cell hO (vAt_some hk ha)
  have cb := seqI_cell hO (vAt_some hk hb)
  have hgw : w.heap.size ≠ g := by omega
  have hkg : kb ≠ g := by simp only at hklt; omega
  clear b1 hb2 N0 k1 hsq hV
  have HE : Aside (R = k.set a 1) := by show R = _; rw [HR.out]; simp [vBehind, vPut]
  have hF := seqI_set hO (a := a) (by omega) 1
  have hFB := hbF.setCell (p := ⟨g, a, none⟩) (by show w.heap.size ≤ g; omega) (.int .i64 1)
  rw [← HE.out] at hF
  have HF : Aside (SeqOwn fI 1 3 (w2.setCell ⟨g, a, none⟩ (.int .i64 1)) w.heap.size (.slice (some ⟨g, 0, none⟩) 8 vc) R ∧ Below w.heap.size w (w2.setCell ⟨g, a, none⟩ (.int .i64 1))) := ⟨hF, hFB⟩
  clear hF hFB HR HE hO hbF
  go_wp2
  go_ret
  exact ⟨_, _, rfl, HF.out.1, HF.out.2⟩

set_option maxRecDepth 100000 in
set_option maxHeartbeats 1000000 in
theorem later17_any (n : Int) (a b : Nat) (k : List Int) (ka : Option Addr) (kc : Nat) (w : World) (hV : VInts w ka k) (hk : k.length = 8) (ha : a < 8) (hb : b < 8) :
    Calls Tryd.prog 69 #[.slice ka 8 kc, insV 17 a b n] w fun e w' => ∃ va vc, e = .returned (.slice va 8 vc) ∧ SeqOwn fI 1 3 w' w.heap.size (.slice va 8 vc) (vBehind 17 a b k) ∧ Below w.heap.size w w' := by
  have haz : (a : Int) < 8 := by omega
  have hbz : (b : Int) < 8 := by omega
  have ha0 : (0 : Int) ≤ (a : Int) := Int.natCast_nonneg _
  have hb0 : (0 : Int) ≤ (b : Int) := Int.natCast_nonneg _
  obtain ⟨R, hR⟩ : ∃ R, R = vBehind 17 a b k := ⟨_, rfl⟩
  have HR : Aside (R = vBehind 17 a b k) := hR
  rw [← hR]
  clear hR
  obtain ⟨kb, ko, rfl, kcell⟩ := hV b (vAt k b) (vAt_some hk hb)
  have hklt := World.block_lt_of_cell? _ _ kcell
  go_enter Tryd.func69, Tryd.ntmps69
  obtain ⟨N0, k1, b1, s1⟩ := boxes1 w (Obj.cells #[.int .i64 17, .int .i64 (a : Int), .int .i64 (b : Int), .int .i64 n] 40)
  go_upto_region 1 with fail
  generalize w.alloc (Obj.cells #[.int .i64 17, .int .i64 (a : Int), .int .i64 (b : Int), .int .i64 n] 40) = W at *
  have hsq : SeqAt fI 1 W (some ⟨kb, ko, none⟩) k := (seqI_of hV).keeps k1
  go_upto_region 2 with (at_builtin; refine wpList_seqCopy Tryd.rowI rfl _ _ (by rfl) (by rfl) k (some ⟨kb, ko, none⟩) kc (by simp [Act.eval, hk]) hsq (by rw [hk]; decide) (by rw [hk]; decide) ?_; rintro va vc w2 hO hb2; rw [hk] at hO ⊢)
  obtain ⟨g, rfl⟩ : ∃ g, va = some ⟨g, 0, none⟩ := by
    rcases ownsRow_shape hO with ⟨_, hn⟩ | ⟨g, _, hv, _⟩
    · omega
    · simp only [Value.slice.injEq] at hv
      exact ⟨g, hv.1⟩
  have hgl := SeqOwn.lt hO
  have hbF := b1.trans (hb2.mono b1.size)
  have N2 := (hb2.block _ (by omega : w.heap.size < W.heap.size)).trans N0
  replace kcell := Keeps.below hb2 _ _ (k1 _ _ kcell)
  replace hO := hO.le b1.size
  have i0 := vCell_blk N2 0
  have i1 := vCell_blk N2 1
  have i2 := vCell_blk N2 2
  simp at i0 i1 i2
  have fz : ∀ j, w2.frozen? ⟨g, j, none⟩ = false := fun j => ownsRow_frozenAt hO rfl j
  have ca := seqI_cell hO (vAt_some hk ha)
  have cb := seqI_cell hO (vAt_some hk hb)
  have hgw : w.heap.size ≠ g := by omega
  have hkg : kb ≠ g := by simp only at hklt; omega
  clear b1 hb2 N0 k1 hsq hV
  have HE : Aside (R = (k.set b 0).set a 1) := by show R = _; rw [HR.out]; simp [vBehind, vPut]
  have hF1 := seqI_set hO (a := b) (by omega) 0
  have hB1 := hbF.setCell (p := ⟨g, b, none⟩) (by show w.heap.size ≤ g; omega) (.int .i64 0)
  have hF := seqI_set hF1 (a := a) (by simp; omega) 1
  have hFB := hB1.setCell (p := ⟨g, a, none⟩) (by show w.heap.size ≤ g; omega) (.int .i64 1)
  rw [← HE.out] at hF
  have HF : Aside (SeqOwn fI 1 3 ((w2.setCell ⟨g, b, none⟩ (.int .i64 0)).setCell ⟨g, a, none⟩ (.int .i64 1)) w.heap.size (.slice (some ⟨g, 0, none⟩) 8 vc) R ∧ Below w.heap.size w ((w2.setCell ⟨g, b, none⟩ (.int .i64 0)).setCell ⟨g, a, none⟩ (.int .i64 1))) := ⟨hF, hFB⟩
  obtain ⟨x2, hx2⟩ : ∃ x, (k.set b 0)[a]? = some x := ⟨_, List.getElem?_eq_getElem (by simp; omega)⟩
  have c2 := seqI_cell hF1 hx2
  have fz2 : ∀ j, (w2.setCell ⟨g, b, none⟩ (.int .i64 0)).frozen? ⟨g, j, none⟩ = false := fun j => ownsRow_frozenAt hF1 rfl j
  have N3 : (w2.setCell ⟨g, b, none⟩ (.int .i64 0)).heap[w.heap.size]? = _ := (Deep.blk_setCell_other w2 ⟨g, b, none⟩ (.int .i64 0) w.heap.size hgw).trans N2
  have j0 := vCell_blk N3 0
  have j1 := vCell_blk N3 1
  have j2 := vCell_blk N3 2
  simp at j0 j1 j2
  clear hF hFB HR HE hO hbF hF1 hB1 hx2
  go_upto_region 30 with fail
  generalize w2.setCell ⟨g, b, none⟩ (.int .i64 0) = w3 at *
  clear i0 i1 i2 ca cb fz N2 N3
  go_wp2
  go_ret
  exact ⟨_, _, rfl, HF.out.1, HF.out.2⟩

set_option maxRecDepth 100000 in
set_option maxHeartbeats 1000000 in
theorem later18_any (n : Int) (a b : Nat) (k : List Int) (ka : Option Addr) (kc : Nat) (w : World) (hV : VInts w ka k) (hk : k.length = 8) (ha : a < 8) (hb : b < 8) :
    Calls Tryd.prog 69 #[.slice ka 8 kc, insV 18 a b n] w fun e w' => ∃ va vc, e = .returned (.slice va 8 vc) ∧ SeqOwn fI 1 3 w' w.heap.size (.slice va 8 vc) (vBehind 18 a b k) ∧ Below w.heap.size w w' := by
  have haz : (a : Int) < 8 := by omega
  have hbz : (b : Int) < 8 := by omega
  have ha0 : (0 : Int) ≤ (a : Int) := Int.natCast_nonneg _
  have hb0 : (0 : Int) ≤ (b : Int) := Int.natCast_nonneg _
  obtain ⟨R, hR⟩ : ∃ R, R = vBehind 18 a b k := ⟨_, rfl⟩
  have HR : Aside (R = vBehind 18 a b k) := hR
  rw [← hR]
  clear hR
  obtain ⟨kb, ko, rfl, kcell⟩ := hV b (vAt k b) (vAt_some hk hb)
  have hklt := World.block_lt_of_cell? _ _ kcell
  go_enter Tryd.func69, Tryd.ntmps69
  obtain ⟨N0, k1, b1, s1⟩ := boxes1 w (Obj.cells #[.int .i64 18, .int .i64 (a : Int), .int .i64 (b : Int), .int .i64 n] 40)
  go_upto_region 1 with fail
  generalize w.alloc (Obj.cells #[.int .i64 18, .int .i64 (a : Int), .int .i64 (b : Int), .int .i64 n] 40) = W at *
  have hsq : SeqAt fI 1 W (some ⟨kb, ko, none⟩) k := (seqI_of hV).keeps k1
  go_upto_region 2 with (at_builtin; refine wpList_seqCopy Tryd.rowI rfl _ _ (by rfl) (by rfl) k (some ⟨kb, ko, none⟩) kc (by simp [Act.eval, hk]) hsq (by rw [hk]; decide) (by rw [hk]; decide) ?_; rintro va vc w2 hO hb2; rw [hk] at hO ⊢)
  obtain ⟨g, rfl⟩ : ∃ g, va = some ⟨g, 0, none⟩ := by
    rcases ownsRow_shape hO with ⟨_, hn⟩ | ⟨g, _, hv, _⟩
    · omega
    · simp only [Value.slice.injEq] at hv
      exact ⟨g, hv.1⟩
  have hgl := SeqOwn.lt hO
  have hbF := b1.trans (hb2.mono b1.size)
  have N2 := (hb2.block _ (by omega : w.heap.size < W.heap.size)).trans N0
  replace kcell := Keeps.below hb2 _ _ (k1 _ _ kcell)
  replace hO := hO.le b1.size
  have i0 := vCell_blk N2 0
  have i1 := vCell_blk N2 1
  have i2 := vCell_blk N2 2
  simp at i0 i1 i2
  have fz : ∀ j, w2.frozen? ⟨g, j, none⟩ = false := fun j => ownsRow_frozenAt hO rfl j
  have ca := seqI_cell hO (vAt_some hk ha)
  have cb := seqI_cell hO (vAt_some hk hb)
  have hgw : w.heap.size ≠ g := by omega
  have hkg : kb ≠ g := by simp only at hklt; omega
  clear b1 hb2 N0 k1 hsq hV
  have HE : Aside (R = k.set a 0) := by show R = _; rw [HR.out]; simp [vBehind, vPut]
  have hF := seqI_set hO (a := a) (by omega) 0
  have hFB := hbF.setCell (p := ⟨g, a, none⟩) (by show w.heap.size ≤ g; omega) (.int .i64 0)
  rw [← HE.out] at hF
  have HF : Aside (SeqOwn fI 1 3 (w2.setCell ⟨g, a, none⟩ (.int .i64 0)) w.heap.size (.slice (some ⟨g, 0, none⟩) 8 vc) R ∧ Below w.heap.size w (w2.setCell ⟨g, a, none⟩ (.int .i64 0))) := ⟨hF, hFB⟩
  clear hF hFB HR HE hO hbF
  go_wp2
  go_ret
  exact ⟨_, _, rfl, HF.out.1, HF.out.2⟩

set_option maxRecDepth 100000 in
set_option maxHeartbeats 1000000 in
theorem later19_any (n : Int) (a b : Nat) (k : List Int) (ka : Option Addr) (kc : Nat) (w : World) (hV : VInts w ka k) (hk : k.length = 8) (ha : a < 8) (hb : b < 8) :
    Calls Tryd.prog 69 #[.slice ka 8 kc, insV 19 a b n] w fun e w' => ∃ va vc, e = .returned (.slice va 8 vc) ∧ SeqOwn fI 1 3 w' w.heap.size (.slice va 8 vc) (vBehind 19 a b k) ∧ Below w.heap.size w w' := by
  have haz : (a : Int) < 8 := by omega
  have hbz : (b : Int) < 8 := by omega
  have ha0 : (0 : Int) ≤ (a : Int) := Int.natCast_nonneg _
  have hb0 : (0 : Int) ≤ (b : Int) := Int.natCast_nonneg _
  obtain ⟨R, hR⟩ : ∃ R, R = vBehind 19 a b k := ⟨_, rfl⟩
  have HR : Aside (R = vBehind 19 a b k) := hR
  rw [← hR]
  clear hR
  obtain ⟨kb, ko, rfl, kcell⟩ := hV b (vAt k b) (vAt_some hk hb)
  have hklt := World.block_lt_of_cell? _ _ kcell
  go_enter Tryd.func69, Tryd.ntmps69
  obtain ⟨N0, k1, b1, s1⟩ := boxes1 w (Obj.cells #[.int .i64 19, .int .i64 (a : Int), .int .i64 (b : Int), .int .i64 n] 40)
  go_upto_region 1 with fail
  generalize w.alloc (Obj.cells #[.int .i64 19, .int .i64 (a : Int), .int .i64 (b : Int), .int .i64 n] 40) = W at *
  have hsq : SeqAt fI 1 W (some ⟨kb, ko, none⟩) k := (seqI_of hV).keeps k1
  go_upto_region 2 with (at_builtin; refine wpList_seqCopy Tryd.rowI rfl _ _ (by rfl) (by rfl) k (some ⟨kb, ko, none⟩) kc (by simp [Act.eval, hk]) hsq (by rw [hk]; decide) (by rw [hk]; decide) ?_; rintro va vc w2 hO hb2; rw [hk] at hO ⊢)
  obtain ⟨g, rfl⟩ : ∃ g, va = some ⟨g, 0, none⟩ := by
    rcases ownsRow_shape hO with ⟨_, hn⟩ | ⟨g, _, hv, _⟩
    · omega
    · simp only [Value.slice.injEq] at hv
      exact ⟨g, hv.1⟩
  have hgl := SeqOwn.lt hO
  have hbF := b1.trans (hb2.mono b1.size)
  have N2 := (hb2.block _ (by omega : w.heap.size < W.heap.size)).trans N0
  replace kcell := Keeps.below hb2 _ _ (k1 _ _ kcell)
  replace hO := hO.le b1.size
  have i0 := vCell_blk N2 0
  have i1 := vCell_blk N2 1
  have i2 := vCell_blk N2 2
  simp at i0 i1 i2
  have fz : ∀ j, w2.frozen? ⟨g, j, none⟩ = false := fun j => ownsRow_frozenAt hO rfl j
  have ca := seqI_cell hO (vAt_some hk ha)
  have cb := seqI_cell hO (vAt_some hk hb)
  have hgw : w.heap.size ≠ g := by omega
  have hkg : kb ≠ g := by simp only at hklt; omega
  clear b1 hb2 N0 k1 hsq hV
  have HE : Aside (R = k) := by show R = k; rw [HR.out]; simp [vBehind]
  clear HR
  go_wp2
  go_ret
  exact ⟨_, _, rfl, by rw [HE.out]; exact hO, hbF⟩

theorem laterOf_any (op n : Int) (a b : Nat) (k : List Int) (ka : Option Addr) (kc : Nat) (w : World) (hop : 0 ≤ op ∧ op ≤ 19) (hV : VInts w ka k) (hk : k.length = 8) (ha : a < 8) (hb : b < 8) :
    Calls Tryd.prog 69 #[.slice ka 8 kc, insV op a b n] w fun e w' => ∃ va vc, e = .returned (.slice va 8 vc) ∧ SeqOwn fI 1 3 w' w.heap.size (.slice va 8 vc) (vBehind op a b k) ∧ Below w.heap.size w w' := by
  have h : op = 0 ∨ op = 1 ∨ op = 2 ∨ op = 3 ∨ op = 4 ∨ op = 5 ∨ op = 6 ∨ op = 7 ∨ op = 8 ∨ op = 9 ∨ op = 10 ∨ op = 11 ∨ op = 12 ∨ op = 13 ∨ op = 14 ∨ op = 15 ∨ op = 16 ∨ op = 17 ∨ op = 18 ∨ op = 19 := by omega
  rcases h with rfl | rfl | rfl | rfl | rfl | rfl | rfl | rfl | rfl | rfl | rfl | rfl | rfl | rfl | rfl | rfl | rfl | rfl | rfl | rfl
  · exact later0_any n a b k ka kc w hV hk ha hb
  · exact later1_any n a b k ka kc w hV hk ha hb
  · exact later2_any n a b k ka kc w hV hk ha hb
  · exact later3_any n a b k ka kc w hV hk ha hb
  · exact later4_any n a b k ka kc w hV hk ha hb
  · exact later5_any n a b k ka kc w hV hk ha hb
  · exact later6_any n a b k ka kc w hV hk ha hb
  · exact later7_any n a b k ka kc w hV hk ha hb
  · exact later8_any n a b k ka kc w hV hk ha hb
  · exact later9_any n a b k ka kc w hV hk ha hb
  · exact later10_any n a b k ka kc w hV hk ha hb
  · exact later11_any n a b k ka kc w hV hk ha hb
  · exact later12_any n a b k ka kc w hV hk ha hb
  · exact later13_any n a b k ka kc w hV hk ha hb
  · exact later14_any n a b k ka kc w hV hk ha hb
  · exact later15_any n a b k ka kc w hV hk ha hb
  · exact later16_any n a b k ka kc w hV hk ha hb
  · exact later17_any n a b k ka kc w hV hk ha hb
  · exact later18_any n a b k ka kc w hV hk ha hb
  · exact later19_any n a b k ka kc w hV hk ha hb

end Go.Proofs.YtahcgnmhhgcfmaaDoor
