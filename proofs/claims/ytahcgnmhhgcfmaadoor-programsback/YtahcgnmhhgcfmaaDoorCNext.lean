/- The reader in memory; the walks of next, registers, signed. -/
import Derived.Test.YtahcgnmhhgcfmaaDoorChecked
import Derived.Test.YtahcgnmhhgcfmaaDoorCPlain
import Derived.Test.YtahcgnmhhgcfmaaDoorCSmall
import Derived.WalkKit
import Derived.WalkSpells
import Derived.WalkLawsBesides
import Derived.Deep.LoopGhost
import Derived.Deep.Light
import Derived.Deep.QuietTactic
import Derived.BigQuiet
namespace Go.Proofs.YtahcgnmhhgcfmaaDoor
open Go.RowKit

/-- The bytes that are read lie in memory. -/
structure BytesAt (w : World) (ba : Option Addr) (bs : List Int) : Prop where
  cell : ∀ i, i < bs.length → ∃ b o, ba = some ⟨b, o, none⟩ ∧ w.cell? ⟨b, o + i, none⟩ = some (.int .u8 (bs.getD i 0))
  fits : ∀ i, 0 ≤ bs.getD i 0 ∧ bs.getD i 0 ≤ 255
  short : bs.length ≤ 5000

theorem BytesAt.keeps {w w' : World} {ba : Option Addr} {bs : List Int} (h : BytesAt w ba bs) (k : Keeps w w') : BytesAt w' ba bs :=
  ⟨fun i hi => by obtain ⟨b, o, e, hc⟩ := h.cell i hi; exact ⟨b, o, e, k _ _ hc⟩, h.fits, h.short⟩

/-- The reader lies at block R, and stands at place k. -/
structure RdAt (w : World) (R : Nat) (ba : Option Addr) (cap : Nat) (bs : List Int) (k : Nat) : Prop where
  blk : w.heap[R]? = some (.cells #[.slice ba bs.length cap, .int .i64 k] 104 (0, 0))
  bytes : BytesAt w ba bs
  place : k ≤ bs.length

/-- Nothing that was there has changed but block R; new blocks may have come. -/
structure But (R : Nat) (w w' : World) : Prop where
  os : w'.os = w.os
  tape : w'.tape = w.tape
  output : w'.output = w.output
  size : w.heap.size ≤ w'.heap.size
  block : ∀ k, k < w.heap.size → k ≠ R → w'.heap[k]? = w.heap[k]?

theorem But.refl (R : Nat) (w : World) : But R w w := ⟨rfl, rfl, rfl, Nat.le_refl _, fun _ _ _ => rfl⟩
theorem But.trans {R : Nat} {a b c : World} (h : But R a b) (k : But R b c) : But R a c :=
  ⟨k.os.trans h.os, k.tape.trans h.tape, k.output.trans h.output, Nat.le_trans h.size k.size, fun i hi hR => (k.block i (Nat.lt_of_lt_of_le hi h.size) hR).trans (h.block i hi hR)⟩
theorem But.drewN {R : Nat} {a w : World} (h : But R a w) (n : Nat) : But R a (w.drewN n) := ⟨h.os, h.tape, h.output, h.size, h.block⟩
theorem But.alloc {R : Nat} {a w : World} (h : But R a w) (o : Obj) : But R a (w.alloc o) :=
  h.trans ⟨rfl, rfl, rfl, by simp, fun k hk _ => Below.heap_alloc _ _ _ hk⟩
theorem But.setR {R : Nat} {a w : World} (h : But R a w) (j : Nat) (v : Value) : But R a (w.setCell ⟨R, j, none⟩ v) :=
  h.trans ⟨rfl, rfl, rfl, by simp [World.setCell], fun k _ hR => Below.heap_setCell _ _ _ _ hR⟩
theorem But.blk {R : Nat} {w w' : World} (h : But R w w') {k : Nat} {x : Obj} (hk : w.heap[k]? = some x) (hR : k ≠ R) : w'.heap[k]? = some x :=
  (h.block k (Array.getElem?_eq_some_iff.1 hk).1 hR).trans hk
theorem But.below {R B : Nat} {w w' : World} (h : But R w w') (hB : B ≤ w.heap.size) (hR : B ≤ R) : Below B w w' :=
  ⟨h.os, h.tape, h.output, h.size, fun k hk => h.block k (by omega) (by omega)⟩

/-- The bytes (if there are any) lie in another block. -/
def Apart (ba : Option Addr) (bs : List Int) (R : Nat) : Prop := 0 < bs.length → ∀ b o, ba = some ⟨b, o, none⟩ → b ≠ R

/-- Bytes that lie ahead of the reader are still there. -/
theorem BytesAt.but {R : Nat} {w w' : World} {ba : Option Addr} {bs : List Int} (h : BytesAt w ba bs) (k : But R w w') (hR : Apart ba bs R) : BytesAt w' ba bs :=
  ⟨fun i hi => by
    obtain ⟨b, o, e, hc⟩ := h.cell i hi
    exact ⟨b, o, e, (World.cell?_of_block (w := w) (k.block b (World.block_lt_of_cell? _ _ hc) (hR (by omega) b o e))).trans hc⟩, h.fits, h.short⟩

/-- The bytes lie in a block that is not the reader's (it holds a slice first). -/
theorem RdAt.apart {w : World} {R : Nat} {ba : Option Addr} {cap : Nat} {bs : List Int} {k : Nat} (h : RdAt w R ba cap bs k) (hR : Apart ba bs R) {w' : World} {k' : Nat} (hb : But R w w')
    (hk : w'.heap[R]? = some (.cells #[.slice ba bs.length cap, .int .i64 k'] 104 (0, 0))) (hp : k' ≤ bs.length) : RdAt w' R ba cap bs k' :=
  ⟨hk, h.bytes.but hb hR, hp⟩

theorem rdNext_ok (bs : List Int) (k : Nat) (h : k < bs.length) : rdNext bs k = (bs.getD k 0, 0, k + 1) := by rw [rdNext, if_pos h]
theorem rdNext_no (bs : List Int) (k : Nat) (h : ¬ k < bs.length) : rdNext bs k = (0, 5, k) := by rw [rdNext, if_neg h]

theorem rd_step {w : World} {R : Nat} {ba : Option Addr} {cap : Nat} {bs : List Int} {k : Nat} (h : RdAt w R ba cap bs k) (hR : Apart ba bs R) (hk : k < bs.length) (n : Nat) :
    RdAt ((w.drewN n).setCell ⟨R, 1, none⟩ (.int .i64 ((k : Int) + 1))) R ba cap bs (k + 1) ∧ But R w ((w.drewN n).setCell ⟨R, 1, none⟩ (.int .i64 ((k : Int) + 1))) := by
  have hb : But R w ((w.drewN n).setCell ⟨R, 1, none⟩ (.int .i64 ((k : Int) + 1))) := ((But.refl _ _).drewN n).setR 1 _
  refine ⟨h.apart hR hb ?_ (by omega), hb⟩
  have := h.blk
  simp [World.setCell, Array.getElem?_modify, this]

set_option maxHeartbeats 800000 in
theorem next_any (R : Nat) (ba : Option Addr) (cap : Nat) (bs : List Int) (k : Nat) (w : World) (h : RdAt w R ba cap bs k) (hR : Apart ba bs R) :
    Calls Tryd.prog 61 #[.pointer (some ⟨R, 0, none⟩)] w fun e w' => e = .returned (.tuple #[.int .i64 (rdNext bs k).1, .int .i64 (rdNext bs k).2.1]) ∧ RdAt w' R ba cap bs (rdNext bs k).2.2 ∧ But R w w' := by
  have c0 := ccell_blk h.blk 0
  have c1 := ccell_blk h.blk 1
  simp at c0 c1
  have f1 : w.frozen? ⟨R, 1, none⟩ = false := by simp [World.frozen?, h.blk]
  have hsh := h.bytes.short
  have hpl := h.place
  by_cases hk : k < bs.length
  · obtain ⟨b, o, rfl, hc⟩ := h.bytes.cell k hk
    obtain ⟨y1, y2⟩ := h.bytes.fits k
    have hne := hR (by omega) b o rfl
    rw [rdNext_ok bs k hk]
    have H : Aside (RdAt w R (some ⟨b, o, none⟩) cap bs k) := h
    generalize bs.getD k 0 = y at *
    have hkz : (k : Int) < (bs.length : Int) := by omega
    clear h
    go_enter Tryd.func61, Tryd.ntmps61
    go_wp2
    go_quiet (fail)
    go_wp2
    go_quiet (fail)
    go_wp2
    go_ret2
    exact ⟨rfl, rd_step H.out hR hk _⟩
  · rw [rdNext_no bs k hk]
    have hkz : (bs.length : Int) ≤ (k : Int) := by omega
    have H : Aside (RdAt w R ba cap bs k) := h
    clear h
    go_enter Tryd.func61, Tryd.ntmps61
    go_wp2
    go_quiet (fail)
    go_wp2
    go_ret2
    exact ⟨rfl, ⟨H.out.blk, H.out.bytes.keeps (Keeps.drewN _ _), hpl⟩, (But.refl _ _).drewN _⟩

theorem rdNext_bd (bs : List Int) (k : Nat) (hf : ∀ i, 0 ≤ bs.getD i 0 ∧ bs.getD i 0 ≤ 255) : 0 ≤ (rdNext bs k).1 ∧ (rdNext bs k).1 ≤ 255 := by
  unfold rdNext
  split
  · exact hf k
  · simp

theorem rdNext_err (bs : List Int) (k : Nat) : (rdNext bs k).2.1 = 0 ∨ (rdNext bs k).2.1 = 5 := by
  unfold rdNext; split <;> simp

set_option maxHeartbeats 400000 in
theorem signed_any (s : Int) (w : World) (h0 : 0 ≤ s) (h1 : s ≤ 4611686018427387904) :
    Calls Tryd.prog 96 #[.int .i64 s] w fun e w' => e = .returned (.int .i64 (unzig s)) ∧ w' = w := by
  by_cases h : s % 2 = 1
  · have e : (s % 2 == 1) = true := by simp [h]
    have HU : Aside (unzig s = -((s + 1) / 2)) := by show unzig s = _; rw [unzig, if_pos h]
    clear h
    go_enter Tryd.func96, Tryd.ntmps96
    go_wp2
    go_ret
    refine ⟨cret_num ?_, rfl⟩
    rw [HU.out]
    go_light
    rw [Int.tdiv_eq_ediv_of_nonneg (by omega)]
    exact IntWalk.wrap64_in _ ⟨by omega, by omega⟩
  · have e : (s % 2 == 1) = false := by simp [h]
    have HU : Aside (unzig s = s / 2) := by show unzig s = _; rw [unzig, if_neg h]
    clear h
    go_enter Tryd.func96, Tryd.ntmps96
    go_wp2
    go_ret
    exact ⟨cret_num HU.out.symm, rfl⟩

set_option maxHeartbeats 400000 in
theorem registers_any (R : Nat) (ba : Option Addr) (cap : Nat) (bs : List Int) (k : Nat) (w : World) (h : RdAt w R ba cap bs k) (hR : Apart ba bs R) :
    Calls Tryd.prog 91 #[.pointer (some ⟨R, 0, none⟩)] w fun e w' => e = .returned (.tuple #[.int .i64 (rdRegs bs k).1, .int .i64 (rdRegs bs k).2.1, .int .i64 (rdRegs bs k).2.2.1]) ∧ RdAt w' R ba cap bs (rdRegs bs k).2.2.2 ∧ But R w w' := by
  obtain ⟨n1, n2⟩ := rdNext_bd bs k h.bytes.fits
  go_enter Tryd.func91, Tryd.ntmps91
  go_wp2_with fail
  refine (next_any R ba cap bs k w h hR).mono ?_
  rintro e w1 ⟨rfl, h1, hb1⟩
  by_cases he : (rdNext bs k).2.1 = 0
  · by_cases hc : 64 ≤ (rdNext bs k).1
    · have HU : Aside (rdRegs bs k = (0, 0, 4, (rdNext bs k).2.2)) := by show rdRegs bs k = _; rw [rdRegs, if_neg (by simp [he]), if_pos hc]
      rw [he]
      clear he
      go_wp2
      go_ret3
      exact ⟨by rw [HU.out]; rfl, by rw [HU.out]; exact h1, hb1⟩
    · have HU : Aside (rdRegs bs k = ((rdNext bs k).1 % 8, (rdNext bs k).1 / 8, 0, (rdNext bs k).2.2)) := by show rdRegs bs k = _; rw [rdRegs, if_neg (by simp [he]), if_neg hc]
      rw [he]
      clear he
      go_wp2
      go_ret3
      exact ⟨by rw [HU.out]; rfl, by rw [HU.out]; exact h1, hb1⟩
  · have HU : Aside (rdRegs bs k = (0, 0, (rdNext bs k).2.1, (rdNext bs k).2.2)) := by show rdRegs bs k = _; rw [rdRegs, if_pos he]
    have heb : ((rdNext bs k).2.1 != 0) = true := by simp [he]
    go_wp2
    go_ret3
    exact ⟨by rw [HU.out]; rfl, by rw [HU.out]; exact h1, hb1⟩

end Go.Proofs.YtahcgnmhhgcfmaaDoor
