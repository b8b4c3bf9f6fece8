/- 'make' of rows of structs. -/
import Derived.Test.YtcgdabmmhjnidaaDoorVPut
import Derived.WalkKit
import Derived.Laws.CopyOwn
import Derived.Deep.OwnRows
import Derived.Deep.Draws
import Derived.Deep.RegionLaw
namespace Go.Proofs.YtcgdabmmhjnidaaDoor
open Go.RowKit

section
variable {P : Program}
/-- 'make([]T, n)', T of k cells. -/
theorem run_make_wide (k : Nat) (t e : TypeId) (z : Value) (bytes : Nat) (ht : P.underlying t = some (.slice e)) (hinfo : (P.info? e).map (fun i => (i.zero, i.size, i.bytes)) = some (some z, k, bytes))
    (kl kc : IntKind) (n : Nat) (hbytes : bytes * n ≤ 281474976710656) (h63 : n ≤ 9223372036854775807) (w : World) :
    (Instr.makeSlice t (.int kl (n : Int)) (.int kc (n : Int))).run P w = .ok (.slice (some ⟨w.heap.size, 0, none⟩) n n) (w.alloc (.cells (madeCells z.cells (n * k)) e)) := by
  obtain ⟨i, hi, hzz⟩ := Option.map_eq_some_iff.1 hinfo
  simp only [Prod.mk.injEq] at hzz
  obtain ⟨hz, hs, hb⟩ := hzz
  have hb' : (i.bytes : Int) * (n : Int) ≤ 281474976710656 := by
    have h : ((i.bytes * n : Nat) : Int) ≤ 281474976710656 := by rw [hb]; omega
    rwa [Int.natCast_mul] at h
  have hr := run_make (P := P) w t e i z ht hi hz kl kc n n (by omega) (Int.le_refl _) hb' (by omega)
  simp only [Int.toNat_natCast, hs] at hr
  exact hr
end

theorem made_flat {α : Type} {f : α → List Value} {s : Nat} (hf : ∀ x, (f x).length = s) (hs : 0 < s) (z : Array Value) (x : α) (hz : z.toList = f x) (n : Nat) : (madeCells z (n * s)).toList = (List.replicate n x).flatMap f := by
  have hlen : ((List.replicate n x).flatMap f).length = n * s := by rw [flat_length hf]; simp
  have hzs : z.size = s := by rw [← Array.length_toList, hz, hf]
  refine List.ext_getElem? fun j => ?_
  by_cases hj : j < n * s
  · have hjs : j % s < s := Nat.mod_lt _ hs
    have hjd : j / s < n := Nat.div_lt_of_lt_mul (by rw [Nat.mul_comm]; exact hj)
    have h1 : ((List.replicate n x).flatMap f)[j / s * s + j % s]? = (f x)[j % s]? := flat_get hf _ _ _ (by simp [hjd]) hjs
    rw [Nat.div_add_mod'] at h1
    rw [h1, ← hz]
    simp only [madeCells, Array.toList_map, Array.toList_range, List.getElem?_map, List.getElem?_range hj, Option.map_some, hzs]
    rw [Array.getElem?_toList, Array.getElem?_eq_getElem (by rw [hzs]; exact hjs)]
    simp [hzs, hjs]
  · rw [List.getElem?_eq_none (by simp [size_madeCells]; omega), List.getElem?_eq_none (by rw [hlen]; omega)]

/-- A row of structs that 'make' made. -/
theorem ownsRow_made {α : Type} {f : α → List Value} {s : Nat} (hf : ∀ x, (f x).length = s) (hs : 0 < s) (z : Array Value) (x : α) (hz : z.toList = f x) (w : World) (base n : Nat) (e : TypeId) (hb : base ≤ w.heap.size) (hn : n ≤ maxLen) :
    (w.alloc (.cells (madeCells z (n * s)) e)).ownsRow base e s (.slice (some ⟨w.heap.size, 0, none⟩) n n) n ((List.replicate n x).flatMap f) :=
  ⟨by rw [flat_length hf]; simp, .inr ⟨w.heap.size, n, _, rfl, hb, Deep.blk_alloc_new w _, Nat.le_refl _, hn, by simp [size_madeCells], by rw [List.take_of_length_le (by simp [size_madeCells]), made_flat hf hs z x hz]⟩⟩

end Go.Proofs.YtcgdabmmhjnidaaDoor
