/- Rows of numbers. -/
import Derived.Test.YtahcgnmhhgcfmaaDoorCHAppG
namespace Go.Proofs.YtahcgnmhhgcfmaaDoor
open Go.RowKit

/-- Numbers. -/
def fI (z : Int) : List Value := [.int .i64 z]
theorem Tryd.rowI : RowT Tryd.prog fI 1 48 3 8 := ⟨fun _ => rfl, fun x v hv => by simp [fI] at hv; subst hv; rfl, by decide, Tryd.underlying48, _, (show (Tryd.prog.info? 3).map (fun i => (i.zero, i.size, i.bytes)) = some (some (.int .i64 0), 1, 8) by kernel_rfl), rfl⟩

theorem seqI_of {w : World} {ao : Option Addr} {l : List Int} (h : ∀ (i : Nat) z, l[i]? = some z → ∃ b o, ao = some ⟨b, o, none⟩ ∧ w.cell? ⟨b, o + i, none⟩ = some (.int .i64 z)) : SeqAt fI 1 w ao l := fun i z hz => by
  obtain ⟨b, o, e, hc⟩ := h i z hz
  refine ⟨b, o, e, fun j u hu => ?_⟩
  match j, hu with
  | 0, hu =>
    simp [fI] at hu
    subst hu
    rw [Nat.mul_one]
    exact hc

theorem seqI_to {w : World} {ao : Option Addr} {l : List Int} (h : SeqAt fI 1 w ao l) (i : Nat) (z : Int) (hz : l[i]? = some z) : ∃ b o, ao = some ⟨b, o, none⟩ ∧ w.cell? ⟨b, o + i, none⟩ = some (.int .i64 z) := by
  obtain ⟨b, o, e, hc⟩ := h i z hz
  refine ⟨b, o, e, ?_⟩
  have := hc 0 (.int .i64 z) rfl
  rwa [Nat.mul_one] at this

end Go.Proofs.YtahcgnmhhgcfmaaDoor
