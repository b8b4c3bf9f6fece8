/- What a program lies like in memory: a slice of slices of instructions of four numbers each; and that it lies so in every later world that keeps its cells. -/
import Derived.Test.YtcgdabmmhjnidaaDoorHViews
import Derived.WalkKit
import Derived.Deep.OwnRows
import Derived.Deep.Draws
namespace Go.Proofs.YtcgdabmmhjnidaaDoor
open Go.RowKit

/-- A row of n instructions. -/
def RowAt (w : World) (ao : Option Addr) (n : Nat) (x : Nat → Nat → Int) : Prop :=
  ∀ i, i < n → ∃ b o, ao = some ⟨b, o, none⟩ ∧ ∀ f, f < 4 → w.cell? ⟨b, o + i * 4 + f, none⟩ = some (.int .i64 (x i f))

theorem RowAt.keeps {w w' : World} {ao : Option Addr} {n : Nat} {x : Nat → Nat → Int} (h : RowAt w ao n x) (k : Keeps w w') : RowAt w' ao n x := fun i hi => by
  obtain ⟨b, o, e, hc⟩ := h i hi
  exact ⟨b, o, e, fun f hf => k _ _ (hc f hf)⟩

/-- A program of G behaviors, the r-th of L r instructions. -/
structure ProgAt (w : World) (ao : Option Addr) (G : Nat) (A : Nat → Option Addr) (L C : Nat → Nat) (X : Nat → Nat → Nat → Int) : Prop where
  outer : ∀ r, r < G → ∃ b o, ao = some ⟨b, o, none⟩ ∧ w.cell? ⟨b, o + r, none⟩ = some (.slice (A r) (L r) (C r))
  rows : ∀ r, r < G → RowAt w (A r) (L r) (X r)
  many : 24 * G ≤ 281474976710656
  long : ∀ r, r < G → 32 * L r ≤ 281474976710656
  fits : ∀ r, r < G → ∀ i, i < L r → ∀ f, f < 4 → -9223372036854775808 ≤ X r i f ∧ X r i f ≤ 9223372036854775807

theorem ProgAt.keeps {w w' : World} {ao : Option Addr} {G : Nat} {A : Nat → Option Addr} {L C : Nat → Nat} {X : Nat → Nat → Nat → Int} (h : ProgAt w ao G A L C X) (k : Keeps w w') : ProgAt w' ao G A L C X :=
  ⟨fun r hr => by obtain ⟨b, o, e, hc⟩ := h.outer r hr; exact ⟨b, o, e, k _ _ hc⟩, fun r hr => (h.rows r hr).keeps k, h.many, h.long, h.fits⟩

end Go.Proofs.YtcgdabmmhjnidaaDoor
