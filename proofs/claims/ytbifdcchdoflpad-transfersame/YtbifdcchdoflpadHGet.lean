/- The walks of checkField, fieldFault, Get and GotOf. -/
import Derived.Test.YtbifdcchdoflpadHCheck
import Derived.WalkKit
import Derived.WalkSpells
import Derived.WalkLawsBesides
import Derived.Deep.LoopGhost
import Derived.Deep.Light
import Derived.Deep.QuietTactic
import Derived.BigQuiet
import Derived.BigRegion
namespace Go.Proofs.Ytbifdcchdoflpad
open Go.RowKit

/-- What is wrong with a field that is asked for: the heap and the value may be. -/
def fieldErr (l : List Ob) (v : Vl) (f : Int) : Int :=
  if v.k ≠ 2 then 9 else match l[v.n.toNat]? with
    | none => 0
    | some o => if o.dead then 10 else if f < 0 ∨ (o.fs.length : Int) ≤ f then 2 else 0

theorem ref_place {l : List Ob} {v : Vl} (h : vMay l.length v = true) (hk : v.k = 2) : ∃ (p : Nat) (o : Ob), v.n = p ∧ p < l.length ∧ l[p]? = some o := by
  simp [vMay, hk] at h
  obtain ⟨p, hp⟩ := Int.eq_ofNat_of_zero_le h.1
  have hlt : p < l.length := by omega
  exact ⟨p, l[p], hp, hlt, List.getElem?_eq_getElem hlt⟩

set_option maxHeartbeats 1600000 in
theorem checkField_any (M : Int) (ao : Option Addr) (cap : Nat) (l : List Ob) (k n f : Int) (w : World) (h : ObsAt w ao l) (hv : vMay l.length ⟨k, n⟩ = true) :
    Calls Try.prog 29 #[.agg #[.int .i64 M, .slice ao l.length cap], .agg #[.int .i64 k, .int .i64 n], .int .i64 f] w fun e w' => e = .returned (.int .i64 (fieldErr l ⟨k, n⟩ f)) ∧ Below w.heap.size w w' := by
  by_cases hk : k = 2
  · subst hk
    obtain ⟨p, ob, hp, hlt, hob⟩ := ref_place hv rfl
    simp only at hp
    subst hp
    obtain ⟨fs, dead⟩ := ob
    obtain ⟨b, o, fa, fc, rfl, c1, c2, hfs, hfl⟩ := h.cell p _ hob
    simp only at c1 c2 hfs hfl
    have hE : fieldErr l ⟨2, p⟩ f = if dead then 10 else if f < 0 ∨ (fs.length : Int) ≤ f then 2 else 0 := by simp [fieldErr, hob]
    rw [hE]
    clear hE hv hob
    have hpz : (p : Int) < (l.length : Int) := by omega
    have C1 : ∀ x y, ((w.alloc x).alloc y).cell? ⟨b, o + p * 2, none⟩ = some (.slice fa fs.length fc) := fun x y => Keeps.alloc _ y _ _ (Keeps.alloc _ x _ _ c1)
    have C2 : ∀ x y, ((w.alloc x).alloc y).cell? ⟨b, o + p * 2 + 1, none⟩ = some (.bool dead) := fun x y => Keeps.alloc _ y _ _ (Keeps.alloc _ x _ _ c2)
    have bb : ∀ x y z, Below w.heap.size w (((w.alloc x).alloc y).alloc z) := fun x y z => (((Below.refl _ _).alloc (Nat.le_refl _) _).alloc (by simp) _).alloc (by simp; omega) _
    have BB : Aside (∀ x y z, Below w.heap.size w (((w.alloc x).alloc y).alloc z)) := bb
    clear bb c1 c2 hfs
    cases dead with
    | true =>
      go_enter Try.func29, Try.ntmps29
      go_wp2
      go_ret
      exact ⟨rfl, BB.out _ _ _⟩
    | false =>
      by_cases hf0 : f < 0
      · go_enter Try.func29, Try.ntmps29
        go_wp2
        go_ret
        exact ⟨ret_num (by simp), BB.out _ _ _⟩
      · have hd0 : decide (f < 0) = false := by simp; omega
        by_cases hf1 : (fs.length : Int) ≤ f
        · have hR : (if false = true then 10 else if f < 0 ∨ (fs.length : Int) ≤ f then 2 else 0 : Int) = 2 := by simp [hf1]
          rw [hR]
          go_enter Try.func29, Try.ntmps29
          go_wp2
          go_ret
          exact ⟨rfl, BB.out _ _ _⟩
        · have hd1 : decide ((fs.length : Int) ≤ f) = false := by simp; omega
          have hR : (if false = true then 10 else if f < 0 ∨ (fs.length : Int) ≤ f then 2 else 0 : Int) = 0 := by simp [hf1, hf0]
          rw [hR]
          go_enter Try.func29, Try.ntmps29
          go_wp2
          go_ret
          exact ⟨rfl, BB.out _ _ _⟩
  · have hE : fieldErr l ⟨k, n⟩ f = 9 := by simp [fieldErr, hk]
    rw [hE]
    have hkb : (k != 2) = true := by simp [hk]
    clear hE hv hk
    go_enter Try.func29, Try.ntmps29
    go_wp2
    go_ret
    exact ⟨rfl, ((Below.refl _ _).alloc (Nat.le_refl _) _).alloc (by simp) _⟩

end Go.Proofs.Ytbifdcchdoflpad
