/- The walks of has, ledTo, ReachOf and sameInts. -/
import Derived.Test.YtbifdcchdoflpadHReach
import Derived.WalkKit
import Derived.WalkSpells
import Derived.WalkLawsBesides
import Derived.Deep.LoopGhost
import Derived.Deep.Light
import Derived.Deep.QuietTactic
import Derived.BigQuiet
import Derived.BigRegion
namespace Go.Proofs.Ytbifdcchdoflpad
open Go.RowKit Go.Maps

/-- These numbers lie in a row. -/
def IntsAt (w : World) (ao : Option Addr) (l : List Int) : Prop := ∀ (i : Nat) z, l[i]? = some z → ∃ b o, ao = some ⟨b, o, none⟩ ∧ w.cell? ⟨b, o + i, none⟩ = some (.int .i64 z)

theorem IntsAt.keeps {w w' : World} {ao : Option Addr} {l : List Int} (h : IntsAt w ao l) (k : Keeps w w') : IntsAt w' ao l := fun i z hi => by
  obtain ⟨b, o, e, h1⟩ := h i z hi
  exact ⟨b, o, e, k _ _ h1⟩

theorem IntsOwn.at {w : World} {base : Nat} {ao : Option Addr} {n c : Nat} {l : List Int} (h : IntsOwn w base (.slice ao n c) l) : IntsAt w ao l := fun i z hi => by
  rcases ownsRow_form h with ⟨_, hn⟩ | ⟨g, cap, hv, _⟩
  · have : l = [] := List.eq_nil_of_length_eq_zero hn
    subst this
    simp at hi
  · simp only [Value.slice.injEq] at hv
    obtain ⟨rfl, rfl, rfl⟩ := hv
    exact ⟨g, 0, rfl, by rw [Nat.zero_add]; exact ownsRow_cell h rfl (by simp [hi])⟩

/-- Blocks below N, and rows of values, are as they were. -/
structure KeepV (N : Nat) (w w' : World) : Prop where
  size : w.heap.size ≤ w'.heap.size
  block : ∀ k c t fr, w.heap[k]? = some (.cells c t fr) → (k < N ∨ t = 30) → w'.heap[k]? = w.heap[k]?

theorem KeepV.refl (N : Nat) (w : World) : KeepV N w w := ⟨Nat.le_refl _, fun _ _ _ _ _ _ => rfl⟩
theorem KeepV.trans {N : Nat} {a b c : World} (h : KeepV N a b) (k : KeepV N b c) : KeepV N a c :=
  ⟨Nat.le_trans h.size k.size, fun j x t fr hj ho => by
    have h1 := h.block j x t fr hj ho
    rw [hj] at h1
    exact (k.block j x t fr h1 ho).trans (h1.trans hj.symm)⟩
theorem KeepV.below {N : Nat} {a b : World} (h : Below a.heap.size a b) : KeepV N a b := ⟨h.size, fun k _ _ _ hk _ => h.block k (Array.getElem?_eq_some_iff.1 hk).1⟩

theorem KeepV.growInt {N : Nat} {w w' : World} {v : Value} {l : List Int} (hI : IntsOwn w N v l) (hg : w.grownBy w' v.ownBlock) : KeepV N w w' :=
  ⟨hg.size, fun k c t fr hk ho => hg.block k (Array.getElem?_eq_some_iff.1 hk).1 (fun e => by
    have hlt := World.ownsRow.lt hI k e.symm
    rcases ho with ho | ho
    · omega
    · rcases hI.2 with ⟨rfl, _⟩ | ⟨g, cap, cur, rfl, _, hgg, _⟩
      · simp [Value.ownBlock] at e
      · simp only [Value.ownBlock, Option.some.injEq] at e
        subst e
        rw [hk] at hgg
        simp only [Option.some.injEq, Obj.cells.injEq] at hgg
        exact absurd (ho.symm.trans hgg.2.1) (by decide))⟩

theorem KeepV.growNew {N : Nat} {w0 w w' : World} {v : Value} {l : List Vl} (h : KeepV N w0 w) (hI : ValsOwn w w0.heap.size v l) (hg : w.grownBy w' v.ownBlock) : KeepV N w0 w' :=
  ⟨Nat.le_trans h.size hg.size, fun k c t fr hk ho => by
    have hk0 := (Array.getElem?_eq_some_iff.1 hk).1
    refine (hg.block k (Nat.lt_of_lt_of_le hk0 h.size) (fun e => ?_)).trans (h.block k c t fr hk ho)
    have hlt := World.ownsRow.lt hI k e.symm
    omega⟩

/-- The values lie below N, or in a row of values. -/
def VLow (w : World) (N : Nat) (ra : Option Addr) (row : List Vl) : Prop :=
  ∀ (i : Nat) v, row[i]? = some v → ∃ b o c t fr, ra = some ⟨b, o, none⟩ ∧ w.heap[b]? = some (.cells c t fr) ∧ (b < N ∨ t = 30)

theorem ValsAt.keepV {w w' : World} {N : Nat} {ra : Option Addr} {row : List Vl} (h : ValsAt w ra row) (hl : VLow w N ra row) (k : KeepV N w w') : ValsAt w' ra row := fun i v hi => by
  obtain ⟨b, o, e, h1, h2⟩ := h i v hi
  obtain ⟨b', o', c, t, fr, e', hb, ho⟩ := hl i v hi
  rw [e] at e'
  simp only [Option.some.injEq, Addr.mk.injEq, and_true] at e'
  obtain ⟨rfl, rfl⟩ := e'
  have hk := k.block b c t fr hb ho
  exact ⟨b, o, e, (World.cell?_of_block (w := w) hk).trans h1, (World.cell?_of_block (w := w) hk).trans h2⟩

theorem VLow.keepV {w w' : World} {N : Nat} {ra : Option Addr} {row : List Vl} (hl : VLow w N ra row) (k : KeepV N w w') : VLow w' N ra row := fun i v hi => by
  obtain ⟨b, o, c, t, fr, e, hb, ho⟩ := hl i v hi
  exact ⟨b, o, c, t, fr, e, (k.block b c t fr hb ho).trans hb, ho⟩

theorem ValsOwn.vlow {w : World} {base N : Nat} {ra : Option Addr} {n c : Nat} {row : List Vl} (h : ValsOwn w base (.slice ra n c) row) : VLow w N ra row := fun i v hi => by
  rcases h.2 with ⟨_, hn⟩ | ⟨g, cap, cur, e, _, hg, _⟩
  · have : row = [] := List.eq_nil_of_length_eq_zero hn
    subst this
    simp at hi
  · simp only [Value.slice.injEq] at e
    exact ⟨g, 0, cur, _, _, e.1, hg, Or.inr rfl⟩

theorem fields_four {M : Int} {l : List Ob} {r : List Vl} (h : hMay M l r = true) (p : Int) : (fieldsOf l p).length ≤ 4 := by
  unfold fieldsOf
  split
  · simp
  · rename_i o ho
    simp only [hMay, Bool.and_eq_true] at h
    have := List.all_eq_true.1 h.1.2 o (List.mem_of_getElem? ho)
    unfold oMay at this
    split at this
    · simp at this; simp [this]
    · simp only [Bool.and_eq_true, decide_eq_true_eq] at this
      exact this.1.2

theorem flat_four {M : Int} {l : List Ob} {r : List Vl} (h : hMay M l r = true) : ∀ ps : List Int, (ps.flatMap (fieldsOf l)).length ≤ 4 * ps.length
  | [] => by simp
  | p :: ps => by
    have h1 := fields_four h p
    have h2 := flat_four h ps
    rw [List.flatMap_cons, List.length_append, List.length_cons]
    omega

theorem flat_may {M : Int} {l : List Ob} {r : List Vl} (h : hMay M l r = true) : ∀ ps : List Int, (ps.flatMap (fieldsOf l)).all (vMay l.length) = true
  | [] => rfl
  | p :: ps => by
    rw [List.flatMap_cons, List.all_append, fields_may h p, flat_may h ps]
    rfl

/-- What is new behind a row that has been gone through so far. -/
def newRow (l : List Ob) (out : List Int) (vs : List Vl) : List Vl := ((visits out vs).drop out.length).flatMap (fieldsOf l)

theorem newRow_step (l : List Ob) (out : List Int) (vs : List Vl) (v : Vl) :
    newRow l out (vs ++ [v]) = if v.k = 2 ∧ v.n ∉ visits out vs then newRow l out vs ++ fieldsOf l v.n else newRow l out vs := by
  unfold newRow
  rw [visits_snoc]
  have hle := visits_len out vs
  unfold visit
  by_cases hk : v.k = 2
  · by_cases hm : v.n ∈ visits out vs
    · simp [hk, hm]
    · rw [if_pos hk, if_neg hm, if_pos ⟨hk, hm⟩, List.drop_append_of_le_length hle, List.flatMap_append]
      simp
  · simp [hk]

end Go.Proofs.Ytbifdcchdoflpad
