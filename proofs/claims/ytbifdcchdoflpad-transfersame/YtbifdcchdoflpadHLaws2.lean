/- Values copied into new memory at a step of a region that draws; what a store into a block of another type leaves as it was. -/
import Derived.Test.YtbifdcchdoflpadHLaws
namespace Go.Proofs.Ytbifdcchdoflpad
open Go.RowKit

/-- 'append([]api.Value(nil), x...)' at a step of a region that draws. -/
theorem step_copyVals {w : World} {ops : Array Oper} {o : Oper} {a : Act} {K : Act → World → Prop} {Q : Exit → Act → World → Prop} {E : Prop} (hgd : o.guard = none) (s x : Operand)
    (ho : o.op = .call { callee := .builtin .append, args := #[s, x], argTypes := #[26, 26] }) (hs : a.eval s = .slice none 0 0)
    (fs : List Vl) (fa : Option Addr) (fc : Nat) (hx : a.eval x = .slice fa fs.length fc) (hfs : ValsAt w fa fs) (hl : 16 * fs.length ≤ 140737488355328)
    (h : ∀ va cap w', ValsOwn w' w.heap.size (.slice va fs.length cap) fs → Below w.heap.size w w' → K (a.put o.dst (.slice va fs.length cap)) w') :
    if Region.wanted o (yielded ops a.tmps) = true then Oper.wp Try.prog o a w K Q else E := by
  by_cases hpos : 0 < fs.length
  · refine step_pushVals hgd s x ho hs (l := []) (base := w.heap.size) (World.ownsRow_nil _ _ _ _) (Nat.le_refl _) fs fa fc hx hfs hpos (by simpa using hl) ?_
    intro g cap w' hO _ hb
    rw [List.length_nil, Nat.zero_add] at hO ⊢
    exact h _ _ _ hO hb
  · have he : fs = [] := List.eq_nil_of_length_eq_zero (by omega)
    subst he
    obtain ⟨i0, hi0, _⟩ := Option.map_eq_some_iff.1 Try.infoV
    exact step_append_zero hgd s x ho Try.underlying26 hi0 hs (base := w.heap.size) (size := 2) (World.ownsRow_nil w w.heap.size 30 2) fa fc hx (h _ _ _ (World.ownsRow_nil _ _ _ _) (Below.refl _ _))

/-- A store into a block of another type. -/
theorem valsSet49 {w : World} {base : Nat} {v : Value} {l : List Vl} (h : ValsOwn w base v l) {B : Nat} {c : Array Value} {t' : TypeId} (hB : w.heap[B]? = some (.cells c t' (0, 0))) (hne : t' ≠ 30) (j : Nat) (u : Value) : ValsOwn (w.setCell ⟨B, j, none⟩ u) base v l := by
  refine ownsRow_set_other h ?_ _ _
  rcases h.2 with ⟨rfl, _⟩ | ⟨g, cap, cur, rfl, _, hg, _⟩
  · exact Or.inl rfl
  · refine Or.inr (fun e1 => ?_)
    simp only [Value.ownBlock, Option.some.injEq] at e1
    subst e1
    rw [hB] at hg
    simp only [Option.some.injEq, Obj.cells.injEq] at hg
    exact hne hg.2.1

end Go.Proofs.Ytbifdcchdoflpad
