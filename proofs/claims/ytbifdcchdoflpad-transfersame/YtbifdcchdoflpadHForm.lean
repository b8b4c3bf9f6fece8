/- Form: what values lead to is told: the closure say, and the walk of Form. -/
import Derived.Test.YtbifdcchdoflpadHReach
import Derived.Test.YtbifdcchdoflpadHMove
import Derived.Test.YtbifdcchdoflpadHPureS
import Derived.WalkKit
import Derived.WalkSpells
import Derived.WalkLawsBesides
import Derived.Deep.LoopGhost
import Derived.Deep.Light
import Derived.Deep.QuietTactic
import Derived.BigQuiet
import Derived.BigRegion
import Derived.Maps.Own
import Derived.Maps.OwnOps
import Derived.Maps.OwnSet
namespace Go.Proofs.Ytbifdcchdoflpad
open Go.RowKit Go.Maps

theorem ints_ne_box {w : World} {base : Nat} {v : Value} {l : List Int} (h : IntsOwn w base v l) {U : Nat} {c : Array Value} {t : TypeId} (hU : w.heap[U]? = some (.cells c t (0, 0))) (ht : t ≠ 3) : v.ownBlock = none ∨ v.ownBlock ≠ some U := by
  rcases h.2 with ⟨rfl, _⟩ | ⟨g, cap, cur, rfl, _, hg, _⟩
  · exact Or.inl rfl
  · refine Or.inr (fun e1 => ?_)
    simp only [Value.ownBlock, Option.some.injEq] at e1
    subst e1
    rw [hU] at hg
    simp only [Option.some.injEq, Obj.cells.injEq] at hg
    exact ht hg.2.1

/-- What is told, the places and their order, in memory. -/
structure FP (w : World) (U P O m B : Nat) (uv : Option Addr) (uc : Nat) (ov : Option Addr) (oc : Nat) (D : DataW Unit) (out order : List Int) : Prop where
  u : w.heap[U]? = some (.cells #[.slice uv out.length uc] 32 (0, 0))
  ui : IntsOwn w B (.slice uv out.length uc) out
  o : w.heap[O]? = some (.cells #[.slice ov order.length oc] 32 (0, 0))
  oi : IntsOwn w B (.slice ov order.length oc) order
  ap : ∀ g, (Value.slice uv out.length uc).ownBlock = some g → (Value.slice ov order.length oc).ownBlock = some g → False
  p : w.heap[P]? = some (.cells #[.map (some m)] 59 (0, 0))
  d : w.ownsMap Try.prog 3 (plainElem Try.prog 3) m order.length D
  has : ∀ z, Maps.has D (.int .i64 z) = decide (z ∈ order)
  at_ : ∀ (i : Nat) q, order[i]? = some q → D.atKey (.int .i64 q) (.lit (.int .i64 0)) = .lit (.int .i64 i)
  low : B ≤ U ∧ B ≤ P ∧ B ≤ O ∧ B ≤ m ∧ B ≤ w.heap.size
  ne : U ≠ O

def FState (w : World) (U P O m B : Nat) (out order : List Int) : Prop := ∃ uv uc ov oc D, FP w U P O m B uv uc ov oc D out order

section
variable {w w1 w2 : World} {U P O m B : Nat} {uv : Option Addr} {uc : Nat} {ov : Option Addr} {oc : Nat} {D : DataW Unit} {out order : List Int}

theorem FP.below (h : FP w U P O m B uv uc ov oc D out order) (hb : Below w.heap.size w w1) : FP w1 U P O m B uv uc ov oc D out order :=
  ⟨(hb.block _ (Array.getElem?_eq_some_iff.1 h.u).1).trans h.u, ownsRow_below h.ui hb, (hb.block _ (Array.getElem?_eq_some_iff.1 h.o).1).trans h.o, ownsRow_below h.oi hb, h.ap,
    (hb.block _ (Array.getElem?_eq_some_iff.1 h.p).1).trans h.p, h.d.kept (row := none) ⟨hb.os, hb.tape, hb.output, hb.size, fun k hk _ => hb.block k hk⟩ (by simp), h.has, h.at_,
    ⟨h.low.1, h.low.2.1, h.low.2.2.1, h.low.2.2.2.1, Nat.le_trans h.low.2.2.2.2 hb.size⟩, h.ne⟩

/-- Behind 'out = append(out, ..)'. -/
theorem FP.tell (h : FP w U P O m B uv uc ov oc D out order) (X : Obj) {g gc n : Nat} {out' : List Int} (hn : n = out'.length) (hi2 : IntsOwn w2 B (.slice (some ⟨g, 0, none⟩) n gc) out')
    (hg2 : (w.alloc X).grownBy w2 (Value.slice uv out.length uc).ownBlock) (hgg : (Value.slice uv out.length uc).ownBlock = some g ∨ g = w.heap.size + 1) :
    FP (w2.setCell ⟨U, 0, none⟩ (.slice (some ⟨g, 0, none⟩) n gc)) U P O m B (some ⟨g, 0, none⟩) gc ov oc D out' order ∧ Below B w (w2.setCell ⟨U, 0, none⟩ (.slice (some ⟨g, 0, none⟩) n gc)) := by
  subst hn
  have hlow := h.low
  have hUlt := (Array.getElem?_eq_some_iff.1 h.u).1
  have hOlt := (Array.getElem?_eq_some_iff.1 h.o).1
  have hPlt := (Array.getElem?_eq_some_iff.1 h.p).1
  have hua := World.ownsRow.alloc h.ui X
  have hoa := World.ownsRow.alloc h.oi X
  have U2 : w2.heap[U]? = some (.cells #[.slice uv out.length uc] 32 (0, 0)) := owns_blk hua hg2 ((Deep.blk_alloc_lt _ _ _ hUlt).trans h.u) (by decide)
  have O2 : w2.heap[O]? = some (.cells #[.slice ov order.length oc] 32 (0, 0)) := owns_blk hua hg2 ((Deep.blk_alloc_lt _ _ _ hOlt).trans h.o) (by decide)
  have P2 : w2.heap[P]? = some (.cells #[.map (some m)] 59 (0, 0)) := owns_blk hua hg2 ((Deep.blk_alloc_lt _ _ _ hPlt).trans h.p) (by decide)
  have hap : (Value.slice ov order.length oc).ownBlock = none ∨ (Value.slice ov order.length oc).ownBlock ≠ (Value.slice uv out.length uc).ownBlock := by
    cases he : (Value.slice ov order.length oc).ownBlock with
    | none => exact Or.inl rfl
    | some k => exact Or.inr (fun e => h.ap k e.symm he)
  have oi2 : IntsOwn w2 B (.slice ov order.length oc) order := hoa.kept hg2 hap
  have d2 := (h.d.alloc X).kept hg2 (by
    rcases map_ne_row h.d h.ui with hn | hn
    · rw [hn]; simp
    · exact Ne.symm hn)
  have hB2 : Below B w w2 := ((Below.refl B w).alloc hlow.2.2.2.2 X).grown hg2 (by simp; omega) (fun k hk => (World.ownsRow.lt h.ui k hk).1)
  have hUP : P ≠ U := fun e => by
    have := h.p
    rw [e, h.u] at this
    simp at this
  refine ⟨⟨?_, ownsRow_set_other hi2 (ints_ne_box hi2 U2 (by decide)) _ _, (Deep.blk_setCell_other _ _ _ _ (Ne.symm h.ne)).trans O2, ownsRow_set_other oi2 (ints_ne_box oi2 U2 (by decide)) _ _, ?_, (Deep.blk_setCell_other _ _ _ _ hUP).trans P2,
    d2.setCell (Ne.symm (map_not_cells d2 U2)) _, h.has, h.at_, ⟨hlow.1, hlow.2.1, hlow.2.2.1, hlow.2.2.2.1, ?_⟩, h.ne⟩, hB2.setCell hlow.1 _⟩
  · rw [setCell_blk U2 0 _]
    simp
  · intro k e1 e2
    simp only [Value.ownBlock, Option.some.injEq] at e1
    subst e1
    rcases hgg with hgg | hgg
    · exact h.ap _ hgg e2
    · have := (World.ownsRow.lt h.oi _ e2).2
      omega
  · simp only [World.setCell, Array.size_modify]
    exact Nat.le_trans hlow.2.2.2.2 hB2.size

/-- Behind 'places[n] = len(order); order = append(order, n)'. -/
theorem FP.push (h : FP w U P O m B uv uc ov oc D out order) {g gc : Nat} {n : Int} (hnew : n ∉ order)
    (hD1 : w1.ownsMap Try.prog 3 (plainElem Try.prog 3) m (order.length + 1) (D.put (.int .i64 n) (.lit (.int .i64 (order.length : Nat))))) (hg1 : w.grownBy w1 (some m))
    (hi2 : IntsOwn w2 B (.slice (some ⟨g, 0, none⟩) (order.length + 1) gc) (order ++ [n])) (hg2 : (w1.alloc (.cells #[.int .i64 n] 3)).grownBy w2 (Value.slice ov order.length oc).ownBlock)
    (hgg : (Value.slice ov order.length oc).ownBlock = some g ∨ g = w1.heap.size + 1) :
    FP (w2.setCell ⟨O, 0, none⟩ (.slice (some ⟨g, 0, none⟩) (order.length + 1) gc)) U P O m B uv uc (some ⟨g, 0, none⟩) gc (D.put (.int .i64 n) (.lit (.int .i64 (order.length : Nat)))) out (order ++ [n]) ∧ Below B w (w2.setCell ⟨O, 0, none⟩ (.slice (some ⟨g, 0, none⟩) (order.length + 1) gc)) := by
  have hlow := h.low
  have hUlt := (Array.getElem?_eq_some_iff.1 h.u).1
  have hOlt := (Array.getElem?_eq_some_iff.1 h.o).1
  have hPlt := (Array.getElem?_eq_some_iff.1 h.p).1
  have U1 : w1.heap[U]? = _ := (hg1.block U hUlt (by simp [map_not_cells h.d h.u])).trans h.u
  have O1 : w1.heap[O]? = _ := (hg1.block O hOlt (by simp [map_not_cells h.d h.o])).trans h.o
  have P1 : w1.heap[P]? = _ := (hg1.block P hPlt (by simp [map_not_cells h.d h.p])).trans h.p
  have oi1 : IntsOwn w1 B (.slice ov order.length oc) order := h.oi.kept hg1 (map_ne_row h.d h.oi)
  have ui1 : IntsOwn w1 B (.slice uv out.length uc) out := h.ui.kept hg1 (map_ne_row h.d h.ui)
  have hs1 := hg1.size
  have hoa := World.ownsRow.alloc oi1 (.cells #[.int .i64 n] 3)
  have hua := World.ownsRow.alloc ui1 (.cells #[.int .i64 n] 3)
  have U2 : w2.heap[U]? = some (.cells #[.slice uv out.length uc] 32 (0, 0)) := owns_blk hoa hg2 ((Deep.blk_alloc_lt _ _ _ (by omega)).trans U1) (by decide)
  have O2 : w2.heap[O]? = some (.cells #[.slice ov order.length oc] 32 (0, 0)) := owns_blk hoa hg2 ((Deep.blk_alloc_lt _ _ _ (by omega)).trans O1) (by decide)
  have P2 : w2.heap[P]? = some (.cells #[.map (some m)] 59 (0, 0)) := owns_blk hoa hg2 ((Deep.blk_alloc_lt _ _ _ (by omega)).trans P1) (by decide)
  have hap : (Value.slice uv out.length uc).ownBlock = none ∨ (Value.slice uv out.length uc).ownBlock ≠ (Value.slice ov order.length oc).ownBlock := by
    cases he : (Value.slice uv out.length uc).ownBlock with
    | none => exact Or.inl rfl
    | some k => exact Or.inr (fun e => h.ap k he e.symm)
  have ui2 : IntsOwn w2 B (.slice uv out.length uc) out := hua.kept hg2 hap
  have d2 := (hD1.alloc (.cells #[.int .i64 n] 3)).kept hg2 (by
    rcases map_ne_row hD1 oi1 with hn | hn
    · rw [hn]; simp
    · exact Ne.symm hn)
  have hB1 : Below B w w1 := (Below.refl _ _).grown hg1 hlow.2.2.2.2 (fun k hk => by cases hk; exact hlow.2.2.2.1)
  have hB2 : Below B w w2 := (hB1.alloc (by omega) _).grown hg2 (by simp; omega) (fun k hk => (World.ownsRow.lt h.oi k hk).1)
  have hOP : P ≠ O := fun e => by
    have := h.p
    rw [e, h.o] at this
    simp at this
  have hlen : (order ++ [n]).length = order.length + 1 := by simp
  refine ⟨⟨(Deep.blk_setCell_other _ _ _ _ h.ne).trans U2, ownsRow_set_other ui2 (ints_ne_box ui2 O2 (by decide)) _ _, ?_, ?_, ?_, (Deep.blk_setCell_other _ _ _ _ hOP).trans P2, ?_, fun z => ?_, fun i q hi => ?_, ⟨hlow.1, hlow.2.1, hlow.2.2.1, hlow.2.2.2.1, ?_⟩, h.ne⟩, hB2.setCell hlow.2.2.1 _⟩
  · rw [setCell_blk O2 0 _, hlen]
    simp
  · rw [hlen]
    exact ownsRow_set_other hi2 (ints_ne_box hi2 O2 (by decide)) _ _
  · intro k e1 e2
    simp only [Value.ownBlock, Option.some.injEq] at e2
    subst e2
    rcases hgg with hgg | hgg
    · exact h.ap _ e1 hgg
    · have := (World.ownsRow.lt ui1 _ e1).2
      omega
  · rw [hlen]
    exact d2.setCell (Ne.symm (map_not_cells d2 O2)) _
  · by_cases hz : z = n
    · subst hz
      rw [has_put_same h.d.isMap (by simp [WideAt.IsKeyLit])]
      simp
    · rw [has_put_other (by simp [hz]), h.has z]
      simp [hz]
  · by_cases hq : q = n
    · subst hq
      rw [atKey_put_same h.d.isMap (by simp [WideAt.IsKeyLit])]
      rw [List.getElem?_append] at hi
      split at hi
      · exact absurd (List.mem_of_getElem? hi) hnew
      · have hi' := (List.getElem?_eq_some_iff.1 hi).1
        simp at hi'
        have : i = order.length := by omega
        rw [this]
    · rw [atKey_put_other (by simp [hq])]
      rw [List.getElem?_append] at hi
      split at hi
      · exact h.at_ i q hi
      · obtain ⟨h1, h2⟩ := List.getElem?_eq_some_iff.1 hi
        simp at h2
        exact absurd h2.symm hq
  · simp only [World.setCell, Array.size_modify]
    exact Nat.le_trans hlow.2.2.2.2 hB2.size

/-- Other variables stay. -/
theorem FP.tell_keep (h : FP w U P O m B uv uc ov oc D out order) (X : Obj) (hg2 : (w.alloc X).grownBy w2 (Value.slice uv out.length uc).ownBlock) {K : Nat} {c : Array Value} {t : TypeId} (hK : w.heap[K]? = some (.cells c t (0, 0))) (ht : t ≠ 3) : w2.heap[K]? = some (.cells c t (0, 0)) :=
  owns_blk (World.ownsRow.alloc h.ui X) hg2 ((Deep.blk_alloc_lt _ _ _ (Array.getElem?_eq_some_iff.1 hK).1).trans hK) ht

theorem FP.map_keep (h : FP w U P O m B uv uc ov oc D out order) (hg1 : w.grownBy w1 (some m)) {K : Nat} {c : Array Value} {t : TypeId} (hK : w.heap[K]? = some (.cells c t (0, 0))) : w1.heap[K]? = some (.cells c t (0, 0)) :=
  (hg1.block K (Array.getElem?_eq_some_iff.1 hK).1 (by simp [map_not_cells h.d hK])).trans hK

theorem FP.map_order (h : FP w U P O m B uv uc ov oc D out order) (hg1 : w.grownBy w1 (some m)) : IntsOwn w1 B (.slice ov order.length oc) order := h.oi.kept hg1 (map_ne_row h.d h.oi)

theorem FP.push_keep (h : FP w U P O m B uv uc ov oc D out order) (hg1 : w.grownBy w1 (some m)) (X : Obj) (hg2 : (w1.alloc X).grownBy w2 (Value.slice ov order.length oc).ownBlock) {K : Nat} {c : Array Value} {t : TypeId} (hK : w.heap[K]? = some (.cells c t (0, 0))) (ht : t ≠ 3) : w2.heap[K]? = some (.cells c t (0, 0)) :=
  owns_blk (World.ownsRow.alloc (h.map_order hg1) X) hg2 ((Deep.blk_alloc_lt _ _ _ (Array.getElem?_eq_some_iff.1 (h.map_keep hg1 hK)).1).trans (h.map_keep hg1 hK)) ht

end

/-- 'append(v, n)', n a number; where the new row lies is told too. -/
theorem wpList_tellInt {w : World} {base : Nat} {v : Value} {l : List Int} {ops : Array Oper} {rest : List Oper} {o : Oper} {a : Act} {Q : Exit → Act → World → Prop} (hgd : o.guard = none) (s x : Operand)
    (ho : o.op = .call { callee := .builtin .append, args := #[s, x], argTypes := #[32, 32] }) (hs : a.eval s = v) (hO : IntsOwn w base v l) (hb : base ≤ w.heap.size)
    (n : Int) (hx : a.eval x = .slice (some ⟨w.heap.size, 0, none⟩) 1 1) (hl : 8 * l.length + 8 ≤ 140737488355328)
    (h : ∀ g cap w', IntsOwn w' base (.slice (some ⟨g, 0, none⟩) (l.length + 1) cap) (l ++ [n]) → (w.alloc (.cells #[.int .i64 n] 3)).grownBy w' v.ownBlock → (v.ownBlock = some g ∨ g = w.heap.size + 1) → wpList Try.prog ops Q rest (a.put o.dst (.slice (some ⟨g, 0, none⟩) (l.length + 1) cap)) w') :
    wpList Try.prog ops Q (o :: rest) a (w.alloc (.cells #[.int .i64 n] 3)) := by
  obtain ⟨i0, hi0, hzz⟩ := Option.map_eq_some_iff.1 Try.infoN
  simp only [Prod.mk.injEq] at hzz
  obtain ⟨hz0, hz1, hz2⟩ := hzz
  refine wpList_append_lies _ hgd s x 32 ho base 3 i0 (.int .i64 0) 1 8 Try.underlying32 hi0 hz0 hz1 hz2 rfl (by decide) v l.length (l.map (Value.int .i64)) hs (World.ownsRow.alloc hO _) ⟨w.heap.size, 0, none⟩ 1 1 [.int .i64 n] hx rfl (cell_one_new _ _ _) ?_ (by decide) (by unfold maxLen; omega) (by omega) (by simp; omega) (w.heap.size + 1) (by simp) ?_
  · intro u hu
    simp at hu
    subst hu
    rfl
  · intro g cap w' h1 h2 h3 _
    refine h g cap w' ?_ h2 h3
    unfold IntsOwn
    simpa using h1

/-- 'append(v, n, m)'. -/
theorem wpList_tellInt2 {w : World} {base : Nat} {v : Value} {l : List Int} {ops : Array Oper} {rest : List Oper} {o : Oper} {a : Act} {Q : Exit → Act → World → Prop} (hgd : o.guard = none) (s x : Operand)
    (ho : o.op = .call { callee := .builtin .append, args := #[s, x], argTypes := #[32, 32] }) (hs : a.eval s = v) (hO : IntsOwn w base v l) (hb : base ≤ w.heap.size)
    (n m : Int) (hx : a.eval x = .slice (some ⟨w.heap.size, 0, none⟩) 2 2) (hl : 8 * l.length + 16 ≤ 140737488355328)
    (h : ∀ g cap w', IntsOwn w' base (.slice (some ⟨g, 0, none⟩) (l.length + 2) cap) (l ++ [n, m]) → (w.alloc (.cells #[.int .i64 n, .int .i64 m] 3)).grownBy w' v.ownBlock → (v.ownBlock = some g ∨ g = w.heap.size + 1) → wpList Try.prog ops Q rest (a.put o.dst (.slice (some ⟨g, 0, none⟩) (l.length + 2) cap)) w') :
    wpList Try.prog ops Q (o :: rest) a (w.alloc (.cells #[.int .i64 n, .int .i64 m] 3)) := by
  obtain ⟨i0, hi0, hzz⟩ := Option.map_eq_some_iff.1 Try.infoN
  simp only [Prod.mk.injEq] at hzz
  obtain ⟨hz0, hz1, hz2⟩ := hzz
  refine wpList_append_lies _ hgd s x 32 ho base 3 i0 (.int .i64 0) 1 8 Try.underlying32 hi0 hz0 hz1 hz2 rfl (by decide) v l.length (l.map (Value.int .i64)) hs (World.ownsRow.alloc hO _) ⟨w.heap.size, 0, none⟩ 2 2 [.int .i64 n, .int .i64 m] hx rfl (cells2_new _ _ _ _ _ rfl) ?_ (by decide) (by unfold maxLen; omega) (by omega) (by simp; omega) (w.heap.size + 1) (by simp) ?_
  · intro u hu
    simp at hu
    rcases hu with rfl | rfl <;> rfl
  · intro g cap w' h1 h2 h3 _
    refine h g cap w' ?_ h2 h3
    unfold IntsOwn
    simpa using h1

end Go.Proofs.Ytbifdcchdoflpad
