/- Objects behind objects: append(dst, src...) at a step of a region that draws; what other writes leave of a heap. -/
import Derived.Test.YtbifdcchdoflpadHLaws2
namespace Go.Proofs.Ytbifdcchdoflpad
open Go.RowKit

theorem obCells_one {w : World} {base : Nat} {v : Value} {rows : List (Value × Ob)} (h : HeapOwn w base v rows) : ∀ u ∈ obCells rows, u.oneCell' = true := by
  refine pairs_one (fun p hp => ?_)
  obtain ⟨q, hq, rfl⟩ := List.mem_map.1 hp
  obtain ⟨i, hi⟩ := List.getElem?_of_mem hq
  obtain ⟨fa, fc, hf⟩ := (h.row i q hi).1.form
  refine ⟨?_, rfl⟩
  show q.1.oneCell' = true
  rw [hf]
  rfl

theorem obCells_append (a b : List (Value × Ob)) : obCells (a ++ b) = obCells a ++ obCells b := by simp [obCells, pairs_append]

/-- A heap's rows behind another's. -/
theorem HeapOwn.cat {w w' : World} {base base2 : Nat} {v v2 nv : Value} {rows rows2 : List (Value × Ob)} (h : HeapOwn w base v rows) (h2 : HeapOwn w base2 v2 rows2) (hb : base ≤ base2)
    (hap : ∀ (i j : Nat) p q, rows[i]? = some p → rows2[j]? = some q → p.1.ownBlock = none ∨ p.1.ownBlock ≠ q.1.ownBlock) (hm : 32 * (rows.length + rows2.length) ≤ 140737488351232)
    (htop : w'.ownsRow base 41 2 nv (rows.length + rows2.length) (obCells rows ++ obCells rows2)) (hg : w.grownBy w' v.ownBlock) : HeapOwn w' base nv (rows ++ rows2) := by
  have part : ∀ (j : Nat) p, (rows ++ rows2)[j]? = some p → (rows[j]? = some p ∧ j < rows.length) ∨ (rows2[j - rows.length]? = some p ∧ rows.length ≤ j) := fun j p hp => by
    rw [List.getElem?_append] at hp
    split at hp
    · rename_i hlt; exact Or.inl ⟨hp, hlt⟩
    · rename_i hlt; exact Or.inr ⟨hp, by omega⟩
  refine ⟨?_, fun j p hp => ?_, fun j k p q hp hq hjk => ?_, by rw [List.length_append]; omega⟩
  · rw [obCells_append, List.length_append]
    exact htop
  · rcases part j p hp with ⟨hp, _⟩ | ⟨hp, _⟩
    · exact ⟨(h.row j p hp).1.kept hg (owns_other (h.row j p hp).1 h.top tne), (h.row j p hp).2⟩
    · exact ⟨ownsRow_le ((h2.row _ p hp).1.kept hg (owns_other (h2.row _ p hp).1 h.top tne)) hb, (h2.row _ p hp).2⟩
  · rcases part j p hp with ⟨hp, hj⟩ | ⟨hp, hj⟩
    · rcases part k q hq with ⟨hq, hk⟩ | ⟨hq, hk⟩
      · exact h.apart j k p q hp hq hjk
      · exact hap _ _ p q hp hq
    · rcases part k q hq with ⟨hq, hk⟩ | ⟨hq, hk⟩
      · rcases hap _ _ q p hq hp with hn | hn
        · by_cases hpn : p.1.ownBlock = none
          · exact Or.inl hpn
          · exact Or.inr (fun e => hpn (by rw [e]; exact hn))
        · exact Or.inr (fun e => hn e.symm)
      · exact h2.apart _ _ p q hp hq (by omega)

/-- 'append(v, x...)', x objects. -/
theorem step_catObs {w : World} {base base2 : Nat} {v : Value} {rows rows2 : List (Value × Ob)} {ops : Array Oper} {o : Oper} {a : Act} {K : Act → World → Prop} {Q : Exit → Act → World → Prop} {E : Prop} (hgd : o.guard = none) (s x : Operand)
    (ho : o.op = .call { callee := .builtin .append, args := #[s, x], argTypes := #[23, 23] }) (hs : a.eval s = v) (h : HeapOwn w base v rows) (hbw : base ≤ w.heap.size)
    (g2 n2 c2 : Nat) (hn2 : n2 = rows2.length) (h2 : HeapOwn w base2 (.slice (some ⟨g2, 0, none⟩) n2 c2) rows2) (hb : base ≤ base2) (hx : a.eval x = .slice (some ⟨g2, 0, none⟩) n2 c2)
    (hap : ∀ (i j : Nat) p q, rows[i]? = some p → rows2[j]? = some q → p.1.ownBlock = none ∨ p.1.ownBlock ≠ q.1.ownBlock) (hm : 32 * (rows.length + rows2.length) ≤ 140737488351232)
    (hK : ∀ va cap w', HeapOwn w' base (.slice va (rows.length + n2) cap) (rows ++ rows2) → w.grownBy w' v.ownBlock → ((Value.slice va (rows.length + n2) cap).ownBlock = v.ownBlock ∨ ∃ g, (Value.slice va (rows.length + n2) cap).ownBlock = some g ∧ w.heap.size ≤ g) → K (a.put o.dst (.slice va (rows.length + n2) cap)) w') :
    if Region.wanted o (yielded ops a.tmps) = true then Oper.wp Try.prog o a w K Q else E := by
  subst hn2
  obtain ⟨i0, hi0, hzz⟩ := Option.map_eq_some_iff.1 Try.infoO
  simp only [Prod.mk.injEq] at hzz
  obtain ⟨hz0, hz1, hz2⟩ := hzz
  by_cases hpos : 0 < rows2.length
  · have hsrc : ∀ j u, (obCells rows2)[j]? = some u → w.cell? ((⟨g2, 0, none⟩ : Addr).add j) = some u := fun j u hu => h2.top.cells rfl j u hu
    refine step_append_lies _ hgd s x 23 ho base 41 i0 (.agg #[.slice none 0 0, .bool false]) 2 32 Try.underlying23 hi0 hz0 hz1 hz2 rfl (by decide) v rows.length (obCells rows) hs h.top ⟨g2, 0, none⟩ rows2.length c2 (obCells rows2) hx (obCells_length _) hsrc (obCells_one h2) hpos (by unfold maxLen; omega) (by omega) hbw w.heap.size rfl ?_
    intro g cap w' h1 hg h3 _
    refine hK _ _ _ (HeapOwn.cat h h2 hb hap hm h1 hg) hg ?_
    rcases h3 with h3 | h3
    · exact Or.inl h3.symm
    · exact Or.inr ⟨g, rfl, by omega⟩
  · have he : rows2 = [] := List.eq_nil_of_length_eq_zero (by omega)
    subst he
    obtain ⟨va, vc, rfl⟩ := h.form
    refine step_append_zero hgd s x ho Try.underlying23 hi0 hs h.top _ c2 hx (hK va vc w ?_ ⟨rfl, rfl, rfl, Nat.le_refl _, fun _ _ _ => rfl⟩ (Or.inl rfl))
    rw [List.append_nil]
    exact h

/-- What is written in one block of objects leaves the other heaps. -/
theorem HeapOwn.other {w w' : World} {base g : Nat} {v : Value} {rows : List (Value × Ob)} (h : HeapOwn w base v rows) (hg : w.grownBy w' (some g)) (hv : v.ownBlock ≠ some g) {c : Array Value} (hgo : w.heap[g]? = some (.cells c 41 (0, 0))) : HeapOwn w' base v rows :=
  ⟨h.top.kept hg (Or.inr hv), fun i p hp => ⟨(h.row i p hp).1.kept hg (by
    rcases (h.row i p hp).1.2 with ⟨e, _⟩ | ⟨g', cap, cur, e, _, hgg, _⟩
    · rw [e]; exact Or.inl rfl
    · rw [e]
      refine Or.inr (fun e1 => ?_)
      simp only [Value.ownBlock, Option.some.injEq] at e1
      subst e1
      rw [hgo] at hgg
      simp only [Option.some.injEq, Obj.cells.injEq] at hgg
      exact tne hgg.2.1.symm), (h.row i p hp).2⟩, h.apart, h.many⟩

theorem HeapOwn.blk {w : World} {base g n cap : Nat} {rows : List (Value × Ob)} (h : HeapOwn w base (.slice (some ⟨g, 0, none⟩) n cap) rows) : ∃ c, w.heap[g]? = some (.cells c 41 (0, 0)) := by
  rcases h.top.2 with ⟨e, _⟩ | ⟨g', cap', cur, e, _, hg, _⟩
  · simp at e
  · simp only [Value.slice.injEq, Option.some.injEq, Addr.mk.injEq, and_true] at e
    obtain ⟨rfl, _, _⟩ := e
    exact ⟨cur, hg⟩

end Go.Proofs.Ytbifdcchdoflpad
