/- In the middle of TransferOf: both heaps, and the object that is being made. -/
import Derived.Test.YtbifdcchdoflpacHTrOf
namespace Go.Proofs.Ytbifdcchdoflpac
open Go.RowKit Go.Maps

/-- 'append(v, x)', x an object; where the new row lies is told too. -/
theorem wpList_pushOb2 {w : World} {base : Nat} {v : Value} {rows : List (Value × Ob)} {ops : Array Oper} {rest : List Oper} {o : Oper} {a : Act} {Q : Exit → Act → World → Prop} (hgd : o.guard = none) (s x : Operand)
    (ho : o.op = .call { callee := .builtin .append, args := #[s, x], argTypes := #[22, 22] }) (hs : a.eval s = v) (hO : HeapOwn w base v rows) (hb : base ≤ w.heap.size)
    (nv : Value) (ob : Ob) (h1 : nv.oneCell' = true) (hv : ValsOwn w base nv ob.fs) (hl : 16 * ob.fs.length ≤ 140737488351232) (hap : ∀ (j : Nat) q, rows[j]? = some q → nv.ownBlock = none ∨ nv.ownBlock ≠ q.1.ownBlock) (hm : 32 * rows.length + 32 ≤ 140737488351232)
    (hx : a.eval x = .slice (some ⟨w.heap.size, 0, none⟩) 1 1)
    (h : ∀ g cap w', HeapOwn w' base (.slice (some ⟨g, 0, none⟩) (rows.length + 1) cap) (rows ++ [(nv, ob)]) → (w.alloc (.cells #[nv, .bool ob.dead] 49)).grownBy w' v.ownBlock → (v.ownBlock = some g ∨ g = w.heap.size + 1) → wpList Try.prog ops Q rest (a.put o.dst (.slice (some ⟨g, 0, none⟩) (rows.length + 1) cap)) w') :
    wpList Try.prog ops Q (o :: rest) a (w.alloc (.cells #[nv, .bool ob.dead] 49)) := by
  obtain ⟨i0, hi0, hzz⟩ := Option.map_eq_some_iff.1 Try.infoO
  simp only [Prod.mk.injEq] at hzz
  obtain ⟨hz0, hz1, hz2⟩ := hzz
  refine wpList_append_lies _ hgd s x 22 ho base 49 i0 (.agg #[.slice none 0 0, .bool false]) 2 32 Try.underlying22 hi0 hz0 hz1 hz2 rfl (by decide) v rows.length (obCells rows) hs (hO.alloc _).top ⟨w.heap.size, 0, none⟩ 1 1 [nv, .bool ob.dead] hx rfl (cells2_new _ _ _ _ _ rfl) ?_ (by decide) (by unfold maxLen; omega) (by omega) (by simp; omega) (w.heap.size + 1) (by simp) ?_
  · intro u hu
    simp at hu
    rcases hu with rfl | rfl
    · exact h1
    · rfl
  · intro g cap w' hown hg hgg _
    exact h g cap w' ((hO.alloc _).push nv ob (World.ownsRow.alloc hv _) hl hap hm hown hg) hg hgg

/-- Both heaps, in variables of their own. -/
structure TP (w0 wr : World) (AB BB : Nat) (M M' : Int) (aa : Option Addr) (ac : Nat) (rowsA : List (Value × Ob)) (ba : Option Addr) (bc : Nat) (rowsB : List (Value × Ob)) : Prop where
  below : Below w0.heap.size w0 wr
  low : w0.heap.size ≤ AB ∧ AB < BB ∧ BB < wr.heap.size
  a : wr.heap[AB]? = some (.cells #[.int .i64 M, .slice aa rowsA.length ac] 24 (0, 0))
  oa : HeapOwn wr w0.heap.size (.slice aa rowsA.length ac) rowsA
  b : wr.heap[BB]? = some (.cells #[.int .i64 M', .slice ba rowsB.length bc] 24 (0, 0))
  ob : HeapOwn wr w0.heap.size (.slice ba rowsB.length bc) rowsB
  ap : ∀ g, (Value.slice aa rowsA.length ac).ownBlock = some g → (Value.slice ba rowsB.length bc).ownBlock = some g → False

section
variable {w0 wr w1 w2 : World} {AB BB : Nat} {M M' : Int} {aa : Option Addr} {ac : Nat} {rowsA : List (Value × Ob)} {ba : Option Addr} {bc : Nat} {rowsB : List (Value × Ob)}

theorem TP.keep (h : TP w0 wr AB BB M M' aa ac rowsA ba bc rowsB) (hb : Below wr.heap.size wr w1) : TP w0 w1 AB BB M M' aa ac rowsA ba bc rowsB :=
  ⟨h.below.trans (hb.mono h.below.size), ⟨h.low.1, h.low.2.1, Nat.lt_of_lt_of_le h.low.2.2 hb.size⟩, (hb.block _ (by have := h.low; omega)).trans h.a, h.oa.below hb, (hb.block _ h.low.2.2).trans h.b, h.ob.below hb, h.ap⟩

/-- An object goes behind those of the other heap. -/
theorem TP.push (h : TP w0 wr AB BB M M' aa ac rowsA ba bc rowsB) {T : Obj} {g gc : Nat} {nv : Value} {o : Ob} (hO2 : HeapOwn w2 w0.heap.size (.slice (some ⟨g, 0, none⟩) (rowsB.length + 1) gc) (rowsB ++ [(nv, o)]))
    (hg : (wr.alloc T).grownBy w2 (Value.slice ba rowsB.length bc).ownBlock) (hgg : (Value.slice ba rowsB.length bc).ownBlock = some g ∨ g = wr.heap.size + 1) :
    TP w0 (w2.setCell ⟨BB, 1, none⟩ (.slice (some ⟨g, 0, none⟩) (rowsB.length + 1) gc)) AB BB M M' aa ac rowsA (some ⟨g, 0, none⟩) gc (rowsB ++ [(nv, o)]) := by
  have hlow := h.low
  have hlen : (rowsB ++ [(nv, o)]).length = rowsB.length + 1 := by simp
  have hbT := h.ob.alloc T
  have a2 : w2.heap[AB]? = some (.cells #[.int .i64 M, .slice aa rowsA.length ac] 24 (0, 0)) := owns_blk hbT.top hg ((Deep.blk_alloc_lt _ _ _ (by omega)).trans h.a) (by decide)
  have b2 : w2.heap[BB]? = some (.cells #[.int .i64 M', .slice ba rowsB.length bc] 24 (0, 0)) := owns_blk hbT.top hg ((Deep.blk_alloc_lt _ _ _ (by omega)).trans h.b) (by decide)
  have hsz := hg.size
  simp at hsz
  have oa2 : HeapOwn w2 w0.heap.size (.slice aa rowsA.length ac) rowsA := by
    have h1 := h.oa.alloc T
    refine ⟨h1.top.kept hg ?_, fun i p hp => ⟨(h1.row i p hp).1.kept hg (owns_other (h1.row i p hp).1 hbT.top tne), (h1.row i p hp).2⟩, h1.apart, h1.many⟩
    cases he : (Value.slice aa rowsA.length ac).ownBlock with
    | none => exact Or.inl rfl
    | some k => exact Or.inr (fun e => h.ap k he e.symm)
  have bel2 : Below w0.heap.size w0 w2 := (h.below.alloc h.below.size T).grown hg (by have := h.below.size; simp; omega) (fun j hj => (World.ownsRow.lt h.ob.top j hj).1)
  refine ⟨bel2.setCell (by show w0.heap.size ≤ BB; omega) _, ⟨hlow.1, hlow.2.1, by simp [World.setCell]; omega⟩, (Deep.blk_setCell_other _ _ _ _ (by show AB ≠ BB; omega)).trans a2, ownSet49 oa2 b2 (by decide) _ _, ?_, ?_, ?_⟩
  · rw [setCell_blk b2 1 _, hlen]
    simp
  · rw [hlen]
    exact ownSet49 hO2 b2 (by decide) _ _
  · intro k e1 e2
    simp only [Value.ownBlock, Option.some.injEq] at e2
    subst e2
    rcases hgg with hgg | hgg
    · exact h.ap _ e1 hgg
    · have := (World.ownsRow.lt h.oa.top _ e1).2
      omega

/-- An object of the first heap dies. -/
theorem TP.dead {ga : Nat} (h : TP w0 wr AB BB M M' (some ⟨ga, 0, none⟩) ac rowsA ba bc rowsB) {p : Nat} (hp : p < rowsA.length) :
    TP w0 ((wr.setCell ⟨ga, p * 2, none⟩ (.slice none 0 0)).setCell ⟨ga, p * 2 + 1, none⟩ (.bool true)) AB BB M M' (some ⟨ga, 0, none⟩) ac (rowsA.set p (.slice none 0 0, ⟨[], true⟩)) ba bc rowsB := by
  have hlow := h.low
  obtain ⟨c, hgo⟩ := h.oa.blk
  have hG := grownBy_trans (grownBy_set wr ga (p * 2) (.slice none 0 0)) (grownBy_set _ ga (p * 2 + 1) (.bool true))
  have hgb := (World.ownsRow.lt h.oa.top ga rfl).1
  have hAg : AB ≠ ga := fun e => by rw [← e, h.a] at hgo; simp at hgo
  have hBg : BB ≠ ga := fun e => by rw [← e, h.b] at hgo; simp at hgo
  have hoa := h.oa.store hp (.slice none 0 0) ⟨[], true⟩ (World.ownsRow_nil _ _ _ _) (by simp) (fun j q _ _ => Or.inl rfl)
  have hlen : (rowsA.set p (Value.slice none 0 0, (⟨[], true⟩ : Ob))).length = rowsA.length := by simp
  refine ⟨(h.below.setCell hgb _).setCell hgb _, ⟨hlow.1, hlow.2.1, by simp [World.setCell]; omega⟩, ?_, ?_, (hG.block BB hlow.2.2 (fun e => hBg (by simpa using e))).trans h.b, h.ob.other hG (fun e => h.ap ga rfl e) hgo, fun k e1 e2 => h.ap k (by simpa [Value.ownBlock] using e1) e2⟩
  · rw [hlen]
    exact (hG.block AB (by omega) (fun e => hAg (by simpa using e))).trans h.a
  · rw [hlen]
    exact hoa

end

/-- The object that is being made: its variable, its fields so far. -/
structure OM (w1 wq : World) (X : Nat) (vs : List Vl) : Prop where
  below : Below w1.heap.size w1 wq
  own : ∃ fa fc, wq.heap[X]? = some (.cells #[.slice fa vs.length fc, .bool false] 49 (0, 0)) ∧ ValsOwn wq (X + 1) (.slice fa vs.length fc) vs
  low : X = w1.heap.size ∧ X + 1 ≤ wq.heap.size

theorem om_start (w1 : World) : OM w1 (w1.alloc (Obj.cells #[.slice none 0 0, .bool false] 49)) w1.heap.size [] :=
  ⟨below_box _ _, ⟨none, 0, Deep.blk_alloc_new _ _, World.ownsRow_nil _ _ _ _⟩, rfl, by simp⟩

theorem OM.keep {w1 wq wz : World} {X : Nat} {vs : List Vl} (h : OM w1 wq X vs) (hb : Below wq.heap.size wq wz) : OM w1 wz X vs := by
  obtain ⟨fa, fc, hX, hv⟩ := h.own
  exact ⟨h.below.trans (hb.mono h.below.size), ⟨fa, fc, (hb.block X (by have := h.low; omega)).trans hX, ownsRow_below hv hb⟩, h.low.1, Nat.le_trans h.low.2 hb.size⟩

/-- Both heaps, i objects gone through. -/
def TMid (w0 wr : World) (AB BB : Nat) (M M' : Int) (obsA obsB : List Ob) : Prop := ∃ aa ac rowsA ba bc rowsB, TP w0 wr AB BB M M' aa ac rowsA ba bc rowsB ∧ rowsA.map (·.2) = obsA ∧ rowsB.map (·.2) = obsB

theorem mvObs_snoc (l : List Ob) (order : List Int) (b : Int) (ps : List Int) (p : Int) : mvObs l order b (ps ++ [p]) = mvObs l order b ps ++ [mvO order b (obAt l p)] := by simp [mvObs]

theorem OM.next {w1 wq wz w2 : World} {X g gc : Nat} {vs : List Vl} {x : Vl} {fa : Option Addr} {fc : Nat} (h : OM w1 wq X vs) (hX : wq.heap[X]? = some (.cells #[.slice fa vs.length fc, .bool false] 49 (0, 0)))
    (hz : Below wq.heap.size wq wz) (hO : ValsOwn w2 (X + 1) (.slice (some ⟨g, 0, none⟩) (vs.length + 1) gc) (vs ++ [x])) (hb2 : Below (X + 1) wz w2) :
    OM w1 (w2.setCell ⟨X, 0, none⟩ (.slice (some ⟨g, 0, none⟩) (vs.length + 1) gc)) X (vs ++ [x]) := by
  have hlow := h.low
  have hs := hb2.size
  have hs1 := hz.size
  have hlen : (vs ++ [x]).length = vs.length + 1 := by simp
  have X2 := (hb2.block X (by omega)).trans ((hz.block X (by omega)).trans hX)
  refine ⟨((h.below.trans (hz.mono h.below.size)).trans (hb2.mono (by omega))).setCell (by show w1.heap.size ≤ X; omega) _, ⟨some ⟨g, 0, none⟩, gc, ?_, ?_⟩, hlow.1, by simp [World.setCell]; omega⟩
  · rw [setCell_blk X2 0 _, hlen]
    simp
  · rw [hlen]
    exact ownsRow_setCell_below hO (by show X < X + 1; omega) _

end Go.Proofs.Ytbifdcchdoflpac
