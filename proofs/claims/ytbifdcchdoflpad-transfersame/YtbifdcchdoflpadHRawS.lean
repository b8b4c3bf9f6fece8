/- While Alloc or Set is called for new variables, in whatever order: where things lie. -/
import Derived.Test.YtbifdcchdoflpadHGoodP
import Derived.Test.YtbifdcchdoflpadHHeld
namespace Go.Proofs.Ytbifdcchdoflpad
open Go.RowKit

/-- G, V: the new variables, if they are made; x: the new heap, if the call has come back; l: its objects. -/
structure RS (W wc : World) (G V : Option Nat) (x : Option (Option Addr × Nat × List (Value × Ob))) (l : List Ob) : Prop where
  below : Below W.heap.size W wc
  g : ∀ k, G = some k → W.heap.size ≤ k ∧ wc.heap[k]? = some (.cells #[.int .i64 0, .slice none 0 0] 25 (0, 0))
  v : ∀ k, V = some k → W.heap.size ≤ k ∧ wc.heap[k]? = some (.cells #[.int .i64 0, .int .i64 0] 30 (0, 0))
  res : ∀ y, x = some y → HeapOwn wc W.heap.size (.slice y.1 l.length y.2.1) y.2.2 ∧ y.2.2.map (·.2) = l ∧ ∀ k, V = some k → ∀ (i : Nat) p, y.2.2[i]? = some p → p.1.ownBlock ≠ some k

theorem RS.start (W : World) (l : List Ob) : RS W W.drew none none none l := ⟨(Below.refl _ _).drew, (fun _ h => by cases h), (fun _ h => by cases h), (fun _ h => by cases h)⟩

theorem RS.allocG {W wc : World} {V : Option Nat} {x : Option (Option Addr × Nat × List (Value × Ob))} {l : List Ob} (h : RS W wc none V x l) : RS W (wc.alloc (Obj.cells #[.int .i64 0, .slice none 0 0] 25)) (some wc.heap.size) V x l :=
  ⟨h.below.alloc h.below.size _, fun k hk => by cases hk; exact ⟨h.below.size, Deep.blk_alloc_new _ _⟩, fun k hk => ⟨(h.v k hk).1, (Deep.blk_alloc_lt _ _ _ (Array.getElem?_eq_some_iff.1 (h.v k hk).2).1).trans (h.v k hk).2⟩, fun y hy => ⟨(h.res y hy).1.alloc _, (h.res y hy).2⟩⟩

theorem RS.allocV {W wc : World} {G : Option Nat} {x : Option (Option Addr × Nat × List (Value × Ob))} {l : List Ob} (h : RS W wc G none x l) : RS W (wc.alloc (Obj.cells #[.int .i64 0, .int .i64 0] 30)) G (some wc.heap.size) x l :=
  ⟨h.below.alloc h.below.size _, fun k hk => ⟨(h.g k hk).1, (Deep.blk_alloc_lt _ _ _ (Array.getElem?_eq_some_iff.1 (h.g k hk).2).1).trans (h.g k hk).2⟩, fun k hk => by cases hk; exact ⟨h.below.size, Deep.blk_alloc_new _ _⟩,
    fun y hy => ⟨(h.res y hy).1.alloc _, (h.res y hy).2.1, fun k hk i p hp e => by
      cases hk
      have := (World.ownsRow.lt ((h.res y hy).1.row i p hp).1 _ e).2
      omega⟩⟩

theorem RS.call {W wc wn : World} {G V : Option Nat} {l : List Ob} (h : RS W wc G V none l) {va : Option Addr} {vc : Nat} {rows : List (Value × Ob)} (hb : Below wc.heap.size wc wn) (hO : HeapOwn wn wc.heap.size (.slice va l.length vc) rows) (hr : rows.map (·.2) = l) : RS W wn G V (some (va, vc, rows)) l :=
  ⟨h.below.trans (hb.mono h.below.size), fun k hk => ⟨(h.g k hk).1, (hb.block _ (Array.getElem?_eq_some_iff.1 (h.g k hk).2).1).trans (h.g k hk).2⟩, fun k hk => ⟨(h.v k hk).1, (hb.block _ (Array.getElem?_eq_some_iff.1 (h.v k hk).2).1).trans (h.v k hk).2⟩,
    fun y hy => by
      cases hy
      refine ⟨hO.le h.below.size, hr, fun k hk i p hp e => ?_⟩
      have h1 := (World.ownsRow.lt (hO.row i p hp).1 _ e).1
      have h2 := (Array.getElem?_eq_some_iff.1 (h.v k hk).2).1
      omega⟩

theorem RS.cells {W wc : World} {G V : Nat} {x : Option (Option Addr × Nat × List (Value × Ob))} {l : List Ob} (h : RS W wc (some G) (some V) x l) : (∀ j, wc.frozen? ⟨G, j, none⟩ = false) ∧ (∀ j, wc.frozen? ⟨V, j, none⟩ = false) ∧ wc.cell? ⟨G, 0, none⟩ = some (.int .i64 0) ∧ wc.cell? ⟨G, 1, none⟩ = some (.slice none 0 0) ∧ wc.cell? ⟨V, 0, none⟩ = some (.int .i64 0) ∧ wc.cell? ⟨V, 1, none⟩ = some (.int .i64 0) ∧ G ≠ V ∧ V ≠ G := by
  have hGV : G ≠ V := fun e => by
    have := (h.g G rfl).2
    rw [e, (h.v V rfl).2] at this
    simp at this
  exact ⟨fun j => by simp [World.frozen?, (h.g G rfl).2], fun j => by simp [World.frozen?, (h.v V rfl).2], by simp [World.cell?, (h.g G rfl).2], by simp [World.cell?, (h.g G rfl).2], by simp [World.cell?, (h.v V rfl).2], by simp [World.cell?, (h.v V rfl).2], hGV, Ne.symm hGV⟩

theorem RS.cellsG {W wc : World} {G : Nat} {V : Option Nat} {x : Option (Option Addr × Nat × List (Value × Ob))} {l : List Ob} (h : RS W wc (some G) V x l) : (∀ j, wc.frozen? ⟨G, j, none⟩ = false) ∧ wc.cell? ⟨G, 0, none⟩ = some (.int .i64 0) ∧ wc.cell? ⟨G, 1, none⟩ = some (.slice none 0 0) :=
  ⟨fun j => by simp [World.frozen?, (h.g G rfl).2], by simp [World.cell?, (h.g G rfl).2], by simp [World.cell?, (h.g G rfl).2]⟩

theorem RS.storeG {W wc : World} {G : Nat} {V : Option Nat} {x : Option (Option Addr × Nat × List (Value × Ob))} {l : List Ob} (h : RS W wc (some G) V x l) (u v : Value) : Below W.heap.size W ((wc.setCell ⟨G, 0, none⟩ u).setCell ⟨G, 1, none⟩ v) :=
  (h.below.setCell (h.g G rfl).1 _).setCell (h.g G rfl).1 _

theorem HeapOwn.setBox {w : World} {base : Nat} {v : Value} {rows : List (Value × Ob)} (h : HeapOwn w base v rows) {k : Nat} {c : Array Value} {t : TypeId} (hk : w.heap[k]? = some (.cells c t (0, 0))) (ht : t ≠ 41) (hap : ∀ (i : Nat) p, rows[i]? = some p → p.1.ownBlock ≠ some k) (j : Nat) (u : Value) : HeapOwn (w.setCell ⟨k, j, none⟩ u) base v rows := by
  refine ⟨ownsRow_set_other h.top ?_ _ _, fun i p hp => ⟨ownsRow_set_other (h.row i p hp).1 (Or.inr (hap i p hp)) _ _, (h.row i p hp).2⟩, h.apart, h.many⟩
  rcases h.top.2 with ⟨rfl, _⟩ | ⟨g, cap, cur, rfl, _, hg, _⟩
  · exact Or.inl rfl
  · refine Or.inr (fun e => ?_)
    simp only [Value.ownBlock, Option.some.injEq] at e
    subst e
    rw [hk] at hg
    simp only [Option.some.injEq, Obj.cells.injEq] at hg
    exact ht hg.2.1

/-- What is there in the end. -/
structure RF (W wx : World) (G : Nat) (M : Int) (va : Option Addr) (vc : Nat) (l : List Ob) : Prop where
  below : Below W.heap.size W wx
  pos : W.heap.size ≤ G
  g : wx.heap[G]? = some (.cells #[.int .i64 M, .slice va l.length vc] 25 (0, 0))
  own : ∃ rows, HeapOwn wx W.heap.size (.slice va l.length vc) rows ∧ rows.map (·.2) = l

theorem RS.heapOnly {W wc : World} {G : Nat} {va : Option Addr} {vc : Nat} {rows : List (Value × Ob)} {l : List Ob} (h : RS W wc (some G) none (some (va, vc, rows)) l) (M : Int) :
    RF W ((wc.setCell ⟨G, 0, none⟩ (.int .i64 M)).setCell ⟨G, 1, none⟩ (.slice va l.length vc)) G M va vc l := by
  obtain ⟨hG1, hG2⟩ := h.g G rfl
  obtain ⟨hO, hr, _⟩ := h.res _ rfl
  have hap : ∀ (i : Nat) p, rows[i]? = some p → p.1.ownBlock ≠ some G := fun i p hp e => by
    have hrow := (hO.row i p hp).1
    rcases hrow.2 with ⟨e1, _⟩ | ⟨g, cap, cur, e1, _, hg, _⟩
    · rw [e1] at e; simp [Value.ownBlock] at e
    · rw [e1] at e
      simp only [Value.ownBlock, Option.some.injEq] at e
      subst e
      rw [hG2] at hg
      simp only [Option.some.injEq, Obj.cells.injEq] at hg
      exact absurd hg.2.1 (by decide)
  refine ⟨(h.below.setCell (by show W.heap.size ≤ G; omega) _).setCell (by show W.heap.size ≤ G; omega) _, hG1, ?_, rows, ?_, hr⟩
  · rw [setCell_blk (setCell_blk hG2 0 _) 1 _]
    simp
  · exact (hO.setBox hG2 (by decide) hap _ _).setBox (setCell_blk hG2 0 _) (by decide) hap _ _

theorem RS.both {W wc : World} {G V : Nat} {va : Option Addr} {vc : Nat} {rows : List (Value × Ob)} {l : List Ob} (h : RS W wc (some G) (some V) (some (va, vc, rows)) l) (M k n : Int) :
    RF W ((((wc.setCell ⟨G, 0, none⟩ (.int .i64 M)).setCell ⟨G, 1, none⟩ (.slice va l.length vc)).setCell ⟨V, 0, none⟩ (.int .i64 k)).setCell ⟨V, 1, none⟩ (.int .i64 n)) G M va vc l ∧ W.heap.size ≤ V ∧
      ((((wc.setCell ⟨G, 0, none⟩ (.int .i64 M)).setCell ⟨G, 1, none⟩ (.slice va l.length vc)).setCell ⟨V, 0, none⟩ (.int .i64 k)).setCell ⟨V, 1, none⟩ (.int .i64 n)).heap[V]? = some (.cells #[.int .i64 k, .int .i64 n] 30 (0, 0)) := by
  obtain ⟨hV1, hV2⟩ := h.v V rfl
  obtain ⟨hO, hr, hap⟩ := h.res _ rfl
  have hGV : G ≠ V := fun e => by
    have := (h.g G rfl).2
    rw [e, hV2] at this
    simp at this
  have h0 : RS W wc (some G) none (some (va, vc, rows)) l := ⟨h.below, h.g, (fun _ hk => by cases hk), (fun y hy => ⟨(h.res y hy).1, (h.res y hy).2.1, (fun _ hk => by cases hk)⟩)⟩
  have hF := h0.heapOnly M
  obtain ⟨rows', hO', hr'⟩ := hF.own
  have hOx : HeapOwn ((wc.setCell ⟨G, 0, none⟩ (.int .i64 M)).setCell ⟨G, 1, none⟩ (.slice va l.length vc)) W.heap.size (.slice va l.length vc) rows := by
    have hapG : ∀ (i : Nat) p, rows[i]? = some p → p.1.ownBlock ≠ some G := fun i p hp e => by
      have hrow := (hO.row i p hp).1
      have hG2 := (h.g G rfl).2
      rcases hrow.2 with ⟨e1, _⟩ | ⟨g, cap, cur, e1, _, hg, _⟩
      · rw [e1] at e; simp [Value.ownBlock] at e
      · rw [e1] at e
        simp only [Value.ownBlock, Option.some.injEq] at e
        subst e
        rw [hG2] at hg
        simp only [Option.some.injEq, Obj.cells.injEq] at hg
        exact absurd hg.2.1 (by decide)
    exact (hO.setBox (h.g G rfl).2 (by decide) hapG _ _).setBox (setCell_blk (h.g G rfl).2 0 _) (by decide) hapG _ _
  have hVx : ((wc.setCell ⟨G, 0, none⟩ (.int .i64 M)).setCell ⟨G, 1, none⟩ (.slice va l.length vc)).heap[V]? = some (.cells #[.int .i64 0, .int .i64 0] 30 (0, 0)) := by
    rw [Deep.blk_setCell_other _ _ _ _ (Ne.symm hGV), Deep.blk_setCell_other _ _ _ _ (Ne.symm hGV), hV2]
  refine ⟨⟨(hF.below.setCell (by show W.heap.size ≤ V; omega) _).setCell (by show W.heap.size ≤ V; omega) _, hF.pos, ?_, rows, ?_, hr⟩, hV1, ?_⟩
  · rw [Deep.blk_setCell_other _ _ _ _ hGV, Deep.blk_setCell_other _ _ _ _ hGV]
    exact hF.g
  · exact (hOx.setBox hVx (by decide) (hap V rfl) _ _).setBox (setCell_blk hVx 0 _) (by decide) (hap V rfl) _ _
  · rw [setCell_blk (setCell_blk hVx 0 _) 1 _]
    simp

end Go.Proofs.Ytbifdcchdoflpad
