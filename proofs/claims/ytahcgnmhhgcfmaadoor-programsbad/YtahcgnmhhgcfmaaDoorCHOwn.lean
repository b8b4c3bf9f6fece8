/- Heaps in memory of the call's own: rows of pairs of cells; what a store, an append, a copy makes of them. -/
import Derived.Test.YtahcgnmhhgcfmaaDoorChecked
import Derived.Test.YtahcgnmhhgcfmaaDoorCPlain
import Derived.WalkKit
import Derived.Deep.OwnRows
import Derived.Deep.Draws
import Derived.Laws.CopyOwn
import Derived.Deep.RegionLaw
namespace Go.Proofs.YtahcgnmhhgcfmaaDoor
open Go.RowKit

/-- Pairs of cells, one behind the other. -/
def pairs : List (Value × Value) → List Value
  | [] => []
  | p :: r => p.1 :: p.2 :: pairs r

theorem pairs_length : ∀ l : List (Value × Value), (pairs l).length = l.length * 2
  | [] => rfl
  | p :: r => by simp [pairs, pairs_length r]; omega

theorem pairs_append : ∀ l r : List (Value × Value), pairs (l ++ r) = pairs l ++ pairs r
  | [], r => rfl
  | p :: l, r => by simp [pairs, pairs_append l r]

theorem pairs_fst : ∀ (l : List (Value × Value)) (i : Nat), (pairs l)[i * 2]? = (l[i]?).map (·.1)
  | [], i => by simp [pairs]
  | p :: r, 0 => by simp [pairs]
  | p :: r, i + 1 => by
    rw [show (i + 1) * 2 = i * 2 + 1 + 1 by omega]
    simp [pairs, pairs_fst r i]

theorem pairs_snd : ∀ (l : List (Value × Value)) (i : Nat), (pairs l)[i * 2 + 1]? = (l[i]?).map (·.2)
  | [], i => by simp [pairs]
  | p :: r, 0 => by simp [pairs]
  | p :: r, i + 1 => by
    rw [show (i + 1) * 2 + 1 = i * 2 + 1 + 1 + 1 by omega]
    simp [pairs, pairs_snd r i]

theorem pairs_set : ∀ (l : List (Value × Value)) (i : Nat) (a b : Value), ((pairs l).set (i * 2) a).set (i * 2 + 1) b = pairs (l.set i (a, b))
  | [], i, a, b => by simp [pairs]
  | p :: r, 0, a, b => by simp [pairs]
  | p :: r, i + 1, a, b => by
    rw [show (i + 1) * 2 + 1 = i * 2 + 1 + 1 + 1 by omega, show (i + 1) * 2 = i * 2 + 1 + 1 by omega]
    simp [pairs, pairs_set r i a b]

def valPair (v : Vl) : Value × Value := (.int .i64 v.k, .int .i64 v.n)
def valCells (l : List Vl) : List Value := pairs (l.map valPair)
def obPair (p : Value × Ob) : Value × Value := (p.1, .bool p.2.dead)
def obCells (l : List (Value × Ob)) : List Value := pairs (l.map obPair)

theorem valCells_length (l : List Vl) : (valCells l).length = l.length * 2 := by simp [valCells, pairs_length]
theorem obCells_length (l : List (Value × Ob)) : (obCells l).length = l.length * 2 := by simp [obCells, pairs_length]

theorem pairs_one : ∀ {l : List (Value × Value)}, (∀ p ∈ l, p.1.oneCell' = true ∧ p.2.oneCell' = true) → ∀ v ∈ pairs l, v.oneCell' = true
  | [], _, v, hv => by simp [pairs] at hv
  | p :: r, h, v, hv => by
    simp only [pairs, List.mem_cons] at hv
    rcases hv with rfl | rfl | hv
    · exact (h p (by simp)).1
    · exact (h p (by simp)).2
    · exact pairs_one (fun q hq => h q (by simp [hq])) v hv

theorem valCells_one (l : List Vl) : ∀ v ∈ valCells l, v.oneCell' = true := pairs_one (fun p hp => by
  obtain ⟨v, _, rfl⟩ := List.mem_map.1 hp
  exact ⟨rfl, rfl⟩)

section
variable {w : World} {base : Nat} {e : TypeId} {size : Nat} {v : Value} {n : Nat} {xs : List Value}

theorem setCell_blk {g : Nat} {cur : Array Value} {t : TypeId} {fr : Nat × Nat} (h : w.heap[g]? = some (.cells cur t fr)) (j : Nat) (u : Value) : (w.setCell ⟨g, j, none⟩ u).heap[g]? = some (.cells (cur.setIfInBounds j u) t fr) := by
  simp only [World.setCell, Array.getElem?_modify, h]
  simp

theorem cell_blk {k : Nat} {c : Array Value} {t' : TypeId} (h : w.heap[k]? = some (.cells c t' (0, 0))) (j : Nat) : w.cell? ⟨k, j, none⟩ = c[j]? := by simp [World.cell?, h]
theorem fz_blk {k : Nat} {c : Array Value} {t' : TypeId} (h : w.heap[k]? = some (.cells c t' (0, 0))) (j : Nat) : w.frozen? ⟨k, j, none⟩ = false := by simp [World.frozen?, h]

theorem ownsRow_set (h : w.ownsRow base e size v n xs) {g : Nat} (hg : v.ownBlock = some g) (j : Nat) (u : Value) : (w.setCell ⟨g, j, none⟩ u).ownsRow base e size v n (xs.set j u) := by
  rcases h.2 with ⟨rfl, _⟩ | ⟨g', cap, cur, rfl, hb, hgg, h1, h2, h3, h4⟩
  · simp [Value.ownBlock] at hg
  · simp only [Value.ownBlock, Option.some.injEq] at hg
    subst hg
    refine ⟨by rw [List.length_set]; exact h.1, .inr ⟨g', cap, cur.setIfInBounds j u, rfl, hb, setCell_blk hgg j u, h1, h2, by simpa using h3, ?_⟩⟩
    rw [Array.toList_setIfInBounds, ← h4, List.take_set]

theorem ownsRow_set_other (h : w.ownsRow base e size v n xs) {b : Nat} (hb : v.ownBlock = none ∨ v.ownBlock ≠ some b) (j : Nat) (u : Value) : (w.setCell ⟨b, j, none⟩ u).ownsRow base e size v n xs :=
  h.kept (row := some b) ⟨rfl, rfl, rfl, by simp [World.setCell], fun k _ hk => Below.heap_setCell _ _ _ _ (fun e => hk (by rw [e]))⟩ hb

theorem ownsRow_cell (h : w.ownsRow base e size v n xs) {g : Nat} (hg : v.ownBlock = some g) {j : Nat} {u : Value} (hu : xs[j]? = some u) : w.cell? ⟨g, j, none⟩ = some u := by
  have := h.cells hg j u hu
  have hadd : (⟨g, 0, none⟩ : Addr).add j = ⟨g, j, none⟩ := by unfold Addr.add; split <;> simp_all
  rwa [hadd] at this

theorem ownsRow_frozen (h : w.ownsRow base e size v n xs) {g : Nat} (hg : v.ownBlock = some g) (j : Nat) : w.frozen? ⟨g, j, none⟩ = false := by
  rcases h.2 with ⟨rfl, _⟩ | ⟨g', cap, cur, rfl, hb, hgg, _⟩
  · simp [Value.ownBlock] at hg
  · simp only [Value.ownBlock, Option.some.injEq] at hg
    subst hg
    simp [World.frozen?, hgg]

theorem ownsRow_below {w' : World} (h : w.ownsRow base e size v n xs) (hb : Below w.heap.size w w') : w'.ownsRow base e size v n xs :=
  h.kept ⟨hb.os, hb.tape, hb.output, hb.size, fun k hk _ => hb.block k hk⟩ (row := none) (by cases hv : v.ownBlock <;> simp)

theorem ownsRow_le {base' : Nat} (h : w.ownsRow base e size v n xs) (hb : base' ≤ base) : w.ownsRow base' e size v n xs :=
  ⟨h.1, h.2.elim Or.inl (fun ⟨g, cap, cur, hv, hg, r⟩ => Or.inr ⟨g, cap, cur, hv, Nat.le_trans hb hg, r⟩)⟩

theorem ownsRow_form (h : w.ownsRow base e size v n xs) : (v = .slice none 0 0 ∧ n = 0) ∨ ∃ g cap, v = .slice (some ⟨g, 0, none⟩) n cap ∧ base ≤ g := by
  rcases h.2 with hv | ⟨g, cap, _, hv, hb, _⟩
  · exact Or.inl hv
  · exact Or.inr ⟨g, cap, hv, hb⟩

theorem owns_other {base' : Nat} {e' : TypeId} {size' : Nat} {v' : Value} {n' : Nat} {xs' : List Value} (h : w.ownsRow base e size v n xs) (h' : w.ownsRow base' e' size' v' n' xs') (hne : e ≠ e') : v.ownBlock = none ∨ v.ownBlock ≠ v'.ownBlock := by
  rcases h.2 with ⟨rfl, _⟩ | ⟨g, cap, cur, rfl, _, hg, _⟩
  · exact Or.inl rfl
  · right
    rcases h'.2 with ⟨rfl, _⟩ | ⟨g', cap', cur', rfl, _, hg', _⟩
    · simp [Value.ownBlock]
    · simp only [Value.ownBlock]
      intro e1
      simp only [Option.some.injEq] at e1
      subst e1
      rw [hg] at hg'
      simp only [Option.some.injEq, Obj.cells.injEq] at hg'
      exact hne hg'.2.1

theorem owns_blk {w' : World} (h : w.ownsRow base e size v n xs) (hg : w.grownBy w' v.ownBlock) {k : Nat} {c : Array Value} {t' : TypeId} (hk : w.heap[k]? = some (.cells c t' (0, 0))) (hne : t' ≠ e) : w'.heap[k]? = some (.cells c t' (0, 0)) := by
  refine (hg.block k (Array.getElem?_eq_some_iff.1 hk).1 ?_).trans hk
  rcases h.2 with ⟨rfl, _⟩ | ⟨g, cap, cur, rfl, _, hgg, _⟩
  · simp [Value.ownBlock]
  · simp only [Value.ownBlock]
    intro e'
    simp only [Option.some.injEq] at e'
    subst e'
    rw [hk] at hgg
    simp only [Option.some.injEq, Obj.cells.injEq] at hgg
    exact hne hgg.2.1

theorem below_box_base (hb : base ≤ w.heap.size) (o : Obj) : Below base w (w.alloc o) := (Below.refl _ _).alloc hb o

end

/-- The slice v, in memory of the call's own, holds these values. -/
def ValsOwn (w : World) (base : Nat) (v : Value) (l : List Vl) : Prop := w.ownsRow base 78 2 v l.length (valCells l)

/-- The slice v, in memory of the call's own, holds these objects, each with the slice of its fields; no two slices of fields lie in one row. -/
structure HeapOwn (w : World) (base : Nat) (v : Value) (rows : List (Value × Ob)) : Prop where
  top : w.ownsRow base 82 2 v rows.length (obCells rows)
  row : ∀ (i : Nat) p, rows[i]? = some p → ValsOwn w base p.1 p.2.fs ∧ 16 * p.2.fs.length ≤ 140737488351232
  apart : ∀ (i j : Nat) p q, rows[i]? = some p → rows[j]? = some q → i ≠ j → p.1.ownBlock = none ∨ p.1.ownBlock ≠ q.1.ownBlock
  many : 32 * rows.length ≤ 140737488351232

theorem ValsOwn.vals {w : World} {base : Nat} {ao : Option Addr} {n c : Nat} {l : List Vl} (h : ValsOwn w base (.slice ao n c) l) : n = l.length ∧ ValsAt w ao l := by
  rcases ownsRow_form h with ⟨hv, hn⟩ | ⟨g, cap, hv, _⟩
  · simp only [Value.slice.injEq] at hv
    have : l = [] := List.eq_nil_of_length_eq_zero hn
    subst this
    exact ⟨hv.2.1, fun i v hi => by simp at hi⟩
  · simp only [Value.slice.injEq] at hv
    obtain ⟨rfl, rfl, rfl⟩ := hv
    refine ⟨rfl, fun i v hi => ⟨g, 0, rfl, ?_, ?_⟩⟩
    · rw [Nat.zero_add]
      exact ownsRow_cell h rfl (by simp [valCells, pairs_fst, hi, valPair])
    · rw [Nat.zero_add]
      exact ownsRow_cell h rfl (by simp [valCells, pairs_snd, hi, valPair])

theorem ValsOwn.form {w : World} {base : Nat} {v : Value} {l : List Vl} (h : ValsOwn w base v l) : ∃ ao c, v = .slice ao l.length c := by
  rcases ownsRow_form h with ⟨rfl, hn⟩ | ⟨g, cap, rfl, _⟩
  · exact ⟨none, 0, by rw [hn]⟩
  · exact ⟨_, _, rfl⟩

theorem HeapOwn.obs {w : World} {base : Nat} {ao : Option Addr} {n c : Nat} {rows : List (Value × Ob)} (h : HeapOwn w base (.slice ao n c) rows) : n = rows.length ∧ ObsAt w ao (rows.map (·.2)) := by
  have hm := h.many
  rcases ownsRow_form h.top with ⟨hv, hn⟩ | ⟨g, cap, hv, _⟩
  · simp only [Value.slice.injEq] at hv
    have : rows = [] := List.eq_nil_of_length_eq_zero hn
    subst this
    exact ⟨hv.2.1, fun i v hi => by simp at hi, by simp⟩
  · simp only [Value.slice.injEq] at hv
    obtain ⟨rfl, rfl, rfl⟩ := hv
    refine ⟨rfl, fun i x hi => ?_, by simpa using hm⟩
    rw [List.getElem?_map] at hi
    obtain ⟨⟨rv, ob⟩, hp, rfl⟩ := Option.map_eq_some_iff.1 hi
    obtain ⟨hr, hlen⟩ := h.row i _ hp
    obtain ⟨fa, fc, hf⟩ := hr.form
    simp only at hf hr hlen
    subst hf
    refine ⟨g, 0, fa, fc, rfl, ?_, ?_, hr.vals.2, hlen⟩
    · rw [Nat.zero_add]
      exact ownsRow_cell h.top rfl (by simp [obCells, pairs_fst, hp, obPair])
    · rw [Nat.zero_add]
      exact ownsRow_cell h.top rfl (by simp [obCells, pairs_snd, hp, obPair])

theorem HeapOwn.form {w : World} {base : Nat} {v : Value} {rows : List (Value × Ob)} (h : HeapOwn w base v rows) : ∃ ao c, v = .slice ao rows.length c := by
  rcases ownsRow_form h.top with ⟨rfl, hn⟩ | ⟨g, cap, rfl, _⟩
  · exact ⟨none, 0, by rw [hn]⟩
  · exact ⟨_, _, rfl⟩

theorem HeapOwn.below {w w' : World} {base : Nat} {v : Value} {rows : List (Value × Ob)} (h : HeapOwn w base v rows) (hb : Below w.heap.size w w') : HeapOwn w' base v rows :=
  ⟨ownsRow_below h.top hb, fun i p hp => ⟨ownsRow_below (h.row i p hp).1 hb, (h.row i p hp).2⟩, h.apart, h.many⟩

theorem HeapOwn.alloc {w : World} {base : Nat} {v : Value} {rows : List (Value × Ob)} (h : HeapOwn w base v rows) (o : Obj) : HeapOwn (w.alloc o) base v rows := h.below (below_box w o)

theorem HeapOwn.le {w : World} {base base' : Nat} {v : Value} {rows : List (Value × Ob)} (h : HeapOwn w base v rows) (hb : base' ≤ base) : HeapOwn w base' v rows :=
  ⟨ownsRow_le h.top hb, fun i p hp => ⟨ownsRow_le (h.row i p hp).1 hb, (h.row i p hp).2⟩, h.apart, h.many⟩

theorem HeapOwn.drew {w : World} {base : Nat} {v : Value} {rows : List (Value × Ob)} (h : HeapOwn w base v rows) (n : Nat) : HeapOwn (w.drewN n) base v rows := h.below (below_drewN (Below.refl _ _) n)

theorem HeapOwn.setLow {w : World} {base : Nat} {v : Value} {rows : List (Value × Ob)} (h : HeapOwn w base v rows) {a : Addr} (ha : a.block < base) (u : Value) : HeapOwn (w.setCell a u) base v rows :=
  ⟨ownsRow_setCell_below h.top ha u, fun i p hp => ⟨ownsRow_setCell_below (h.row i p hp).1 ha u, (h.row i p hp).2⟩, h.apart, h.many⟩

theorem tne : (78 : TypeId) ≠ 82 := by decide

/-- A store into a block of another type. -/
theorem ownSet49 {w : World} {base : Nat} {v : Value} {rows : List (Value × Ob)} (h : HeapOwn w base v rows) {B : Nat} {c : Array Value} {t' : TypeId} (hB : w.heap[B]? = some (.cells c t' (0, 0))) (hne : t' ≠ 82 ∧ t' ≠ 78) (j : Nat) (u : Value) : HeapOwn (w.setCell ⟨B, j, none⟩ u) base v rows := by
  have other : ∀ {e : TypeId} {size n : Nat} {x : Value} {xs : List Value}, w.ownsRow base e size x n xs → t' ≠ e → x.ownBlock = none ∨ x.ownBlock ≠ some B := fun hx hn => by
    rcases hx.2 with ⟨rfl, _⟩ | ⟨g, cap, cur, rfl, _, hg, _⟩
    · exact Or.inl rfl
    · refine Or.inr (fun e1 => ?_)
      simp only [Value.ownBlock, Option.some.injEq] at e1
      subst e1
      rw [hB] at hg
      simp only [Option.some.injEq, Obj.cells.injEq] at hg
      exact hn hg.2.1
  exact ⟨ownsRow_set_other h.top (other h.top hne.1) _ _, fun i p hp => ⟨ownsRow_set_other (h.row i p hp).1 (other (h.row i p hp).1 hne.2) _ _, (h.row i p hp).2⟩, h.apart, h.many⟩

/-- 'objects[i] = o', o's fields in a row of the call's own that is none of the others'. -/
theorem HeapOwn.store {w : World} {base g n cap : Nat} {rows : List (Value × Ob)} (h : HeapOwn w base (.slice (some ⟨g, 0, none⟩) n cap) rows) {i : Nat} (hi : i < rows.length) (nv : Value) (ob : Ob)
    (hv : ValsOwn w base nv ob.fs) (hl : 16 * ob.fs.length ≤ 140737488351232) (hap : ∀ (j : Nat) q, rows[j]? = some q → j ≠ i → nv.ownBlock = none ∨ nv.ownBlock ≠ q.1.ownBlock) :
    HeapOwn ((w.setCell ⟨g, i * 2, none⟩ nv).setCell ⟨g, i * 2 + 1, none⟩ (.bool ob.dead)) base (.slice (some ⟨g, 0, none⟩) n cap) (rows.set i (nv, ob)) := by
  have keep : ∀ (rv : Value) (l : List Vl), ValsOwn w base rv l → ValsOwn ((w.setCell ⟨g, i * 2, none⟩ nv).setCell ⟨g, i * 2 + 1, none⟩ (.bool ob.dead)) base rv l := fun rv l hr =>
    ownsRow_set_other (ownsRow_set_other hr (owns_other hr h.top tne) _ _) (owns_other hr h.top tne) _ _
  refine ⟨?_, fun j p hp => ?_, fun j k p q hp hq hjk => ?_, by simpa using h.many⟩
  · have := ownsRow_set (ownsRow_set h.top (g := g) rfl (i * 2) nv) (g := g) rfl (i * 2 + 1) (.bool ob.dead)
    rw [List.length_set]
    have e : obCells (rows.set i (nv, ob)) = ((obCells rows).set (i * 2) nv).set (i * 2 + 1) (.bool ob.dead) := by
      rw [obCells, obCells, pairs_set, List.map_set]; rfl
    rw [e]
    exact this
  · rw [List.getElem?_set] at hp
    split at hp
    · simp at hp
      obtain ⟨_, rfl⟩ := hp
      exact ⟨keep _ _ hv, hl⟩
    · exact ⟨keep _ _ (h.row j p hp).1, (h.row j p hp).2⟩
  · rw [List.getElem?_set] at hp hq
    split at hp
    · rename_i e1
      subst e1
      simp at hp
      obtain ⟨_, rfl⟩ := hp
      rw [if_neg (by omega)] at hq
      exact hap k q hq (by omega)
    · split at hq
      · rename_i e2
        subst e2
        simp at hq
        obtain ⟨_, rfl⟩ := hq
        rcases hap j p hp (by omega) with hn | hn
        · by_cases hpn : p.1.ownBlock = none
          · exact Or.inl hpn
          · exact Or.inr (fun e => hpn (by rw [e]; exact hn))
        · exact Or.inr (fun e => hn e.symm)
      · exact h.apart j k p q hp hq hjk

/-- A row that was made later is none of the others. -/
theorem apart_new {w w1 : World} {base B : Nat} {v nv : Value} {rows : List (Value × Ob)} {l : List Vl} (hO : HeapOwn w base v rows) (hv : ValsOwn w1 B nv l) (hB : w.heap.size ≤ B := by exact Nat.le_refl _) : ∀ (j : Nat) q, rows[j]? = some q → nv.ownBlock = none ∨ nv.ownBlock ≠ q.1.ownBlock := fun j q hq => by
  by_cases hn : nv.ownBlock = none
  · exact Or.inl hn
  · refine Or.inr (fun e => ?_)
    obtain ⟨g, hg⟩ := Option.ne_none_iff_exists'.1 hn
    have h1 := (World.ownsRow.lt hv g hg).1
    have h2 := (World.ownsRow.lt (hO.row j q hq).1 g (by rw [← e]; exact hg)).2
    omega

/-- An object is appended. -/
theorem HeapOwn.push {w w' : World} {base : Nat} {v v' : Value} {rows : List (Value × Ob)} (h : HeapOwn w base v rows) (nv : Value) (ob : Ob) (hv : ValsOwn w base nv ob.fs) (hl : 16 * ob.fs.length ≤ 140737488351232)
    (hap : ∀ (j : Nat) q, rows[j]? = some q → nv.ownBlock = none ∨ nv.ownBlock ≠ q.1.ownBlock) (hm : 32 * rows.length + 32 ≤ 140737488351232)
    (htop : w'.ownsRow base 82 2 v' (rows.length + 1) (obCells rows ++ [nv, .bool ob.dead])) (hg : w.grownBy w' v.ownBlock) : HeapOwn w' base v' (rows ++ [(nv, ob)]) := by
  have part : ∀ (j : Nat) p, (rows ++ [(nv, ob)])[j]? = some p → rows[j]? = some p ∨ (j = rows.length ∧ p = (nv, ob)) := fun j p hp => by
    rw [List.getElem?_append] at hp
    split at hp
    · exact Or.inl hp
    · obtain ⟨h1, h2⟩ := List.getElem?_eq_some_iff.1 hp
      simp at h1 h2
      exact Or.inr ⟨by omega, h2.symm⟩
  refine ⟨?_, fun j p hp => ?_, fun j k p q hp hq hjk => ?_, by simp; omega⟩
  · have e : obCells (rows ++ [(nv, ob)]) = obCells rows ++ [nv, .bool ob.dead] := by simp [obCells, pairs_append, pairs, obPair]
    rw [e]
    simpa using htop
  · rcases part j p hp with hp | ⟨_, rfl⟩
    · exact ⟨(h.row j p hp).1.kept hg (owns_other (h.row j p hp).1 h.top tne), (h.row j p hp).2⟩
    · exact ⟨hv.kept hg (owns_other hv h.top tne), hl⟩
  · rcases part j p hp with hp | ⟨e1, rfl⟩
    · rcases part k q hq with hq | ⟨e2, rfl⟩
      · exact h.apart j k p q hp hq hjk
      · rcases hap j p hp with hn | hn
        · by_cases hpn : p.1.ownBlock = none
          · exact Or.inl hpn
          · exact Or.inr (fun e => hpn (by rw [e]; exact hn))
        · exact Or.inr (fun e => hn e.symm)
    · rcases part k q hq with hq | ⟨e2, rfl⟩
      · exact hap k q hq
      · omega

/-- 'objects[i].Fields[f] = x'. -/
theorem HeapOwn.setField {w : World} {base : Nat} {v : Value} {rows : List (Value × Ob)} (h : HeapOwn w base v rows) {i g n cap : Nat} {ob : Ob} (hi : rows[i]? = some (.slice (some ⟨g, 0, none⟩) n cap, ob)) (f : Nat) (x : Vl) :
    HeapOwn ((w.setCell ⟨g, f * 2, none⟩ (.int .i64 x.k)).setCell ⟨g, f * 2 + 1, none⟩ (.int .i64 x.n)) base v (rows.set i (.slice (some ⟨g, 0, none⟩) n cap, ⟨ob.fs.set f x, ob.dead⟩)) := by
  have hrow := h.row i _ hi
  have hlt : i < rows.length := (List.getElem?_eq_some_iff.1 hi).1
  refine ⟨?_, fun j p hp => ?_, fun j k p q hp hq hjk => ?_, by simpa using h.many⟩
  · have hne : v.ownBlock = none ∨ v.ownBlock ≠ some g := owns_other h.top hrow.1 (Ne.symm tne)
    have := ownsRow_set_other (ownsRow_set_other h.top hne (f * 2) (.int .i64 x.k)) hne (f * 2 + 1) (.int .i64 x.n)
    have e : obCells (rows.set i (.slice (some ⟨g, 0, none⟩) n cap, ⟨ob.fs.set f x, ob.dead⟩)) = obCells rows := by
      rw [obCells, obCells, List.map_set]
      congr 1
      refine List.ext_getElem? fun j => ?_
      rw [List.getElem?_set]
      split
      · rename_i e1
        subst e1
        rw [if_pos (by simpa using hlt), List.getElem?_map, hi]
        rfl
      · rfl
    rw [List.length_set, e]
    exact this
  · rw [List.getElem?_set] at hp
    split at hp
    · simp at hp
      obtain ⟨_, rfl⟩ := hp
      refine ⟨?_, by simpa using hrow.2⟩
      have := ownsRow_set (ownsRow_set hrow.1 (g := g) rfl (f * 2) (.int .i64 x.k)) (g := g) rfl (f * 2 + 1) (.int .i64 x.n)
      unfold ValsOwn
      have e : valCells (ob.fs.set f x) = ((valCells ob.fs).set (f * 2) (.int .i64 x.k)).set (f * 2 + 1) (.int .i64 x.n) := by
        rw [valCells, valCells, pairs_set, List.map_set]; rfl
      rw [List.length_set, e]
      exact this
    · rename_i hij
      have hne : p.1.ownBlock = none ∨ p.1.ownBlock ≠ some g := h.apart j i p _ hp hi (by omega)
      exact ⟨ownsRow_set_other (ownsRow_set_other (h.row j p hp).1 hne _ _) hne _ _, (h.row j p hp).2⟩
  · have shape : ∀ (j : Nat) p, (rows.set i (Value.slice (some ⟨g, 0, none⟩) n cap, (⟨ob.fs.set f x, ob.dead⟩ : Ob)))[j]? = some p → ∃ p', rows[j]? = some p' ∧ p'.1 = p.1 := fun j p hp => by
      rw [List.getElem?_set] at hp
      split at hp
      · rename_i e1
        subst e1
        simp at hp
        obtain ⟨_, rfl⟩ := hp
        exact ⟨_, hi, rfl⟩
      · exact ⟨p, hp, rfl⟩
    obtain ⟨p', hp', ep⟩ := shape j p hp
    obtain ⟨q', hq', eq⟩ := shape k q hq
    rw [← ep, ← eq]
    exact h.apart j k p' q' hp' hq' hjk

/-- A row of fields that is written whole. -/
theorem HeapOwn.fill {w : World} {base : Nat} {v : Value} {rows : List (Value × Ob)} (h : HeapOwn w base v rows) {i g n : Nat} {ob : Ob} (hi : rows[i]? = some (.slice (some ⟨g, 0, none⟩) n n, ob)) (fs : List Vl) (hfs : fs.length = ob.fs.length) :
    HeapOwn (w.setRow g (valCells fs).toArray) base v (rows.set i (.slice (some ⟨g, 0, none⟩) n n, ⟨fs, ob.dead⟩)) := by
  have hrow := h.row i _ hi
  have hlt : i < rows.length := (List.getElem?_eq_some_iff.1 hi).1
  have hgrown : w.grownBy (w.setRow g (valCells fs).toArray) (some g) := ⟨rfl, rfl, rfl, by simp, fun k _ hk => setRow_other w g k _ (fun e => hk (by rw [e]))⟩
  obtain ⟨cur, t, hblk⟩ : ∃ cur, w.heap[g]? = some (.cells cur 78 (0, 0)) ∧ cur.size = n * 2 ∧ n = ob.fs.length := by
    rcases hrow.1.2 with ⟨e, _⟩ | ⟨g', cap', cur, e, _, hg, _, _, h3, _⟩
    · simp at e
    · simp only [Value.slice.injEq, Option.some.injEq, Addr.mk.injEq, and_true] at e
      obtain ⟨rfl, rfl, rfl⟩ := e
      exact ⟨cur, hg, h3, rfl⟩
  refine ⟨?_, fun j p hp => ?_, fun j k p q hp hq hjk => ?_, by simpa using h.many⟩
  · have hne : v.ownBlock = none ∨ v.ownBlock ≠ some g := owns_other h.top hrow.1 (Ne.symm tne)
    have := h.top.kept hgrown hne
    have e : obCells (rows.set i (.slice (some ⟨g, 0, none⟩) n n, ⟨fs, ob.dead⟩)) = obCells rows := by
      rw [obCells, obCells, List.map_set]
      congr 1
      refine List.ext_getElem? fun j => ?_
      rw [List.getElem?_set]
      split
      · rename_i e1
        subst e1
        rw [if_pos (by simpa using hlt), List.getElem?_map, hi]
        rfl
      · rfl
    rw [List.length_set, e]
    exact this
  · rw [List.getElem?_set] at hp
    split at hp
    · simp at hp
      obtain ⟨_, rfl⟩ := hp
      refine ⟨⟨by simp [valCells_length], .inr ⟨g, n, (valCells fs).toArray, by simp [hfs, hblk.2], ?_, setRow_heap w g cur _ _ _ t, by simp [hfs, hblk.2], ?_, by simp [valCells_length, hfs, hblk.2], ?_⟩⟩, by simpa [hfs] using hrow.2⟩
      · exact (hrow.1.lt g rfl).1
      · rcases hrow.1.2 with ⟨e, _⟩ | ⟨g', cap', cur', e, _, _, _, h2, _⟩
        · simp at e
        · simp only [Value.slice.injEq] at e
          rw [e.2.2]
          exact h2
      · rw [List.take_of_length_le (by simp [valCells_length])]
    · have hne : p.1.ownBlock = none ∨ p.1.ownBlock ≠ some g := h.apart j i p _ hp hi (by omega)
      exact ⟨(h.row j p hp).1.kept hgrown hne, (h.row j p hp).2⟩
  · have shape : ∀ (j : Nat) p, (rows.set i (Value.slice (some ⟨g, 0, none⟩) n n, (⟨fs, ob.dead⟩ : Ob)))[j]? = some p → ∃ p', rows[j]? = some p' ∧ p'.1 = p.1 := fun j p hp => by
      rw [List.getElem?_set] at hp
      split at hp
      · rename_i e1
        subst e1
        simp at hp
        obtain ⟨_, rfl⟩ := hp
        exact ⟨_, hi, rfl⟩
      · exact ⟨p, hp, rfl⟩
    obtain ⟨p', hp', ep⟩ := shape j p hp
    obtain ⟨q', hq', eq⟩ := shape k q hq
    rw [← ep, ← eq]
    exact h.apart j k p' q' hp' hq' hjk

end Go.Proofs.YtahcgnmhhgcfmaaDoor
