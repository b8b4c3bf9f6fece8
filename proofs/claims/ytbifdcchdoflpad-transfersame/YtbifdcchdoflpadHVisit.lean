/- What values lead to, as a list that grows; the closure visit of package heap: it puts a place behind the list, if it is new. -/
import Derived.Test.YtbifdcchdoflpadHCheck
import Derived.Test.YtbifdcchdoflpadHLaws
import Derived.Test.YtbifdcchdoflpadHPure
import Derived.WalkKit
import Derived.WalkSpells
import Derived.WalkLawsBesides
import Derived.Deep.LoopGhost
import Derived.Deep.Light
import Derived.Deep.QuietTactic
import Derived.BigQuiet
import Derived.BigRegion
import Derived.Maps.Own
import Derived.Maps.OwnOps
import Derived.Maps.OwnSet
namespace Go.Proofs.Ytbifdcchdoflpad
open Go.RowKit Go.Maps

theorem Try.infoN : (Try.prog.info? 3).map (fun i => (i.zero, i.size, i.bytes)) = some (some (.int .i64 0), 1, 8) := by kernel_rfl
theorem Try.zeroN (w : World) : (zeroValue 3).run Try.prog w = .ok (.int .i64 0) w := by kernel_rfl
theorem keysN : Keyed Try.prog 3 := int_keyed Try.underlying3

/-- The slice v, in memory of the call's own, holds these numbers. -/
def IntsOwn (w : World) (base : Nat) (v : Value) (l : List Int) : Prop := w.ownsRow base 3 1 v l.length (l.map (Value.int .i64))

/-- The list, its map and its variables in memory. -/
structure RState (w : World) (R O m B : Nat) (order : List Int) : Prop where
  rbox : w.heap[R]? = some (.cells #[.map (some m)] 59 (0, 0))
  own : ∃ ov oc, w.heap[O]? = some (.cells #[.slice ov order.length oc] 32 (0, 0)) ∧ IntsOwn w B (.slice ov order.length oc) order
  map : ∃ D : DataW Unit, w.ownsMap Try.prog 3 (plainElem Try.prog 3) m order.length D ∧ ∀ z, Maps.has D (.int .i64 z) = decide (z ∈ order)
  low : B ≤ R ∧ B ≤ O ∧ B ≤ m ∧ B ≤ w.heap.size

theorem map_not_cells {w : World} {m n : Nat} {D : DataW Unit} {P : Program} {k : TypeId} {Rr : Value → Option (DataW Unit × List MemPlace)} (h : w.ownsMap P k Rr m n D) {g : Nat} {c : Array Value} {t : TypeId} {fr : Nat × Nat} (hg : w.heap[g]? = some (.cells c t fr)) : g ≠ m := by
  obtain ⟨es, clock, hb, _⟩ := h
  intro e
  subst e
  rw [hg] at hb
  simp at hb

theorem map_ne_row {w : World} {m n : Nat} {D : DataW Unit} {P : Program} {k : TypeId} {Rr : Value → Option (DataW Unit × List MemPlace)} (h : w.ownsMap P k Rr m n D) {base : Nat} {e : TypeId} {size n' : Nat} {v : Value} {xs : List Value} (hv : w.ownsRow base e size v n' xs) : v.ownBlock = none ∨ v.ownBlock ≠ some m := by
  rcases hv.2 with ⟨rfl, _⟩ | ⟨g, cap, cur, rfl, _, hg, _⟩
  · exact Or.inl rfl
  · refine Or.inr (fun e => ?_)
    simp only [Value.ownBlock, Option.some.injEq] at e
    exact map_not_cells h hg e

theorem RState.below {w w' : World} {R O m B : Nat} {order : List Int} (h : RState w R O m B order) (hb : Below w.heap.size w w') : RState w' R O m B order := by
  obtain ⟨ov, oc, ho, hi⟩ := h.own
  obtain ⟨D, hD, hh⟩ := h.map
  exact ⟨(hb.block _ (Array.getElem?_eq_some_iff.1 h.rbox).1).trans h.rbox, ⟨ov, oc, (hb.block _ (Array.getElem?_eq_some_iff.1 ho).1).trans ho, ownsRow_below hi hb⟩,
    ⟨D, hD.kept (row := none) ⟨hb.os, hb.tape, hb.output, hb.size, fun k hk _ => hb.block k hk⟩ (by simp), hh⟩, h.low.1, h.low.2.1, h.low.2.2.1, Nat.le_trans h.low.2.2.2 hb.size⟩

theorem ints_one (l : List Int) : ∀ u ∈ l.map (Value.int .i64), u.oneCell' = true := by
  intro u hu
  obtain ⟨z, _, rfl⟩ := List.mem_map.1 hu
  rfl

/-- 'append(v, n)', n a number; the new slice written out. -/
theorem wpList_pushInt {w : World} {base : Nat} {v : Value} {l : List Int} {ops : Array Oper} {rest : List Oper} {o : Oper} {a : Act} {Q : Exit → Act → World → Prop} (hgd : o.guard = none) (s x : Operand)
    (ho : o.op = .call { callee := .builtin .append, args := #[s, x], argTypes := #[32, 32] }) (hs : a.eval s = v) (hO : IntsOwn w base v l) (hb : base ≤ w.heap.size)
    (n : Int) (hx : a.eval x = .slice (some ⟨w.heap.size, 0, none⟩) 1 1) (hl : 8 * l.length + 8 ≤ 140737488355328)
    (h : ∀ g cap w', IntsOwn w' base (.slice (some ⟨g, 0, none⟩) (l.length + 1) cap) (l ++ [n]) → (w.alloc (.cells #[.int .i64 n] 3)).grownBy w' v.ownBlock → Below base w w' → wpList Try.prog ops Q rest (a.put o.dst (.slice (some ⟨g, 0, none⟩) (l.length + 1) cap)) w') :
    wpList Try.prog ops Q (o :: rest) a (w.alloc (.cells #[.int .i64 n] 3)) := by
  obtain ⟨i0, hi0, hzz⟩ := Option.map_eq_some_iff.1 Try.infoN
  simp only [Prod.mk.injEq] at hzz
  obtain ⟨hz0, hz1, hz2⟩ := hzz
  refine wpList_append_lies _ hgd s x 32 ho base 3 i0 (.int .i64 0) 1 8 Try.underlying32 hi0 hz0 hz1 hz2 rfl (by decide) v l.length (l.map (Value.int .i64)) hs (World.ownsRow.alloc hO _) ⟨w.heap.size, 0, none⟩ 1 1 [.int .i64 n] hx rfl (cell_one_new _ _ _) ?_ (by decide) (by unfold maxLen; omega) (by omega) (by simp; omega) (w.heap.size + 1) (by simp) ?_
  · intro u hu
    simp at hu
    subst hu
    rfl
  · intro g cap w' h1 h2 _ _
    refine h g cap w' ?_ h2 ((below_box_base hb _).trans ((Below.refl _ _).grown h2 (by simp; omega) (fun j hj => (World.ownsRow.lt hO j hj).1)))
    unfold IntsOwn
    simpa using h1

/-- Behind 'rank[n] = ..; order = append(order, n)'. -/
theorem RState.push {w w1 w2 : World} {R O m B : Nat} {order : List Int} {ov : Option Addr} {oc g gc : Nat} {D : DataW Unit} {n : Int} {d : DataW Unit} (h : RState w R O m B order)
    (ho : w.heap[O]? = some (.cells #[.slice ov order.length oc] 32 (0, 0))) (hi : IntsOwn w B (.slice ov order.length oc) order)
    (hD : w.ownsMap Try.prog 3 (plainElem Try.prog 3) m order.length D) (hh : ∀ z, Maps.has D (.int .i64 z) = decide (z ∈ order))
    (hD1 : w1.ownsMap Try.prog 3 (plainElem Try.prog 3) m (order.length + 1) (D.put (.int .i64 n) d)) (hg1 : w.grownBy w1 (some m))
    (hi2 : IntsOwn w2 B (.slice (some ⟨g, 0, none⟩) (order.length + 1) gc) (order ++ [n])) (hg2 : (w1.alloc (.cells #[.int .i64 n] 3)).grownBy w2 (Value.slice ov order.length oc).ownBlock) :
    RState (w2.setCell ⟨O, 0, none⟩ (.slice (some ⟨g, 0, none⟩) (order.length + 1) gc)) R O m B (order ++ [n]) ∧ Below B w (w2.setCell ⟨O, 0, none⟩ (.slice (some ⟨g, 0, none⟩) (order.length + 1) gc)) := by
  have hlow := h.low
  have hOlt := (Array.getElem?_eq_some_iff.1 ho).1
  have hRlt := (Array.getElem?_eq_some_iff.1 h.rbox).1
  have hRm := map_not_cells hD h.rbox
  have hOm := map_not_cells hD ho
  have R1 : w1.heap[R]? = _ := (hg1.block R hRlt (by simp [hRm])).trans h.rbox
  have O1 : w1.heap[O]? = _ := (hg1.block O hOlt (by simp [hOm])).trans ho
  have hi1 : IntsOwn w1 B (.slice ov order.length oc) order := hi.kept hg1 (map_ne_row hD hi)
  have hs1 := hg1.size
  have hia := World.ownsRow.alloc hi1 (.cells #[.int .i64 n] 3)
  have R2 : w2.heap[R]? = some (.cells #[.map (some m)] 59 (0, 0)) := owns_blk hia hg2 ((Deep.blk_alloc_lt _ _ _ (by omega)).trans R1) (by decide)
  have O2 : w2.heap[O]? = some (.cells #[.slice ov order.length oc] 32 (0, 0)) := owns_blk hia hg2 ((Deep.blk_alloc_lt _ _ _ (by omega)).trans O1) (by decide)
  have hD2 := (hD1.alloc (.cells #[.int .i64 n] 3)).kept hg2 (by
    rcases map_ne_row hD1 hi1 with hn | hn
    · rw [hn]; simp
    · exact Ne.symm hn)
  have hRO : R ≠ O := fun e => by
    have := h.rbox
    rw [e, ho] at this
    simp at this
  have hB1 : Below B w w1 := (Below.refl _ _).grown hg1 hlow.2.2.2 (fun k hk => by cases hk; exact hlow.2.2.1)
  have hB2 : Below B w w2 := (hB1.alloc (by omega) _).grown hg2 (by simp; omega) (fun k hk => (World.ownsRow.lt hi k hk).1)
  refine ⟨⟨?_, ⟨some ⟨g, 0, none⟩, gc, ?_, ?_⟩, ⟨D.put (.int .i64 n) d, ?_, fun z => ?_⟩, hlow.1, hlow.2.1, hlow.2.2.1, ?_⟩, hB2.setCell hlow.2.1 _⟩
  · rw [Deep.blk_setCell_other _ _ _ _ hRO]
    exact R2
  · rw [setCell_blk O2 0 _]
    simp
  · have e : (order ++ [n]).length = order.length + 1 := by simp
    rw [e]
    refine ownsRow_set_other hi2 ?_ _ _
    refine Or.inr (fun e1 => ?_)
    simp only [Value.ownBlock, Option.some.injEq] at e1
    subst e1
    obtain ⟨g', cap', cur, e2, _, hgg, _⟩ := (hi2.2).resolve_left (fun x => by simp at x)
    simp only [Value.slice.injEq, Option.some.injEq, Addr.mk.injEq, and_true] at e2
    obtain ⟨rfl, _, _⟩ := e2
    rw [O2] at hgg
    simp only [Option.some.injEq, Obj.cells.injEq] at hgg
    exact absurd hgg.2.1 (by decide)
  · rw [show (order ++ [n]).length = order.length + 1 by simp]
    exact hD2.setCell (Ne.symm (map_not_cells hD2 O2)) _
  · by_cases hz : z = n
    · subst hz
      rw [has_put_same hD.isMap (by simp [WideAt.IsKeyLit])]
      simp
    · rw [has_put_other (by simp [hz]), hh z]
      simp [hz]
  · simp only [World.setCell, Array.size_modify]
    exact Nat.le_trans hlow.2.2.2 hB2.size

theorem wf64 {n : Int} (h1 : -9223372036854775808 ≤ n) (h2 : n ≤ 9223372036854775807) : (Lit.int .i64 n).wf = true := WalkArith.wf_i64 ⟨h1, h2⟩

set_option maxHeartbeats 1000000 in
theorem visit_any (k n : Int) (L : Int) (R O m B : Nat) (order : List Int) (w : World) (hst : RState w R O m B order) (hv : vMay L ⟨k, n⟩ = true) (hL : L ≤ 60) (hol : order.length ≤ 60) :
    Calls Try.prog 36 #[.agg #[.int .i64 k, .int .i64 n], .pointer (some ⟨R, 0, none⟩), .pointer (some ⟨O, 0, none⟩)] w fun e w' => e = .returned (.tuple #[]) ∧ RState w' R O m B (visit order ⟨k, n⟩) ∧ Below B w w' := by
  by_cases hk : k = 2
  · subst hk
    have hn0 : 0 ≤ n := by simp [vMay] at hv; omega
    have hn1 : n < 60 := by simp [vMay] at hv; omega
    clear hv
    have hV : Aside (visit order ⟨2, n⟩ = if n ∈ order then order else order ++ [n]) := rfl
    have ha := hst.below (below_box w (Obj.cells #[.int .i64 2, .int .i64 n] 30))
    have hlow := hst.low
    obtain ⟨ov, oc, ho, hi⟩ := ha.own
    obtain ⟨D, hD, hh⟩ := ha.map
    have c0 := cell_blk ha.rbox 0
    have c1 := cell_blk ho 0
    simp at c0 c1
    have hO0 := fz_blk ho 0
    have hkey := keyOf_int_mk (P := Try.prog) (k := 3) (q := .i64) (a := n) Try.underlying3 (wf64 (by omega) (by omega))
    by_cases hin : n ∈ order
    · have hhas : Maps.has D (.int .i64 n) = true := by rw [hh]; simp [hin]
      go_enter Try.func36, Try.ntmps36
      go_wp2_with (at_lookup; refine wpList_lookup_own_ok_int _ rfl _ _ 59 rfl 3 3 .i64 keysN Try.underlying59 Try.underlying3 (Try.zeroN _) m order.length D rfl hD _ _ rfl hkey ?_; intro c hat hwc; rw [hhas])
      first
        | go_end0
        | (refine bodyPost_ret (v := .tuple #[]) (by simp [results, Try.results36]) rfl ?_)
      refine ⟨rfl, ?_, below_box_base hlow.2.2.2 _⟩
      rw [hV.out, if_pos hin]
      exact ha
    · have hhas : Maps.has D (.int .i64 n) = false := by rw [hh]; simp [hin]
      go_enter Try.func36, Try.ntmps36
      have hs0 : B ≤ (w.alloc (Obj.cells #[.int .i64 2, .int .i64 n] 30)).heap.size := by simp; omega
      go_wp2_with (first
        | (at_lookup; refine wpList_lookup_own_ok_int _ rfl _ _ 59 rfl 3 3 .i64 keysN Try.underlying59 Try.underlying3 (Try.zeroN _) m order.length D rfl hD _ _ rfl hkey ?_; intro c hat hwc; rw [hhas])
        | (at_mapUpdate; refine wpList_mapUpdate_own _ rfl _ _ _ 59 rfl 3 3 keysN Try.underlying59 _ m order.length D rfl hD ?m1 _ _ _ rfl rfl hkey _ [] (plainElem_int Try.underlying3 (wf64 ?m2 ?m3)) ?_; (case m1 => unfold maxLen; omega); (case m2 => omega); (case m3 => omega); intro w1 hD1 hg1; have O1 := (hg1.block O (Array.getElem?_eq_some_iff.1 ho).1 (by simp [map_not_cells hD ho])).trans ho; have hi1 := hi.kept hg1 (map_ne_row hD hi); have c1' := cell_blk O1 0; simp at c1'; have V1 := (hg1.block w.heap.size (by simp) (by simp [map_not_cells hD (Deep.blk_alloc_new w _)])).trans (Deep.blk_alloc_new w _); have v1' := cell_blk V1 1; simp at v1'; have hs1 : B ≤ w1.heap.size := Nat.le_trans hs0 hg1.size)
        | (at_builtin; refine wpList_pushInt rfl _ _ (by rfl) (v := .slice ov order.length oc) (by rfl) hi1 hs1 n (by rfl) ?b1 ?_; (case b1 => omega); intro g gc w2 hi2 hg2 hb2; have O2 := owns_blk (World.ownsRow.alloc hi1 (.cells #[.int .i64 n] 3)) hg2 ((Deep.blk_alloc_lt _ _ _ (Array.getElem?_eq_some_iff.1 O1).1).trans O1) (by decide); have c2 := cell_blk O2 0; have f2 := fz_blk O2 0; simp at c2)
        | fail)
      first
        | go_end0
        | (refine bodyPost_ret (v := .tuple #[]) (by simp [results, Try.results36]) rfl ?_)
      obtain ⟨h1, h2⟩ := ha.push ho hi hD hh hD1 hg1 hi2 hg2
      refine ⟨rfl, ?_, (below_box_base hlow.2.2.2 _).trans h2⟩
      rw [hV.out, if_neg hin]
      exact h1
  · have hV : visit order ⟨k, n⟩ = order := by simp [visit, hk]
    have hkb : (k != 2) = true := by simp [hk]
    rw [hV]
    have hlow := hst.low
    go_enter Try.func36, Try.ntmps36
    go_wp2
    first
      | go_end0
      | (refine bodyPost_ret (v := .tuple #[]) (by simp [results, Try.results36]) rfl ?_)
    exact ⟨rfl, hst.below (below_box _ _), (below_box_base hlow.2.2.2 _)⟩

end Go.Proofs.Ytbifdcchdoflpad
