/- Laws on making and copying slices whose elements take several cells, for every program. -/
import Derived.Test.YtahcgnmhhgcfmaaDoorCPlain
import Derived.WalkKit
import Derived.Laws.CopyOwn
import Derived.Deep.OwnRows
import Derived.Deep.Draws
import Derived.Deep.RegionLaw
import Derived.Deep.AppendLies
import Derived.Deep.AppendSrc
import Derived.Test.YtahcgnmhhgcfmaaDoorCHOwn
namespace Go.Proofs.YtahcgnmhhgcfmaaDoor
open Go.RowKit
variable {P : Program}

/-- 'make([]T, n)', T of k cells. -/
theorem run_make_rowk (k : Nat) (t e : TypeId) (z : Value) (bytes : Nat) (ht : P.underlying t = some (.slice e)) (hinfo : (P.info? e).map (fun i => (i.zero, i.size, i.bytes)) = some (some z, k, bytes))
    (kl kc : IntKind) (n : Nat) (hbytes : bytes * n ≤ 281474976710656) (h63 : n ≤ 9223372036854775807) (w : World) :
    (Instr.makeSlice t (.int kl (n : Int)) (.int kc (n : Int))).run P w = .ok (.slice (some ⟨w.heap.size, 0, none⟩) n n) (w.alloc (.cells (madeCells z.cells (n * k)) e)) := by
  obtain ⟨i, hi, hzz⟩ := Option.map_eq_some_iff.1 hinfo
  simp only [Prod.mk.injEq] at hzz
  obtain ⟨hz, hs, hb⟩ := hzz
  have hb' : (i.bytes : Int) * (n : Int) ≤ 281474976710656 := by
    have h : ((i.bytes * n : Nat) : Int) ≤ 281474976710656 := by rw [hb]; omega
    rwa [Int.natCast_mul] at h
  have hr := run_make (P := P) w t e i z ht hi hz kl kc n n (by omega) (Int.le_refl _) hb' (by omega)
  simp only [Int.toNat_natCast, hs] at hr
  exact hr

theorem toList_madeCells_two (a b : Value) : ∀ n : Nat, (madeCells #[a, b] (n * 2)).toList = pairs (List.replicate n (a, b)) := by
  intro n
  refine List.ext_getElem? fun j => ?_
  have hlen : (pairs (List.replicate n (a, b))).length = n * 2 := by simp [pairs_length]
  by_cases hj : j < n * 2
  · have h1 : (madeCells #[a, b] (n * 2)).toList[j]? = some (if j % 2 = 0 then a else b) := by
      simp only [madeCells, Array.toList_map, Array.toList_range, List.getElem?_map, List.getElem?_range hj, Option.map_some]
      rcases Nat.mod_two_eq_zero_or_one j with h | h <;> simp [h]
    rw [h1]
    rcases Nat.mod_two_eq_zero_or_one j with h | h
    · have e : j = j / 2 * 2 := by omega
      rw [if_pos h, e, pairs_fst, List.getElem?_replicate, if_pos (by omega)]
      rfl
    · have e : j = j / 2 * 2 + 1 := by omega
      rw [if_neg (by omega), e, pairs_snd, List.getElem?_replicate, if_pos (by omega)]
      rfl
  · rw [List.getElem?_eq_none (by simp [size_madeCells]; omega), List.getElem?_eq_none (by rw [hlen]; omega)]

theorem Tryd.infoO : (Tryd.prog.info? 82).map (fun i => (i.zero, i.size, i.bytes)) = some (some (.agg #[.slice none 0 0, .bool false]), 2, 32) := by kernel_rfl
theorem Tryd.infoV : (Tryd.prog.info? 78).map (fun i => (i.zero, i.size, i.bytes)) = some (some (.agg #[.int .i64 0, .int .i64 0]), 2, 16) := by kernel_rfl
theorem Tryd.sizeV : (Tryd.prog.info? 78).map (·.size) = some 2 := by kernel_rfl

theorem zeroVals_cells (n : Nat) : (madeCells #[.int .i64 0, .int .i64 0] (n * 2)).toList = valCells (zeroVals n) := by
  rw [toList_madeCells_two, valCells, zeroVals, List.map_replicate]; rfl

/-- A row of fields that 'make' made. -/
theorem vals_made (w : World) (base n : Nat) (hb : base ≤ w.heap.size) (hn : n ≤ maxLen) : ValsOwn (w.alloc (.cells (madeCells #[.int .i64 0, .int .i64 0] (n * 2)) 78)) base (.slice (some ⟨w.heap.size, 0, none⟩) n n) (zeroVals n) :=
  ⟨by simp [valCells_length], .inr ⟨w.heap.size, n, _, by simp [zeroVals], hb, Deep.blk_alloc_new w _, by simp [zeroVals], hn, by simp [size_madeCells], by rw [List.take_of_length_le (by simp [size_madeCells, zeroVals]), zeroVals_cells]⟩⟩

/-- A row of objects that 'make' made. -/
theorem heap_made (w : World) (base n : Nat) (hb : base ≤ w.heap.size) (hn : 32 * n ≤ 140737488351232) :
    HeapOwn (w.alloc (.cells (madeCells #[.slice none 0 0, .bool false] (n * 2)) 82)) base (.slice (some ⟨w.heap.size, 0, none⟩) n n) (List.replicate n (.slice none 0 0, ⟨[], false⟩)) := by
  refine ⟨⟨by simp [obCells_length], .inr ⟨w.heap.size, n, _, by simp, hb, Deep.blk_alloc_new w _, by simp, by unfold maxLen; omega, by simp [size_madeCells], ?_⟩⟩, fun i p hp => ?_, fun i j p q hp hq _ => ?_, by simpa using hn⟩
  · rw [List.take_of_length_le (by simp [size_madeCells]), toList_madeCells_two, obCells, List.map_replicate]; rfl
  · rw [List.getElem?_replicate] at hp
    split at hp
    · simp at hp
      subst hp
      exact ⟨World.ownsRow_nil _ _ _ _, by simp⟩
    · cases hp
  · rw [List.getElem?_replicate] at hp
    split at hp
    · simp at hp
      subst hp
      exact Or.inl rfl
    · cases hp

/-- The cells of values that lie somewhere, as copy asks for them. -/
theorem vals_src {w : World} {ao : Option Addr} {l : List Vl} (h : ValsAt w ao l) (hn : 0 < l.length) : ∃ ad, ao = some ad ∧ ∀ j v, (valCells l)[j]? = some v → w.cell? (ad.add j) = some v := by
  obtain ⟨x, hx⟩ := at_some hn
  obtain ⟨b, o, rfl, _, _⟩ := h 0 x hx
  refine ⟨_, rfl, fun j v hv => ?_⟩
  have hj : j < l.length * 2 := by
    have := (List.getElem?_eq_some_iff.1 hv).1
    rwa [valCells_length] at this
  obtain ⟨y, hy⟩ := at_some (l := l) (i := j / 2) (by omega)
  obtain ⟨b', o', e, c1, c2⟩ := h (j / 2) y hy
  simp only [Option.some.injEq, Addr.mk.injEq, and_true] at e
  obtain ⟨rfl, rfl⟩ := e
  have hadd : (⟨b, o, none⟩ : Addr).add j = ⟨b, o + j, none⟩ := by unfold Addr.add; split <;> simp_all
  rw [hadd]
  rcases Nat.mod_two_eq_zero_or_one j with h2 | h2
  · have e : j = j / 2 * 2 := by omega
    rw [e, valCells, pairs_fst] at hv
    simp [hy, valPair] at hv
    rw [e, c1, hv]
  · have e : j = j / 2 * 2 + 1 := by omega
    rw [e, valCells, pairs_snd] at hv
    simp [hy, valPair] at hv
    rw [e, ← Nat.add_assoc, c2, hv]

theorem cells2_new (w : World) (a b : Value) (t : TypeId) (m : Nat) (hm : m = w.heap.size) : ∀ j u, [a, b][j]? = some u → (w.alloc (.cells #[a, b] t)).cell? ((⟨m, 0, none⟩ : Addr).add j) = some u := by
  subst hm
  intro j u hj
  have hb := Deep.blk_alloc_new w (.cells #[a, b] t)
  have e : (⟨w.heap.size, 0, none⟩ : Addr).add j = ⟨w.heap.size, j, none⟩ := by unfold Addr.add; split <;> simp_all
  rw [e]
  simp only [World.cell?, hb]
  simpa using hj

theorem valCells_snoc (l : List Vl) (k n : Int) : valCells (l ++ [⟨k, n⟩]) = valCells l ++ [.int .i64 k, .int .i64 n] := by simp [valCells, pairs_append, pairs, valPair]
theorem obCells_snoc (l : List (Value × Ob)) (v : Value) (o : Ob) : obCells (l ++ [(v, o)]) = obCells l ++ [v, .bool o.dead] := by simp [obCells, pairs_append, pairs, obPair]

/-- 'append(v, x)', x a value. -/
theorem wpList_pushVal {w : World} {base : Nat} {v : Value} {l : List Vl} {ops : Array Oper} {rest : List Oper} {o : Oper} {a : Act} {Q : Exit → Act → World → Prop} (hgd : o.guard = none) (s x : Operand)
    (ho : o.op = .call { callee := .builtin .append, args := #[s, x], argTypes := #[80, 80] }) (hs : a.eval s = v) (hO : ValsOwn w base v l) (hb : base ≤ w.heap.size)
    (k n : Int) (hx : a.eval x = .slice (some ⟨w.heap.size, 0, none⟩) 1 1) (hl : 16 * l.length + 16 ≤ 140737488355328)
    (h : ∀ v' w', ValsOwn w' base v' (l ++ [⟨k, n⟩]) → (w.alloc (.cells #[.int .i64 k, .int .i64 n] 78)).grownBy w' v.ownBlock → Below base w w' → wpList Tryd.prog ops Q rest (a.put o.dst v') w') :
    wpList Tryd.prog ops Q (o :: rest) a (w.alloc (.cells #[.int .i64 k, .int .i64 n] 78)) := by
  obtain ⟨i0, hi0, hzz⟩ := Option.map_eq_some_iff.1 Tryd.infoV
  simp only [Prod.mk.injEq] at hzz
  obtain ⟨hz0, hz1, hz2⟩ := hzz
  refine wpList_append_own _ hgd s x 80 ho base 78 i0 (.agg #[.int .i64 0, .int .i64 0]) 2 16 Tryd.underlying80 hi0 hz0 hz1 hz2 rfl (by decide) v l.length (valCells l) hs (World.ownsRow.alloc hO _) ⟨w.heap.size, 0, none⟩ 1 1 [.int .i64 k, .int .i64 n] hx rfl (cells2_new _ _ _ _ _ rfl) ?_ (by unfold maxLen; omega) (by omega) (by simp; omega) ?_
  · intro u hu
    simp at hu
    rcases hu with rfl | rfl <;> rfl
  · intro v' w' h1 h2 _
    refine h v' w' ?_ h2 ((below_box_base hb _).trans ((Below.refl _ _).grown h2 (by simp; omega) (fun j hj => (World.ownsRow.lt hO j hj).1)))
    unfold ValsOwn
    rw [valCells_snoc]
    simpa using h1

/-- 'append(v, x)', x a value; the new slice written out. -/
theorem wpList_pushValL {w : World} {base : Nat} {v : Value} {l : List Vl} {ops : Array Oper} {rest : List Oper} {o : Oper} {a : Act} {Q : Exit → Act → World → Prop} (hgd : o.guard = none) (s x : Operand)
    (ho : o.op = .call { callee := .builtin .append, args := #[s, x], argTypes := #[80, 80] }) (hs : a.eval s = v) (hO : ValsOwn w base v l) (hb : base ≤ w.heap.size)
    (k n : Int) (hx : a.eval x = .slice (some ⟨w.heap.size, 0, none⟩) 1 1) (hl : 16 * l.length + 16 ≤ 140737488355328)
    (h : ∀ g cap w', ValsOwn w' base (.slice (some ⟨g, 0, none⟩) (l.length + 1) cap) (l ++ [⟨k, n⟩]) → Below base w w' → wpList Tryd.prog ops Q rest (a.put o.dst (.slice (some ⟨g, 0, none⟩) (l.length + 1) cap)) w') :
    wpList Tryd.prog ops Q (o :: rest) a (w.alloc (.cells #[.int .i64 k, .int .i64 n] 78)) := by
  obtain ⟨i0, hi0, hzz⟩ := Option.map_eq_some_iff.1 Tryd.infoV
  simp only [Prod.mk.injEq] at hzz
  obtain ⟨hz0, hz1, hz2⟩ := hzz
  refine wpList_append_lies _ hgd s x 80 ho base 78 i0 (.agg #[.int .i64 0, .int .i64 0]) 2 16 Tryd.underlying80 hi0 hz0 hz1 hz2 rfl (by decide) v l.length (valCells l) hs (World.ownsRow.alloc hO _) ⟨w.heap.size, 0, none⟩ 1 1 [.int .i64 k, .int .i64 n] hx rfl (cells2_new _ _ _ _ _ rfl) ?_ (by decide) (by unfold maxLen; omega) (by omega) (by simp; omega) (w.heap.size + 1) (by simp) ?_
  · intro u hu
    simp at hu
    rcases hu with rfl | rfl <;> rfl
  · intro g cap w' h1 h2 _ _
    refine h g cap w' ?_ ((below_box_base hb _).trans ((Below.refl _ _).grown h2 (by simp; omega) (fun j hj => (World.ownsRow.lt hO j hj).1)))
    unfold ValsOwn
    rw [valCells_snoc]
    simpa using h1

/-- 'append(v, x)', x a value; the new slice written out, and where it lies. -/
theorem wpList_pushValA {w : World} {base : Nat} {v : Value} {l : List Vl} {ops : Array Oper} {rest : List Oper} {o : Oper} {a : Act} {Q : Exit → Act → World → Prop} (hgd : o.guard = none) (s x : Operand)
    (ho : o.op = .call { callee := .builtin .append, args := #[s, x], argTypes := #[80, 80] }) (hs : a.eval s = v) (hO : ValsOwn w base v l) (hb : base ≤ w.heap.size)
    (k n : Int) (hx : a.eval x = .slice (some ⟨w.heap.size, 0, none⟩) 1 1) (hl : 16 * l.length + 16 ≤ 140737488355328)
    (h : ∀ g cap w', ValsOwn w' base (.slice (some ⟨g, 0, none⟩) (l.length + 1) cap) (l ++ [⟨k, n⟩]) → (w.alloc (.cells #[.int .i64 k, .int .i64 n] 78)).grownBy w' v.ownBlock → (v.ownBlock = some g ∨ w.heap.size < g) → wpList Tryd.prog ops Q rest (a.put o.dst (.slice (some ⟨g, 0, none⟩) (l.length + 1) cap)) w') :
    wpList Tryd.prog ops Q (o :: rest) a (w.alloc (.cells #[.int .i64 k, .int .i64 n] 78)) := by
  obtain ⟨i0, hi0, hzz⟩ := Option.map_eq_some_iff.1 Tryd.infoV
  simp only [Prod.mk.injEq] at hzz
  obtain ⟨hz0, hz1, hz2⟩ := hzz
  refine wpList_append_lies _ hgd s x 80 ho base 78 i0 (.agg #[.int .i64 0, .int .i64 0]) 2 16 Tryd.underlying80 hi0 hz0 hz1 hz2 rfl (by decide) v l.length (valCells l) hs (World.ownsRow.alloc hO _) ⟨w.heap.size, 0, none⟩ 1 1 [.int .i64 k, .int .i64 n] hx rfl (cells2_new _ _ _ _ _ rfl) ?_ (by decide) (by unfold maxLen; omega) (by omega) (by simp; omega) (w.heap.size + 1) (by simp) ?_
  · intro u hu
    simp at hu
    rcases hu with rfl | rfl <;> rfl
  · intro g cap w' h1 h2 h3 _
    refine h g cap w' ?_ h2 (h3.imp id (fun e => by omega))
    unfold ValsOwn
    rw [valCells_snoc]
    simpa using h1

/-- 'append(v, x)', x an object, at a step of a region that draws. -/
theorem step_pushOb {w : World} {base : Nat} {v : Value} {rows : List (Value × Ob)} {ops : Array Oper} {o : Oper} {a : Act} {K : Act → World → Prop} {Q : Exit → Act → World → Prop} {E : Prop} (hgd : o.guard = none) (s x : Operand)
    (ho : o.op = .call { callee := .builtin .append, args := #[s, x], argTypes := #[83, 83] }) (hs : a.eval s = v) (hO : HeapOwn w base v rows) (hb : base ≤ w.heap.size)
    (nv : Value) (ob : Ob) (h1 : nv.oneCell' = true) (hv : ValsOwn w base nv ob.fs) (hl : 16 * ob.fs.length ≤ 140737488351232) (hap : ∀ (j : Nat) q, rows[j]? = some q → nv.ownBlock = none ∨ nv.ownBlock ≠ q.1.ownBlock) (hm : 32 * rows.length + 32 ≤ 140737488351232)
    (hx : a.eval x = .slice (some ⟨w.heap.size, 0, none⟩) 1 1)
    (h : ∀ g cap w', HeapOwn w' base (.slice (some ⟨g, 0, none⟩) (rows.length + 1) cap) (rows ++ [(nv, ob)]) → Below base w w' → (w.alloc (.cells #[nv, .bool ob.dead] 82)).grownBy w' v.ownBlock → K (a.put o.dst (.slice (some ⟨g, 0, none⟩) (rows.length + 1) cap)) w') :
    if Region.wanted o (yielded ops a.tmps) = true then Oper.wp Tryd.prog o a (w.alloc (.cells #[nv, .bool ob.dead] 82)) K Q else E := by
  obtain ⟨i0, hi0, hzz⟩ := Option.map_eq_some_iff.1 Tryd.infoO
  simp only [Prod.mk.injEq] at hzz
  obtain ⟨hz0, hz1, hz2⟩ := hzz
  refine step_append_lies _ hgd s x 83 ho base 82 i0 (.agg #[.slice none 0 0, .bool false]) 2 32 Tryd.underlying83 hi0 hz0 hz1 hz2 rfl (by decide) v rows.length (obCells rows) hs (hO.alloc _).top ⟨w.heap.size, 0, none⟩ 1 1 [nv, .bool ob.dead] hx rfl (cells2_new _ _ _ _ _ rfl) ?_ (by decide) (by unfold maxLen; omega) (by omega) (by simp; omega) (w.heap.size + 1) (by simp) ?_
  · intro u hu
    simp at hu
    rcases hu with rfl | rfl
    · exact h1
    · rfl
  · intro g cap w' hown hg _ _
    refine h g cap w' ((hO.alloc _).push nv ob (World.ownsRow.alloc hv _) hl hap hm hown hg) ((below_box_base hb _).trans ((Below.refl _ _).grown hg (by simp; omega) (fun j hj => (World.ownsRow.lt hO.top j hj).1))) hg

/-- 'append(v, x)', x an object. -/
theorem wpList_pushOb {w : World} {base : Nat} {v : Value} {rows : List (Value × Ob)} {ops : Array Oper} {rest : List Oper} {o : Oper} {a : Act} {Q : Exit → Act → World → Prop} (hgd : o.guard = none) (s x : Operand)
    (ho : o.op = .call { callee := .builtin .append, args := #[s, x], argTypes := #[83, 83] }) (hs : a.eval s = v) (hO : HeapOwn w base v rows) (hb : base ≤ w.heap.size)
    (nv : Value) (ob : Ob) (h1 : nv.oneCell' = true) (hv : ValsOwn w base nv ob.fs) (hl : 16 * ob.fs.length ≤ 140737488351232) (hap : ∀ (j : Nat) q, rows[j]? = some q → nv.ownBlock = none ∨ nv.ownBlock ≠ q.1.ownBlock) (hm : 32 * rows.length + 32 ≤ 140737488351232)
    (hx : a.eval x = .slice (some ⟨w.heap.size, 0, none⟩) 1 1)
    (h : ∀ g cap w', HeapOwn w' base (.slice (some ⟨g, 0, none⟩) (rows.length + 1) cap) (rows ++ [(nv, ob)]) → Below base w w' → (w.alloc (.cells #[nv, .bool ob.dead] 82)).grownBy w' v.ownBlock → wpList Tryd.prog ops Q rest (a.put o.dst (.slice (some ⟨g, 0, none⟩) (rows.length + 1) cap)) w') :
    wpList Tryd.prog ops Q (o :: rest) a (w.alloc (.cells #[nv, .bool ob.dead] 82)) := by
  obtain ⟨i0, hi0, hzz⟩ := Option.map_eq_some_iff.1 Tryd.infoO
  simp only [Prod.mk.injEq] at hzz
  obtain ⟨hz0, hz1, hz2⟩ := hzz
  refine wpList_append_lies _ hgd s x 83 ho base 82 i0 (.agg #[.slice none 0 0, .bool false]) 2 32 Tryd.underlying83 hi0 hz0 hz1 hz2 rfl (by decide) v rows.length (obCells rows) hs (hO.alloc _).top ⟨w.heap.size, 0, none⟩ 1 1 [nv, .bool ob.dead] hx rfl (cells2_new _ _ _ _ _ rfl) ?_ (by decide) (by unfold maxLen; omega) (by omega) (by simp; omega) (w.heap.size + 1) (by simp) ?_
  · intro u hu
    simp at hu
    rcases hu with rfl | rfl
    · exact h1
    · rfl
  · intro g cap w' hown hg _ _
    refine h g cap w' ((hO.alloc _).push nv ob (World.ownsRow.alloc hv _) hl hap hm hown hg) ((below_box_base hb _).trans ((Below.refl _ _).grown hg (by simp; omega) (fun j hj => (World.ownsRow.lt hO.top j hj).1))) hg

/-- 'append(v, x...)', x empty: nothing turns. -/
theorem run_append_zero {w : World} {base : Nat} {t ty e : TypeId} {i : TypeInfo} {size n : Nat} {v : Value} {xs : List Value} (ht : P.underlying t = some (.slice e)) (hi : P.info? e = some i) (hown : w.ownsRow base e size v n xs) (fa : Option Addr) (fc : Nat) :
    (Builtin.append_ #[t, t] ty #[v, .slice fa 0 fc]).run P w = .ok v w := by
  have hsrc : Src P i.size t (.slice fa 0 fc) 0 [] w := by
    cases fa with
    | none => exact Src.ofNil w ht fc
    | some a => exact Src.ofSlice w ht a 0 fc [] (by simp) (by simp) (by simp)
  rcases hown.2 with ⟨rfl, rfl⟩ | ⟨g, cap, cur, rfl, _, _, h1, _⟩
  · cases fa <;> simp [Builtin.append_, run_underlying ht, sizeOf, typeInfo, hi, Builtin.lenOf, Builtin.firstCells, loadCells, loadCellsFrom]
  · have := run_append_room_src (P := P) w t t ty e i ht hi g 0 n cap (.slice fa 0 fc) 0 [] hsrc (by omega) (by simp) (by simp)
    rw [this]
    simp [World.setCells]

theorem wpList_append_zero {w : World} {base : Nat} {t e : TypeId} {i : TypeInfo} {size n : Nat} {v : Value} {xs : List Value} {ops : Array Oper} {rest : List Oper} {o : Oper} {a : Act} {Q : Exit → Act → World → Prop} (hgd : o.guard = none) (s x : Operand)
    (ho : o.op = .call { callee := .builtin .append, args := #[s, x], argTypes := #[t, t] }) (ht : P.underlying t = some (.slice e)) (hi : P.info? e = some i) (hs : a.eval s = v) (hown : w.ownsRow base e size v n xs) (fa : Option Addr) (fc : Nat) (hx : a.eval x = .slice fa 0 fc)
    (h : wpList P ops Q rest (a.put o.dst v) w) : wpList P ops Q (o :: rest) a w :=
  wpList_plain hgd fun K hK => by
    have hr := run_append_zero (P := P) (ty := o.type) ht hi hown fa fc
    unfold Oper.wp execOp
    simp only [ho, resolve, invoke, builtin, Sem.run_bind, Sem.run_pure, Result.andThen_ok, List.map_toArray, List.map_cons, List.map_nil, hs, hx, hr]
    exact hK _ _ h

/-- 'append(v, x...)', x some values. -/
theorem wpList_pushVals {w : World} {base : Nat} {v : Value} {l : List Vl} {ops : Array Oper} {rest : List Oper} {o : Oper} {a : Act} {Q : Exit → Act → World → Prop} (hgd : o.guard = none) (s x : Operand)
    (ho : o.op = .call { callee := .builtin .append, args := #[s, x], argTypes := #[80, 80] }) (hs : a.eval s = v) (hO : ValsOwn w base v l) (hb : base ≤ w.heap.size)
    (fs : List Vl) (fa : Option Addr) (fc : Nat) (hx : a.eval x = .slice fa fs.length fc) (hfs : ValsAt w fa fs) (hpos : 0 < fs.length) (hl : 16 * l.length + 16 * fs.length ≤ 140737488355328)
    (h : ∀ g cap w', ValsOwn w' base (.slice (some ⟨g, 0, none⟩) (l.length + fs.length) cap) (l ++ fs) → w.grownBy w' v.ownBlock → Below base w w' → wpList Tryd.prog ops Q rest (a.put o.dst (.slice (some ⟨g, 0, none⟩) (l.length + fs.length) cap)) w') :
    wpList Tryd.prog ops Q (o :: rest) a w := by
  obtain ⟨i0, hi0, hzz⟩ := Option.map_eq_some_iff.1 Tryd.infoV
  simp only [Prod.mk.injEq] at hzz
  obtain ⟨hz0, hz1, hz2⟩ := hzz
  obtain ⟨ad, rfl, hsrc⟩ := vals_src hfs hpos
  refine wpList_append_lies _ hgd s x 80 ho base 78 i0 (.agg #[.int .i64 0, .int .i64 0]) 2 16 Tryd.underlying80 hi0 hz0 hz1 hz2 rfl (by decide) v l.length (valCells l) hs hO ad fs.length fc (valCells fs) hx (valCells_length _) hsrc (valCells_one _) hpos (by unfold maxLen; omega) (by omega) hb w.heap.size rfl ?_
  intro g cap w' h1 h2 _ _
  refine h g cap w' ?_ h2 ((Below.refl _ _).grown h2 hb (fun j hj => (World.ownsRow.lt hO j hj).1))
  unfold ValsOwn
  have e : valCells (l ++ fs) = valCells l ++ valCells fs := by simp [valCells, pairs_append]
  rw [e, List.length_append]
  exact h1

theorem step_append_zero {w : World} {base : Nat} {t e : TypeId} {i : TypeInfo} {size n : Nat} {v : Value} {xs : List Value} {ops : Array Oper} {o : Oper} {a : Act} {K : Act → World → Prop} {Q : Exit → Act → World → Prop} {E : Prop} (hgd : o.guard = none) (s x : Operand)
    (ho : o.op = .call { callee := .builtin .append, args := #[s, x], argTypes := #[t, t] }) (ht : P.underlying t = some (.slice e)) (hi : P.info? e = some i) (hs : a.eval s = v) (hown : w.ownsRow base e size v n xs) (fa : Option Addr) (fc : Nat) (hx : a.eval x = .slice fa 0 fc)
    (h : K (a.put o.dst v) w) : if Region.wanted o (yielded ops a.tmps) = true then Oper.wp P o a w K Q else E := by
  have hw : Region.wanted o (yielded ops a.tmps) = true := by simp [Region.wanted, hgd]
  rw [if_pos hw]
  have hr := run_append_zero (P := P) (ty := o.type) ht hi hown fa fc
  unfold Oper.wp execOp
  simp only [ho, resolve, invoke, builtin, Sem.run_bind, Sem.run_pure, Result.andThen_ok, List.map_toArray, List.map_cons, List.map_nil, hs, hx, hr]
  exact h

/-- 'append(v, x...)', x some values, at a step of a region that draws. -/
theorem step_pushVals {w : World} {base : Nat} {v : Value} {l : List Vl} {ops : Array Oper} {o : Oper} {a : Act} {K : Act → World → Prop} {Q : Exit → Act → World → Prop} {E : Prop} (hgd : o.guard = none) (s x : Operand)
    (ho : o.op = .call { callee := .builtin .append, args := #[s, x], argTypes := #[80, 80] }) (hs : a.eval s = v) (hO : ValsOwn w base v l) (hb : base ≤ w.heap.size)
    (fs : List Vl) (fa : Option Addr) (fc : Nat) (hx : a.eval x = .slice fa fs.length fc) (hfs : ValsAt w fa fs) (hpos : 0 < fs.length) (hl : 16 * l.length + 16 * fs.length ≤ 140737488355328)
    (h : ∀ g cap w', ValsOwn w' base (.slice (some ⟨g, 0, none⟩) (l.length + fs.length) cap) (l ++ fs) → w.grownBy w' v.ownBlock → Below base w w' → K (a.put o.dst (.slice (some ⟨g, 0, none⟩) (l.length + fs.length) cap)) w') :
    if Region.wanted o (yielded ops a.tmps) = true then Oper.wp Tryd.prog o a w K Q else E := by
  obtain ⟨i0, hi0, hzz⟩ := Option.map_eq_some_iff.1 Tryd.infoV
  simp only [Prod.mk.injEq] at hzz
  obtain ⟨hz0, hz1, hz2⟩ := hzz
  obtain ⟨ad, rfl, hsrc⟩ := vals_src hfs hpos
  refine step_append_lies _ hgd s x 80 ho base 78 i0 (.agg #[.int .i64 0, .int .i64 0]) 2 16 Tryd.underlying80 hi0 hz0 hz1 hz2 rfl (by decide) v l.length (valCells l) hs hO ad fs.length fc (valCells fs) hx (valCells_length _) hsrc (valCells_one _) hpos (by unfold maxLen; omega) (by omega) hb w.heap.size rfl ?_
  intro g cap w' h1 h2 _ _
  refine h g cap w' ?_ h2 ((Below.refl _ _).grown h2 hb (fun j hj => (World.ownsRow.lt hO j hj).1))
  unfold ValsOwn
  have e : valCells (l ++ fs) = valCells l ++ valCells fs := by simp [valCells, pairs_append]
  rw [e, List.length_append]
  exact h1

theorem vals_other {w w' : World} {base : Nat} {v : Value} {l : List Vl} (h : ValsOwn w base v l) (hg : w.grownBy w' v.ownBlock) {k : Nat} {c : Array Value} {t' : TypeId} (hk : w.heap[k]? = some (.cells c t' (0, 0))) (hne : t' ≠ 78) : w'.heap[k]? = some (.cells c t' (0, 0)) :=
  owns_blk h hg hk hne

end Go.Proofs.YtahcgnmhhgcfmaaDoor
