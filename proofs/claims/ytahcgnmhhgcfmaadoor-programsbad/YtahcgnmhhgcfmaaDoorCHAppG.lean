/- Rows of whatever structs: how they lie; 'append' of them. -/
import Derived.Test.YtahcgnmhhgcfmaaDoorCPlain
import Derived.Test.YtahcgnmhhgcfmaaDoorChecked
import Derived.Deep.AppendLies
import Derived.Deep.AppendSrc
namespace Go.Proofs.YtahcgnmhhgcfmaaDoor
open Go.RowKit

/-- What is known of a kind of element: its cells, its type, the type of slices of it. -/
structure RowT (P : Program) {α : Type} (f : α → List Value) (s : Nat) (tS e : TypeId) (bytes : Nat) : Prop where
  len : ∀ x, (f x).length = s
  one : ∀ x, ∀ v ∈ f x, v.oneCell' = true
  pos : 0 < s
  sl : P.underlying tS = some (.slice e)
  info : ∃ z, (P.info? e).map (fun i => (i.zero, i.size, i.bytes)) = some (some z, s, bytes) ∧ z.cells.size = s

/-- A slice of the call's own memory that holds these. -/
def SeqOwn {α : Type} (f : α → List Value) (s : Nat) (e : TypeId) (w : World) (base : Nat) (v : Value) (l : List α) : Prop := w.ownsRow base e s v l.length (l.flatMap f)

/-- These lie in a row. -/
def SeqAt {α : Type} (f : α → List Value) (s : Nat) (w : World) (ao : Option Addr) (l : List α) : Prop :=
  ∀ (i : Nat) x, l[i]? = some x → ∃ b o, ao = some ⟨b, o, none⟩ ∧ ∀ (j : Nat) u, (f x)[j]? = some u → w.cell? ⟨b, o + i * s + j, none⟩ = some u

section
variable {α : Type} {f : α → List Value} {s : Nat} {e tS : TypeId} {bytes : Nat} {P : Program}

theorem SeqAt.keeps {w w' : World} {ao : Option Addr} {l : List α} (h : SeqAt f s w ao l) (k : Keeps w w') : SeqAt f s w' ao l := fun i x hx => by
  obtain ⟨b, o, e, hc⟩ := h i x hx
  exact ⟨b, o, e, fun j u hu => k _ _ (hc j u hu)⟩

theorem SeqAt.other {w w' : World} {ao : Option Addr} {l : List α} (hf : ∀ x, 0 < (f x).length) (h : SeqAt f s w ao l) (hk : ∀ b o, ao = some ⟨b, o, none⟩ → b < w.heap.size → w'.heap[b]? = w.heap[b]?) : SeqAt f s w' ao l := fun i x hx => by
  obtain ⟨b, o, e, hc⟩ := h i x hx
  have h0 := hc 0 _ (List.getElem?_eq_getElem (hf x))
  have hb : w'.heap[b]? = w.heap[b]? := hk b o e (World.block_lt_of_cell? _ _ h0)
  exact ⟨b, o, e, fun j u hu => by rw [World.cell?_of_block (a := ⟨b, o + i * s + j, none⟩) hb]; exact hc j u hu⟩

theorem SeqOwn.form {w : World} {base : Nat} {v : Value} {l : List α} (h : SeqOwn f s e w base v l) : ∃ ao c, v = .slice ao l.length c := by
  rcases ownsRow_shape h with ⟨rfl, hn⟩ | ⟨g, cap, rfl, _⟩
  · exact ⟨none, 0, by rw [hn]⟩
  · exact ⟨_, _, rfl⟩

theorem SeqOwn.at (hT : ∀ x, (f x).length = s) {w : World} {base : Nat} {ao : Option Addr} {n c : Nat} {l : List α} (h : SeqOwn f s e w base (.slice ao n c) l) : SeqAt f s w ao l := fun i x hx => by
  rcases ownsRow_shape h with ⟨_, hn⟩ | ⟨g, cap, hv, _⟩
  · have : l = [] := List.eq_nil_of_length_eq_zero hn
    subst this
    simp at hx
  · simp only [Value.slice.injEq] at hv
    obtain ⟨rfl, rfl, rfl⟩ := hv
    refine ⟨g, 0, rfl, fun j u hu => ?_⟩
    have hj : j < s := by rw [← hT x]; exact (List.getElem?_eq_some_iff.1 hu).1
    rw [Nat.zero_add]
    exact ownsRow_at h rfl ((flat_get hT l i j hx hj).trans hu)

theorem SeqOwn.lt {w : World} {base g n c o : Nat} {l : List α} (h : SeqOwn f s e w base (.slice (some ⟨g, o, none⟩) n c) l) : base ≤ g ∧ g < w.heap.size := by
  rcases ownsRow_shape h with ⟨hv, _⟩ | ⟨g', cap, hv, h1, h2⟩
  · simp at hv
  · simp only [Value.slice.injEq, Option.some.injEq, Addr.mk.injEq, and_true] at hv
    rw [hv.1.1]
    exact ⟨h1, h2⟩

theorem SeqOwn.below {w w' : World} {base : Nat} {v : Value} {l : List α} (h : SeqOwn f s e w base v l) (hb : Below w.heap.size w w') : SeqOwn f s e w' base v l := by
  refine World.ownsRow.kept h (row := none) ⟨hb.os, hb.tape, hb.output, hb.size, fun j hj _ => hb.block j hj⟩ ?_
  cases h0 : v.ownBlock with
  | none => exact Or.inl rfl
  | some g => exact Or.inr (by simp)

theorem SeqOwn.grown {w w' : World} {base : Nat} {v : Value} {l : List α} {row : Option Nat} (h : SeqOwn f s e w base v l) (hg : w.grownBy w' row) (hn : v.ownBlock = none ∨ v.ownBlock ≠ row) : SeqOwn f s e w' base v l := World.ownsRow.kept h hg hn

theorem SeqOwn.le {w : World} {base base' : Nat} {v : Value} {l : List α} (h : SeqOwn f s e w base v l) (hb : base' ≤ base) : SeqOwn f s e w base' v l := by
  refine ⟨h.1, ?_⟩
  rcases h.2 with hn | ⟨g, cap, cur, h0, h1, h2⟩
  · exact Or.inl hn
  · exact Or.inr ⟨g, cap, cur, h0, by omega, h2⟩

theorem seqOwn_nil (w : World) (base : Nat) : SeqOwn f s e w base (.slice none 0 0) [] := World.ownsRow_nil _ _ _ _

theorem seq_src (hT : ∀ x, (f x).length = s) (hs : 0 < s) {w : World} {fa : Option Addr} {fs : List α} (h : SeqAt f s w fa fs) (hpos : 0 < fs.length) : ∃ ad, fa = some ad ∧ ∀ j u, (fs.flatMap f)[j]? = some u → w.cell? (ad.add j) = some u := by
  obtain ⟨b, o, rfl, _⟩ := h 0 _ (List.getElem?_eq_getElem hpos)
  refine ⟨_, rfl, fun j u hu => ?_⟩
  have hj : j < fs.length * s := by rw [← flat_length hT]; exact (List.getElem?_eq_some_iff.1 hu).1
  have hjs : j % s < s := Nat.mod_lt _ hs
  have hjd : j / s < fs.length := Nat.div_lt_of_lt_mul (by rw [Nat.mul_comm]; exact hj)
  have hx := List.getElem?_eq_getElem hjd
  obtain ⟨b', o', e', hc⟩ := h (j / s) _ hx
  simp only [Option.some.injEq, Addr.mk.injEq, and_true] at e'
  obtain ⟨rfl, rfl⟩ := e'
  have h1 := flat_get hT fs (j / s) (j % s) hx hjs
  rw [Nat.div_add_mod'] at h1
  rw [h1] at hu
  have h2 := hc _ _ hu
  have hadd : (⟨b, o, none⟩ : Addr).add j = ⟨b, o + j, none⟩ := by unfold Addr.add; split <;> simp_all
  rw [hadd]
  rw [Nat.add_assoc, Nat.div_add_mod'] at h2
  exact h2

theorem seq_one (T : RowT P f s tS e bytes) (l : List α) : ∀ u ∈ l.flatMap f, u.oneCell' = true := fun u hu => by
  obtain ⟨x, _, hx⟩ := List.mem_flatMap.1 hu
  exact T.one x u hx

/-- 'append(v, x...)', x some. -/
theorem wpList_seq (T : RowT P f s tS e bytes) {w : World} {base : Nat} {v : Value} {l : List α} {ops : Array Oper} {rest : List Oper} {o : Oper} {a : Act} {Q : Exit → Act → World → Prop} (hgd : o.guard = none) (p q : Operand)
    (ho : o.op = .call { callee := .builtin .append, args := #[p, q], argTypes := #[tS, tS] }) (hp : a.eval p = v) (hO : SeqOwn f s e w base v l) (hb : base ≤ w.heap.size)
    (fs : List α) (fa : Option Addr) (fc : Nat) (hq : a.eval q = .slice fa fs.length fc) (hfs : SeqAt f s w fa fs) (hpos : 0 < fs.length) (hl : (l.length + fs.length) * bytes ≤ 140737488355328) (hl2 : l.length + fs.length ≤ maxLen)
    (h : ∀ g cap w', SeqOwn f s e w' base (.slice (some ⟨g, 0, none⟩) (l.length + fs.length) cap) (l ++ fs) → w.grownBy w' v.ownBlock → Below base w w' → (v.ownBlock = some g ∨ g = w.heap.size) → wpList P ops Q rest (a.put o.dst (.slice (some ⟨g, 0, none⟩) (l.length + fs.length) cap)) w') :
    wpList P ops Q (o :: rest) a w := by
  obtain ⟨z, hinfo, hzc⟩ := T.info
  obtain ⟨i0, hi0, hzz⟩ := Option.map_eq_some_iff.1 hinfo
  simp only [Prod.mk.injEq] at hzz
  obtain ⟨hz0, hz1, hz2⟩ := hzz
  obtain ⟨ad, rfl, hsrc⟩ := seq_src T.len T.pos hfs hpos
  refine wpList_append_lies _ hgd p q tS ho base e i0 z s bytes T.sl hi0 hz0 hz1 hz2 hzc T.pos v l.length (l.flatMap f) hp hO ad fs.length fc (fs.flatMap f) hq (flat_length T.len _) hsrc (seq_one T _) hpos hl2 hl hb w.heap.size rfl ?_
  intro g cap w' h1 h2 h3 _
  refine h g cap w' ?_ h2 ((Below.refl _ _).grown h2 hb (fun j hj => (World.ownsRow.lt hO j hj).1)) h3
  unfold SeqOwn
  rw [List.flatMap_append, List.length_append]
  exact h1

/-- The same at a step of a region that draws. -/
theorem step_seq (T : RowT P f s tS e bytes) {w : World} {base : Nat} {v : Value} {l : List α} {ops : Array Oper} {o : Oper} {a : Act} {K : Act → World → Prop} {Q : Exit → Act → World → Prop} {E : Prop} (hgd : o.guard = none) (p q : Operand)
    (ho : o.op = .call { callee := .builtin .append, args := #[p, q], argTypes := #[tS, tS] }) (hp : a.eval p = v) (hO : SeqOwn f s e w base v l) (hb : base ≤ w.heap.size)
    (fs : List α) (fa : Option Addr) (fc : Nat) (hq : a.eval q = .slice fa fs.length fc) (hfs : SeqAt f s w fa fs) (hpos : 0 < fs.length) (hl : (l.length + fs.length) * bytes ≤ 140737488355328) (hl2 : l.length + fs.length ≤ maxLen)
    (h : ∀ g cap w', SeqOwn f s e w' base (.slice (some ⟨g, 0, none⟩) (l.length + fs.length) cap) (l ++ fs) → w.grownBy w' v.ownBlock → Below base w w' → (v.ownBlock = some g ∨ g = w.heap.size) → K (a.put o.dst (.slice (some ⟨g, 0, none⟩) (l.length + fs.length) cap)) w') :
    if Region.wanted o (yielded ops a.tmps) = true then Oper.wp P o a w K Q else E := by
  obtain ⟨z, hinfo, hzc⟩ := T.info
  obtain ⟨i0, hi0, hzz⟩ := Option.map_eq_some_iff.1 hinfo
  simp only [Prod.mk.injEq] at hzz
  obtain ⟨hz0, hz1, hz2⟩ := hzz
  obtain ⟨ad, rfl, hsrc⟩ := seq_src T.len T.pos hfs hpos
  refine step_append_lies _ hgd p q tS ho base e i0 z s bytes T.sl hi0 hz0 hz1 hz2 hzc T.pos v l.length (l.flatMap f) hp hO ad fs.length fc (fs.flatMap f) hq (flat_length T.len _) hsrc (seq_one T _) hpos hl2 hl hb w.heap.size rfl ?_
  intro g cap w' h1 h2 h3 _
  refine h g cap w' ?_ h2 ((Below.refl _ _).grown h2 hb (fun j hj => (World.ownsRow.lt hO j hj).1)) h3
  unfold SeqOwn
  rw [List.flatMap_append, List.length_append]
  exact h1

/-- 'append(v, x...)', x empty: nothing turns. -/
theorem run_seq_zero {w : World} {base : Nat} {ty : TypeId} {n : Nat} {v : Value} {xs : List Value} (T : RowT P f s tS e bytes) (hown : w.ownsRow base e s v n xs) (fa : Option Addr) (fc : Nat) :
    (Builtin.append_ #[tS, tS] ty #[v, .slice fa 0 fc]).run P w = .ok v w := by
  obtain ⟨z, hinfo, hzc⟩ := T.info
  obtain ⟨i, hi, hzz⟩ := Option.map_eq_some_iff.1 hinfo
  have ht := T.sl
  have hsrc : Src P i.size tS (.slice fa 0 fc) 0 [] w := by
    cases fa with
    | none => exact Src.ofNil w ht fc
    | some a => exact Src.ofSlice w ht a 0 fc [] (by simp) (by simp) (by simp)
  rcases hown.2 with ⟨rfl, rfl⟩ | ⟨g, cap, cur, rfl, _, _, h1, _⟩
  · cases fa <;> simp [Builtin.append_, run_underlying ht, sizeOf, typeInfo, hi, Builtin.lenOf, Builtin.firstCells, loadCells, loadCellsFrom]
  · have := run_append_room_src (P := P) w tS tS ty e i ht hi g 0 n cap (.slice fa 0 fc) 0 [] hsrc (by omega) (by simp) (by simp)
    rw [this]
    simp [World.setCells]

/-- 'append([]T(nil), x...)': a copy. -/
theorem wpList_seqCopy (T : RowT P f s tS e bytes) {w : World} {ops : Array Oper} {rest : List Oper} {o : Oper} {a : Act} {Q : Exit → Act → World → Prop} (hgd : o.guard = none) (p q : Operand)
    (ho : o.op = .call { callee := .builtin .append, args := #[p, q], argTypes := #[tS, tS] }) (hp : a.eval p = .slice none 0 0)
    (fs : List α) (fa : Option Addr) (fc : Nat) (hq : a.eval q = .slice fa fs.length fc) (hfs : SeqAt f s w fa fs) (hl : fs.length * bytes ≤ 140737488355328) (hl2 : fs.length ≤ maxLen)
    (h : ∀ va cap w', SeqOwn f s e w' w.heap.size (.slice va fs.length cap) fs → Below w.heap.size w w' → wpList P ops Q rest (a.put o.dst (.slice va fs.length cap)) w') :
    wpList P ops Q (o :: rest) a w := by
  by_cases hpos : 0 < fs.length
  · refine wpList_seq T hgd p q ho hp (l := []) (base := w.heap.size) (seqOwn_nil _ _) (Nat.le_refl _) fs fa fc hq hfs hpos (by simpa using hl) (by simpa using hl2) ?_
    intro g cap w' hO _ hb _
    simp only [List.length_nil, Nat.zero_add, List.nil_append] at hO ⊢
    exact h _ _ _ hO hb
  · have he : fs = [] := List.eq_nil_of_length_eq_zero (by omega)
    subst he
    refine wpList_plain hgd fun K hK => ?_
    have hr := run_seq_zero (P := P) (ty := o.type) T (World.ownsRow_nil w w.heap.size e s) fa fc
    unfold Oper.wp execOp
    simp only [List.length_nil] at hq
    simp only [ho, resolve, invoke, builtin, Sem.run_bind, Sem.run_pure, Result.andThen_ok, List.map_toArray, List.map_cons, List.map_nil, hp, hq, hr]
    exact hK _ _ (h none 0 w (seqOwn_nil _ _) (Below.refl _ _))

/-- The same at a step of a region that draws. -/
theorem step_seqCopy (T : RowT P f s tS e bytes) {w : World} {ops : Array Oper} {o : Oper} {a : Act} {K : Act → World → Prop} {Q : Exit → Act → World → Prop} {E : Prop} (hgd : o.guard = none) (p q : Operand)
    (ho : o.op = .call { callee := .builtin .append, args := #[p, q], argTypes := #[tS, tS] }) (hp : a.eval p = .slice none 0 0)
    (fs : List α) (fa : Option Addr) (fc : Nat) (hq : a.eval q = .slice fa fs.length fc) (hfs : SeqAt f s w fa fs) (hl : fs.length * bytes ≤ 140737488355328) (hl2 : fs.length ≤ maxLen)
    (h : ∀ va cap w', SeqOwn f s e w' w.heap.size (.slice va fs.length cap) fs → Below w.heap.size w w' → K (a.put o.dst (.slice va fs.length cap)) w') :
    if Region.wanted o (yielded ops a.tmps) = true then Oper.wp P o a w K Q else E := by
  by_cases hpos : 0 < fs.length
  · refine step_seq T hgd p q ho hp (l := []) (base := w.heap.size) (seqOwn_nil _ _) (Nat.le_refl _) fs fa fc hq hfs hpos (by simpa using hl) (by simpa using hl2) ?_
    intro g cap w' hO _ hb _
    simp only [List.length_nil, Nat.zero_add, List.nil_append] at hO ⊢
    exact h _ _ _ hO hb
  · have he : fs = [] := List.eq_nil_of_length_eq_zero (by omega)
    subst he
    have hw : Region.wanted o (yielded ops a.tmps) = true := by simp [Region.wanted, hgd]
    rw [if_pos hw]
    have hr := run_seq_zero (P := P) (ty := o.type) T (World.ownsRow_nil w w.heap.size e s) fa fc
    unfold Oper.wp execOp
    simp only [List.length_nil] at hq
    simp only [ho, resolve, invoke, builtin, Sem.run_bind, Sem.run_pure, Result.andThen_ok, List.map_toArray, List.map_cons, List.map_nil, hp, hq, hr]
    exact h none 0 w (seqOwn_nil _ _) (Below.refl _ _)

/-- An element of a row of one's own is written. -/
theorem SeqOwn.put (hT : ∀ x, (f x).length = s) {w : World} {base g n c : Nat} {l : List α} (h : SeqOwn f s e w base (.slice (some ⟨g, 0, none⟩) n c) l) {i : Nat} (hi : i < l.length) (y : α) : SeqOwn f s e (putAt w g (i * s) (f y)) base (.slice (some ⟨g, 0, none⟩) n c) (l.set i y) := by
  unfold SeqOwn
  rw [← flat_set hT l i y hi, List.length_set]
  refine ownsRow_putAt h rfl _ _ ?_
  rw [flat_length hT, hT]
  have : (i + 1) * s ≤ l.length * s := Nat.mul_le_mul_right _ hi
  rw [Nat.add_mul] at this
  omega

end

end Go.Proofs.YtahcgnmhhgcfmaaDoor
