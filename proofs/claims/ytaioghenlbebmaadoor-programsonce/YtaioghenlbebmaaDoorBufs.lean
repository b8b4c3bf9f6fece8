/- Bytes that are gathered by append in memory of the call's own: what one append makes of them. -/
import Derived.WalkKit
import Derived.WalkSpells
import Derived.Deep.OwnRows
import Derived.Deep.Draws
import Derived.Laws.BytesArg
import Derived.Test.YtaioghenlbebmaaDoorViews
namespace Go.Proofs.YtaioghenlbebmaaDoor
open Go.RowKit

/-- The slice v, in memory from block base on, holds the bytes bs (e: the type of a byte). -/
def Buf (w : World) (base : Nat) (e : TypeId) (v : Value) (bs : List Int) : Prop := w.ownsRow base e 1 v bs.length (bs.map (Value.int .u8))

/-- What a byte is in the program's table of types. -/
structure ByteType (P : Program) (t e : TypeId) (i : TypeInfo) : Prop where
  ht : P.underlying t = some (.slice e)
  hi : P.info? e = some i
  hz : i.zero = some (.int .u8 0)
  hsize : i.size = 1
  hby : i.bytes = 1

section
variable {P : Program} {w : World} {base : Nat} {t e : TypeId} {v : Value} {bs : List Int}

theorem Buf.alloc (h : Buf w base e v bs) (o : Obj) : Buf (w.alloc o) base e v bs := World.ownsRow.alloc h o

theorem Buf.below {w' : World} (h : Buf w base e v bs) (hb : Below w.heap.size w w') : Buf w' base e v bs :=
  World.ownsRow.kept h ⟨hb.os, hb.tape, hb.output, hb.size, fun k hk _ => hb.block k hk⟩ (row := none) (by cases hv : v.ownBlock <;> simp)

theorem Buf.le {base' : Nat} (h : Buf w base e v bs) (hb : base' ≤ base) : Buf w base' e v bs :=
  ⟨h.1, h.2.elim Or.inl (fun ⟨g, cap, cur, hv, hg, r⟩ => Or.inr ⟨g, cap, cur, hv, Nat.le_trans hb hg, r⟩)⟩

/-- Bytes that a literal lays. -/
theorem Buf.lit (w : World) (base : Nat) (e : TypeId) (bs : List Int) (hb : base ≤ w.heap.size) (hm : bs.length ≤ 1000000) :
    Buf (w.alloc (.cells (bs.map (Value.int .u8)).toArray e)) base e (.slice (some ⟨w.heap.size, 0, none⟩) bs.length bs.length) bs := by
  have := World.ownsRow_lit (base := base) (e := e) (size := 1) w (bs.map (Value.int .u8)).toArray bs.length hb (by unfold maxLen; omega) (by simp)
  simpa [Buf] using this

theorem Buf.nil (w : World) (base : Nat) (e : TypeId) : Buf w base e (.slice none 0 0) [] := World.ownsRow_nil w base e 1

/-- A block of another type is none of the bytes'. -/
theorem Buf.other (h : Buf w base e v bs) {k : Nat} {c : Array Value} {t' : TypeId} {fr : Nat × Nat} (hk : w.heap[k]? = some (.cells c t' fr)) (hne : t' ≠ e) : some k ≠ v.ownBlock := by
  rcases h.2 with ⟨rfl, _⟩ | ⟨g, cap, cur, rfl, _, hg, _⟩
  · simp [Value.ownBlock]
  · simp only [Value.ownBlock]
    intro e'
    simp only [Option.some.injEq] at e'
    subst e'
    rw [hk] at hg
    simp only [Option.some.injEq, Obj.cells.injEq] at hg
    exact hne hg.2.1

theorem Buf.form (h : Buf w base e v bs) : (v = .slice none 0 0 ∧ bs = []) ∨ ∃ g cap, v = .slice (some ⟨g, 0, none⟩) bs.length cap ∧ base ≤ g := by
  rcases h.2 with ⟨hv, hn⟩ | ⟨g, cap, _, hv, hb, _⟩
  · exact Or.inl ⟨hv, List.eq_nil_of_length_eq_zero hn⟩
  · exact Or.inr ⟨g, cap, hv, hb⟩

theorem Buf.cells (h : Buf w base e v bs) {g cap n : Nat} (hv : v = .slice (some ⟨g, 0, none⟩) n cap) : ∀ j u, (bs.map (Value.int .u8))[j]? = some u → w.cell? ((⟨g, 0, none⟩ : Addr).add j) = some u :=
  World.ownsRow.cells h (by rw [hv]; rfl)

theorem below_grown (h : Buf w base e v bs) {w' : World} (hg : w.grownBy w' v.ownBlock) (hb : base ≤ w.heap.size) : Below base w w' :=
  (Below.refl _ _).grown hg hb (fun k hk => (World.ownsRow.lt h k hk).1)

/-- A block of another type is as it was behind an append. -/
theorem Buf.keep (h : Buf w base e v bs) {w' : World} (hg : w.grownBy w' v.ownBlock) {k : Nat} {c : Array Value} {t' : TypeId} (hk : w.heap[k]? = some (.cells c t' (0, 0))) (hne : t' ≠ e) : w'.heap[k]? = some (.cells c t' (0, 0)) :=
  (hg.block k (Array.getElem?_eq_some_iff.1 hk).1 (h.other hk hne)).trans hk

theorem cell_new_at (w : World) (x : Value) (e : TypeId) (m : Nat) (h : m = w.heap.size) : (w.alloc (.cells #[x] e)).cell? ⟨m, 0, none⟩ = some x := by subst h; simp
theorem block_new (w : World) (o : Obj) : (w.alloc o).heap[w.heap.size]? = some o := Deep.blk_alloc_new w o
theorem block_old {w : World} {k : Nat} {x : Obj} (h : w.heap[k]? = some x) (o : Obj) : (w.alloc o).heap[k]? = some x :=
  (Deep.blk_alloc_lt w o k (Array.getElem?_eq_some_iff.1 h).1).trans h
theorem cell_blk {w : World} {k : Nat} {c : Array Value} {t' : TypeId} (h : w.heap[k]? = some (.cells c t' (0, 0))) (j : Nat) : w.cell? ⟨k, j, none⟩ = c[j]? := by simp [World.cell?, h]

/-- 'append(v, x...)' where x holds the bytes ys. -/
theorem wpList_gather {i : TypeInfo} (B : ByteType P t e i) {ops : Array Oper} {rest : List Oper} {o : Oper} {a : Act} {Q : Exit → Act → World → Prop} (hgd : o.guard = none) (s x : Operand)
    (ho : o.op = .call { callee := .builtin .append, args := #[s, x], argTypes := #[t, t] }) (hs : a.eval s = v) (hB : Buf w base e v bs)
    (ys : List Int) (ad : Addr) (c : Nat) (hx : a.eval x = .slice (some ad) ys.length c) (hy : ∀ j u, (ys.map (Value.int .u8))[j]? = some u → w.cell? (ad.add j) = some u)
    (hl : bs.length ≤ 1000000) (hl' : ys.length ≤ 1000000) (hbase : base ≤ w.heap.size)
    (h : ∀ v' w', Buf w' base e v' (bs ++ ys) → w.grownBy w' v.ownBlock → Below base w w' → wpList P ops Q rest (a.put o.dst v') w') : wpList P ops Q (o :: rest) a w := by
  refine wpList_append_own w hgd s x t ho base e i (.int .u8 0) 1 1 B.ht B.hi B.hz B.hsize B.hby rfl (by decide) v bs.length (bs.map (Value.int .u8)) hs hB ad ys.length c (ys.map (Value.int .u8)) hx (by simp) hy ?_ (by unfold maxLen; omega) (by omega) hbase ?_
  · intro u hu
    simp only [List.mem_map] at hu
    obtain ⟨n, _, rfl⟩ := hu
    rfl
  · intro v' w' h1 h2 _
    refine h v' w' ?_ h2 (below_grown hB h2 hbase)
    simpa [Buf] using h1

/-- 'append(v, c)': one byte. -/
theorem wpList_push {i : TypeInfo} (B : ByteType P t e i) {ops : Array Oper} {rest : List Oper} {o : Oper} {a : Act} {Q : Exit → Act → World → Prop} (hgd : o.guard = none) (s x : Operand)
    (ho : o.op = .call { callee := .builtin .append, args := #[s, x], argTypes := #[t, t] }) (hs : a.eval s = v) (hB : Buf w base e v bs)
    (c : Int) (n0 : Nat) (hx : a.eval x = .slice (some ⟨n0, 0, none⟩) 1 1) (hc : w.cell? ⟨n0, 0, none⟩ = some (.int .u8 c)) (hl : bs.length ≤ 1000000) (hbase : base ≤ w.heap.size)
    (h : ∀ v' w', Buf w' base e v' (bs ++ [c]) → w.grownBy w' v.ownBlock → Below base w w' → wpList P ops Q rest (a.put o.dst v') w') : wpList P ops Q (o :: rest) a w := by
  refine wpList_gather B hgd s x ho hs hB [c] ⟨n0, 0, none⟩ 1 hx ?_ hl (by simp) hbase h
  intro j u hj
  match j, hj with
  | 0, hj =>
    simp at hj
    subst hj
    simpa [Addr.add] using hc

/-- 'string(v)'. -/
theorem Buf.str (h : Buf w base e v bs) (hs : P.underlying t = some (.slice e)) (he : P.underlying e = some (.int .u8)) {dst : TypeId} (hd : P.underlying dst = some .string) :
    (convert t dst v).run P w = .ok (.string (strOfNums bs)) w := by
  rcases h.form with ⟨rfl, rfl⟩ | ⟨g, cap, rfl, _⟩
  · rw [run_convert_bytes_nil w t e hs he 0 0 dst hd]
    rfl
  · refine run_convert_bytes_arg w t e hs he g 0 bs.length cap bs rfl ?_ dst hd
    intro i hi
    have := h.cells rfl i (.int .u8 (bs.getD i 0)) (by simp [hi])
    rw [← this]
    congr 1
    unfold Addr.add; split <;> simp_all

end
end Go.Proofs.YtaioghenlbebmaaDoor
