/- The walks of copied: a row of one's own that holds what the list holds. -/
import Derived.Test.YtmecmelhmbihoaaCPlain
import Derived.Test.YtmecmelhmbihoaaCHOwn
import Derived.Test.YtmecmelhmbihoaaCHLaws
import Derived.Test.YtmecmelhmbihoaaCHAppG
import Derived.WalkSpells
import Derived.WalkLawsBesides
import Derived.Deep.LoopGhost
import Derived.Deep.Light
namespace Go.Proofs.Ytmecmelhmbihoaa
open Go.RowKit

/-- An actor as it lies: its numbers, and where its lists lie. -/
structure Fa where
  kind : Int
  par : Int
  M : Int
  oa : Option Addr
  on : Nat
  oc : Nat
  ra : Option Addr
  rn : Nat
  rc : Nat
  pc : Int
  ba : Option Addr
  bn : Nat
  bc : Nat
  fin : Int

def fAc (x : Fa) : List Value := [.int .i64 x.kind, .int .i64 x.par, .int .i64 x.M, .slice x.oa x.on x.oc, .slice x.ra x.rn x.rc, .int .i64 x.pc, .slice x.ba x.bn x.bc, .int .i64 x.fin]
def fVl (x : Vl) : List Value := [.int .i64 x.k, .int .i64 x.n]
def fTl (x : Int × Int) : List Value := [.int .i64 x.1, .int .i64 x.2]

theorem Try.rowAc : RowT Try.prog fAc 8 22 35 112 := ⟨fun _ => rfl, fun x v hv => by simp [fAc] at hv; rcases hv with h | h | h | h | h | h | h | h <;> rw [h] <;> rfl, by decide, Try.underlying22, _, (show (Try.prog.info? 35).map (fun i => (i.zero, i.size, i.bytes)) = some (some (.agg #[.int .i64 0, .int .i64 0, .int .i64 0, .slice none 0 0, .slice none 0 0, .int .i64 0, .slice none 0 0, .int .i64 0]), 8, 112) by kernel_rfl), rfl⟩
theorem Try.rowVl : RowT Try.prog fVl 2 33 39 16 := ⟨fun _ => rfl, fun x v hv => by simp [fVl] at hv; rcases hv with h | h <;> rw [h] <;> rfl, by decide, Try.underlying33, _, (show (Try.prog.info? 39).map (fun i => (i.zero, i.size, i.bytes)) = some (some (.agg #[.int .i64 0, .int .i64 0]), 2, 16) by kernel_rfl), rfl⟩
theorem Try.rowTl : RowT Try.prog fTl 2 23 42 16 := ⟨fun _ => rfl, fun x v hv => by simp [fTl] at hv; rcases hv with h | h <;> rw [h] <;> rfl, by decide, Try.underlying23, _, (show (Try.prog.info? 42).map (fun i => (i.zero, i.size, i.bytes)) = some (some (.agg #[.int .i64 0, .int .i64 0]), 2, 16) by kernel_rfl), rfl⟩

section
variable {α : Type} {f : α → List Value} {s : Nat} {e tS : TypeId} {bytes : Nat} {P : Program}

/-- 'copy' of a whole list into a row that was made for it. -/
theorem run_copied (T : RowT P f s tS e bytes) (ty : TypeId) (l : List α) (la : Option Addr) (lc : Nat) (w : World) (hS : SeqAt f s w la l) (z : Array Value) (hz : z.size = l.length * s) :
    (Builtin.copy_ #[tS, tS] ty #[.slice (some ⟨w.heap.size, 0, none⟩) l.length l.length, .slice la l.length lc]).run P (w.alloc (.cells z e)) = .ok (goInt l.length) ((w.alloc (.cells z e)).setRow w.heap.size (l.flatMap f).toArray) := by
  obtain ⟨zv, hinfo, _⟩ := T.info
  have hsz : (P.info? e).map (·.size) = some s := by
    obtain ⟨i, hi, hzz⟩ := Option.map_eq_some_iff.1 hinfo
    simp only [Prod.mk.injEq] at hzz
    rw [hi]; simp [hzz.2.1]
  refine run_copy_full s _ tS tS ty e T.sl hsz w.heap.size l.length l.length la lc z e (Deep.blk_alloc_new w _) (l.flatMap f) (flat_length T.len _) (by rw [hz, flat_length T.len]) (fun h0 => ?_) (seq_one T _)
  obtain ⟨ad, rfl, hsrc⟩ := seq_src T.len T.pos (hS.keeps (Keeps.alloc w (.cells z e))) h0
  exact ⟨ad, rfl, hsrc⟩

theorem own_copied (T : RowT P f s tS e bytes) (l : List α) (w : World) (z : Array Value) (hl : l.length ≤ maxLen) : SeqOwn f s e ((w.alloc (.cells z e)).setRow w.heap.size (l.flatMap f).toArray) w.heap.size (.slice (some ⟨w.heap.size, 0, none⟩) l.length l.length) l :=
  ⟨flat_length T.len _, .inr ⟨w.heap.size, l.length, _, rfl, Nat.le_refl _, setRow_heap _ _ _ _ _ _ (Deep.blk_alloc_new w _), Nat.le_refl _, hl, by simp [flat_length T.len], by
    exact List.take_of_length_le (by rw [flat_length T.len l]; exact Nat.le_refl _)⟩⟩
end

theorem madeCells_size (z : Array Value) (n : Nat) : (madeCells z n).size = n := by simp [madeCells]

set_option maxRecDepth 100000 in
set_option maxHeartbeats 800000 in
theorem copiedVals_any (l : List Vl) (la : Option Addr) (lc : Nat) (w : World) (hS : SeqAt fVl 2 w la l) (hl : 16 * l.length ≤ 140737488351232) :
    Calls Try.prog 8 #[.slice la l.length lc] w fun e w' => ∃ g, e = .returned (.slice (some ⟨g, 0, none⟩) l.length l.length) ∧ w.heap.size ≤ g ∧ SeqOwn fVl 2 39 w' w.heap.size (.slice (some ⟨g, 0, none⟩) l.length l.length) l ∧ Below w.heap.size w w' := by
  have hmx : maxLen = 9223372036854775807 := rfl
  have hmk := run_make_wide (P := Try.prog) 2 33 39 _ 16 Try.underlying33 (show (Try.prog.info? 39).map (fun i => (i.zero, i.size, i.bytes)) = some (some (.agg #[.int .i64 0, .int .i64 0]), 2, 16) by kernel_rfl) .i64 .i64 l.length (by omega) (by omega)
  have hcp := run_copied Try.rowVl 3 l la lc w hS (madeCells (Value.cells (.agg #[.int .i64 0, .int .i64 0])) (l.length * 2)) (madeCells_size _ _)
  have hO := own_copied Try.rowVl l w (madeCells (Value.cells (.agg #[.int .i64 0, .int .i64 0])) (l.length * 2)) (by omega)
  have hb := below_setRow (below_box w (.cells (madeCells (Value.cells (.agg #[.int .i64 0, .int .i64 0])) (l.length * 2)) 39)) (Nat.le_refl _) (l.flatMap fVl).toArray
  generalize hZ : madeCells (Value.cells (.agg #[.int .i64 0, .int .i64 0])) (l.length * 2) = Z at *
  have HO : Aside (SeqOwn fVl 2 39 ((w.alloc (.cells Z 39)).setRow w.heap.size (l.flatMap fVl).toArray) w.heap.size (.slice (some ⟨w.heap.size, 0, none⟩) l.length l.length) l ∧ Below w.heap.size w ((w.alloc (.cells Z 39)).setRow w.heap.size (l.flatMap fVl).toArray)) := ⟨hO, hb⟩
  clear hO hb hZ hS
  generalize l.length = L at *
  go_enter Try.func8, Try.ntmps8
  go_wp2
  go_ret
  exact ⟨_, rfl, Nat.le_refl _, HO.out.1, HO.out.2⟩

set_option maxRecDepth 100000 in
set_option maxHeartbeats 800000 in
theorem copiedTold_any (l : List (Int × Int)) (la : Option Addr) (lc : Nat) (w : World) (hS : SeqAt fTl 2 w la l) (hl : 16 * l.length ≤ 140737488351232) :
    Calls Try.prog 9 #[.slice la l.length lc] w fun e w' => ∃ g, e = .returned (.slice (some ⟨g, 0, none⟩) l.length l.length) ∧ w.heap.size ≤ g ∧ SeqOwn fTl 2 42 w' w.heap.size (.slice (some ⟨g, 0, none⟩) l.length l.length) l ∧ Below w.heap.size w w' := by
  have hmx : maxLen = 9223372036854775807 := rfl
  have hmk := run_make_wide (P := Try.prog) 2 23 42 _ 16 Try.underlying23 (show (Try.prog.info? 42).map (fun i => (i.zero, i.size, i.bytes)) = some (some (.agg #[.int .i64 0, .int .i64 0]), 2, 16) by kernel_rfl) .i64 .i64 l.length (by omega) (by omega)
  have hcp := run_copied Try.rowTl 3 l la lc w hS (madeCells (Value.cells (.agg #[.int .i64 0, .int .i64 0])) (l.length * 2)) (madeCells_size _ _)
  have hO := own_copied Try.rowTl l w (madeCells (Value.cells (.agg #[.int .i64 0, .int .i64 0])) (l.length * 2)) (by omega)
  have hb := below_setRow (below_box w (.cells (madeCells (Value.cells (.agg #[.int .i64 0, .int .i64 0])) (l.length * 2)) 42)) (Nat.le_refl _) (l.flatMap fTl).toArray
  generalize hZ : madeCells (Value.cells (.agg #[.int .i64 0, .int .i64 0])) (l.length * 2) = Z at *
  have HO : Aside (SeqOwn fTl 2 42 ((w.alloc (.cells Z 42)).setRow w.heap.size (l.flatMap fTl).toArray) w.heap.size (.slice (some ⟨w.heap.size, 0, none⟩) l.length l.length) l ∧ Below w.heap.size w ((w.alloc (.cells Z 42)).setRow w.heap.size (l.flatMap fTl).toArray)) := ⟨hO, hb⟩
  clear hO hb hZ hS
  generalize l.length = L at *
  go_enter Try.func9, Try.ntmps9
  go_wp2
  go_ret
  exact ⟨_, rfl, Nat.le_refl _, HO.out.1, HO.out.2⟩

set_option maxRecDepth 100000 in
set_option maxHeartbeats 800000 in
theorem copiedActs_any (l : List Fa) (la : Option Addr) (lc : Nat) (w : World) (hS : SeqAt fAc 8 w la l) (hl : 112 * l.length ≤ 140737488351232) :
    Calls Try.prog 6 #[.slice la l.length lc] w fun e w' => ∃ g, e = .returned (.slice (some ⟨g, 0, none⟩) l.length l.length) ∧ w.heap.size ≤ g ∧ SeqOwn fAc 8 35 w' w.heap.size (.slice (some ⟨g, 0, none⟩) l.length l.length) l ∧ Below w.heap.size w w' := by
  have hmx : maxLen = 9223372036854775807 := rfl
  have hmk := run_make_wide (P := Try.prog) 8 22 35 _ 112 Try.underlying22 (show (Try.prog.info? 35).map (fun i => (i.zero, i.size, i.bytes)) = some (some (.agg #[.int .i64 0, .int .i64 0, .int .i64 0, .slice none 0 0, .slice none 0 0, .int .i64 0, .slice none 0 0, .int .i64 0]), 8, 112) by kernel_rfl) .i64 .i64 l.length (by omega) (by omega)
  have hcp := run_copied Try.rowAc 3 l la lc w hS (madeCells (Value.cells (.agg #[.int .i64 0, .int .i64 0, .int .i64 0, .slice none 0 0, .slice none 0 0, .int .i64 0, .slice none 0 0, .int .i64 0])) (l.length * 8)) (madeCells_size _ _)
  have hO := own_copied Try.rowAc l w (madeCells (Value.cells (.agg #[.int .i64 0, .int .i64 0, .int .i64 0, .slice none 0 0, .slice none 0 0, .int .i64 0, .slice none 0 0, .int .i64 0])) (l.length * 8)) (by omega)
  have hb := below_setRow (below_box w (.cells (madeCells (Value.cells (.agg #[.int .i64 0, .int .i64 0, .int .i64 0, .slice none 0 0, .slice none 0 0, .int .i64 0, .slice none 0 0, .int .i64 0])) (l.length * 8)) 35)) (Nat.le_refl _) (l.flatMap fAc).toArray
  generalize hZ : madeCells (Value.cells (.agg #[.int .i64 0, .int .i64 0, .int .i64 0, .slice none 0 0, .slice none 0 0, .int .i64 0, .slice none 0 0, .int .i64 0])) (l.length * 8) = Z at *
  have HO : Aside (SeqOwn fAc 8 35 ((w.alloc (.cells Z 35)).setRow w.heap.size (l.flatMap fAc).toArray) w.heap.size (.slice (some ⟨w.heap.size, 0, none⟩) l.length l.length) l ∧ Below w.heap.size w ((w.alloc (.cells Z 35)).setRow w.heap.size (l.flatMap fAc).toArray)) := ⟨hO, hb⟩
  clear hO hb hZ hS
  generalize l.length = L at *
  go_enter Try.func6, Try.ntmps6
  go_wp2
  go_ret
  exact ⟨_, rfl, Nat.le_refl _, HO.out.1, HO.out.2⟩

end Go.Proofs.Ytmecmelhmbihoaa
