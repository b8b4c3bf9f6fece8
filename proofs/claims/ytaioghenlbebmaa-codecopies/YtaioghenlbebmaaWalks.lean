/- The walks of sameProgram, of Copy and of the law CodeCopies: two programs that hold the same are found the same; a copy holds the same as what was copied, in new memory; so the law answers true. -/
import Derived.Test.YtaioghenlbebmaaRows
import Derived.Test.YtaioghenlbebmaaViews
import Derived.Test.YtaioghenlbebmaaLaws
import Derived.WalkKit
import Derived.WalkSpells
import Derived.WalkLawsBesides
import Derived.Deep.LoopGhost
import Derived.Deep.OwnRows
import Derived.Deep.Light
import Derived.Deep.QuietTactic
import Derived.BigQuiet
namespace Go.Proofs.Ytaioghenlbebmaa
open Go.RowKit

theorem below_drewN {B : Nat} {a w : World} (h : Below B a w) (n : Nat) : Below B a (w.drewN n) := ⟨h.os, h.tape, h.output, h.size, h.block⟩

set_option maxHeartbeats 400000 in
theorem same_any (aa ab : Option Addr) (G ca cb : Nat) (A A' : Nat → Option Addr) (L C C' : Nat → Nat) (X : Nat → Nat → Nat → Int) (w : World)
   (ha : ProgAt w aa G A L C X) (hb : ProgAt w ab G A' L C' X) :
   Calls Try.prog 5 #[.agg #[.slice aa G ca], .agg #[.slice ab G cb]] w fun e w' => e = .returned (.bool true) ∧ Below w.heap.size w w' := by
  have hG := ha.many
  go_enter Try.func5, Try.ntmps5
  go_wp2
  have kW := (Keeps.alloc w (.cells #[.slice aa G ca] 24)).trans (Keeps.alloc _ (.cells #[.slice ab G cb] 24))
  have ha' := ha.keeps kW
  have hb' := hb.keeps kW
  have hbel : Below w.heap.size w ((w.alloc (Obj.cells #[Value.slice aa G ca] 24)).alloc (Obj.cells #[Value.slice ab G cb] 24)) := ((Below.refl _ _).alloc (Nat.le_refl _) _).alloc (by simp) _
  have c1 : ((w.alloc (Obj.cells #[Value.slice aa G ca] 24)).alloc (Obj.cells #[Value.slice ab G cb] 24)).cell? ⟨w.heap.size, 0, none⟩ = some (.slice aa G ca) := by simp
  have c2 : ((w.alloc (Obj.cells #[Value.slice aa G ca] 24)).alloc (Obj.cells #[Value.slice ab G cb] 24)).cell? ⟨w.heap.size + 1, 0, none⟩ = some (.slice ab G cb) := by simp
  clear ha hb kW
  generalize (w.alloc (Obj.cells #[Value.slice aa G ca] 24)).alloc (Obj.cells #[Value.slice ab G cb] 24) = W at *
  go_loopg [5, 6] G (fun g s5 s6 wr => ∃ r n : Nat, r ≤ G ∧ g = G - r ∧ s5 = .int .i64 r ∧ wr = W.drewN n)
  case atStart => exact ⟨0, 0, Nat.zero_le _, rfl, rfl, rfl⟩
  case round =>
    obtain ⟨r, n, hr, rfl, rfl, rfl⟩ := hrel
    by_cases hrG : r < G
    · obtain ⟨ba, oa, rfl, hca⟩ := ha'.outer r hrG
      obtain ⟨bb, ob, rfl, hcb⟩ := hb'.outer r hrG
      have hL := ha'.long r hrG
      have hrz : (r : Int) < (G : Int) := by omega
      go_wp2
      go_quiet (fail)
      go_wp2
      go_loopg [6] (L r) (fun g s6 wi => ∃ i n : Nat, i ≤ L r ∧ g = L r - i ∧ s6 = .int .i64 i ∧ wi = W.drewN n)
      case atStart => exact ⟨0, n + nq, Nat.zero_le _, rfl, rfl, by simp⟩
      case round =>
        obtain ⟨i, m, hi, rfl, rfl, rfl⟩ := hrel
        by_cases hiL : i < L r
        · obtain ⟨ra, pa, hA, hxa⟩ := ha'.rows r hrG i hiL
          obtain ⟨rb, pb, hB, hxb⟩ := hb'.rows r hrG i hiL
          rw [hA] at hca
          rw [hB] at hcb
          have a0 : W.cell? ⟨ra, pa + i * 4, none⟩ = some (.int .i64 (X r i 0)) := by simpa using hxa 0 (by omega)
          have a1 := hxa 1 (by omega)
          have a2 := hxa 2 (by omega)
          have a3 := hxa 3 (by omega)
          have b0 : W.cell? ⟨rb, pb + i * 4, none⟩ = some (.int .i64 (X r i 0)) := by simpa using hxb 0 (by omega)
          have b1 := hxb 1 (by omega)
          have b2 := hxb 2 (by omega)
          have b3 := hxb 3 (by omega)
          clear hxa hxb hA hB
          have hiz : (i : Int) < (L r : Int) := by omega
          go_wp2
          go_quiet (fail)
          go_wp2
          go_roundg (L r - (i + 1))
          case measure => go_light; omega
          case rel => go_light; exact ⟨i + 1, _, by omega, rfl, by go_num, rfl⟩
        · go_wp2
          go_roundg (G - (r + 1))
          case measure => go_light; omega
          case rel => go_light; exact ⟨r + 1, _, by omega, rfl, by go_num, rfl⟩
    · go_wp2
      go_ret
      exact ⟨rfl, below_drewN hbel _⟩
theorem Try.info28 : (Try.prog.info? 28).map (fun i => (i.zero, i.size, i.bytes)) = some (some (.slice none 0 0), 1, 24) := by kernel_rfl
theorem Try.info30 : (Try.prog.info? 30).map (fun i => (i.zero, i.size, i.bytes)) = some (some (.agg #[.int .i64 0, .int .i64 0, .int .i64 0, .int .i64 0]), 4, 32) := by kernel_rfl

theorem Try.size30 : (Try.prog.info? 30).map (·.size) = some 4 := by kernel_rfl

def rowCells (x : Nat → Nat → Int) (n : Nat) : List Value := (List.range (n * 4)).map fun j => .int .i64 (x (j / 4) (j % 4))

theorem rowCells_length (x : Nat → Nat → Int) (n : Nat) : (rowCells x n).length = n * 4 := by simp [rowCells]

theorem rowCells_one (x : Nat → Nat → Int) (n : Nat) : ∀ v ∈ rowCells x n, v.oneCell' = true := by
  intro v hv
  simp only [rowCells, List.mem_map] at hv
  obtain ⟨j, _, rfl⟩ := hv
  rfl

theorem rowCells_src {w : World} {ao : Option Addr} {n : Nat} {x : Nat → Nat → Int} (h : RowAt w ao n x) (hn : 0 < n) : ∃ ad, ao = some ad ∧ ∀ j v, (rowCells x n)[j]? = some v → w.cell? (ad.add j) = some v := by
  obtain ⟨b, o, rfl, _⟩ := h 0 hn
  refine ⟨_, rfl, fun j v hv => ?_⟩
  have hj : j < n * 4 := by
    have := (List.getElem?_eq_some_iff.1 hv).1
    rwa [rowCells_length] at this
  simp only [rowCells, List.getElem?_map, List.getElem?_range hj, Option.map_some, Option.some.injEq] at hv
  subst hv
  obtain ⟨b', o', e, hc⟩ := h (j / 4) (by omega)
  simp only [Option.some.injEq, Addr.mk.injEq, and_true] at e
  obtain ⟨rfl, rfl⟩ := e
  have := hc (j % 4) (by omega)
  rw [show o + j / 4 * 4 + j % 4 = o + j by omega] at this
  rw [← this]
  congr 1
  unfold Addr.add; split <;> simp_all

theorem rowAt_of_cells {w : World} {g : Nat} {t : TypeId} {n : Nat} {x : Nat → Nat → Int} (h : w.heap[g]? = some (.cells (rowCells x n).toArray t (0, 0))) : RowAt w (some ⟨g, 0, none⟩) n x := fun i hi => by
  refine ⟨g, 0, rfl, fun f hf => ?_⟩
  have hj : i * 4 + f < n * 4 := by omega
  simp [World.cell?, h, rowCells, List.getElem?_range hj, show (i * 4 + f) / 4 = i by omega, show (i * 4 + f) % 4 = f by omega]

def topOf (N : Nat) (L : Nat → Nat) (r : Nat) : Nat → Value := fun j => if j < r then .slice (some ⟨N + 3 + j, 0, none⟩) (L j) (L j) else .slice none 0 0

structure Made (w wr : World) (G : Nat) (L : Nat → Nat) (X : Nat → Nat → Nat → Int) (r : Nat) : Prop where
  below : Below w.heap.size w wr
  size : wr.heap.size = w.heap.size + 3 + r
  res : wr.heap[w.heap.size + 1]? = some (.cells #[.slice none 0 0] 24 (0, 0))
  top : wr.rowIs (w.heap.size + 1 + 1) 28 G (topOf w.heap.size L r)
  done : ∀ j, j < r → wr.heap[w.heap.size + 3 + j]? = some (.cells (rowCells (X j) (L j)).toArray 30 (0, 0))

theorem made_start (w : World) (v : Value) (G : Nat) (L : Nat → Nat) (X : Nat → Nat → Nat → Int) :
    Made w (((w.alloc (Obj.cells #[v] 24)).alloc (Obj.cells #[Value.slice none 0 0] 24)).alloc (Obj.cells (madeCells #[Value.slice none 0 0] G) 28)) G L X 0 := by
  refine ⟨((((Below.refl _ _).alloc (Nat.le_refl _) _).alloc (by simp) _).alloc (by simp; omega) _), by simp, ?_, ?_, fun j hj => absurd hj (Nat.not_lt_zero _)⟩
  · rw [Deep.blk_alloc_lt _ _ _ (by simp)]
    have := Deep.blk_alloc_new (w.alloc (Obj.cells #[v] 24)) (Obj.cells #[Value.slice none 0 0] 24)
    simpa using this
  · have := World.rowIs_made ((w.alloc (Obj.cells #[v] 24)).alloc (Obj.cells #[Value.slice none 0 0] 24)) (Value.slice none 0 0) G 28
    simp only [Deep.nblk_alloc] at this
    exact this.congr (fun j _ => by simp [topOf])

theorem made_next {w wr : World} {G : Nat} {L : Nat → Nat} {X : Nat → Nat → Nat → Int} {r : Nat} (h : Made w wr G L X r) (o : Array Value) :
    Made w (((wr.alloc (.cells o 30)).setCell ⟨w.heap.size + 1 + 1, r, none⟩ (.slice (some ⟨w.heap.size + 3 + r, 0, none⟩) (L r) (L r))).setRow (w.heap.size + 3 + r) (rowCells (X r) (L r)).toArray) G L X (r + 1) := by
  have hs := h.size
  have hnew : ((wr.alloc (.cells o 30)).setCell ⟨w.heap.size + 1 + 1, r, none⟩ (.slice (some ⟨w.heap.size + 3 + r, 0, none⟩) (L r) (L r))).heap[w.heap.size + 3 + r]? = some (.cells o 30 (0, 0)) := by
    rw [Deep.blk_setCell_other _ _ _ _ (by show w.heap.size + 3 + r ≠ w.heap.size + 1 + 1; omega), ← hs, Deep.blk_alloc_new]
  refine ⟨below_setRow ((h.below.alloc (by omega) _).setCell (by show w.heap.size ≤ w.heap.size + 1 + 1; omega) _) (by omega) _, ?_, ?_, ?_, fun j hj => ?_⟩
  · simp [World.setRow, World.setCell, hs]; omega
  · rw [setRow_other _ _ _ _ (by omega), Deep.blk_setCell_other _ _ _ _ (by show w.heap.size + 1 ≠ w.heap.size + 1 + 1; omega), Deep.blk_alloc_lt _ _ _ (by omega)]
    exact h.res
  · refine (((h.top.alloc (.cells o 30)).set r (.slice (some ⟨w.heap.size + 3 + r, 0, none⟩) (L r) (L r))).of_block (setRow_other _ _ _ _ (by omega))).congr (fun j _ => ?_)
    simp only [topOf]
    by_cases e : j = r
    · subst e; simp
    · rw [if_neg e]
      by_cases hlt : j < r
      · rw [if_pos hlt, if_pos (by omega)]
      · rw [if_neg hlt, if_neg (by omega)]
  · by_cases e : j = r
    · subst e
      exact setRow_heap _ _ _ _ _ _ hnew
    · rw [setRow_other _ _ _ _ (by omega), Deep.blk_setCell_other _ _ _ _ (by show w.heap.size + 3 + j ≠ w.heap.size + 1 + 1; omega), Deep.blk_alloc_lt _ _ _ (by omega)]
      exact h.done j (by omega)

theorem made_end {w wr : World} {G : Nat} {A : Nat → Option Addr} {L C : Nat → Nat} {X : Nat → Nat → Nat → Int} {ao : Option Addr} (h : Made w wr G L X G) (hp : ProgAt w ao G A L C X) (v : Value) :
    ProgAt (wr.setCell ⟨w.heap.size + 1, 0, none⟩ v) (some ⟨w.heap.size + 1 + 1, 0, none⟩) G (fun j => some ⟨w.heap.size + 3 + j, 0, none⟩) L L X := by
  refine ⟨fun r hr => ⟨_, _, rfl, ?_⟩, fun r hr => rowAt_of_cells (t := 30) ?_, hp.many, hp.long, hp.fits⟩
  · rw [World.cell?_setCell_other _ _ _ _ (fun e => by have := congrArg Addr.block e; simp at this), Nat.zero_add, h.top.cell hr]
    simp [topOf, hr]
  · rw [Deep.blk_setCell_other _ _ _ _ (by show w.heap.size + 3 + r ≠ w.heap.size + 1; omega)]
    exact h.done r hr

theorem copy_run {w wr : World} {G : Nat} {A : Nat → Option Addr} {L C : Nat → Nat} {X : Nat → Nat → Nat → Int} {ao : Option Addr} {r : Nat} (h : Made w wr G L X r) (hp : ProgAt w ao G A L C X) (hr : r < G) (M : Array Value) (hM : M.size = L r * 4) :
    (Builtin.copy_ #[28, 28] 3 #[.slice (some ⟨w.heap.size + 3 + r, 0, none⟩) (L r) (L r), .slice (A r) (L r) (C r)]).run Try.prog
        ((wr.alloc (.cells M 30)).setCell ⟨w.heap.size + 1 + 1, r, none⟩ (.slice (some ⟨w.heap.size + 3 + r, 0, none⟩) (L r) (L r))) =
      .ok (goInt (L r)) (((wr.alloc (.cells M 30)).setCell ⟨w.heap.size + 1 + 1, r, none⟩ (.slice (some ⟨w.heap.size + 3 + r, 0, none⟩) (L r) (L r))).setRow (w.heap.size + 3 + r) (rowCells (X r) (L r)).toArray) := by
  have hs := h.size
  have hb : Below w.heap.size w ((wr.alloc (.cells M 30)).setCell ⟨w.heap.size + 1 + 1, r, none⟩ (.slice (some ⟨w.heap.size + 3 + r, 0, none⟩) (L r) (L r))) :=
    (h.below.alloc (by omega) _).setCell (by show w.heap.size ≤ w.heap.size + 1 + 1; omega) _
  refine run_copy_full 4 _ 28 28 3 30 Try.underlying28 Try.size30 (w.heap.size + 3 + r) (L r) (L r) (A r) (C r) M 30 ?_ _ (rowCells_length _ _) (by rw [rowCells_length, hM]) (rowCells_src ((hp.rows r hr).keeps (Keeps.below hb))) (rowCells_one _ _)
  rw [Deep.blk_setCell_other _ _ _ _ (by show w.heap.size + 3 + r ≠ w.heap.size + 1 + 1; omega), ← hs, Deep.blk_alloc_new]

set_option maxHeartbeats 400000 in
theorem copy_any (ao : Option Addr) (G cap : Nat) (A : Nat → Option Addr) (L C : Nat → Nat) (X : Nat → Nat → Nat → Int) (w : World) (hp : ProgAt w ao G A L C X) :
   Calls Try.prog 4 #[.agg #[.slice ao G cap]] w fun e w' => ∃ A' C', e = .returned (.agg #[.slice (some ⟨w.heap.size + 1 + 1, 0, none⟩) G G]) ∧ ProgAt w' (some ⟨w.heap.size + 1 + 1, 0, none⟩) G A' L C' X ∧ Below w.heap.size w w' := by
  have hG := hp.many
  have hmk22 := run_make_row' (P := Try.prog) 22 28 (.slice none 0 0) 24 Try.underlying22 Try.info28 rfl .i64 .i64 G hG (by omega)
  go_enter Try.func4, Try.ntmps4
  go_wp2
  clear hmk22
  go_loopg [13, 4, 5] G (fun g s13 s4 s5 wr => ∃ r : Nat, r ≤ G ∧ g = G - r ∧ s13 = .int .i64 r ∧ Made w wr G L X r)
  case atStart => exact ⟨0, Nat.zero_le _, rfl, rfl, made_start w _ G L X⟩
  case round =>
    obtain ⟨r, hr, rfl, rfl, hM⟩ := hrel
    by_cases hrG : r < G
    · obtain ⟨ba, oa, rfl, hca⟩ := hp.outer r hrG
      have hL := hp.long r hrG
      have hrz : (r : Int) < (G : Int) := by omega
      obtain ⟨M, hMz, hmk⟩ : ∃ M : Array Value, M.size = L r * 4 ∧ ∀ w, (Instr.makeSlice 28 (.int .i64 (L r : Int)) (.int .i64 (L r : Int))).run Try.prog w = .ok (.slice (some ⟨w.heap.size, 0, none⟩) (L r) (L r)) (w.alloc (.cells M 30)) :=
        ⟨_, size_madeCells _ _, run_make_rowk (P := Try.prog) 4 28 30 _ 32 Try.underlying28 Try.info30 .i64 .i64 (L r) hL (by omega)⟩
      have g0 : wr.cell? ⟨ba, oa + r, none⟩ = some (.slice (A r) (L r) (C r)) := cell_later hM.below hca
      have hst1 : ∀ o, (wr.alloc o).cell? ⟨w.heap.size + 1 + 1, r, none⟩ = some (topOf w.heap.size L r r) := fun o => (hM.top.alloc o).cell hrG
      have hst2 : ∀ o, (wr.alloc o).frozen? ⟨w.heap.size + 1 + 1, r, none⟩ = false := fun o => (hM.top.alloc o).frozen r
      have hsize := hM.size
      have hcp := copy_run hM hp hrG M hMz
      go_wp2
      clear hcp hmk hst1 hst2 g0
      go_roundg (G - (r + 1))
      case measure => go_light; omega
      case rel => go_light; exact ⟨r + 1, by omega, rfl, by go_num, made_next hM M⟩
    · have c1 : wr.cell? ⟨w.heap.size + 1, 0, none⟩ = some (.slice none 0 0) := by simp [World.cell?, hM.res]
      have c2 : wr.frozen? ⟨w.heap.size + 1, 0, none⟩ = false := by simp [World.frozen?, hM.res]
      obtain rfl : r = G := by omega
      go_wp2
      refine bodyPost_ret (v := .agg #[.slice (some ⟨w.heap.size + 1 + 1, 0, none⟩) r r]) ?_ rfl ?_
      · have e := World.cell?_setCell_same wr ⟨w.heap.size + 1, 0, none⟩ (.slice (some ⟨w.heap.size + 1 + 1, 0, none⟩) r r) c1
        simp [results, Try.results4, go_sem, e]
      · exact ⟨_, _, rfl, made_end hM hp _, hM.below.setCell (by show w.heap.size ≤ w.heap.size + 1; omega) _⟩
set_option maxHeartbeats 400000 in
theorem law_any (ao : Option Addr) (G cap : Nat) (A : Nat → Option Addr) (L C : Nat → Nat) (X : Nat → Nat → Nat → Int) (w : World) (hp : ProgAt w ao G A L C X) :
   Calls Try.prog 3 #[.agg #[.slice ao G cap]] w fun e w' => e = .returned (.bool true) ∧ Below w.heap.size w w' := by
  go_enter Try.func3, Try.ntmps3
  go_wp2_with fail
  have k1 := Keeps.alloc w (Obj.cells #[Value.slice ao G cap] 24)
  have b1 : Below w.heap.size w (w.alloc (Obj.cells #[Value.slice ao G cap] 24)) := (Below.refl _ _).alloc (Nat.le_refl _) _
  have c1 : (w.alloc (Obj.cells #[Value.slice ao G cap] 24)).cell? ⟨w.heap.size, 0, none⟩ = some (.slice ao G cap) := by simp
  refine (copy_any ao G cap A L C X _ (hp.keeps k1)).mono ?_
  rintro e w1 ⟨A', C', rfl, hq, hb⟩
  have k2 := Keeps.below hb
  have c2 := k2 _ _ c1
  have hsz := hb.size
  have b2 : Below w.heap.size w w1 := b1.trans (hb.mono (by simp))
  have hp2 := hp.keeps (k1.trans k2)
  simp only [Deep.nblk_alloc] at hsz hq ⊢
  clear hb c1 k2 k1 b1 hp
  have c3 : ∀ o, (w1.alloc o).cell? ⟨w.heap.size, 0, none⟩ = some (.slice ao G cap) := fun o => Keeps.alloc w1 o _ _ c2
  go_wp2_with fail
  refine (same_any _ _ G _ _ A' A L C' C X _ (hq.keeps (Keeps.alloc _ _)) (hp2.keeps (Keeps.alloc _ _))).mono ?_
  rintro e w2 ⟨rfl, hb2⟩
  have b3 : Below w.heap.size w w2 := (b2.alloc (by omega) _).trans (hb2.mono (by simp; omega))
  clear hb2 c3
  go_wp2
  go_ret
  exact ⟨rfl, b3⟩

end Go.Proofs.Ytaioghenlbebmaa
