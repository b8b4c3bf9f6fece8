/- The walks of the reference's Values and HeapCopy: the same, in new memory. -/
import Derived.Test.YtbifdcchdoflpacHLaws
import Derived.WalkKit
import Derived.WalkSpells
import Derived.WalkLawsBesides
import Derived.Deep.LoopGhost
import Derived.Deep.Light
import Derived.Deep.QuietTactic
import Derived.BigQuiet
import Derived.BigRegion
import Derived.Test.YtbifdcchdoflpacHHeld
namespace Go.Proofs.Ytbifdcchdoflpac
open Go.RowKit

set_option maxHeartbeats 400000 in
theorem values_any (ao : Option Addr) (cap : Nat) (l : List Vl) (w : World) (h : ValsAt w ao l) (hl : 16 * l.length ≤ 140737488351232) :
    Calls Try.prog 28 #[.slice ao l.length cap] w fun e w' => ∃ va vc, e = .returned (.slice va l.length vc) ∧ ValsOwn w' w.heap.size (.slice va l.length vc) l ∧ Below w.heap.size w w' := by
  obtain ⟨L, hL⟩ : ∃ L, L = l.length := ⟨_, rfl⟩
  have HL : Aside (L = l.length) := hL
  rw [← hL] at hl ⊢
  clear hL
  go_enter Try.func28, Try.ntmps28
  go_wp2
  go_loopg [3, 4] L (fun g s3 s4 wr => ∃ (i : Nat) (v : Value), i ≤ L ∧ g = L - i ∧ s4 = .int .i64 i ∧ s3 = v ∧ ValsOwn wr w.heap.size v (l.take i) ∧ Below w.heap.size w wr)
  case atStart => exact ⟨0, _, Nat.zero_le _, rfl, rfl, rfl, World.ownsRow_nil _ _ _ _, Below.refl _ _⟩
  case round =>
    obtain ⟨i, v, hi, rfl, rfl, rfl, hO, hb⟩ := hrel
    by_cases hiL : i < L
    · have hiz : (i : Int) < (L : Int) := by omega
      obtain ⟨⟨k, n⟩, hv⟩ := at_some (l := l) (i := i) (by rw [← HL.out]; exact hiL)
      have HT : Aside (l.take (i + 1) = l.take i ++ [⟨k, n⟩]) := by show l.take (i + 1) = _; rw [List.take_add_one, hv]; rfl
      obtain ⟨b, o, rfl, c1, c2⟩ := h i _ hv
      replace c1 := Keeps.below hb _ _ c1
      replace c2 := Keeps.below hb _ _ c2
      have hlen : Aside ((l.take i).length = i) := by show (l.take i).length = i; rw [List.length_take, ← HL.out]; omega
      have hs := hb.size
      clear hv
      simp only at c1 c2
      go_wp2_with (at_builtin; refine wpList_pushVal rfl (.tmp 11) (.tmp 16) rfl (v := u3) rfl hO hs k n rfl ?p1 ?_; (case p1 => rw [hlen.out]; omega); intro v1 w1 hO1 _ hb1)
      have hb2 := hb.trans hb1
      clear hO hb hb1 c1 c2
      go_wp2
      go_roundg (L - (i + 1))
      case measure => go_light; omega
      case rel => go_light; exact ⟨i + 1, _, by omega, rfl, by go_num, rfl, by rw [HT.out]; exact hO1, hb2⟩
    · have HT : Aside (l.take i = l) := by show l.take i = l; rw [List.take_of_length_le]; rw [← HL.out]; omega
      rw [HT.out] at hO
      obtain ⟨va, vc, hv⟩ := hO.form
      rw [← HL.out] at hv
      subst hv
      go_wp2
      go_ret
      exact ⟨va, vc, rfl, hO, hb⟩

/-- In the middle of HeapCopy: i objects are done. -/
structure CopyMid (w wr : World) (M : Int) (sv : Value) (l : List Ob) (i : Nat) : Prop where
  below : Below w.heap.size w wr
  big : w.heap.size + 1 + 1 + 1 ≤ wr.heap.size
  box : wr.heap[w.heap.size]? = some (.cells #[.int .i64 M, sv] 24 (0, 0))
  ret : wr.heap[w.heap.size + 1]? = some (.cells #[.int .i64 0, .slice none 0 0] 24 (0, 0))
  own : ∃ va vc rows, HeapOwn wr (w.heap.size + 1 + 1 + 1) (.slice va rows.length vc) rows ∧ rows.map (·.2) = l.take i ∧ wr.heap[w.heap.size + 1 + 1]? = some (.cells #[.int .i64 M, .slice va rows.length vc] 24 (0, 0))

theorem copyMid_start (w : World) (M : Int) (sv : Value) (l : List Ob) :
    CopyMid w (((w.alloc (Obj.cells #[Value.int IntKind.i64 M, sv] 24)).alloc (Obj.cells #[Value.int IntKind.i64 0, Value.slice none 0 0] 24)).alloc (Obj.cells #[Value.int IntKind.i64 M, Value.slice none 0 0] 24)) M sv l 0 := by
  refine ⟨((((Below.refl _ _).alloc (Nat.le_refl _) _).alloc (by simp) _).alloc (by simp; omega) _), by simp, ?_, ?_, none, 0, [], ?_, rfl, ?_⟩
  · rw [Deep.blk_alloc_lt _ _ _ (by simp; omega), Deep.blk_alloc_lt _ _ _ (by simp)]
    exact Deep.blk_alloc_new w _
  · rw [Deep.blk_alloc_lt _ _ _ (by simp)]
    have := Deep.blk_alloc_new (w.alloc (Obj.cells #[Value.int IntKind.i64 M, sv] 24)) (Obj.cells #[Value.int IntKind.i64 0, Value.slice none 0 0] 24)
    simpa using this
  · exact ⟨World.ownsRow_nil _ _ _ _, fun i p hp => by simp at hp, fun i j p q hp => by simp at hp, by simp⟩
  · have := Deep.blk_alloc_new ((w.alloc (Obj.cells #[Value.int IntKind.i64 M, sv] 24)).alloc (Obj.cells #[Value.int IntKind.i64 0, Value.slice none 0 0] 24)) (Obj.cells #[Value.int IntKind.i64 M, Value.slice none 0 0] 24)
    simpa using this

theorem CopyMid.next {w wr w1 w2 : World} {M : Int} {sv : Value} {l : List Ob} {i : Nat} (h : CopyMid w wr M sv l i) {va : Option Addr} {vc g gc : Nat} {rows : List (Value × Ob)} {nv : Value} {fs : List Vl} {dead : Bool}
    (hres : wr.heap[w.heap.size + 1 + 1]? = some (.cells #[.int .i64 M, .slice va i vc] 24 (0, 0))) (hrows : rows.map (·.2) = l.take i) (ht : l.take (i + 1) = l.take i ++ [⟨fs, dead⟩]) (_hO : HeapOwn wr (w.heap.size + 1 + 1 + 1) (.slice va i vc) rows)
    (hb1 : Below wr.drew.heap.size wr.drew w1) (hO2 : HeapOwn w2 (w.heap.size + 1 + 1 + 1) (.slice (some ⟨g, 0, none⟩) (rows.length + 1) gc) (rows ++ [(nv, ⟨fs, dead⟩)])) (hb2 : Below (w.heap.size + 1 + 1 + 1) w1 w2) :
    CopyMid w (w2.setCell ⟨w.heap.size + 1 + 1, 1, none⟩ (.slice (some ⟨g, 0, none⟩) (rows.length + 1) gc)) M sv l (i + 1) := by
  have hs := h.big
  have hs2 := hb2.size
  have hs1 : wr.heap.size ≤ w1.heap.size := hb1.size
  have hold : ∀ k, k < w.heap.size + 1 + 1 + 1 → w2.heap[k]? = wr.heap[k]? := fun k hk => (hb2.block k hk).trans (hb1.block k (by show k < wr.heap.size; omega))
  have hb12 : Below w.heap.size wr.drew w2 := (hb1.mono (by show w.heap.size ≤ wr.heap.size; omega)).trans (hb2.mono (by omega))
  refine ⟨(h.below.drew.trans hb12).setCell (by show w.heap.size ≤ w.heap.size + 1 + 1; omega) _, by simp [World.setCell]; omega, ?_, ?_, some ⟨g, 0, none⟩, gc, rows ++ [(nv, ⟨fs, dead⟩)], ?_, by rw [ht, ← hrows]; simp, ?_⟩
  · rw [Deep.blk_setCell_other _ _ _ _ (by show w.heap.size ≠ w.heap.size + 1 + 1; omega), hold _ (by omega)]
    exact h.box
  · rw [Deep.blk_setCell_other _ _ _ _ (by show w.heap.size + 1 ≠ w.heap.size + 1 + 1; omega), hold _ (by omega)]
    exact h.ret
  · rw [show (rows ++ [(nv, (⟨fs, dead⟩ : Ob))]).length = rows.length + 1 by simp]
    exact hO2.setLow (by show w.heap.size + 1 + 1 < _; omega) _
  · have := setCell_blk ((hold _ (by omega)).trans hres) 1 (.slice (some ⟨g, 0, none⟩) (rows.length + 1) gc)
    rw [this]
    simp

set_option maxHeartbeats 1600000 in
theorem heapCopy_any (M : Int) (ao : Option Addr) (cap : Nat) (l : List Ob) (w : World) (h : ObsAt w ao l) :
    Calls Try.prog 9 #[.agg #[.int .i64 M, .slice ao l.length cap]] w fun e w' => ∃ v rows, e = .returned (.agg #[.int .i64 M, v]) ∧ rows.map (·.2) = l ∧ HeapOwn w' w.heap.size v rows ∧ Below w.heap.size w w' := by
  have hm := h.many
  obtain ⟨L, hL⟩ : ∃ L, L = l.length := ⟨_, rfl⟩
  have HL : Aside (L = l.length) := hL
  rw [← hL] at hm ⊢
  clear hL
  go_enter Try.func9, Try.ntmps9
  go_wp2
  have hstart : Aside (CopyMid w (((w.alloc (Obj.cells #[Value.int IntKind.i64 M, Value.slice ao L cap] 24)).alloc (Obj.cells #[Value.int IntKind.i64 0, Value.slice none 0 0] 24)).alloc (Obj.cells #[Value.int IntKind.i64 M, Value.slice none 0 0] 24)) M (.slice ao L cap) l 0) := copyMid_start w M _ l
  go_loopg [4] L (fun g s4 wr => ∃ i : Nat, i ≤ L ∧ g = L - i ∧ s4 = .int .i64 i ∧ CopyMid w wr M (.slice ao L cap) l i)
  case atStart => exact ⟨0, Nat.zero_le _, rfl, rfl, hstart.out⟩
  case round =>
    obtain ⟨i, hi, rfl, rfl, hmid⟩ := hrel
    clear hstart
    obtain ⟨va, vc, rows, hO, hrows, hres⟩ := hmid.own
    have hlen : rows.length = i := by
      have := congrArg List.length hrows
      rw [List.length_map, List.length_take, ← HL.out] at this
      omega
    rw [hlen] at hO hres
    have HLEN : Aside (rows.length = i) := hlen
    have HROWS : Aside (rows.map (·.2) = l.take i) := hrows
    clear hlen hrows
    have q0 : wr.cell? ⟨w.heap.size, 1, none⟩ = some (.slice ao L cap) := by simp [World.cell?, hmid.box]
    have q1 : wr.cell? ⟨w.heap.size + 1 + 1, 1, none⟩ = some (.slice va i vc) := by simp [World.cell?, hres]
    have q2 : ∀ j, wr.frozen? ⟨w.heap.size + 1 + 1, j, none⟩ = false := fun j => by simp [World.frozen?, hres]
    have hb := hmid.below
    have hs := hmid.big
    by_cases hiL : i < L
    · have hiz : (i : Int) < (L : Int) := by omega
      have hi0 : (0 : Int) ≤ (i : Int) := Int.natCast_nonneg _
      obtain ⟨⟨fs, dead⟩, hv⟩ := at_some (l := l) (i := i) (by rw [← HL.out]; exact hiL)
      have HT : Aside (l.take (i + 1) = l.take i ++ [⟨fs, dead⟩]) := by show l.take (i + 1) = _; rw [List.take_add_one, hv]; rfl
      obtain ⟨b, o, fa, fc, rfl, c1, c2, hfs, hfl⟩ := h.cell i _ hv
      clear hv
      simp only at c1 c2 hfs hfl
      have hblt := World.block_lt_of_cell? _ _ c1
      simp only at hblt
      replace c1 := Keeps.below hb _ _ c1
      replace c2 := Keeps.below hb _ _ c2
      replace hfs := hfs.keeps (Keeps.below hb)
      go_wp2
      refine wp_region_need (fun j => j != 19) (fun w' => w'.cell? ⟨w.heap.size, 1, none⟩ = some (.slice (some ⟨b, o, none⟩) L cap) ∧ w'.cell? ⟨b, o + i * 2, none⟩ = some (.slice fa fs.length fc) ∧ w'.cell? ⟨b, o + i * 2 + 1, none⟩ = some (.bool dead) ∧ w'.cell? ⟨w.heap.size + 1 + 1, 1, none⟩ = some (.slice va i vc)) (by kernel_rfl) ⟨q0, c1, c2, q1⟩ (fun hS => ?_)
      refine wpAnyN_take (i := 0) (v := ?v1) rfl (by kernel_rfl) (by kernel_rfl) (by kernel_rfl) (by kernel_rfl) (fun _ _ _ h => h) (by rfl) ?hy1 hS ?rest1
      case hy1 => (intro wy hSy; (try dsimp only at hSy); go_simp; try (with_reducible rfl))
      simp only [Act.put, List.getElem_toArray, List.getElem_cons_zero, List.setIfInBounds_toArray, List.set_cons_zero, List.set_cons_succ]
      refine wpAnyN_take (i := 1) (v := ?v2) rfl (by kernel_rfl) (by kernel_rfl) (by kernel_rfl) (by kernel_rfl) (fun _ _ _ h => h) (by rfl) ?hy2 hS ?rest2
      case hy2 => (intro wy hSy; (try dsimp only at hSy); go_simp; try (with_reducible rfl))
      simp only [Act.put, List.getElem_toArray, List.getElem_cons_zero, List.getElem_cons_succ, List.setIfInBounds_toArray, List.set_cons_zero, List.set_cons_succ]
      refine wpAnyN_take (i := 2) (v := ?v3) rfl (by kernel_rfl) (by kernel_rfl) (by kernel_rfl) (by kernel_rfl) (fun _ _ _ h => h) (by rfl) ?hy3 hS ?rest3
      case hy3 => (intro wy hSy; (try dsimp only at hSy); go_simp; try (with_reducible rfl))
      simp only [Act.put, List.getElem_toArray, List.getElem_cons_zero, List.getElem_cons_succ, List.setIfInBounds_toArray, List.set_cons_zero, List.set_cons_succ]
      refine wpAnyN_take (i := 3) (v := ?v4) rfl (by kernel_rfl) (by kernel_rfl) (by kernel_rfl) (by kernel_rfl) (fun _ _ _ h => h) (by rfl) ?hy4 hS ?rest4
      case hy4 => (intro wy hSy; (try dsimp only at hSy); go_simp; try (with_reducible rfl))
      simp only [Act.put, List.getElem_toArray, List.getElem_cons_zero, List.getElem_cons_succ, List.setIfInBounds_toArray, List.set_cons_zero, List.set_cons_succ]
      refine wpAnyN_take (i := 4) (v := ?v5) rfl (by kernel_rfl) (by kernel_rfl) (by kernel_rfl) (by kernel_rfl) (fun _ _ _ h => h) (by rfl) ?hy5 hS ?rest5
      case hy5 => (intro wy hSy; (try dsimp only at hSy); go_simp; try (with_reducible rfl))
      simp only [Act.put, List.getElem_toArray, List.getElem_cons_zero, List.getElem_cons_succ, List.setIfInBounds_toArray, List.set_cons_zero, List.set_cons_succ]
      refine wpAnyN_take (i := 5) (v := ?v6) rfl (by kernel_rfl) (by kernel_rfl) (by kernel_rfl) (by kernel_rfl) (fun _ _ _ h => h) (by rfl) ?hy6 hS ?rest6
      case hy6 => (intro wy hSy; (try dsimp only at hSy); go_simp; try (with_reducible rfl))
      simp only [Act.put, List.getElem_toArray, List.getElem_cons_zero, List.getElem_cons_succ, List.setIfInBounds_toArray, List.set_cons_zero, List.set_cons_succ]
      refine wpAnyN_take (i := 6) (v := ?v7) rfl (by kernel_rfl) (by kernel_rfl) (by kernel_rfl) (by kernel_rfl) (fun _ _ _ h => h) (by rfl) ?hy7 hS ?rest7
      case hy7 => (intro wy hSy; (try dsimp only at hSy); go_simp; try (with_reducible rfl))
      simp only [Act.put, List.getElem_toArray, List.getElem_cons_zero, List.getElem_cons_succ, List.setIfInBounds_toArray, List.set_cons_zero, List.set_cons_succ]
      refine wpAnyN_take (i := 7) (v := ?v8) rfl (by kernel_rfl) (by kernel_rfl) (by kernel_rfl) (by kernel_rfl) (fun _ _ _ h => h) (by rfl) ?hy8 hS ?rest8
      case hy8 => (intro wy hSy; (try dsimp only at hSy); go_simp; try (with_reducible rfl))
      simp only [Act.put, List.getElem_toArray, List.getElem_cons_zero, List.getElem_cons_succ, List.setIfInBounds_toArray, List.set_cons_zero, List.set_cons_succ]
      refine wpAnyN_take (i := 9) (v := ?v9) rfl (by kernel_rfl) (by kernel_rfl) (by kernel_rfl) (by kernel_rfl) (fun _ _ _ h => h) (by rfl) ?hy9 hS ?rest9
      case hy9 => (intro wy hSy; (try dsimp only at hSy); go_simp; try (with_reducible rfl))
      simp only [Act.put, List.getElem_toArray, List.getElem_cons_zero, List.getElem_cons_succ, List.setIfInBounds_toArray, List.set_cons_zero, List.set_cons_succ]
      refine wpAnyN_take (i := 10) (v := ?v10) rfl (by kernel_rfl) (by kernel_rfl) (by kernel_rfl) (by kernel_rfl) (fun _ _ _ h => h) (by rfl) ?hy10 hS ?rest10
      case hy10 => (intro wy hSy; (try dsimp only at hSy); go_simp; try (with_reducible rfl))
      simp only [Act.put, List.getElem_toArray, List.getElem_cons_zero, List.getElem_cons_succ, List.setIfInBounds_toArray, List.set_cons_zero, List.set_cons_succ]
      refine wpAnyN_take (i := 11) (v := ?v11) rfl (by kernel_rfl) (by kernel_rfl) (by kernel_rfl) (by kernel_rfl) (fun _ _ _ h => h) (by rfl) ?hy11 hS ?rest11
      case hy11 => (intro wy hSy; (try dsimp only at hSy); go_simp; try (with_reducible rfl))
      simp only [Act.put, List.getElem_toArray, List.getElem_cons_zero, List.getElem_cons_succ, List.setIfInBounds_toArray, List.set_cons_zero, List.set_cons_succ]
      refine wpAnyN_take (i := 12) (v := ?v12) rfl (by kernel_rfl) (by kernel_rfl) (by kernel_rfl) (by kernel_rfl) (fun _ _ _ h => h) (by rfl) ?hy12 hS ?rest12
      case hy12 => (intro wy hSy; (try dsimp only at hSy); go_simp; try (with_reducible rfl))
      simp only [Act.put, List.getElem_toArray, List.getElem_cons_zero, List.getElem_cons_succ, List.setIfInBounds_toArray, List.set_cons_zero, List.set_cons_succ]
      refine wpAnyN_take (i := 13) (v := ?v13) rfl (by kernel_rfl) (by kernel_rfl) (by kernel_rfl) (by kernel_rfl) (fun _ _ _ h => h) (by rfl) ?hy13 hS ?rest13
      case hy13 => (intro wy hSy; (try dsimp only at hSy); go_simp; try (with_reducible rfl))
      simp only [Act.put, List.getElem_toArray, List.getElem_cons_zero, List.getElem_cons_succ, List.setIfInBounds_toArray, List.set_cons_zero, List.set_cons_succ]
      refine wpAnyN_take (i := 14) (v := ?v14) rfl (by kernel_rfl) (by kernel_rfl) (by kernel_rfl) (by kernel_rfl) (fun _ _ _ h => h) (by rfl) ?hy14 hS ?rest14
      case hy14 => (intro wy hSy; (try dsimp only at hSy); go_simp; try (with_reducible rfl))
      simp only [Act.put, List.getElem_toArray, List.getElem_cons_zero, List.getElem_cons_succ, List.setIfInBounds_toArray, List.set_cons_zero, List.set_cons_succ]
      refine wpAnyN_one (i := 8) (by kernel_rfl) rfl (fun K hK => ?_)
      simp only [List.getElem_toArray, List.getElem_cons_zero, List.getElem_cons_succ]
      go_simp
      refine (values_any fa fc fs wr.drew (hfs.keeps (fun _ _ h => h)) hfl).mono ?_
      rintro e w1 ⟨na, nc, rfl, hv1, hb1⟩
      have hO1 := (hO.below (Below.refl _ _).drew).below hb1
      have hs1 : w.heap.size + 1 + 1 + 1 ≤ w1.heap.size := Nat.le_trans hs hb1.size
      have hk1 : Keeps wr w1 := fun a v e => Keeps.below hb1 a v e
      refine hK.out _ _ (fun _ => ⟨hk1 _ _ q0, hk1 _ _ c1, hk1 _ _ c2, hk1 _ _ q1⟩) ?_
      replace hS := (⟨hk1 _ _ q0, hk1 _ _ c1, hk1 _ _ c2, hk1 _ _ q1⟩ : w1.cell? ⟨w.heap.size, 1, none⟩ = some (.slice (some ⟨b, o, none⟩) L cap) ∧ w1.cell? ⟨b, o + i * 2, none⟩ = some (.slice fa fs.length fc) ∧ w1.cell? ⟨b, o + i * 2 + 1, none⟩ = some (.bool dead) ∧ w1.cell? ⟨w.heap.size + 1 + 1, 1, none⟩ = some (.slice va i vc))
      clear hK
      refine wpAnyN_take (i := 15) (v := ?v15) rfl (by kernel_rfl) (by kernel_rfl) (by kernel_rfl) (by kernel_rfl) (fun _ _ _ h => h) (by rfl) ?hy15 hS ?rest15
      case hy15 => (intro wy hSy; (try dsimp only at hSy); go_simp; try (with_reducible rfl))
      simp only [Act.put, List.getElem_toArray, List.getElem_cons_zero, List.getElem_cons_succ, List.setIfInBounds_toArray, List.set_cons_zero, List.set_cons_succ]
      refine wpAnyN_one (i := 16) (by kernel_rfl) rfl (fun K2 hK2 => ?_)
      simp only [List.getElem_toArray, List.getElem_cons_zero, List.getElem_cons_succ]
      go_simp
      refine hK2.out _ _ (fun _ => ⟨Keeps.alloc _ _ _ _ hS.1, Keeps.alloc _ _ _ _ hS.2.1, Keeps.alloc _ _ _ _ hS.2.2.1, Keeps.alloc _ _ _ _ hS.2.2.2⟩) ?_
      clear hK2
      refine wpAnyN_one (i := 17) (by kernel_rfl) rfl (fun K3 hK3 => ?_)
      refine step_pushOb (by rfl) _ _ (by rfl) (by rfl) hO1 hs1 (.slice na fs.length nc) ⟨fs, dead⟩ rfl (ownsRow_le hv1 hs) hfl (apart_new hO hv1) (by rw [HLEN.out]; omega) (by rfl) ?_
      intro g gc w2 hO2 hb2 hgx
      clear hgx
      have k2 : ∀ a v, a.block < w.heap.size + 1 + 1 + 1 → w1.cell? a = some v → w2.cell? a = some v := fun a v ha hv => (hb2.cell ha).trans hv
      have hS2 := (⟨k2 _ _ (by show w.heap.size < _; omega) hS.1, k2 _ _ (by show b < _; omega) hS.2.1, k2 _ _ (by show b < _; omega) hS.2.2.1, k2 _ _ (by show w.heap.size + 1 + 1 < _; omega) hS.2.2.2⟩ : w2.cell? ⟨w.heap.size, 1, none⟩ = some (.slice (some ⟨b, o, none⟩) L cap) ∧ w2.cell? ⟨b, o + i * 2, none⟩ = some (.slice fa fs.length fc) ∧ w2.cell? ⟨b, o + i * 2 + 1, none⟩ = some (.bool dead) ∧ w2.cell? ⟨w.heap.size + 1 + 1, 1, none⟩ = some (.slice va i vc))
      refine hK3.out _ _ (fun _ => hS2) ?_
      replace hS := hS2
      clear hK3 hS2
      simp only [Act.put, List.getElem_toArray, List.getElem_cons_zero, List.getElem_cons_succ, List.setIfInBounds_toArray, List.set_cons_zero, List.set_cons_succ]
      refine wpAnyN_take (i := 18) (v := ?v16) rfl (by kernel_rfl) (by kernel_rfl) (by kernel_rfl) (by kernel_rfl) (fun _ _ _ h => h) (by rfl) ?hy16 hS ?rest16
      case hy16 => (intro wy hSy; (try dsimp only at hSy); go_simp; try (with_reducible rfl))
      simp only [Act.put, List.getElem_toArray, List.getElem_cons_zero, List.getElem_cons_succ, List.setIfInBounds_toArray, List.set_cons_zero, List.set_cons_succ]
      have hst := hS.2.2.2
      have hfz : ∀ j, w2.frozen? ⟨w.heap.size + 1 + 1, j, none⟩ = false := fun j => (hb2.frozen (p := ⟨w.heap.size + 1 + 1, j, none⟩) (by show w.heap.size + 1 + 1 < _; omega)).trans ((hb1.frozen (p := ⟨w.heap.size + 1 + 1, j, none⟩) (by show w.heap.size + 1 + 1 < wr.heap.size; omega)).trans (q2 j))
      refine wpAnyN_one (i := 19) (by kernel_rfl) rfl (fun K4 hK4 => ?_)
      simp only [List.getElem_toArray, List.getElem_cons_zero, List.getElem_cons_succ]
      go_simp
      refine hK4.out _ _ (fun h => absurd h (by decide)) ?_
      clear hK4
      refine wpAnyN_done (by kernel_rfl) ?_ _
      refine NoPanic.normal ?_
      have hnext := hmid.next (i := i) hres HROWS.out HT.out hO hb1 hO2 hb2
      clear hfz hst hS hO2 hb2 hb1 hO1 hv1 q0 q1 q2 c1 c2 hfs hO hres k2 hk1
      go_wp2
      go_roundg (L - (i + 1))
      case measure => go_light; omega
      case rel => go_light; exact ⟨i + 1, by omega, rfl, by go_num, hnext⟩
    · obtain rfl : i = L := by omega
      have r1 : wr.cell? ⟨w.heap.size + 1, 0, none⟩ = some (.int .i64 0) := by simp [World.cell?, hmid.ret]
      have r2 : wr.cell? ⟨w.heap.size + 1, 1, none⟩ = some (.slice none 0 0) := by simp [World.cell?, hmid.ret]
      have r3 : ∀ j, wr.frozen? ⟨w.heap.size + 1, j, none⟩ = false := fun j => by simp [World.frozen?, hmid.ret]
      have r0 : wr.cell? ⟨w.heap.size + 1 + 1, 0, none⟩ = some (.int .i64 M) := by simp [World.cell?, hres]
      go_wp2
      have m1 := setCell_blk (setCell_blk hmid.ret 0 (.int .i64 M)) 1 (.slice va i vc)
      have m2 : ((wr.setCell ⟨w.heap.size + 1, 0, none⟩ (.int .i64 M)).setCell ⟨w.heap.size + 1, 1, none⟩ (.slice va i vc)).cell? ⟨w.heap.size + 1, 0, none⟩ = some (.int .i64 M) := by simp [World.cell?, m1]
      have m3 : ((wr.setCell ⟨w.heap.size + 1, 0, none⟩ (.int .i64 M)).setCell ⟨w.heap.size + 1, 1, none⟩ (.slice va i vc)).cell? ⟨w.heap.size + 1, 1, none⟩ = some (.slice va i vc) := by simp [World.cell?, m1]
      refine bodyPost_ret (v := .agg #[.int .i64 M, .slice va i vc]) (by simp [results, Try.results9, go_sem, m2, m3]) rfl ⟨_, rows, rfl, ?_, ?_, ?_⟩
      · rw [HROWS.out, List.take_of_length_le (by rw [← HL.out]; omega)]
      · refine (HeapOwn.le ?_ (by omega : w.heap.size ≤ w.heap.size + 1 + 1 + 1))
        exact (hO.setLow (by show w.heap.size + 1 < w.heap.size + 1 + 1 + 1; omega) _).setLow (by show w.heap.size + 1 < w.heap.size + 1 + 1 + 1; omega) _
      · exact (hmid.below.setCell (by show w.heap.size ≤ w.heap.size + 1; omega) _).setCell (by show w.heap.size ≤ w.heap.size + 1; omega) _

end Go.Proofs.Ytbifdcchdoflpac
