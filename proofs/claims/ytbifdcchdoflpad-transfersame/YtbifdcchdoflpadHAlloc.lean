/- The walk of Alloc. -/
import Derived.Test.YtbifdcchdoflpadHCheck
import Derived.Test.YtbifdcchdoflpadHClone
import Derived.Test.YtbifdcchdoflpadHHeld
import Derived.WalkKit
import Derived.WalkSpells
import Derived.WalkLawsBesides
import Derived.Deep.LoopGhost
import Derived.Deep.Light
import Derived.Deep.QuietTactic
import Derived.BigQuiet
import Derived.BigRegion
namespace Go.Proofs.Ytbifdcchdoflpad
open Go.RowKit

/-- What Alloc answers: Most, the objects, the value, the error. -/
structure AR where
  M : Int
  obs : List Ob
  k : Int
  n : Int
  e : Int

def allocS (M : Int) (l : List Ob) (n : Int) : AR :=
  if hMay M l [] = false then ⟨0, [], 0, 0, 8⟩
  else if (decide (1 ≤ n) && decide (n ≤ 4)) = false then ⟨0, [], 0, 0, 2⟩
  else if (l.length : Int) = M then ⟨0, [], 0, 0, 7⟩
  else ⟨M, l ++ [⟨zeroVals n.toNat, false⟩], 2, l.length, 0⟩

theorem heapOwn_nil (w : World) (base : Nat) : HeapOwn w base (.slice none 0 0) [] := ⟨World.ownsRow_nil _ _ _ _, fun i p hp => by simp at hp, fun i j p q hp => by simp at hp, by simp⟩

/-- Two structs of two cells each, written one behind the other. -/
theorem four_cells {W : World} {N1 N2 : Nat} {a0 a1 b0 b1 : Value} {t1 t2 : TypeId} (h1 : W.heap[N1]? = some (.cells #[a0, a1] t1 (0, 0))) (h2 : W.heap[N2]? = some (.cells #[b0, b1] t2 (0, 0))) (hne : N1 ≠ N2) (x y u v : Value) :
    ((((W.setCell ⟨N1, 0, none⟩ x).setCell ⟨N1, 1, none⟩ y).setCell ⟨N2, 0, none⟩ u).setCell ⟨N2, 1, none⟩ v).cell? ⟨N1, 0, none⟩ = some x ∧ ((((W.setCell ⟨N1, 0, none⟩ x).setCell ⟨N1, 1, none⟩ y).setCell ⟨N2, 0, none⟩ u).setCell ⟨N2, 1, none⟩ v).cell? ⟨N1, 1, none⟩ = some y ∧
    ((((W.setCell ⟨N1, 0, none⟩ x).setCell ⟨N1, 1, none⟩ y).setCell ⟨N2, 0, none⟩ u).setCell ⟨N2, 1, none⟩ v).cell? ⟨N2, 0, none⟩ = some u ∧ ((((W.setCell ⟨N1, 0, none⟩ x).setCell ⟨N1, 1, none⟩ y).setCell ⟨N2, 0, none⟩ u).setCell ⟨N2, 1, none⟩ v).cell? ⟨N2, 1, none⟩ = some v := by
  have m1 := setCell_blk (setCell_blk h1 0 x) 1 y
  have m2 : ((((W.setCell ⟨N1, 0, none⟩ x).setCell ⟨N1, 1, none⟩ y).setCell ⟨N2, 0, none⟩ u).setCell ⟨N2, 1, none⟩ v).heap[N1]? = some (.cells #[x, y] t1 (0, 0)) := by
    rw [Deep.blk_setCell_other _ _ _ _ hne, Deep.blk_setCell_other _ _ _ _ hne, m1]
    simp
  have m3 : ((W.setCell ⟨N1, 0, none⟩ x).setCell ⟨N1, 1, none⟩ y).heap[N2]? = some (.cells #[b0, b1] t2 (0, 0)) := by
    rw [Deep.blk_setCell_other _ _ _ _ (Ne.symm hne), Deep.blk_setCell_other _ _ _ _ (Ne.symm hne), h2]
  have m4 := setCell_blk (setCell_blk m3 0 u) 1 v
  refine ⟨by simp [World.cell?, m2], by simp [World.cell?, m2], ?_, ?_⟩ <;> simp [World.cell?, m4]

set_option maxHeartbeats 1600000 in
theorem alloc_any (M : Int) (ao : Option Addr) (cap : Nat) (l : List Ob) (n : Int) (w : World) (h : ObsAt w ao l) :
    Calls Try.prog 17 #[.agg #[.int .i64 M, .slice ao l.length cap], .int .i64 n] w fun e w' => ∃ va vc, e = .returned (.tuple #[.agg #[.int .i64 (allocS M l n).M, .slice va (allocS M l n).obs.length vc], .agg #[.int .i64 (allocS M l n).k, .int .i64 (allocS M l n).n], .int .i64 (allocS M l n).e]) ∧
      Below w.heap.size w w' ∧ ∃ rows, rows.map (·.2) = (allocS M l n).obs ∧ HeapOwn w' w.heap.size (.slice va (allocS M l n).obs.length vc) rows := by
  have hm := h.many
  obtain ⟨r, hr⟩ : ∃ r, r = allocS M l n := ⟨_, rfl⟩
  have HR : Aside (r = allocS M l n) := hr
  rw [← hr]
  clear hr
  obtain ⟨L, hL⟩ : ∃ L, L = l.length := ⟨_, rfl⟩
  have HL : Aside (L = l.length) := hL
  rw [← hL] at hm ⊢
  clear hL
  go_enter Try.func17, Try.ntmps17
  go_wp2_with fail
  have N0 : (((w.alloc (Obj.cells #[Value.int IntKind.i64 M, Value.slice ao L cap] 25)).alloc (Obj.cells #[Value.int IntKind.i64 0, Value.slice none 0 0] 25)).alloc (Obj.cells #[Value.int IntKind.i64 0, Value.int IntKind.i64 0] 30)).heap[w.heap.size]? = some (.cells #[Value.int IntKind.i64 M, Value.slice ao L cap] 25 (0, 0)) := by
    rw [Deep.blk_alloc_lt _ _ _ (by simp; omega), Deep.blk_alloc_lt _ _ _ (by simp)]
    exact Deep.blk_alloc_new w _
  have N1 : (((w.alloc (Obj.cells #[Value.int IntKind.i64 M, Value.slice ao L cap] 25)).alloc (Obj.cells #[Value.int IntKind.i64 0, Value.slice none 0 0] 25)).alloc (Obj.cells #[Value.int IntKind.i64 0, Value.int IntKind.i64 0] 30)).heap[w.heap.size + 1]? = some (.cells #[Value.int IntKind.i64 0, Value.slice none 0 0] 25 (0, 0)) := by
    rw [Deep.blk_alloc_lt _ _ _ (by simp)]
    have := Deep.blk_alloc_new (w.alloc (Obj.cells #[Value.int IntKind.i64 M, Value.slice ao L cap] 25)) (Obj.cells #[Value.int IntKind.i64 0, Value.slice none 0 0] 25)
    simpa using this
  have N2 : (((w.alloc (Obj.cells #[Value.int IntKind.i64 M, Value.slice ao L cap] 25)).alloc (Obj.cells #[Value.int IntKind.i64 0, Value.slice none 0 0] 25)).alloc (Obj.cells #[Value.int IntKind.i64 0, Value.int IntKind.i64 0] 30)).heap[w.heap.size + 1 + 1]? = some (.cells #[Value.int IntKind.i64 0, Value.int IntKind.i64 0] 30 (0, 0)) := by
    have := Deep.blk_alloc_new ((w.alloc (Obj.cells #[Value.int IntKind.i64 M, Value.slice ao L cap] 25)).alloc (Obj.cells #[Value.int IntKind.i64 0, Value.slice none 0 0] 25)) (Obj.cells #[Value.int IntKind.i64 0, Value.int IntKind.i64 0] 30)
    simpa using this
  have k1 := ((Keeps.alloc w (Obj.cells #[Value.int IntKind.i64 M, Value.slice ao L cap] 25)).trans (Keeps.alloc _ (Obj.cells #[Value.int IntKind.i64 0, Value.slice none 0 0] 25))).trans (Keeps.alloc _ (Obj.cells #[Value.int IntKind.i64 0, Value.int IntKind.i64 0] 30))
  have b1 : Below w.heap.size w (((w.alloc (Obj.cells #[Value.int IntKind.i64 M, Value.slice ao L cap] 25)).alloc (Obj.cells #[Value.int IntKind.i64 0, Value.slice none 0 0] 25)).alloc (Obj.cells #[Value.int IntKind.i64 0, Value.int IntKind.i64 0] 30)) := (((Below.refl _ _).alloc (Nat.le_refl _) _).alloc (by simp) _).alloc (by simp; omega) _
  have hs0 : w.heap.size + 1 + 1 + 1 = (((w.alloc (Obj.cells #[Value.int IntKind.i64 M, Value.slice ao L cap] 25)).alloc (Obj.cells #[Value.int IntKind.i64 0, Value.slice none 0 0] 25)).alloc (Obj.cells #[Value.int IntKind.i64 0, Value.int IntKind.i64 0] 30)).heap.size := by simp
  generalize ((w.alloc (Obj.cells #[Value.int IntKind.i64 M, Value.slice ao L cap] 25)).alloc (Obj.cells #[Value.int IntKind.i64 0, Value.slice none 0 0] 25)).alloc (Obj.cells #[Value.int IntKind.i64 0, Value.int IntKind.i64 0] 30) = W at *
  have hck := check_any M ao cap l none 0 [] W (h.keeps k1) (fun i v hi => by simp at hi) (by simp)
  rw [← HL.out] at hck
  refine hck.mono ?_
  clear hck
  rintro e w1 ⟨rfl, hb⟩
  replace N0 := (hb.block _ (by omega)).trans N0
  replace N1 := (hb.block _ (by omega)).trans N1
  replace N2 := (hb.block _ (by omega)).trans N2
  replace b1 := b1.trans (hb.mono (by omega))
  replace k1 := k1.trans (Keeps.below hb)
  replace hs0 : w.heap.size + 1 + 1 + 1 ≤ w1.heap.size := Nat.le_trans (Nat.le_of_eq hs0) hb.size
  clear hb
  clear W
  have p0 : w1.cell? ⟨w.heap.size, 0, none⟩ = some (.int .i64 M) := by simp [World.cell?, N0]
  have p1 : w1.cell? ⟨w.heap.size, 1, none⟩ = some (.slice ao L cap) := by simp [World.cell?, N0]
  have c0 : w1.cell? ⟨w.heap.size + 1, 0, none⟩ = some (.int .i64 0) := by simp [World.cell?, N1]
  have c1 : w1.cell? ⟨w.heap.size + 1, 1, none⟩ = some (.slice none 0 0) := by simp [World.cell?, N1]
  have c2 : w1.cell? ⟨w.heap.size + 1 + 1, 0, none⟩ = some (.int .i64 0) := by simp [World.cell?, N2]
  have c3 : w1.cell? ⟨w.heap.size + 1 + 1, 1, none⟩ = some (.int .i64 0) := by simp [World.cell?, N2]
  have f1 : ∀ j, w1.frozen? ⟨w.heap.size + 1, j, none⟩ = false := fun j => by simp [World.frozen?, N1]
  have f2 : ∀ j, w1.frozen? ⟨w.heap.size + 1 + 1, j, none⟩ = false := fun j => by simp [World.frozen?, N2]
  obtain ⟨m1, m2, m3, m4⟩ := four_cells N1 N2 (by omega) (.int .i64 0) (.slice none 0 0) (.int .i64 0) (.int .i64 0)
  have bz : Below w.heap.size w ((((w1.setCell ⟨w.heap.size + 1, 0, none⟩ (.int .i64 0)).setCell ⟨w.heap.size + 1, 1, none⟩ (.slice none 0 0)).setCell ⟨w.heap.size + 1 + 1, 0, none⟩ (.int .i64 0)).setCell ⟨w.heap.size + 1 + 1, 1, none⟩ (.int .i64 0)) :=
    (((b1.setCell (by show w.heap.size ≤ w.heap.size + 1; omega) _).setCell (by show w.heap.size ≤ w.heap.size + 1; omega) _).setCell (by show w.heap.size ≤ w.heap.size + 1 + 1; omega) _).setCell (by show w.heap.size ≤ w.heap.size + 1 + 1; omega) _
  have BZ : Aside (_ ∧ _ ∧ _ ∧ _ ∧ _) := ⟨m1, m2, m3, m4, bz⟩
  clear m1 m2 m3 m4 bz
  cases hq : hMay M l [] with
  | false =>
    have HE : Aside (r = ⟨0, [], 0, 0, 8⟩) := by show r = _; rw [HR.out, allocS, if_pos hq]
    clear HR
    simp only [erS_false]
    go_wp2
    obtain ⟨m1, m2, m3, m4, bz⟩ := BZ.out
    refine bodyPost_ret (v := .tuple #[.agg #[.int .i64 0, .slice none 0 0], .agg #[.int .i64 0, .int .i64 0], .int .i64 8]) (by simp [results, Try.results17, go_sem, m1, m2, m3, m4]) rfl ⟨none, 0, by rw [HE.out]; rfl, bz, [], by rw [HE.out]; rfl, by rw [HE.out]; exact heapOwn_nil _ _⟩
  | true =>
    simp only [erS_true]
    cases hn : (decide (1 ≤ n) && decide (n ≤ 4)) with
    | false =>
      have HE : Aside (r = ⟨0, [], 0, 0, 2⟩) := by show r = _; rw [HR.out, allocS, if_neg (by simp [hq]), if_pos hn]
      clear HR
      go_wp2_with (go_at_call 33; refine (isFieldCount_any _ _).mono ?_; rintro e w' ⟨rfl, rfl⟩; rw [hn])
      obtain ⟨m1, m2, m3, m4, bz⟩ := BZ.out
      refine bodyPost_ret (v := .tuple #[.agg #[.int .i64 0, .slice none 0 0], .agg #[.int .i64 0, .int .i64 0], .int .i64 2]) (by simp [results, Try.results17, go_sem, m1, m2, m3, m4]) rfl ⟨none, 0, by rw [HE.out]; rfl, bz, [], by rw [HE.out]; rfl, by rw [HE.out]; exact heapOwn_nil _ _⟩
    | true =>
      by_cases hLM : (L : Int) = M
      · have HE : Aside (r = ⟨0, [], 0, 0, 7⟩) := by show r = _; rw [HR.out, allocS, if_neg (by simp [hq]), if_neg (by simp [hn]), if_pos (by rw [← HL.out]; exact hLM)]
        have heq : ((L : Int) == M) = true := by simp [hLM]
        clear HR hLM
        go_wp2_with (go_at_call 33; refine (isFieldCount_any _ _).mono ?_; rintro e w' ⟨rfl, rfl⟩; rw [hn])
        obtain ⟨m1, m2, m3, m4, bz⟩ := BZ.out
        refine bodyPost_ret (v := .tuple #[.agg #[.int .i64 0, .slice none 0 0], .agg #[.int .i64 0, .int .i64 0], .int .i64 7]) (by simp [results, Try.results17, go_sem, m1, m2, m3, m4]) rfl ⟨none, 0, by rw [HE.out]; rfl, bz, [], by rw [HE.out]; rfl, by rw [HE.out]; exact heapOwn_nil _ _⟩
      · have heq : ((L : Int) == M) = false := by simp [hLM]
        have hn1 : 1 ≤ n := by simp at hn; omega
        have hn4 : n ≤ 4 := by simp at hn; omega
        have hL60 : L ≤ 60 := by
          have := hq
          simp [hMay, mMay, ← HL.out] at this
          omega
        obtain ⟨F, rfl⟩ := Int.eq_ofNat_of_zero_le (show 0 ≤ n by omega)
        have HE : Aside (r = ⟨M, l ++ [⟨zeroVals F, false⟩], 2, L, 0⟩) := by show r = _; rw [HR.out, allocS, if_neg (by simp [hq]), if_neg (by simp [hn]), if_neg (by rw [← HL.out]; exact hLM), ← HL.out]; rfl
        clear HR hLM BZ hq
        go_wp2_with (first | (go_at_call 33; refine (isFieldCount_any _ _).mono ?_; rintro e w' ⟨rfl, rfl⟩; rw [hn]) | fail)
        have hcl := clone_any M ao cap l w1 (h.keeps k1)
        rw [← HL.out] at hcl
        refine hcl.mono ?_
        clear hcl
        rintro e w2 ⟨g, rows, rfl, hrows, hO, hb2⟩
        have HROWS : Aside (rows.map (·.2) = l) := hrows
        clear hrows
        replace N0 := (hb2.block _ (by omega)).trans N0
        replace N1 := (hb2.block _ (by omega)).trans N1
        replace N2 := (hb2.block _ (by omega)).trans N2
        replace b1 := b1.trans (hb2.mono (by omega))
        replace hO := hO.le (by omega : w.heap.size + 1 + 1 + 1 ≤ w1.heap.size)
        replace hs0 : w.heap.size + 1 + 1 + 1 ≤ w2.heap.size := Nat.le_trans hs0 hb2.size
        clear hb2 p0 p1 c0 c1 c2 c3 f1 f2 k1 heq hn
        have p0 : w2.cell? ⟨w.heap.size, 0, none⟩ = some (.int .i64 M) := by simp [World.cell?, N0]
        have p1 : w2.cell? ⟨w.heap.size, 1, none⟩ = some (.slice ao L cap) := by simp [World.cell?, N0]
        have f0 : ∀ j, w2.frozen? ⟨w.heap.size, j, none⟩ = false := fun j => by simp [World.frozen?, N0]
        go_wp2
        have M0 : ((w2.setCell ⟨w.heap.size, 0, none⟩ (.int .i64 M)).setCell ⟨w.heap.size, 1, none⟩ (.slice (some ⟨g, 0, none⟩) L L)).heap[w.heap.size]? = some (.cells #[.int .i64 M, .slice (some ⟨g, 0, none⟩) L L] 25 (0, 0)) := by
          rw [setCell_blk (setCell_blk N0 0 (.int .i64 M)) 1 (.slice (some ⟨g, 0, none⟩) L L)]; simp
        have M1 : ((w2.setCell ⟨w.heap.size, 0, none⟩ (.int .i64 M)).setCell ⟨w.heap.size, 1, none⟩ (.slice (some ⟨g, 0, none⟩) L L)).heap[w.heap.size + 1]? = some (.cells #[.int .i64 0, .slice none 0 0] 25 (0, 0)) := by
          rw [Deep.blk_setCell_other _ _ _ _ (by show w.heap.size + 1 ≠ w.heap.size; omega), Deep.blk_setCell_other _ _ _ _ (by show w.heap.size + 1 ≠ w.heap.size; omega), N1]
        have M2 : ((w2.setCell ⟨w.heap.size, 0, none⟩ (.int .i64 M)).setCell ⟨w.heap.size, 1, none⟩ (.slice (some ⟨g, 0, none⟩) L L)).heap[w.heap.size + 1 + 1]? = some (.cells #[.int .i64 0, .int .i64 0] 30 (0, 0)) := by
          rw [Deep.blk_setCell_other _ _ _ _ (by show w.heap.size + 1 + 1 ≠ w.heap.size; omega), Deep.blk_setCell_other _ _ _ _ (by show w.heap.size + 1 + 1 ≠ w.heap.size; omega), N2]
        have hO3 := (hO.setLow (a := ⟨w.heap.size, 0, none⟩) (by show w.heap.size < _; omega) (.int .i64 M)).setLow (a := ⟨w.heap.size, 1, none⟩) (by show w.heap.size < _; omega) (.slice (some ⟨g, 0, none⟩) L L)
        have b3 : Below w.heap.size w ((w2.setCell ⟨w.heap.size, 0, none⟩ (.int .i64 M)).setCell ⟨w.heap.size, 1, none⟩ (.slice (some ⟨g, 0, none⟩) L L)) := (b1.setCell (Nat.le_refl _) _).setCell (Nat.le_refl _) _
        have hs3 : w.heap.size + 1 + 1 + 1 ≤ ((w2.setCell ⟨w.heap.size, 0, none⟩ (.int .i64 M)).setCell ⟨w.heap.size, 1, none⟩ (.slice (some ⟨g, 0, none⟩) L L)).heap.size := by simpa [World.setCell] using hs0
        clear hO b1 hs0 N0 N1 N2 p0 p1 f0
        generalize (w2.setCell ⟨w.heap.size, 0, none⟩ (.int .i64 M)).setCell ⟨w.heap.size, 1, none⟩ (.slice (some ⟨g, 0, none⟩) L L) = w3 at *
        have p1 : w3.cell? ⟨w.heap.size, 1, none⟩ = some (.slice (some ⟨g, 0, none⟩) L L) := by simp [World.cell?, M0]
        have f0 : ∀ j, w3.frozen? ⟨w.heap.size, j, none⟩ = false := fun j => by simp [World.frozen?, M0]
        have hmk := run_make_rowk (P := Try.prog) 2 26 30 _ 16 Try.underlying26 Try.infoV .i64 .i64 F (by omega) (by omega)
        have hlen : rows.length = L := by rw [HL.out, ← HROWS.out, List.length_map]
        refine wp_region_need (fun j => j != 8) (fun w' => w'.cell? ⟨w.heap.size, 1, none⟩ = some (.slice (some ⟨g, 0, none⟩) L L)) (by kernel_rfl) p1 (fun hS => ?_)
        refine wpAnyN_take (i := 0) (v := ?v1) rfl (by kernel_rfl) (by kernel_rfl) (by kernel_rfl) (by kernel_rfl) (fun _ _ _ h => h) (by rfl) ?hy1 hS ?rest1
        case hy1 => (intro wy hSy; (try dsimp only at hSy); go_simp; try (with_reducible rfl))
        simp only [Act.put, List.getElem_toArray, List.getElem_cons_zero, List.setIfInBounds_toArray, List.set_cons_zero, List.set_cons_succ]
        refine wpAnyN_take (i := 1) (v := ?v2) rfl (by kernel_rfl) (by kernel_rfl) (by kernel_rfl) (by kernel_rfl) (fun _ _ _ h => h) (by rfl) ?hy2 hS ?rest2
        case hy2 => (intro wy hSy; (try dsimp only at hSy); go_simp; try (with_reducible rfl))
        simp only [Act.put, List.getElem_toArray, List.getElem_cons_zero, List.getElem_cons_succ, List.setIfInBounds_toArray, List.set_cons_zero, List.set_cons_succ]
        refine wpAnyN_take (i := 2) (v := ?v3) rfl (by kernel_rfl) (by kernel_rfl) (by kernel_rfl) (by kernel_rfl) (fun _ _ _ h => h) (by rfl) ?hy3 hS ?rest3
        case hy3 => (intro wy hSy; (try dsimp only at hSy); go_simp; try (with_reducible rfl))
        simp only [Act.put, List.getElem_toArray, List.getElem_cons_zero, List.getElem_cons_succ, List.setIfInBounds_toArray, List.set_cons_zero, List.set_cons_succ]
        refine wpAnyN_one (i := 3) (by kernel_rfl) rfl (fun K hK => ?_)
        simp only [List.getElem_toArray, List.getElem_cons_zero, List.getElem_cons_succ]
        go_simp
        refine hK.out _ _ (fun _ => Keeps.alloc _ _ _ _ hS) ?_
        replace hS : (w3.alloc (Obj.cells (madeCells #[.int .i64 0, .int .i64 0] (F * 2)) 30)).drew.cell? ⟨w.heap.size, 1, none⟩ = some (.slice (some ⟨g, 0, none⟩) L L) := Keeps.alloc _ _ _ _ hS
        clear hK
        refine wpAnyN_take (i := 4) (v := ?v4) rfl (by kernel_rfl) (by kernel_rfl) (by kernel_rfl) (by kernel_rfl) (fun _ _ _ h => h) (by rfl) ?hy4 hS ?rest4
        case hy4 => (intro wy hSy; (try dsimp only at hSy); go_simp; try (with_reducible rfl))
        simp only [Act.put, List.getElem_toArray, List.getElem_cons_zero, List.getElem_cons_succ, List.setIfInBounds_toArray, List.set_cons_zero, List.set_cons_succ]
        refine wpAnyN_one (i := 5) (by kernel_rfl) rfl (fun K2 hK2 => ?_)
        simp only [List.getElem_toArray, List.getElem_cons_zero, List.getElem_cons_succ]
        go_simp
        refine hK2.out _ _ (fun _ => Keeps.alloc (w3.alloc (Obj.cells (madeCells #[.int .i64 0, .int .i64 0] (F * 2)) 30)).drew _ _ _ hS) ?_
        clear hK2
        have hvm := vals_made w3 (w.heap.size + 1 + 1 + 1) F hs3 (by unfold maxLen; omega)
        refine wpAnyN_one (i := 6) (by kernel_rfl) rfl (fun K3 hK3 => ?_)
        refine step_pushOb (w := (w3.alloc (Obj.cells (madeCells #[.int .i64 0, .int .i64 0] (F * 2)) 30)).drew) (by rfl) _ _ (by rfl) (by rfl) ((hO3.alloc _).below (Below.refl _ _).drew) (by show w.heap.size + 1 + 1 + 1 ≤ (w3.alloc _).heap.size; simp; omega) (.slice (some ⟨w3.heap.size, 0, none⟩) F F) ⟨zeroVals F, false⟩ rfl hvm (by simp [zeroVals]; omega)
          (fun j q hq => Or.inr (fun e => by
            have h1 := (World.ownsRow.lt (hO3.row j q hq).1 _ e.symm).2
            have h2 : w3.heap.size < w3.heap.size := h1
            omega)) (by omega) (by simp [Act.eval]) ?_
        intro g2 gc w4 hO4 hb4 hgx
        clear hgx
        have hb4' : Below (w.heap.size + 1 + 1 + 1) w3 w4 := (((Below.refl _ _).alloc hs3 _).drew).trans hb4
        have hS4 : w4.cell? ⟨w.heap.size, 1, none⟩ = some (.slice (some ⟨g, 0, none⟩) L L) := (hb4'.cell (p := ⟨w.heap.size, 1, none⟩) (by show w.heap.size < _; omega)).trans p1
        refine hK3.out _ _ (fun _ => hS4) ?_
        replace hS := hS4
        clear hK3
        simp only [Act.put, List.getElem_toArray, List.getElem_cons_zero, List.getElem_cons_succ, List.setIfInBounds_toArray, List.set_cons_zero, List.set_cons_succ]
        refine wpAnyN_take (i := 7) (v := ?v5) rfl (by kernel_rfl) (by kernel_rfl) (by kernel_rfl) (by kernel_rfl) (fun _ _ _ h => h) (by rfl) ?hy5 hS ?rest5
        case hy5 => (intro wy hSy; (try dsimp only at hSy); go_simp; try (with_reducible rfl))
        simp only [Act.put, List.getElem_toArray, List.getElem_cons_zero, List.getElem_cons_succ, List.setIfInBounds_toArray, List.set_cons_zero, List.set_cons_succ]
        have hfz : ∀ j, w4.frozen? ⟨w.heap.size, j, none⟩ = false := fun j => (hb4'.frozen (p := ⟨w.heap.size, j, none⟩) (by show w.heap.size < _; omega)).trans (f0 j)
        refine wpAnyN_one (i := 8) (by kernel_rfl) rfl (fun K4 hK4 => ?_)
        simp only [List.getElem_toArray, List.getElem_cons_zero, List.getElem_cons_succ]
        go_simp
        refine hK4.out _ _ (fun h => absurd h (by decide)) ?_
        clear hK4
        refine wpAnyN_done (by kernel_rfl) ?_ _
        refine NoPanic.normal ?_
        have hs4 := Nat.le_trans hs3 hb4'.size
        rw [hlen] at hO4
        have O0 : (w4.setCell ⟨w.heap.size, 1, none⟩ (.slice (some ⟨g2, 0, none⟩) (L + 1) gc)).heap[w.heap.size]? = some (.cells #[.int .i64 M, .slice (some ⟨g2, 0, none⟩) (L + 1) gc] 25 (0, 0)) := by
          rw [setCell_blk ((hb4'.block _ (by omega)).trans M0) 1 (.slice (some ⟨g2, 0, none⟩) (L + 1) gc)]; simp
        have O1 : (w4.setCell ⟨w.heap.size, 1, none⟩ (.slice (some ⟨g2, 0, none⟩) (L + 1) gc)).heap[w.heap.size + 1]? = some (.cells #[.int .i64 0, .slice none 0 0] 25 (0, 0)) := by
          rw [Deep.blk_setCell_other _ _ _ _ (by show w.heap.size + 1 ≠ w.heap.size; omega)]
          exact (hb4'.block _ (by omega)).trans M1
        have O2 : (w4.setCell ⟨w.heap.size, 1, none⟩ (.slice (some ⟨g2, 0, none⟩) (L + 1) gc)).heap[w.heap.size + 1 + 1]? = some (.cells #[.int .i64 0, .int .i64 0] 30 (0, 0)) := by
          rw [Deep.blk_setCell_other _ _ _ _ (by show w.heap.size + 1 + 1 ≠ w.heap.size; omega)]
          exact (hb4'.block _ (by omega)).trans M2
        have hO5 := hO4.setLow (a := ⟨w.heap.size, 1, none⟩) (by show w.heap.size < _; omega) (.slice (some ⟨g2, 0, none⟩) (L + 1) gc)
        have b5 : Below w.heap.size w (w4.setCell ⟨w.heap.size, 1, none⟩ (.slice (some ⟨g2, 0, none⟩) (L + 1) gc)) := (b3.trans (hb4'.mono (by omega))).setCell (Nat.le_refl _) _
        clear hb4 hb4' hO4 hS4 hS hfz hvm hmk p1 f0 hO3 b3 hs3 M0 M1 M2
        generalize w4.setCell ⟨w.heap.size, 1, none⟩ (.slice (some ⟨g2, 0, none⟩) (L + 1) gc) = w5 at *
        have p0 : w5.cell? ⟨w.heap.size, 0, none⟩ = some (.int .i64 M) := by simp [World.cell?, O0]
        have p1 : w5.cell? ⟨w.heap.size, 1, none⟩ = some (.slice (some ⟨g2, 0, none⟩) (L + 1) gc) := by simp [World.cell?, O0]
        have c0 : w5.cell? ⟨w.heap.size + 1, 0, none⟩ = some (.int .i64 0) := by simp [World.cell?, O1]
        have c1 : w5.cell? ⟨w.heap.size + 1, 1, none⟩ = some (.slice none 0 0) := by simp [World.cell?, O1]
        have c2 : w5.cell? ⟨w.heap.size + 1 + 1, 0, none⟩ = some (.int .i64 0) := by simp [World.cell?, O2]
        have c3 : w5.cell? ⟨w.heap.size + 1 + 1, 1, none⟩ = some (.int .i64 0) := by simp [World.cell?, O2]
        have f1 : ∀ j, w5.frozen? ⟨w.heap.size + 1, j, none⟩ = false := fun j => by simp [World.frozen?, O1]
        have f2 : ∀ j, w5.frozen? ⟨w.heap.size + 1 + 1, j, none⟩ = false := fun j => by simp [World.frozen?, O2]
        go_wp2
        obtain ⟨m1, m2, m3, m4⟩ := four_cells O1 O2 (by omega) (.int .i64 M) (.slice (some ⟨g2, 0, none⟩) (L + 1) gc) (.int .i64 2) (.int .i64 L)
        have hol : r.obs.length = L + 1 := by rw [HE.out]; simp [HL.out]
        refine bodyPost_ret (v := .tuple #[.agg #[.int .i64 M, .slice (some ⟨g2, 0, none⟩) (L + 1) gc], .agg #[.int .i64 2, .int .i64 L], .int .i64 0]) (by simp [results, Try.results17, go_sem, m1, m2, m3, m4]) rfl ⟨some ⟨g2, 0, none⟩, gc, by rw [hol, HE.out], ?_, rows ++ [(.slice (some ⟨w3.heap.size, 0, none⟩) F F, ⟨zeroVals F, false⟩)], by rw [HE.out, List.map_append, HROWS.out]; rfl, ?_⟩
        · exact (((b5.setCell (by show w.heap.size ≤ w.heap.size + 1; omega) _).setCell (by show w.heap.size ≤ w.heap.size + 1; omega) _).setCell (by show w.heap.size ≤ w.heap.size + 1 + 1; omega) _).setCell (by show w.heap.size ≤ w.heap.size + 1 + 1; omega) _
        · rw [hol]
          refine HeapOwn.le (base := w.heap.size + 1 + 1 + 1) ?_ (by omega)
          exact (((hO5.setLow (by show w.heap.size + 1 < _; omega) _).setLow (by show w.heap.size + 1 < _; omega) _).setLow (by show w.heap.size + 1 + 1 < _; omega) _).setLow (by show w.heap.size + 1 + 1 < _; omega) _

end Go.Proofs.Ytbifdcchdoflpad
