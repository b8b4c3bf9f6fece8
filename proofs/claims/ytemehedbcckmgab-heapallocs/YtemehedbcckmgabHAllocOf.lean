/- The walk of the reference's AllocOf. -/
import Derived.Test.YtemehedbcckmgabHCheck
import Derived.Test.YtemehedbcckmgabHAlloc
import Derived.Test.YtemehedbcckmgabHCopy
import Derived.Test.YtemehedbcckmgabHHeld
import Derived.WalkKit
import Derived.WalkSpells
import Derived.WalkLawsBesides
import Derived.Deep.LoopGhost
import Derived.Deep.Light
import Derived.Deep.QuietTactic
import Derived.BigQuiet
import Derived.BigRegion
namespace Go.Proofs.Ytemehedbcckmgab
open Go.RowKit

/-- In the middle of the making of an object: it has i fields; the copy of the heap lies beside it. -/
structure OMid (w wr : World) (M : Int) (sv : Value) (i : Nat) : Prop where
  below : Below w.heap.size w wr
  big : w.heap.size + 1 + 1 ≤ wr.heap.size
  box : wr.heap[w.heap.size]? = some (.cells #[.int .i64 M, sv] 24 (0, 0))
  own : ∃ fa fc, ValsOwn wr (w.heap.size + 1 + 1) (.slice fa i fc) (zeroVals i) ∧ wr.heap[w.heap.size + 1]? = some (.cells #[.slice fa i fc, .bool false] 49 (0, 0))

theorem oMid_start (w : World) (M : Int) (sv : Value) : OMid w ((w.alloc (Obj.cells #[Value.int IntKind.i64 M, sv] 24)).alloc (Obj.cells #[Value.slice none 0 0, Value.bool false] 49)) M sv 0 := by
  refine ⟨((Below.refl _ _).alloc (Nat.le_refl _) _).alloc (by simp) _, by simp, ?_, none, 0, World.ownsRow_nil _ _ _ _, ?_⟩
  · rw [Deep.blk_alloc_lt _ _ _ (by simp)]
    exact Deep.blk_alloc_new w _
  · have := Deep.blk_alloc_new (w.alloc (Obj.cells #[Value.int IntKind.i64 M, sv] 24)) (Obj.cells #[Value.slice none 0 0, Value.bool false] 49)
    simpa using this

theorem zeroVals_snoc (i : Nat) : zeroVals i ++ [⟨0, 0⟩] = zeroVals (i + 1) := by rw [zeroVals, zeroVals, List.replicate_succ']

theorem OMid.next {w wr w3 : World} {M : Int} {sv : Value} {i : Nat} (h : OMid w wr M sv i) {fa : Option Addr} {fc g gc : Nat} (hbo : wr.heap[w.heap.size + 1]? = some (.cells #[.slice fa i fc, .bool false] 49 (0, 0)))
    (hv : ValsOwn w3 (w.heap.size + 1 + 1) (.slice (some ⟨g, 0, none⟩) (i + 1) gc) (zeroVals i ++ [⟨0, 0⟩])) (hb : Below (w.heap.size + 1 + 1) wr w3) : OMid w (w3.setCell ⟨w.heap.size + 1, 0, none⟩ (.slice (some ⟨g, 0, none⟩) (i + 1) gc)) M sv (i + 1) := by
  have hs := h.big
  have hs3 := hb.size
  refine ⟨(h.below.trans (hb.mono (by omega))).setCell (by show w.heap.size ≤ w.heap.size + 1; omega) _, by simp [World.setCell]; omega, ?_, some ⟨g, 0, none⟩, gc, ?_, ?_⟩
  · rw [Deep.blk_setCell_other _ _ _ _ (by show w.heap.size ≠ w.heap.size + 1; omega)]
    exact (hb.block _ (by omega)).trans h.box
  · rw [← zeroVals_snoc]
    exact ownsRow_setCell_below hv (by show w.heap.size + 1 < _; omega) _
  · rw [setCell_blk ((hb.block _ (by omega)).trans hbo) 0 (.slice (some ⟨g, 0, none⟩) (i + 1) gc)]
    simp

theorem allocOf_boxes {w3 : World} {B N1 N2 : Nat} {M : Int} {sv : Value} (v : Value) (hB : w3.heap[B]? = some (.cells #[.int .i64 M, sv] 24 (0, 0))) (h1 : w3.heap[N1]? = some (.cells #[.int .i64 0, .slice none 0 0] 24 (0, 0))) (h2 : w3.heap[N2]? = some (.cells #[.int .i64 0, .int .i64 0] 33 (0, 0)))
    (n1 : N1 ≠ B) (n2 : N2 ≠ B) (_n3 : N1 ≠ N2) :
    (w3.setCell ⟨B, 1, none⟩ v).cell? ⟨B, 0, none⟩ = some (.int .i64 M) ∧ (w3.setCell ⟨B, 1, none⟩ v).cell? ⟨B, 1, none⟩ = some v ∧ (w3.setCell ⟨B, 1, none⟩ v).cell? ⟨N1, 0, none⟩ = some (.int .i64 0) ∧ (w3.setCell ⟨B, 1, none⟩ v).cell? ⟨N1, 1, none⟩ = some (.slice none 0 0) ∧
    (w3.setCell ⟨B, 1, none⟩ v).cell? ⟨N2, 0, none⟩ = some (.int .i64 0) ∧ (w3.setCell ⟨B, 1, none⟩ v).cell? ⟨N2, 1, none⟩ = some (.int .i64 0) ∧ (∀ j, (w3.setCell ⟨B, 1, none⟩ v).frozen? ⟨N1, j, none⟩ = false) ∧ (∀ j, (w3.setCell ⟨B, 1, none⟩ v).frozen? ⟨N2, j, none⟩ = false) ∧
    (w3.setCell ⟨B, 1, none⟩ v).heap[B]? = some (.cells #[.int .i64 M, v] 24 (0, 0)) ∧ (w3.setCell ⟨B, 1, none⟩ v).heap[N1]? = some (.cells #[.int .i64 0, .slice none 0 0] 24 (0, 0)) ∧ (w3.setCell ⟨B, 1, none⟩ v).heap[N2]? = some (.cells #[.int .i64 0, .int .i64 0] 33 (0, 0)) := by
  have e0 : (w3.setCell ⟨B, 1, none⟩ v).heap[B]? = some (.cells #[.int .i64 M, v] 24 (0, 0)) := by rw [setCell_blk hB 1 v]; simp
  have e1 := (Deep.blk_setCell_other w3 ⟨B, 1, none⟩ v N1 n1).trans h1
  have e2 := (Deep.blk_setCell_other w3 ⟨B, 1, none⟩ v N2 n2).trans h2
  refine ⟨?_, ?_, ?_, ?_, ?_, ?_, fun j => fz_blk e1 j, fun j => fz_blk e2 j, e0, e1, e2⟩
  · rw [cell_blk e0]; rfl
  · rw [cell_blk e0]; rfl
  · rw [cell_blk e1]; rfl
  · rw [cell_blk e1]; rfl
  · rw [cell_blk e2]; rfl
  · rw [cell_blk e2]; rfl

set_option maxHeartbeats 1600000 in
theorem allocOf_any (M : Int) (ao : Option Addr) (cap : Nat) (l : List Ob) (n : Int) (w : World) (h : ObsAt w ao l) :
    Calls Try.prog 15 #[.agg #[.int .i64 M, .slice ao l.length cap], .int .i64 n] w fun e w' => ∃ va vc, e = .returned (.tuple #[.agg #[.int .i64 (allocS M l n).M, .slice va (allocS M l n).obs.length vc], .agg #[.int .i64 (allocS M l n).k, .int .i64 (allocS M l n).n], .int .i64 (allocS M l n).e]) ∧
      Below w.heap.size w w' ∧ ∃ rows, rows.map (·.2) = (allocS M l n).obs ∧ HeapOwn w' w.heap.size (.slice va (allocS M l n).obs.length vc) rows := by
  have hm := h.many
  obtain ⟨r, hr⟩ : ∃ r, r = allocS M l n := ⟨_, rfl⟩
  have HR : Aside (r = allocS M l n) := hr
  rw [← hr]
  clear hr
  obtain ⟨L, hL⟩ : ∃ L, L = l.length := ⟨_, rfl⟩
  have HL : Aside (L = l.length) := hL
  rw [← hL] at hm ⊢
  clear hL
  go_enter Try.func15, Try.ntmps15
  go_wp2_with fail
  have N0 : (((w.alloc (Obj.cells #[Value.int IntKind.i64 M, Value.slice ao L cap] 24)).alloc (Obj.cells #[Value.int IntKind.i64 0, Value.slice none 0 0] 24)).alloc (Obj.cells #[Value.int IntKind.i64 0, Value.int IntKind.i64 0] 33)).heap[w.heap.size]? = some (.cells #[Value.int IntKind.i64 M, Value.slice ao L cap] 24 (0, 0)) := by
    rw [Deep.blk_alloc_lt _ _ _ (by simp; omega), Deep.blk_alloc_lt _ _ _ (by simp)]
    exact Deep.blk_alloc_new w _
  have N1 : (((w.alloc (Obj.cells #[Value.int IntKind.i64 M, Value.slice ao L cap] 24)).alloc (Obj.cells #[Value.int IntKind.i64 0, Value.slice none 0 0] 24)).alloc (Obj.cells #[Value.int IntKind.i64 0, Value.int IntKind.i64 0] 33)).heap[w.heap.size + 1]? = some (.cells #[Value.int IntKind.i64 0, Value.slice none 0 0] 24 (0, 0)) := by
    rw [Deep.blk_alloc_lt _ _ _ (by simp)]
    have := Deep.blk_alloc_new (w.alloc (Obj.cells #[Value.int IntKind.i64 M, Value.slice ao L cap] 24)) (Obj.cells #[Value.int IntKind.i64 0, Value.slice none 0 0] 24)
    simpa using this
  have N2 : (((w.alloc (Obj.cells #[Value.int IntKind.i64 M, Value.slice ao L cap] 24)).alloc (Obj.cells #[Value.int IntKind.i64 0, Value.slice none 0 0] 24)).alloc (Obj.cells #[Value.int IntKind.i64 0, Value.int IntKind.i64 0] 33)).heap[w.heap.size + 1 + 1]? = some (.cells #[Value.int IntKind.i64 0, Value.int IntKind.i64 0] 33 (0, 0)) := by
    have := Deep.blk_alloc_new ((w.alloc (Obj.cells #[Value.int IntKind.i64 M, Value.slice ao L cap] 24)).alloc (Obj.cells #[Value.int IntKind.i64 0, Value.slice none 0 0] 24)) (Obj.cells #[Value.int IntKind.i64 0, Value.int IntKind.i64 0] 33)
    simpa using this
  have k1 := ((Keeps.alloc w (Obj.cells #[Value.int IntKind.i64 M, Value.slice ao L cap] 24)).trans (Keeps.alloc _ (Obj.cells #[Value.int IntKind.i64 0, Value.slice none 0 0] 24))).trans (Keeps.alloc _ (Obj.cells #[Value.int IntKind.i64 0, Value.int IntKind.i64 0] 33))
  have b1 : Below w.heap.size w (((w.alloc (Obj.cells #[Value.int IntKind.i64 M, Value.slice ao L cap] 24)).alloc (Obj.cells #[Value.int IntKind.i64 0, Value.slice none 0 0] 24)).alloc (Obj.cells #[Value.int IntKind.i64 0, Value.int IntKind.i64 0] 33)) := (((Below.refl _ _).alloc (Nat.le_refl _) _).alloc (by simp) _).alloc (by simp; omega) _
  have hs0 : w.heap.size + 1 + 1 + 1 = (((w.alloc (Obj.cells #[Value.int IntKind.i64 M, Value.slice ao L cap] 24)).alloc (Obj.cells #[Value.int IntKind.i64 0, Value.slice none 0 0] 24)).alloc (Obj.cells #[Value.int IntKind.i64 0, Value.int IntKind.i64 0] 33)).heap.size := by simp
  generalize ((w.alloc (Obj.cells #[Value.int IntKind.i64 M, Value.slice ao L cap] 24)).alloc (Obj.cells #[Value.int IntKind.i64 0, Value.slice none 0 0] 24)).alloc (Obj.cells #[Value.int IntKind.i64 0, Value.int IntKind.i64 0] 33) = W at *
  have hck := heapMay_any M ao cap l none 0 [] W (h.keeps k1) (fun i v hi => by simp at hi) (by simp)
  rw [← HL.out] at hck
  refine hck.mono ?_
  clear hck
  rintro e w1 ⟨rfl, hb⟩
  replace N0 := (hb.block _ (by omega)).trans N0
  replace N1 := (hb.block _ (by omega)).trans N1
  replace N2 := (hb.block _ (by omega)).trans N2
  replace b1 := b1.trans (hb.mono (by omega))
  replace k1 := k1.trans (Keeps.below hb)
  replace hs0 : w.heap.size + 1 + 1 + 1 ≤ w1.heap.size := Nat.le_trans (Nat.le_of_eq hs0) hb.size
  clear hb
  clear W
  have p0 : w1.cell? ⟨w.heap.size, 0, none⟩ = some (.int .i64 M) := by simp [World.cell?, N0]
  have p1 : w1.cell? ⟨w.heap.size, 1, none⟩ = some (.slice ao L cap) := by simp [World.cell?, N0]
  have c0 : w1.cell? ⟨w.heap.size + 1, 0, none⟩ = some (.int .i64 0) := by simp [World.cell?, N1]
  have c1 : w1.cell? ⟨w.heap.size + 1, 1, none⟩ = some (.slice none 0 0) := by simp [World.cell?, N1]
  have c2 : w1.cell? ⟨w.heap.size + 1 + 1, 0, none⟩ = some (.int .i64 0) := by simp [World.cell?, N2]
  have c3 : w1.cell? ⟨w.heap.size + 1 + 1, 1, none⟩ = some (.int .i64 0) := by simp [World.cell?, N2]
  have f1 : ∀ j, w1.frozen? ⟨w.heap.size + 1, j, none⟩ = false := fun j => by simp [World.frozen?, N1]
  have f2 : ∀ j, w1.frozen? ⟨w.heap.size + 1 + 1, j, none⟩ = false := fun j => by simp [World.frozen?, N2]
  obtain ⟨m1, m2, m3, m4⟩ := four_cells N1 N2 (by omega) (.int .i64 0) (.slice none 0 0) (.int .i64 0) (.int .i64 0)
  have bz : Below w.heap.size w ((((w1.setCell ⟨w.heap.size + 1, 0, none⟩ (.int .i64 0)).setCell ⟨w.heap.size + 1, 1, none⟩ (.slice none 0 0)).setCell ⟨w.heap.size + 1 + 1, 0, none⟩ (.int .i64 0)).setCell ⟨w.heap.size + 1 + 1, 1, none⟩ (.int .i64 0)) :=
    (((b1.setCell (by show w.heap.size ≤ w.heap.size + 1; omega) _).setCell (by show w.heap.size ≤ w.heap.size + 1; omega) _).setCell (by show w.heap.size ≤ w.heap.size + 1 + 1; omega) _).setCell (by show w.heap.size ≤ w.heap.size + 1 + 1; omega) _
  have BZ : Aside (_ ∧ _ ∧ _ ∧ _ ∧ _) := ⟨m1, m2, m3, m4, bz⟩
  clear m1 m2 m3 m4 bz
  cases hq : hMay M l [] with
  | false =>
    have HE : Aside (r = ⟨0, [], 0, 0, 8⟩) := by show r = _; rw [HR.out, allocS, if_pos hq]
    clear HR
    simp only
    go_wp2
    obtain ⟨m1, m2, m3, m4, bz⟩ := BZ.out
    refine bodyPost_ret (v := .tuple #[.agg #[.int .i64 0, .slice none 0 0], .agg #[.int .i64 0, .int .i64 0], .int .i64 8]) (by simp [results, Try.results15, go_sem, m1, m2, m3, m4]) rfl ⟨none, 0, by rw [HE.out]; rfl, bz, [], by rw [HE.out]; rfl, by rw [HE.out]; exact heapOwn_nil _ _⟩
  | true =>
    simp only
    cases hn : (decide (1 ≤ n) && decide (n ≤ 4)) with
    | false =>
      have HE : Aside (r = ⟨0, [], 0, 0, 2⟩) := by show r = _; rw [HR.out, allocS, if_neg (by simp [hq]), if_pos hn]
      clear HR
      go_wp2_with (go_at_call 26; refine (in_any _ _ _ _).mono ?_; rintro e w' ⟨rfl, rfl⟩; rw [hn])
      obtain ⟨m1, m2, m3, m4, bz⟩ := BZ.out
      refine bodyPost_ret (v := .tuple #[.agg #[.int .i64 0, .slice none 0 0], .agg #[.int .i64 0, .int .i64 0], .int .i64 2]) (by simp [results, Try.results15, go_sem, m1, m2, m3, m4]) rfl ⟨none, 0, by rw [HE.out]; rfl, bz, [], by rw [HE.out]; rfl, by rw [HE.out]; exact heapOwn_nil _ _⟩
    | true =>
      by_cases hLM : (L : Int) = M
      · have HE : Aside (r = ⟨0, [], 0, 0, 7⟩) := by show r = _; rw [HR.out, allocS, if_neg (by simp [hq]), if_neg (by simp [hn]), if_pos (by rw [← HL.out]; exact hLM)]
        have hge : M ≤ (L : Int) := by omega
        clear HR hLM
        go_wp2_with (go_at_call 26; refine (in_any _ _ _ _).mono ?_; rintro e w' ⟨rfl, rfl⟩; rw [hn])
        obtain ⟨m1, m2, m3, m4, bz⟩ := BZ.out
        refine bodyPost_ret (v := .tuple #[.agg #[.int .i64 0, .slice none 0 0], .agg #[.int .i64 0, .int .i64 0], .int .i64 7]) (by simp [results, Try.results15, go_sem, m1, m2, m3, m4]) rfl ⟨none, 0, by rw [HE.out]; rfl, bz, [], by rw [HE.out]; rfl, by rw [HE.out]; exact heapOwn_nil _ _⟩
      · have hge : decide (M ≤ (L : Int)) = false := by
          have := hq
          simp [hMay, mMay, ← HL.out] at this
          simp; omega
        have hn1 : 1 ≤ n := by simp at hn; omega
        have hn4 : n ≤ 4 := by simp at hn; omega
        have hL60 : L ≤ 60 := by
          have := hq
          simp [hMay, mMay, ← HL.out] at this
          omega
        obtain ⟨F, rfl⟩ := Int.eq_ofNat_of_zero_le (show 0 ≤ n by omega)
        have HE : Aside (r = ⟨M, l ++ [⟨zeroVals F, false⟩], 2, L, 0⟩) := by show r = _; rw [HR.out, allocS, if_neg (by simp [hq]), if_neg (by simp [hn]), if_neg (by rw [← HL.out]; exact hLM), ← HL.out]; rfl
        clear HR hLM BZ hq
        go_wp2_with (first | (go_at_call 26; refine (in_any _ _ _ _).mono ?_; rintro e w' ⟨rfl, rfl⟩; rw [hn]) | fail)
        have hcl := heapCopy_any M ao cap l w1 (h.keeps k1)
        rw [← HL.out] at hcl
        refine hcl.mono ?_
        clear hcl
        rintro e w2 ⟨v, rows, rfl, hrows, hO, hb2⟩
        obtain ⟨va, vc, hv⟩ := hO.form
        have hlen : rows.length = L := by rw [HL.out, ← hrows, List.length_map]
        rw [hlen] at hv
        subst hv
        have HROWS : Aside (rows.map (·.2) = l) := hrows
        clear hrows
        replace N1 := (hb2.block _ (by omega)).trans N1
        replace N2 := (hb2.block _ (by omega)).trans N2
        replace b1 := b1.trans (hb2.mono (by omega))
        replace hO := hO.le (by omega : w.heap.size + 1 + 1 + 1 ≤ w1.heap.size)
        replace hs0 : w.heap.size + 1 + 1 + 1 ≤ w2.heap.size := Nat.le_trans hs0 hb2.size
        clear hb2 p0 p1 c0 c1 c2 c3 f1 f2 k1 hge hn N0
        go_wp2
        have hstart : Aside (OMid w2 ((w2.alloc (Obj.cells #[Value.int IntKind.i64 M, Value.slice va L vc] 24)).alloc (Obj.cells #[Value.slice none 0 0, Value.bool false] 49)) M (.slice va L vc) 0) := oMid_start w2 M _
        go_loopg [10] F (fun g s10 wr => ∃ i : Nat, i ≤ F ∧ g = F - i ∧ s10 = .int .i64 i ∧ OMid w2 wr M (.slice va L vc) i)
        case atStart => exact ⟨0, Nat.zero_le _, rfl, rfl, hstart.out⟩
        case round =>
          obtain ⟨i, hi, rfl, rfl, hmid⟩ := hrel
          clear hstart
          obtain ⟨fa, fc, hvo, hbo⟩ := hmid.own
          have q0 : wr.cell? ⟨w2.heap.size + 1, 0, none⟩ = some (.slice fa i fc) := by simp [World.cell?, hbo]
          have q1 : wr.cell? ⟨w2.heap.size + 1, 1, none⟩ = some (.bool false) := by simp [World.cell?, hbo]
          have q2 : ∀ j, wr.frozen? ⟨w2.heap.size + 1, j, none⟩ = false := fun j => by simp [World.frozen?, hbo]
          have hbig := hmid.big
          by_cases hiF : i < F
          · have hiz : (i : Int) < (F : Int) := by omega
            have hzl : Aside ((zeroVals i).length = i) := by show (zeroVals i).length = i; simp [zeroVals]
            go_wp2_with (at_builtin; refine wpList_pushValL rfl (.tmp 39) (.tmp 41) rfl (v := .slice fa i fc) rfl hvo hbig 0 0 rfl ?p1 ?_; (case p1 => rw [hzl.out]; omega); intro g gc w3 hvo3 hb3; rw [hzl.out]; rw [hzl.out] at hvo3; have q3 := (hb3.cell (p := ⟨w2.heap.size + 1, 0, none⟩) (by show w2.heap.size + 1 < _; omega)).trans q0; have q4 := fun j => (hb3.frozen (p := ⟨w2.heap.size + 1, j, none⟩) (by show w2.heap.size + 1 < _; omega)).trans (q2 j))
            have hnext := hmid.next hbo hvo3 hb3
            clear q0 q1 q2 q3 q4 hvo hbo hvo3 hb3 hmid
            go_roundg (F - (i + 1))
            case measure => go_light; omega
            case rel => go_light; exact ⟨i + 1, by omega, rfl, by go_num, hnext⟩
          · obtain rfl : i = F := by omega
            have hbx := hmid.box
            have hbw := hmid.below
            have p0 : wr.cell? ⟨w2.heap.size, 0, none⟩ = some (.int .i64 M) := by simp [World.cell?, hbx]
            have p1 : wr.cell? ⟨w2.heap.size, 1, none⟩ = some (.slice va L vc) := by simp [World.cell?, hbx]
            have f0 : ∀ j, wr.frozen? ⟨w2.heap.size, j, none⟩ = false := fun j => by simp [World.frozen?, hbx]
            have hOr := hO.below hbw
            replace N1 := (hbw.block _ (by omega)).trans N1
            replace N2 := (hbw.block _ (by omega)).trans N2
            replace b1 := b1.trans (hbw.mono (by omega))
            clear hmid
            go_wp2_with (at_builtin; refine wpList_pushOb rfl _ _ (by rfl) (v := .slice va L vc) (by rfl) hOr ?z0 (.slice fa i fc) ⟨zeroVals i, false⟩ rfl ?z1 ?z2 ?z3 ?z4 (by rfl) ?_; (case z0 => omega); (case z1 => exact ownsRow_le hvo (by omega)); (case z2 => simp [zeroVals]; omega); (case z3 => exact apart_new hO hvo (by omega)); (case z4 => omega); intro g gc w3 hO3 hb3 hg3; rw [hlen]; rw [hlen] at hO3; have B3 := owns_blk (hOr.alloc (.cells #[.slice fa i fc, .bool false] 49)).top hg3 ((Deep.blk_alloc_lt _ _ _ (by omega)).trans hbx) (by decide); have q3 := cell_blk B3 1; have q4 := fz_blk B3 1; obtain ⟨x0, x1, x2, x3, x4, x5, x6, x7, X0, X1, X2⟩ := allocOf_boxes (.slice (some ⟨g, 0, none⟩) (L + 1) gc) B3 ((hb3.block _ (by omega)).trans N1) ((hb3.block _ (by omega)).trans N2) (by omega) (by omega) (by omega))
            have hO5 := ownSet49 hO3 B3 (by decide) 1 (.slice (some ⟨g, 0, none⟩) (L + 1) gc)
            have b5 : Below w.heap.size w (w3.setCell ⟨w2.heap.size, 1, none⟩ (.slice (some ⟨g, 0, none⟩) (L + 1) gc)) := (b1.trans (hb3.mono (by omega))).setCell (by show w.heap.size ≤ w2.heap.size; omega) _
            obtain ⟨m1, m2, m3, m4⟩ := four_cells X1 X2 (by omega) (.int .i64 M) (.slice (some ⟨g, 0, none⟩) (L + 1) gc) (.int .i64 2) (.int .i64 L)
            have hol : r.obs.length = L + 1 := by rw [HE.out]; simp [HL.out]
            refine bodyPost_ret (v := .tuple #[.agg #[.int .i64 M, .slice (some ⟨g, 0, none⟩) (L + 1) gc], .agg #[.int .i64 2, .int .i64 L], .int .i64 0]) (by simp [results, Try.results15, go_sem, m1, m2, m3, m4]) rfl ⟨some ⟨g, 0, none⟩, gc, by rw [hol, HE.out], ?_, rows ++ [(.slice fa i fc, ⟨zeroVals i, false⟩)], by rw [HE.out, List.map_append, HROWS.out]; rfl, ?_⟩
            · exact (((b5.setCell (by show w.heap.size ≤ w.heap.size + 1; omega) _).setCell (by show w.heap.size ≤ w.heap.size + 1; omega) _).setCell (by show w.heap.size ≤ w.heap.size + 1 + 1; omega) _).setCell (by show w.heap.size ≤ w.heap.size + 1 + 1; omega) _
            · rw [hol]
              refine HeapOwn.le (base := w.heap.size + 1 + 1 + 1) ?_ (by omega)
              exact (((hO5.setLow (by show w.heap.size + 1 < _; omega) _).setLow (by show w.heap.size + 1 < _; omega) _).setLow (by show w.heap.size + 1 + 1 < _; omega) _).setLow (by show w.heap.size + 1 + 1 < _; omega) _

end Go.Proofs.Ytemehedbcckmgab
