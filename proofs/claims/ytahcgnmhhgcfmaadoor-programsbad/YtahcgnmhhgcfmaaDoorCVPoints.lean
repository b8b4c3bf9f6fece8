/- All rounds over a behavior: the program's points. -/
import Derived.Test.YtahcgnmhhgcfmaaDoorCVRound
import Derived.Test.YtahcgnmhhgcfmaaDoorCPlain
namespace Go.Proofs.YtahcgnmhhgcfmaaDoor
open Go.RowKit

theorem Tryd.infoPt : (Tryd.prog.info? 75).map (fun i => (i.zero, i.size, i.bytes)) = some (some (.agg #[.bool false, .int .i64 0, .int .i64 0, .int .i64 0, .int .i64 0, .int .i64 0, .int .i64 0, .int .i64 0, .int .i64 0]), 9, 72) := by kernel_rfl

theorem good_iterL {x : Nat → Nat → Int} {L : Nat} : ∀ (n : Nat) {st : List Pt}, VGood L st → VGood L (vIter x L n st)
  | 0, _, h => h
  | n + 1, _, h => good_iterL n (VGood.turns h x L)

theorem VMu.of {L : Nat} {st : List Pt} (h : VGood L st) (x : Nat → Nat → Int) : vRound x L st ≠ st → vMu (vRound x L st) < vMu st := (vTurns_mu h x L).2

set_option maxHeartbeats 1000000 in
theorem points_any (ao : Option Addr) (L rc : Nat) (x : Nat → Nat → Int) (w : World) (hrow : RowAt w ao L x) (hx : RowOk L x) :
    Calls Tryd.prog 31 #[.slice ao L rc] w fun e w' => ∃ g cap st, e = .returned (.slice (some ⟨g, 0, none⟩) L cap) ∧ IsFlow x L st ∧ PtsOwn w' w.heap.size g cap L st ∧ Below w.heap.size w w' := by
  have hL := hx.len
  have hmk := run_make_wide (P := Tryd.prog) 9 70 75 _ 72 Tryd.underlying70 Tryd.infoPt .i64 .i64 L (by omega) (by omega)
  have hown := ownsRow_made (f := ptC) ptC_len (by omega) #[.bool false, .int .i64 0, .int .i64 0, .int .i64 0, .int .i64 0, .int .i64 0, .int .i64 0, .int .i64 0, .int .i64 0] none rfl w w.heap.size L 75 (Nat.le_refl _) (by unfold maxLen; omega)
  have b1 := below_box w (.cells (madeCells #[.bool false, .int .i64 0, .int .i64 0, .int .i64 0, .int .i64 0, .int .i64 0, .int .i64 0, .int .i64 0, .int .i64 0] (L * 9)) 75)
  have hP : PtsOwn _ w.heap.size w.heap.size L L (List.replicate L none) := hown
  clear hown
  go_enter Tryd.func31, Tryd.ntmps31
  go_upto_region 2 with fail
  simp only [Value.cells] at hmk ⊢
  obtain ⟨g, hg⟩ : ∃ g, g = w.heap.size := ⟨_, rfl⟩
  have hgw : w.heap.size ≤ g := by omega
  rw [← hg] at hP ⊢
  rw [← hg] at b1
  clear hmk
  generalize w.alloc (.cells (madeCells #[.bool false, .int .i64 0, .int .i64 0, .int .i64 0, .int .i64 0, .int .i64 0, .int .i64 0, .int .i64 0, .int .i64 0] (L * 9)) 75) = W at *
  replace hP : PtsOwn W w.heap.size g L L (List.replicate L none) := by rw [hg] at hP ⊢; exact hP
  replace b1 : Below w.heap.size w W := by rw [hg] at b1; exact b1
  clear hg
  have hput := hP.put (by simp) (j := 0) (by omega) (some [3, 3, 0, 0, 0, 0, 0, 0])
  obtain ⟨p0, p1, p2, p3, p4, p5, p6, p7, p8⟩ := hP.cells (j := 0) (p := none) (by rw [List.getElem?_replicate, if_pos (by omega)])
  have hfz : ∀ j, W.frozen? ⟨g, j, none⟩ = false := fun j => ownsRow_frozenAt hP rfl j
  have hpb := putAt_below (A := g) hgw (ptC (some [3, 3, 0, 0, 0, 0, 0, 0])) 0 b1
  rw [Nat.zero_mul] at hput p0 p1 p2 p3 p4 p5 p6 p7 p8
  simp only [Nat.zero_add] at p1 p2 p3 p4 p5 p6 p7 p8
  have hgl := hP.lt.2
  have HPUT : Aside (PtsOwn (putAt W g 0 (ptC (some [3, 3, 0, 0, 0, 0, 0, 0]))) w.heap.size g L L (vStart L) ∧ Below w.heap.size w (putAt W g 0 (ptC (some [3, 3, 0, 0, 0, 0, 0, 0])))) := ⟨hput, hpb⟩
  clear hput hpb hP b1
  have hLz : (0 : Int) < (L : Int) := by omega
  go_upto_region 3 with fail
  change Code.wp _ _ _ _ (putAt W g 0 (ptC (some [3, 3, 0, 0, 0, 0, 0, 0])))
  obtain ⟨hP, hb⟩ := HPUT.out
  clear HPUT p0 p1 p2 p3 p4 p5 p6 p7 p8 hfz hgl
  generalize putAt W g 0 (ptC (some [3, 3, 0, 0, 0, 0, 0, 0])) = W2 at *
  go_loopg [13] (vMu (vStart L)) (fun g' s13 wr => ∃ n : Nat, g' = vMu (vIter x L n (vStart L)) ∧ PtsOwn wr w.heap.size g L L (vIter x L n (vStart L)) ∧ Below w.heap.size w wr)
  case atStart => exact ⟨0, rfl, hP, hb⟩
  case round =>
    clear hP hb
    obtain ⟨n, rfl, hP, hb⟩ := hrel
    have hgd := good_iterL (x := x) n (vgood_start L)
    obtain ⟨st, hst⟩ : ∃ st, st = vIter x L n (vStart L) := ⟨_, rfl⟩
    have HST : Aside (st = vIter x L n (vStart L)) := hst
    rw [← hst] at hP hgd
    clear hst
    have mu := VMu.of hgd x
    go_wp2_with fail
    refine (round_any w wr ao L rc x g L st hb hrow hx hP hgd).mono ?_
    rintro e w2 ⟨rfl, hP2, hb2⟩
    cases hd : decide (vRound x L st ≠ st) with
    | true =>
      have hne := of_decide_eq_true hd
      have hlt := mu hne
      go_wp2
      go_roundg (vMu (vRound x L st))
      case measure => go_light; rw [← HST.out]; exact hlt
      case rel =>
        go_light
        refine ⟨n + 1, ?_, ?_, hb2⟩
        · rw [vIter_succ, ← HST.out]
        · rw [vIter_succ, ← HST.out]; exact hP2
    | false =>
      have heq : vRound x L st = st := by
        have := of_decide_eq_false hd
        exact Classical.byContradiction fun h => this h
      rw [heq] at hP2
      have HF : Aside (IsFlow x L st) := ⟨⟨n, HST.out⟩, heq⟩
      clear heq hd
      go_wp2
      go_ret
      exact ⟨g, L, st, rfl, HF.out, hP2, hb2⟩

end Go.Proofs.YtahcgnmhhgcfmaaDoor
