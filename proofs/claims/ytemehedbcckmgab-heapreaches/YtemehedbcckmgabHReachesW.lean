/- The walk of the law HeapReaches. -/
import Derived.Test.YtemehedbcckmgabHLed
import Derived.WalkKit
import Derived.WalkSpells
import Derived.WalkLawsBesides
import Derived.Deep.LoopGhost
import Derived.Deep.Light
namespace Go.Proofs.Ytemehedbcckmgab
open Go.RowKit Go.Maps

set_option maxHeartbeats 1000000 in
theorem heapReaches_walk (M : Int) (ao : Option Addr) (cap : Nat) (l : List Ob) (ra : Option Addr) (rc : Nat) (roots : List Vl) (w : World) (h : ObsAt w ao l) (hr : ValsAt w ra roots) (hrl : 16 * roots.length ≤ 140737488351232) :
    Calls Try.prog 8 #[.agg #[.int .i64 M, .slice ao l.length cap], .slice ra roots.length rc] w fun e w' => e = .returned (.bool true) ∧ Below w.heap.size w w' := by
  have hlen : (reachS M l roots).1.length ≤ 60 := by
    unfold reachS
    split
    · rename_i hq
      have hrv : roots.all (vMay l.length) = true := by simp only [hMay, Bool.and_eq_true] at hq; exact hq.2
      exact Nat.le_trans (reach_ok hq roots hrv).len (hMay_bound hq)
    · simp
  obtain ⟨r, hrr⟩ : ∃ r, reachS M l roots = r := ⟨_, rfl⟩
  have HR : Aside (reachS M l roots = r) := hrr
  rw [hrr] at hlen
  clear hrr
  go_enter Try.func8, Try.ntmps8
  go_wp2_with fail
  have HB := boxes1 w (Obj.cells #[.int .i64 M, .slice ao l.length cap] 24)
  generalize w.alloc (Obj.cells #[.int .i64 M, .slice ao l.length cap] 24) = W at *
  obtain ⟨N0, k1, b1, hs⟩ := HB
  have h1 := reach_any M ao cap l ra rc roots W (h.keeps k1) (hr.keeps k1) hrl
  rw [HR.out] at h1
  refine h1.mono ?_
  clear h1
  rintro e w1 ⟨ov, oc, rfl, hb, hI⟩
  replace N0 := (hb.block _ (by omega)).trans N0
  replace b1 := b1.trans (hb.mono (by omega))
  replace k1 := k1.trans (Keeps.below hb)
  have hs1 : w.heap.size + 1 ≤ w1.heap.size := by have := hb.size; omega
  have p0 := cell_blk N0 0
  have p1 := cell_blk N0 1
  simp at p0 p1
  have hA := hI.at
  clear hb hI
  go_wp2_with fail
  have h2 := reachOf_any M ao cap l ra rc roots w1 (h.keeps k1) (hr.keeps k1) hrl
  rw [HR.out] at h2
  refine h2.mono ?_
  clear h2
  rintro e w2 ⟨ov2, oc2, rfl, hb2, hI2⟩
  have b2 := b1.trans (hb2.mono (by omega))
  have hA2 := hA.keeps (Keeps.below hb2)
  have hB2 := hI2.at
  clear hb2 hI2 p0 p1 N0
  go_wp2_with fail
  refine (sameInts_any ov ov2 oc oc2 r.1 _ hA2 hB2 (by omega)).mono ?_
  rintro e w3 ⟨rfl, n, rfl⟩
  go_wp2
  go_ret
  exact ⟨rfl, below_drewN b2 n⟩

end Go.Proofs.Ytemehedbcckmgab
