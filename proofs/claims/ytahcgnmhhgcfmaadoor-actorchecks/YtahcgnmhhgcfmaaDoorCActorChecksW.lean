/- The walk of the law ActorChecks. -/
import Derived.Test.YtahcgnmhhgcfmaaDoorCRWorld
import Derived.Test.YtahcgnmhhgcfmaaDoorCWIsWorld
namespace Go.Proofs.YtahcgnmhhgcfmaaDoor
open Go.RowKit

set_option maxRecDepth 100000 in
set_option maxHeartbeats 800000 in
theorem actorChecks_walk (ao : Option Addr) (G cap : Nat) (A : Nat → Option Addr) (L C : Nat → Nat) (X : Nat → Nat → Nat → Int) (V : Wd) (aa pa : Option Addr) (ac pc : Nat) (w : World) (hT : TabAt 0 w) (hP : ProgAt w ao G A L C X) (ha : ActsAt w aa V.acts) (hp : ToldAt w pa V.prints) :
    Calls Tryd.prog 7 #[.agg #[.slice ao G cap], .agg #[.slice aa V.acts.length ac, .slice pa V.prints.length pc]] w fun e w' => e = .returned (.bool true) ∧ Below w.heap.size w w' := by
  have hC := fun (w : World) (hT : TabAt 0 w) (hP : ProgAt w ao G A L C X) (ha : ActsAt w aa V.acts) (hp : ToldAt w pa V.prints) => acheck_any ao G cap A L C X aa pa ac pc V w hT hP ha hp
  have hF := fun (w : World) (hP : ProgAt w ao G A L C X) (ha : ActsAt w aa V.acts) (hp : ToldAt w pa V.prints) => worldFault_any ao G cap A L C X aa pa ac pc V w hP ha hp
  generalize wckS G L X V = R at hC hF
  obtain ⟨n, hn⟩ : ∃ n, n = V.acts.length := ⟨_, rfl⟩
  obtain ⟨K, hK⟩ : ∃ K, K = V.prints.length := ⟨_, rfl⟩
  rw [← hn, ← hK] at hC hF ⊢
  have HC : Aside (∀ (w : World) (hT : TabAt 0 w) (hP : ProgAt w ao G A L C X) (ha : ActsAt w aa V.acts) (hp : ToldAt w pa V.prints), Calls Tryd.prog 24 #[.agg #[.slice ao G cap], .agg #[.slice aa n ac, .slice pa K pc]] w _) := hC
  have HF : Aside (∀ (w : World) (hP : ProgAt w ao G A L C X) (ha : ActsAt w aa V.acts) (hp : ToldAt w pa V.prints), Calls Tryd.prog 25 #[.agg #[.slice ao G cap], .agg #[.slice aa n ac, .slice pa K pc]] w _) := hF
  clear hC hF hn hK
  obtain ⟨N0, N1, k1, b1, s1⟩ := boxes2 w (.cells #[.slice ao G cap] 26) (.cells #[.slice aa n ac, .slice pa K pc] 54)
  go_enter Tryd.func7, Tryd.ntmps7
  go_wp2_with fail
  generalize (w.alloc (.cells #[.slice ao G cap] 26)).alloc (.cells #[.slice aa n ac, .slice pa K pc] 54) = W at *
  replace hP := hP.keeps k1
  replace ha := ha.keeps k1
  replace hp := hp.keeps k1
  refine Calls.mono (HC.out W (hT.keeps k1) hP ha hp) ?_
  rintro e w1 ⟨rfl, hb1⟩
  have kk := Keeps.below hb1
  have p0 := kk _ (.slice ao G cap) (cell_blk N0 0)
  have q0 := kk _ (.slice aa n ac) (cell_blk N1 0)
  have q1 := kk _ (.slice pa K pc) (cell_blk N1 1)
  have b2 := b1.trans (hb1.mono b1.size)
  replace hP := hP.keeps kk
  replace ha := ha.keeps kk
  replace hp := hp.keeps kk
  clear kk hb1 b1 k1 N0 N1 s1 hT
  go_wp2_with fail
  refine Calls.mono (HF.out w1 hP ha hp) ?_
  rintro e w2 ⟨rfl, hb2⟩
  have b3 := b2.trans (hb2.mono b2.size)
  go_wp2
  go_ret
  exact ⟨ret_bool (by simp), b3⟩

end Go.Proofs.YtahcgnmhhgcfmaaDoor
