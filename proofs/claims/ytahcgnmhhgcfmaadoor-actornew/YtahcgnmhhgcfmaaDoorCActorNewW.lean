/- The walk of the law ActorNew. -/
import Derived.Test.YtahcgnmhhgcfmaaDoorCRNew
import Derived.Test.YtahcgnmhhgcfmaaDoorCWSame
namespace Go.Proofs.YtahcgnmhhgcfmaaDoor
open Go.RowKit

set_option maxRecDepth 100000 in
set_option maxHeartbeats 800000 in
theorem actorNew_walk (ao : Option Addr) (G cap : Nat) (A : Nat → Option Addr) (L C : Nat → Nat) (X : Nat → Nat → Nat → Int) (most : Int) (w : World) (hT : TabAt 0 w) (hp : ProgAt w ao G A L C X) (_ : -9223372036854775808 ≤ most ∧ most ≤ 9223372036854775807) :
    Calls Tryd.prog 6 #[.agg #[.slice ao G cap], .int .i64 most] w fun e w' => e = .returned (.bool true) ∧ Below w.heap.size w w' := by
  have HA := fun (w : World) (hT : TabAt 0 w) (hp : ProgAt w ao G A L C X) => anew_any ao G cap A L C X most w hT hp
  have HR := fun (w : World) (hp : ProgAt w ao G A L C X) => rnew_any ao G cap A L C X most w hp
  generalize wnew G L X most = V at HA HR
  generalize wnewE G L X most = E at HA HR
  obtain ⟨B0, k1, b1, s1⟩ := boxes1 w (.cells #[.slice ao G cap] 26)
  obtain ⟨n1, hn1⟩ : ∃ n, n = V.acts.length := ⟨_, rfl⟩
  obtain ⟨n2, hn2⟩ : ∃ n, n = V.prints.length := ⟨_, rfl⟩
  rw [← hn1, ← hn2] at HA HR
  have HAs : Aside (∀ (w : World) (hT : TabAt 0 w) (hp : ProgAt w ao G A L C X), _) := HA
  have HRs : Aside (∀ (w : World) (hp : ProgAt w ao G A L C X), _) := HR
  have HN : Aside (n1 = V.acts.length ∧ n2 = V.prints.length) := ⟨hn1, hn2⟩
  clear HA HR hn1 hn2
  go_enter Tryd.func6, Tryd.ntmps6
  go_wp2_with fail
  generalize w.alloc (.cells #[.slice ao G cap] 26) = W at *
  refine (HAs.out _ (hT.keeps k1) (hp.keeps k1)).mono ?_
  rintro e w1 ⟨aa, ca, rfl, hb1, hA1, hP1⟩
  obtain ⟨C1, k2, b2, s2⟩ := boxes1 w1 (.cells #[.slice aa n1 ca, .slice none n2 0] 54)
  have kk := (Keeps.below hb1).trans k2
  have c0 := kk _ (.slice ao G cap) (vCell_blk B0 0)
  have hp2 := hp.keeps (k1.trans kk)
  have b3 := b1.trans ((hb1.trans (b2.mono hb1.size)).mono b1.size)
  have hA2 := hA1.keeps k2
  have hP2 := hP1.keeps k2
  clear hp hT hb1 hA1 hP1 k2 kk B0 k1 b1 b2 s1 s2
  go_wp2_with fail
  generalize w1.alloc (.cells #[.slice aa n1 ca, .slice none n2 0] 54) = W2 at *
  refine (HRs.out _ hp2).mono ?_
  rintro e w3 ⟨ab, cb, rfl, hb3, hA3, hP3⟩
  have k3 := Keeps.below hb3
  have d0 := k3 _ (.slice aa n1 ca) (vCell_blk C1 0)
  have d1 := k3 _ (.slice none n2 0) (vCell_blk C1 1)
  obtain ⟨D1, k4, b4, _⟩ := boxes1 w3 (.cells #[.slice ab n1 cb, .slice none n2 0] 54)
  have f0 := k4 _ _ d0
  have f1 := k4 _ _ d1
  have b5 := b3.trans ((hb3.trans (b4.mono hb3.size)).mono b3.size)
  have A4 := hA2.keeps (k3.trans k4)
  have P4 := hP2.keeps (k3.trans k4)
  have A5 := hA3.keeps k4
  have P5 := hP3.keeps k4
  clear k3 k4 hA2 hP2 hA3 hP3 hb3 b4 b3 C1 d0 d1
  go_wp2_with fail
  generalize w3.alloc (.cells #[.slice ab n1 cb, .slice none n2 0] 54) = W5 at *
  have hS := sameWorld_any aa ab none none ca cb 0 0 V W5 A4 A5 P4 P5
  rw [← HN.out.1, ← HN.out.2] at hS
  refine hS.mono ?_
  rintro e w6 ⟨rfl, hb6⟩
  go_wp2
  go_ret
  exact ⟨ret_bool (by simp), b5.trans (hb6.mono b5.size)⟩

end Go.Proofs.YtahcgnmhhgcfmaaDoor
