/- The walk of the law ActorCopies. -/
import Derived.Test.YtmecmelhmbihoaaCWCopy
import Derived.Test.YtmecmelhmbihoaaCWSame
namespace Go.Proofs.Ytmecmelhmbihoaa
open Go.RowKit

set_option maxRecDepth 100000 in
set_option maxHeartbeats 800000 in
theorem actorCopies_walk (V : Wd) (aa pa : Option Addr) (ac pc : Nat) (w : World) (ha : ActsAt w aa V.acts) (hp : ToldAt w pa V.prints) :
    Calls Try.prog 3 #[.agg #[.slice aa V.acts.length ac, .slice pa V.prints.length pc]] w fun e w' => e = .returned (.bool true) ∧ Below w.heap.size w w' := by
  have hC := fun (w : World) (ha : ActsAt w aa V.acts) (hp : ToldAt w pa V.prints) => copy_any aa pa ac pc V w ha hp
  have hS := fun (ga gp : Nat) (w : World) (h1 : ActsAt w (some ⟨ga, 0, none⟩) V.acts) (h2 : ActsAt w aa V.acts) (h3 : ToldAt w (some ⟨gp, 0, none⟩) V.prints) (h4 : ToldAt w pa V.prints) => sameWorld_any (some ⟨ga, 0, none⟩) aa (some ⟨gp, 0, none⟩) pa V.acts.length ac V.prints.length pc V w h1 h2 h3 h4
  obtain ⟨n1, hn1⟩ : ∃ n, n = V.acts.length := ⟨_, rfl⟩
  obtain ⟨n2, hn2⟩ : ∃ n, n = V.prints.length := ⟨_, rfl⟩
  rw [← hn1, ← hn2] at hC hS ⊢
  have HC : Aside (∀ (w : World) (ha : ActsAt w aa V.acts) (hp : ToldAt w pa V.prints), Calls Try.prog 4 _ w _) := hC
  have HS : Aside (∀ (ga gp : Nat) (w : World) (h1 : ActsAt w (some ⟨ga, 0, none⟩) V.acts) (h2 : ActsAt w aa V.acts) (h3 : ToldAt w (some ⟨gp, 0, none⟩) V.prints) (h4 : ToldAt w pa V.prints), Calls Try.prog 5 _ w _) := hS
  clear hC hS hn1 hn2
  obtain ⟨B0, k1, b1, s1⟩ := boxes1 w (.cells #[.slice aa n1 ac, .slice pa n2 pc] 25)
  go_enter Try.func3, Try.ntmps3
  go_wp2_with fail
  generalize w.alloc (.cells #[.slice aa n1 ac, .slice pa n2 pc] 25) = W at *
  replace ha := ha.keeps k1
  replace hp := hp.keeps k1
  refine Calls.mono (HC.out W ha hp) ?_
  rintro e w1 ⟨ga, gp, rfl, hb1, hA1, hP1⟩
  obtain ⟨C1, k2, b2, _⟩ := boxes1 w1 (.cells #[.slice (some ⟨ga, 0, none⟩) n1 n1, .slice (some ⟨gp, 0, none⟩) n2 n2] 25)
  have kk := (Keeps.below hb1).trans k2
  have c0 := kk _ (.slice aa n1 ac) (cell_blk B0 0)
  have c1 := kk _ (.slice pa n2 pc) (cell_blk B0 1)
  have b3 := b1.trans ((hb1.trans (b2.mono hb1.size)).mono b1.size)
  have hA2 := hA1.keeps k2
  have hP2 := hP1.keeps k2
  have hA3 := ha.keeps kk
  have hP3 := hp.keeps kk
  clear ha hp hb1 hA1 hP1 k2 kk B0 k1 b1 b2 s1
  go_wp2_with fail
  generalize w1.alloc (.cells #[.slice (some ⟨ga, 0, none⟩) n1 n1, .slice (some ⟨gp, 0, none⟩) n2 n2] 25) = W2 at *
  refine Calls.mono (HS.out ga gp W2 hA2 hA3 hP2 hP3) ?_
  rintro e w3 ⟨rfl, hb3⟩
  go_wp2
  go_ret
  exact ⟨ret_bool (by simp), b3.trans (hb3.mono b3.size)⟩

end Go.Proofs.Ytmecmelhmbihoaa
