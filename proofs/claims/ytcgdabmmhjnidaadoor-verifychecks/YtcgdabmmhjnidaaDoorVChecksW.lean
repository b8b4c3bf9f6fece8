/- The walk of the law VerifyChecks. -/
import Derived.Test.YtcgdabmmhjnidaaDoorVCheck
import Derived.Test.YtcgdabmmhjnidaaDoorRVer
namespace Go.Proofs.YtcgdabmmhjnidaaDoor
open Go.RowKit

set_option maxHeartbeats 400000 in
theorem verifyChecks_walk (ao : Option Addr) (G cap : Nat) (A : Nat → Option Addr) (L C : Nat → Nat) (X : Nat → Nat → Nat → Int) (w : World) (hT : TabAt 0 w) (hp : ProgAt w ao G A L C X) :
    Calls Tryd.prog 4 #[.agg #[.slice ao G cap]] w fun e w' => e = .returned (.bool true) ∧ Below w.heap.size w w' := by
  go_enter Tryd.func4, Tryd.ntmps4
  go_wp2_with fail
  have k1 := Keeps.alloc w (Obj.cells #[Value.slice ao G cap] 24)
  have b1 := below_box w (Obj.cells #[Value.slice ao G cap] 24)
  have c1 : (w.alloc (Obj.cells #[Value.slice ao G cap] 24)).cell? ⟨w.heap.size, 0, none⟩ = some (.slice ao G cap) := by simp
  refine (vcheck_any ao G cap A L C X _ (hT.keeps k1) (hp.keeps k1)).mono ?_
  rintro e w1 ⟨rfl, hb⟩
  have k2 := Keeps.below hb
  have c2 := k2 _ _ c1
  have b2 : Below w.heap.size w w1 := b1.trans (hb.mono (by simp))
  have hp2 := hp.keeps (k1.trans k2)
  clear hb c1 k2 k1 b1 hp
  go_wp2_with fail
  refine (verifiedOf_any ao G cap A L C X _ hp2).mono ?_
  rintro e w2 ⟨rfl, hb2⟩
  have b3 : Below w.heap.size w w2 := b2.trans (hb2.mono b2.size)
  clear hb2 c2
  go_wp2
  go_ret
  exact ⟨ret_bool (by simp), b3⟩

end Go.Proofs.YtcgdabmmhjnidaaDoor
