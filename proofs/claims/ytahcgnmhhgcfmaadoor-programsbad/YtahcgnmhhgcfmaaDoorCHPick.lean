/- The walk of picked; raw things in memory. -/
import Derived.Test.YtahcgnmhhgcfmaaDoorChecked
import Derived.Test.YtahcgnmhhgcfmaaDoorCPlain
import Derived.WalkKit
import Derived.WalkSpells
import Derived.WalkLawsBesides
import Derived.Deep.Light
namespace Go.Proofs.YtahcgnmhhgcfmaaDoor
open Go.RowKit

set_option maxHeartbeats 400000 in
theorem picked_any (n many : Int) (w : World) (h1 : -9223372036854775808 ≤ n) (h2 : n ≤ 9223372036854775807) (hm : 0 < many) (hm' : many ≤ 1000000) :
    Calls Tryd.prog 13 #[.int .i64 n, .int .i64 many] w fun e w' => e = .returned (.int .i64 (pick n many)) ∧ w = w' := by
  by_cases hn : n < 0
  · have hP : pick n many = (-(n + 1)) % many := by simp [pick, hn]
    rw [hP]
    clear hP
    go_enter Tryd.func13, Tryd.ntmps13
    go_wp2
    go_ret
    exact ⟨ret_num (by first | rfl | (rw [← Int.tmod_eq_emod_of_nonneg (by omega), Int.neg_tmod]) | skip), rfl⟩
  · have hP : pick n many = n % many := by simp [pick, hn]
    have hd : decide (n < 0) = false := by simp; omega
    rw [hP]
    clear hP
    go_enter Tryd.func13, Tryd.ntmps13
    go_wp2
    go_ret
    exact ⟨ret_num (by first | rfl | (rw [← Int.tmod_eq_emod_of_nonneg (by omega), Int.neg_tmod]) | skip), rfl⟩

/-- These raw things lie in a row. -/
def RawsAt (w : World) (ao : Option Addr) (l : List Rw) : Prop :=
  ∀ (i : Nat) r, l[i]? = some r → ∃ b o, ao = some ⟨b, o, none⟩ ∧ b < w.heap.size ∧ w.cell? ⟨b, o + i * 4, none⟩ = some (.int .i64 r.k) ∧ w.cell? ⟨b, o + i * 4 + 1, none⟩ = some (.int .i64 r.a) ∧ w.cell? ⟨b, o + i * 4 + 2, none⟩ = some (.int .i64 r.b) ∧ w.cell? ⟨b, o + i * 4 + 3, none⟩ = some (.int .i64 r.c) ∧
    fit64 r.k ∧ fit64 r.a ∧ fit64 r.b ∧ fit64 r.c

theorem RawsAt.keeps {w w' : World} {ao : Option Addr} {l : List Rw} (h : RawsAt w ao l) (k : Keeps w w') : RawsAt w' ao l := fun i r hi => by
  obtain ⟨b, o, e, _, h1, h2, h3, h4, h5⟩ := h i r hi
  exact ⟨b, o, e, World.block_lt_of_cell? _ _ (k _ _ h1), k _ _ h1, k _ _ h2, k _ _ h3, k _ _ h4, h5⟩

end Go.Proofs.YtahcgnmhhgcfmaaDoor
