/- The walk of the law HeapGets. -/
import Derived.Test.YtemehedbcckmgabHGot
import Derived.WalkKit
import Derived.WalkSpells
import Derived.WalkLawsBesides
import Derived.Deep.LoopGhost
import Derived.Deep.Light
namespace Go.Proofs.Ytemehedbcckmgab
open Go.RowKit

set_option maxHeartbeats 1600000 in
theorem heapGets_walk (M : Int) (ao : Option Addr) (cap : Nat) (l : List Ob) (k n f : Int) (w : World) (h : ObsAt w ao l) (_hn : -9223372036854775808 ≤ f ∧ f ≤ 9223372036854775807) :
    Calls Try.prog 6 #[.agg #[.int .i64 M, .slice ao l.length cap], .agg #[.int .i64 k, .int .i64 n], .int .i64 f] w fun e w' => e = .returned (.bool true) ∧ Below w.heap.size w w' := by
  go_enter Try.func6, Try.ntmps6
  go_wp2_with fail
  have HB := boxes2 w (Obj.cells #[.int .i64 M, .slice ao l.length cap] 24) (Obj.cells #[.int .i64 k, .int .i64 n] 33)
  generalize (w.alloc (Obj.cells #[.int .i64 M, .slice ao l.length cap] 24)).alloc (Obj.cells #[.int .i64 k, .int .i64 n] 33) = W at *
  obtain ⟨N0, N1, k1, b1, hs⟩ := HB
  refine (get_any M ao cap l k n f W (h.keeps k1)).mono ?_
  rintro e w1 ⟨rfl, hb⟩
  replace N0 := (hb.block _ (by omega)).trans N0
  replace N1 := (hb.block _ (by omega)).trans N1
  replace b1 := b1.trans (hb.mono (by omega))
  replace k1 := k1.trans (Keeps.below hb)
  replace hs : w.heap.size + 1 + 1 ≤ w1.heap.size := by have := hb.size; omega
  clear hb
  clear W
  have p0 := fun o => Keeps.alloc w1 o _ _ (show w1.cell? ⟨w.heap.size, 0, none⟩ = some (.int .i64 M) by simp [World.cell?, N0])
  have p1 := fun o => Keeps.alloc w1 o _ _ (show w1.cell? ⟨w.heap.size, 1, none⟩ = some (.slice ao l.length cap) by simp [World.cell?, N0])
  have p2 := fun o => Keeps.alloc w1 o _ _ (show w1.cell? ⟨w.heap.size + 1, 0, none⟩ = some (.int .i64 k) by simp [World.cell?, N1])
  have p3 := fun o => Keeps.alloc w1 o _ _ (show w1.cell? ⟨w.heap.size + 1, 1, none⟩ = some (.int .i64 n) by simp [World.cell?, N1])
  obtain ⟨r, hr⟩ : ∃ r, getS M l ⟨k, n⟩ f = r := ⟨_, rfl⟩
  have HR : Aside (getS M l ⟨k, n⟩ f = r) := hr
  rw [hr]
  clear hr
  go_wp2_with fail
  have a0 : (w1.alloc (Obj.cells #[.int .i64 r.1.k, .int .i64 r.1.n] 33)).cell? ⟨w1.heap.size, 0, none⟩ = some (.int .i64 r.1.k) := by simp
  have a1 : (w1.alloc (Obj.cells #[.int .i64 r.1.k, .int .i64 r.1.n] 33)).cell? ⟨w1.heap.size, 1, none⟩ = some (.int .i64 r.1.n) := by simp
  have hg := gotOf_any M ao cap l k n f _ (h.keeps (k1.trans (Keeps.alloc _ (Obj.cells #[.int .i64 r.1.k, .int .i64 r.1.n] 33))))
  rw [HR.out] at hg
  refine hg.mono ?_
  clear hg
  rintro e w2 ⟨rfl, hb2⟩
  replace a0 := fun o => Keeps.alloc w2 o _ _ (Keeps.below hb2 _ _ a0)
  replace a1 := fun o => Keeps.alloc w2 o _ _ (Keeps.below hb2 _ _ a1)
  have hs2 := hb2.size
  simp at hs2
  have b2 := (b1.alloc (by omega) _).trans (hb2.mono (by simp; omega))
  clear hb2 p0 p1 p2 p3 N0 N1
  go_wp2
  go_ret
  exact ⟨rfl, b2.alloc (by omega) _⟩

end Go.Proofs.Ytemehedbcckmgab
