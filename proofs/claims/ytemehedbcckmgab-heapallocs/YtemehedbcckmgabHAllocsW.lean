/- The walk of the law HeapAllocs. -/
import Derived.Test.YtemehedbcckmgabHAllocOf
import Derived.Test.YtemehedbcckmgabHSame
import Derived.WalkKit
import Derived.WalkSpells
import Derived.WalkLawsBesides
import Derived.Deep.LoopGhost
import Derived.Deep.Light
namespace Go.Proofs.Ytemehedbcckmgab
open Go.RowKit

set_option maxHeartbeats 1600000 in
theorem heapAllocs_walk (M : Int) (ao : Option Addr) (cap : Nat) (l : List Ob) (n : Int) (w : World) (h : ObsAt w ao l) (_hn : -9223372036854775808 ≤ n ∧ n ≤ 9223372036854775807) :
    Calls Try.prog 5 #[.agg #[.int .i64 M, .slice ao l.length cap], .int .i64 n] w fun e w' => e = .returned (.bool true) ∧ Below w.heap.size w w' := by
  go_enter Try.func5, Try.ntmps5
  go_wp2_with fail
  have k1 := Keeps.alloc w (Obj.cells #[.int .i64 M, .slice ao l.length cap] 24)
  have b1 := below_box w (Obj.cells #[.int .i64 M, .slice ao l.length cap] 24)
  have N0 := Deep.blk_alloc_new w (Obj.cells #[.int .i64 M, .slice ao l.length cap] 24)
  have hs1 : (w.alloc (Obj.cells #[.int .i64 M, .slice ao l.length cap] 24)).heap.size = w.heap.size + 1 := by simp
  refine (heapCopy_any M ao cap l _ (h.keeps k1)).mono ?_
  rintro e w1 ⟨kv, krows, rfl, hk, hKO, hb⟩
  rw [hs1] at hb
  obtain ⟨ka, kc, rfl⟩ := hKO.form
  have hK1 := hKO.obs.2
  rw [hk] at hK1
  have hkl : krows.length = l.length := by rw [← hk, List.length_map]
  rw [hkl]
  replace N0 := (hb.block _ (by omega)).trans N0
  replace k1 := k1.trans (fun a v e => (hb.cell (p := a) (by have := World.block_lt_of_cell? _ _ e; omega)).trans e)
  replace b1 := b1.trans (hb.mono (by omega))
  have hs2 : w.heap.size + 1 ≤ w1.heap.size := by have := hb.size; omega
  have p0 := cell_blk N0 0
  have p1 := cell_blk N0 1
  simp at p0 p1
  clear hKO hk hb hs1
  go_wp2_with fail
  have kk := Keeps.alloc w1 (Obj.cells #[.int .i64 M, .slice ka l.length kc] 24)
  have r0 : (w1.alloc (Obj.cells #[.int .i64 M, .slice ka l.length kc] 24)).cell? ⟨w1.heap.size, 0, none⟩ = some (.int .i64 M) := by simp
  have r1 : (w1.alloc (Obj.cells #[.int .i64 M, .slice ka l.length kc] 24)).cell? ⟨w1.heap.size, 1, none⟩ = some (.slice ka l.length kc) := by simp
  refine (alloc_any M ka kc l n _ (hK1.keeps kk)).mono ?_
  rintro e w2 ⟨va, vc, rfl, hb2, rows2, hr2, hO2⟩
  have hA2 := hO2.obs.2
  rw [hr2] at hA2
  have k2 : Keeps w1 w2 := kk.trans (Keeps.below hb2)
  replace r0 := Keeps.below hb2 _ _ r0
  replace r1 := Keeps.below hb2 _ _ r1
  have b2 : Below w.heap.size w w2 := (b1.alloc (by omega) _).trans (hb2.mono (by simp; omega))
  have hs3 : w1.heap.size + 1 ≤ w2.heap.size := by have := hb2.size; simp at this; omega
  have hAA : Aside (ObsAt w2 va (allocS M l n).obs) := hA2
  have P0 : ∀ o o', ((w2.alloc o).alloc o').cell? ⟨w.heap.size, 0, none⟩ = some (.int .i64 M) := fun o o' => Keeps.alloc _ o' _ _ (Keeps.alloc _ o _ _ (k2 _ _ p0))
  have P1 : ∀ o o', ((w2.alloc o).alloc o').cell? ⟨w.heap.size, 1, none⟩ = some (.slice ao l.length cap) := fun o o' => Keeps.alloc _ o' _ _ (Keeps.alloc _ o _ _ (k2 _ _ p1))
  clear hb2 hO2 hr2 hA2 kk b1 N0
  generalize hr : allocS M l n = r at *
  have HR : Aside (allocS M l n = r) := hr
  clear hr
  go_wp2_with fail
  have k3 := (Keeps.alloc w2 (Obj.cells #[.int .i64 r.M, .slice va r.obs.length vc] 24)).trans (Keeps.alloc _ (Obj.cells #[.int .i64 r.k, .int .i64 r.n] 33))
  have b3 : Below w.heap.size w ((w2.alloc (Obj.cells #[.int .i64 r.M, .slice va r.obs.length vc] 24)).alloc (Obj.cells #[.int .i64 r.k, .int .i64 r.n] 33)) := (b2.alloc (by omega) _).alloc (by simp; omega) _
  have a0 : ((w2.alloc (Obj.cells #[.int .i64 r.M, .slice va r.obs.length vc] 24)).alloc (Obj.cells #[.int .i64 r.k, .int .i64 r.n] 33)).cell? ⟨w2.heap.size, 0, none⟩ = some (.int .i64 r.M) := by simp
  have a1 : ((w2.alloc (Obj.cells #[.int .i64 r.M, .slice va r.obs.length vc] 24)).alloc (Obj.cells #[.int .i64 r.k, .int .i64 r.n] 33)).cell? ⟨w2.heap.size, 1, none⟩ = some (.slice va r.obs.length vc) := by simp
  have a2 : ((w2.alloc (Obj.cells #[.int .i64 r.M, .slice va r.obs.length vc] 24)).alloc (Obj.cells #[.int .i64 r.k, .int .i64 r.n] 33)).cell? ⟨w2.heap.size + 1, 0, none⟩ = some (.int .i64 r.k) := by simp
  have a3 : ((w2.alloc (Obj.cells #[.int .i64 r.M, .slice va r.obs.length vc] 24)).alloc (Obj.cells #[.int .i64 r.k, .int .i64 r.n] 33)).cell? ⟨w2.heap.size + 1, 1, none⟩ = some (.int .i64 r.n) := by simp
  have hs4 : ((w2.alloc (Obj.cells #[.int .i64 r.M, .slice va r.obs.length vc] 24)).alloc (Obj.cells #[.int .i64 r.k, .int .i64 r.n] 33)).heap.size = w2.heap.size + 1 + 1 := by simp
  have hof := allocOf_any M ao cap l n _ (h.keeps (k1.trans (k2.trans k3)))
  rw [HR.out] at hof
  refine hof.mono ?_
  clear hof
  rintro e w3 ⟨xa, xc, rfl, hb3, rows3, hr3, hO3⟩
  have hX := hO3.obs.2
  rw [hr3] at hX
  have k4 := k3.trans (Keeps.below hb3)
  replace b3 := b3.trans (hb3.mono (by omega))
  replace a0 := Keeps.below hb3 _ _ a0
  replace a1 := Keeps.below hb3 _ _ a1
  replace a2 := Keeps.below hb3 _ _ a2
  replace a3 := Keeps.below hb3 _ _ a3
  have hs5 := hb3.size
  rw [hs4] at hs5
  have A0 := fun o o' => Keeps.alloc _ o' _ _ (Keeps.alloc _ o _ _ a0)
  have A1 := fun o o' => Keeps.alloc _ o' _ _ (Keeps.alloc _ o _ _ a1)
  have A2 := fun o o' => Keeps.alloc _ o' _ _ (Keeps.alloc _ o _ _ a2)
  have A3 := fun o o' => Keeps.alloc _ o' _ _ (Keeps.alloc _ o _ _ a3)
  have hA3 := hAA.out.keeps k4
  clear hb3 hO3 hr3 P0 P1 a0 a1 a2 a3 hs4 k3
  go_wp2_with fail
  clear A0 A1 A2 A3
  have k5 := k4.trans ((Keeps.alloc w3 (Obj.cells #[.int .i64 r.M, .slice xa r.obs.length xc] 24)).trans (Keeps.alloc _ (Obj.cells #[.int .i64 r.k, .int .i64 r.n] 33)))
  have kx := (Keeps.alloc w3 (Obj.cells #[.int .i64 r.M, .slice xa r.obs.length xc] 24)).trans (Keeps.alloc _ (Obj.cells #[.int .i64 r.k, .int .i64 r.n] 33))
  have hs6 : ((w3.alloc (Obj.cells #[.int .i64 r.M, .slice xa r.obs.length xc] 24)).alloc (Obj.cells #[.int .i64 r.k, .int .i64 r.n] 33)).heap.size = w3.heap.size + 1 + 1 := by simp
  have b4 : Below w.heap.size w ((w3.alloc (Obj.cells #[.int .i64 r.M, .slice xa r.obs.length xc] 24)).alloc (Obj.cells #[.int .i64 r.k, .int .i64 r.n] 33)) := (b3.alloc (by omega) _).alloc (by simp; omega) _
  refine (sameHeap_any r.M va xa vc xc r.obs _ (hA3.keeps kx) (hX.keeps kx)).mono ?_
  rintro e w4 ⟨rfl, hb4⟩
  have k6 := k5.trans (Keeps.below hb4)
  have b5 := b4.trans (hb4.mono (by omega))
  have hs7 := hb4.size
  rw [hs6] at hs7
  have t0 := (k2.trans k6) _ _ p0
  have t1 := (k2.trans k6) _ _ p1
  have t2 := k6 _ _ r0
  have t3 := k6 _ _ r1
  have hK6 := hK1.keeps (k2.trans k6)
  have hH6 := h.keeps (k1.trans (k2.trans k6))
  clear hb4 b4 kx k5 hs6 hA3 hX r0 r1 p0 p1
  go_wp2_with fail
  refine (sameHeap_any M ka ao kc cap l _ hK6 hH6).mono ?_
  rintro e w5 ⟨rfl, hb5⟩
  have b6 := b5.trans (hb5.mono (by omega))
  clear hb5 t0 t1 t2 t3
  go_wp2
  go_ret
  exact ⟨rfl, b6⟩

end Go.Proofs.Ytemehedbcckmgab
