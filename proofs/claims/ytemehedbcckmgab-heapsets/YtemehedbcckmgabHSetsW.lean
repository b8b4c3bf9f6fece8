/- The walk of the law HeapSets. -/
import Derived.Test.YtemehedbcckmgabHSetOf
import Derived.Test.YtemehedbcckmgabHSame
import Derived.WalkKit
import Derived.WalkSpells
import Derived.WalkLawsBesides
import Derived.Deep.LoopGhost
import Derived.Deep.Light
namespace Go.Proofs.Ytemehedbcckmgab
open Go.RowKit

set_option maxHeartbeats 1600000 in
theorem heapSets_walk (M : Int) (ao : Option Addr) (cap : Nat) (l : List Ob) (k n f xk xn : Int) (w : World) (h : ObsAt w ao l) (_hn : -9223372036854775808 ≤ f ∧ f ≤ 9223372036854775807) :
    Calls Try.prog 7 #[.agg #[.int .i64 M, .slice ao l.length cap], .agg #[.int .i64 k, .int .i64 n], .int .i64 f, .agg #[.int .i64 xk, .int .i64 xn]] w fun e w' => e = .returned (.bool true) ∧ Below w.heap.size w w' := by
  go_enter Try.func7, Try.ntmps7
  go_wp2_with fail
  have HB := boxes3 w (Obj.cells #[.int .i64 M, .slice ao l.length cap] 24) (Obj.cells #[.int .i64 k, .int .i64 n] 33) (Obj.cells #[.int .i64 xk, .int .i64 xn] 33)
  generalize ((w.alloc (Obj.cells #[.int .i64 M, .slice ao l.length cap] 24)).alloc (Obj.cells #[.int .i64 k, .int .i64 n] 33)).alloc (Obj.cells #[.int .i64 xk, .int .i64 xn] 33) = W at *
  obtain ⟨N0, N1, N2, k1, b1, hs⟩ := HB
  refine (heapCopy_any M ao cap l W (h.keeps k1)).mono ?_
  rintro e w1 ⟨kv, krows, rfl, hk, hKO, hb⟩
  obtain ⟨ka, kc, rfl⟩ := hKO.form
  have hK1 := hKO.obs.2
  rw [hk] at hK1
  have hkl : krows.length = l.length := by rw [← hk, List.length_map]
  rw [hkl]
  replace N0 := (hb.block _ (by omega)).trans N0
  replace N1 := (hb.block _ (by omega)).trans N1
  replace N2 := (hb.block _ (by omega)).trans N2
  replace b1 := b1.trans (hb.mono (by omega))
  replace k1 := k1.trans (Keeps.below hb)
  replace hs : w.heap.size + 1 + 1 + 1 ≤ w1.heap.size := by have := hb.size; omega
  have p0 : w1.cell? ⟨w.heap.size, 0, none⟩ = some (.int .i64 M) := by simp [World.cell?, N0]
  have p1 : w1.cell? ⟨w.heap.size, 1, none⟩ = some (.slice ao l.length cap) := by simp [World.cell?, N0]
  have p2 : w1.cell? ⟨w.heap.size + 1, 0, none⟩ = some (.int .i64 k) := by simp [World.cell?, N1]
  have p3 : w1.cell? ⟨w.heap.size + 1, 1, none⟩ = some (.int .i64 n) := by simp [World.cell?, N1]
  have p4 : w1.cell? ⟨w.heap.size + 1 + 1, 0, none⟩ = some (.int .i64 xk) := by simp [World.cell?, N2]
  have p5 : w1.cell? ⟨w.heap.size + 1 + 1, 1, none⟩ = some (.int .i64 xn) := by simp [World.cell?, N2]
  have q0 := fun o => Keeps.alloc w1 o _ _ p0
  have q1 := fun o => Keeps.alloc w1 o _ _ p1
  have q2 := fun o => Keeps.alloc w1 o _ _ p2
  have q3 := fun o => Keeps.alloc w1 o _ _ p3
  have q4 := fun o => Keeps.alloc w1 o _ _ p4
  have q5 := fun o => Keeps.alloc w1 o _ _ p5
  clear hKO hk hb N0 N1 N2
  clear W
  go_wp2_with fail
  have kk := Keeps.alloc w1 (Obj.cells #[.int .i64 M, .slice ka l.length kc] 24)
  have r0 : (w1.alloc (Obj.cells #[.int .i64 M, .slice ka l.length kc] 24)).cell? ⟨w1.heap.size, 0, none⟩ = some (.int .i64 M) := by simp
  have r1 : (w1.alloc (Obj.cells #[.int .i64 M, .slice ka l.length kc] 24)).cell? ⟨w1.heap.size, 1, none⟩ = some (.slice ka l.length kc) := by simp
  refine (set_any M ka kc l k n f xk xn _ (hK1.keeps kk)).mono ?_
  rintro e w2 ⟨va, vc, rfl, hb2, rows2, hr2, hO2⟩
  have hA2 := hO2.obs.2
  rw [hr2] at hA2
  have k2 : Keeps w1 w2 := kk.trans (Keeps.below hb2)
  replace r0 := Keeps.below hb2 _ _ r0
  replace r1 := Keeps.below hb2 _ _ r1
  have b2 : Below w.heap.size w w2 := (b1.alloc (by omega) _).trans (hb2.mono (by simp; omega))
  have hs3 : w1.heap.size + 1 ≤ w2.heap.size := by have := hb2.size; simp at this; omega
  obtain ⟨r, hr⟩ : ∃ r, setS M l ⟨k, n⟩ f ⟨xk, xn⟩ = r := ⟨_, rfl⟩
  have HR : Aside (setS M l ⟨k, n⟩ f ⟨xk, xn⟩ = r) := hr
  rw [hr] at hA2 ⊢
  clear hr
  have hAA : Aside (ObsAt w2 va r.2.1) := hA2
  have P0 := fun o => Keeps.alloc _ o _ _ (k2 _ _ p0)
  have P1 := fun o => Keeps.alloc _ o _ _ (k2 _ _ p1)
  have P2 := fun o => Keeps.alloc _ o _ _ (k2 _ _ p2)
  have P3 := fun o => Keeps.alloc _ o _ _ (k2 _ _ p3)
  have P4 := fun o => Keeps.alloc _ o _ _ (k2 _ _ p4)
  have P5 := fun o => Keeps.alloc _ o _ _ (k2 _ _ p5)
  clear hb2 hO2 hr2 hA2 kk b1 q0 q1 q2 q3 q4 q5
  go_wp2_with fail
  have a0 : (w2.alloc (Obj.cells #[.int .i64 r.1, .slice va r.2.1.length vc] 24)).cell? ⟨w2.heap.size, 0, none⟩ = some (.int .i64 r.1) := by simp
  have a1 : (w2.alloc (Obj.cells #[.int .i64 r.1, .slice va r.2.1.length vc] 24)).cell? ⟨w2.heap.size, 1, none⟩ = some (.slice va r.2.1.length vc) := by simp
  have k3 := Keeps.alloc w2 (Obj.cells #[.int .i64 r.1, .slice va r.2.1.length vc] 24)
  have hof := setOf_any M ao cap l k n f xk xn _ (h.keeps (k1.trans (k2.trans k3)))
  rw [HR.out] at hof
  refine hof.mono ?_
  clear hof
  rintro e w3 ⟨xa, xc, rfl, hb3, rows3, hr3, hO3⟩
  have hX := hO3.obs.2
  rw [hr3] at hX
  have k4 := k3.trans (Keeps.below hb3)
  have b3 : Below w.heap.size w w3 := (b2.alloc (by omega) _).trans (hb3.mono (by simp; omega))
  have A0 := fun o => Keeps.alloc _ o _ _ (Keeps.below hb3 _ _ a0)
  have A1 := fun o => Keeps.alloc _ o _ _ (Keeps.below hb3 _ _ a1)
  have hs5 : w2.heap.size + 1 ≤ w3.heap.size := by have := hb3.size; simp at this; omega
  have hA3 := hAA.out.keeps k4
  clear hb3 hO3 hr3 P0 P1 P2 P3 P4 P5 a0 a1 k3
  go_wp2_with fail
  clear A0 A1
  have kx := Keeps.alloc w3 (Obj.cells #[.int .i64 r.1, .slice xa r.2.1.length xc] 24)
  have b4 : Below w.heap.size w (w3.alloc (Obj.cells #[.int .i64 r.1, .slice xa r.2.1.length xc] 24)) := b3.alloc (by omega) _
  refine (sameHeap_any r.1 va xa vc xc r.2.1 _ (hA3.keeps kx) (hX.keeps kx)).mono ?_
  rintro e w4 ⟨rfl, hb4⟩
  have k6 := k4.trans (kx.trans (Keeps.below hb4))
  have hs7 : w3.heap.size + 1 ≤ w4.heap.size := by have := hb4.size; simp at this; omega
  have b5 : Below w.heap.size w w4 := b4.trans (hb4.mono (by simp; omega))
  have t0 := (k2.trans k6) _ _ p0
  have t1 := (k2.trans k6) _ _ p1
  have t2 := k6 _ _ r0
  have t3 := k6 _ _ r1
  have hK6 := hK1.keeps (k2.trans k6)
  have hH6 := h.keeps (k1.trans (k2.trans k6))
  clear hb4 b4 kx hA3 hX r0 r1 p0 p1 p2 p3 p4 p5
  go_wp2_with fail
  refine (sameHeap_any M ka ao kc cap l _ hK6 hH6).mono ?_
  rintro e w5 ⟨rfl, hb5⟩
  have b6 := b5.trans (hb5.mono (by omega))
  clear hb5 t0 t1 t2 t3
  go_wp2
  go_ret
  exact ⟨rfl, b6⟩

end Go.Proofs.Ytemehedbcckmgab
