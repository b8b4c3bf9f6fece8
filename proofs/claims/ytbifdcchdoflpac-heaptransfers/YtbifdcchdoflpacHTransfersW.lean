/- The walk of the law HeapTransfers. -/
import Derived.Test.YtbifdcchdoflpacHTrOf2
import Derived.Test.YtbifdcchdoflpacHSame
namespace Go.Proofs.Ytbifdcchdoflpac
open Go.RowKit

set_option maxHeartbeats 3000000 in
set_option maxRecDepth 100000 in
theorem heapTransfers_walk (M : Int) (ao : Option Addr) (cap : Nat) (l : List Ob) (k n : Int) (M' : Int) (ao' : Option Addr) (cap' : Nat) (l' : List Ob) (move : Bool) (w : World) (h : ObsAt w ao l) (h' : ObsAt w ao' l') :
    Calls Try.prog 4 #[.agg #[.int .i64 M, .slice ao l.length cap], .agg #[.int .i64 k, .int .i64 n], .agg #[.int .i64 M', .slice ao' l'.length cap'], .bool move] w fun e w' => e = .returned (.bool true) ∧ Below w.heap.size w w' := by
  go_enter Try.func4, Try.ntmps4
  go_upto_region 1 with fail
  obtain ⟨N0, N1, N2, k1, b1, hs'⟩ := boxes3 w (Obj.cells #[.int .i64 M, .slice ao l.length cap] 24) (Obj.cells #[.int .i64 k, .int .i64 n] 34) (Obj.cells #[.int .i64 M', .slice ao' l'.length cap'] 24)
  generalize ((w.alloc (Obj.cells #[.int .i64 M, .slice ao l.length cap] 24)).alloc (Obj.cells #[.int .i64 k, .int .i64 n] 34)).alloc (Obj.cells #[.int .i64 M', .slice ao' l'.length cap'] 24) = W at *
  have hs : w.heap.size + 1 + 1 + 1 ≤ W.heap.size := Nat.le_of_eq hs'.symm
  clear hs'
  have c0 := cell_blk N0 0
  have c1 := cell_blk N0 1
  have c2 := cell_blk N1 0
  have c3 := cell_blk N1 1
  have c4 := cell_blk N2 0
  have c5 := cell_blk N2 1
  simp at c0 c1 c2 c3 c4 c5
  clear N0 N1 N2
  go_wp2_with fail
  refine (heapCopy_any M ao cap l W (h.keeps k1)).mono ?_
  rintro e w1 ⟨kv, krows, rfl, hk, hKO, hb⟩
  obtain ⟨ka, kc, rfl⟩ := hKO.form
  have hK1 := hKO.obs.2
  rw [hk] at hK1
  have hkl : krows.length = l.length := by rw [← hk, List.length_map]
  rw [hkl]
  go_upto_region 2 with fail
  have K0 : (w1.alloc (Obj.cells #[.int .i64 M, .slice ka l.length kc] 24)).cell? ⟨w1.heap.size, 0, none⟩ = some (.int .i64 M) := by simp
  have K1 : (w1.alloc (Obj.cells #[.int .i64 M, .slice ka l.length kc] 24)).cell? ⟨w1.heap.size, 1, none⟩ = some (.slice ka l.length kc) := by simp
  have bb := hb.alloc hb.size (Obj.cells #[.int .i64 M, .slice ka l.length kc] 24)
  have kk := Keeps.alloc w1 (Obj.cells #[.int .i64 M, .slice ka l.length kc] 24)
  have kb := Keeps.below bb
  replace c0 := kb _ _ c0
  replace c1 := kb _ _ c1
  replace c2 := kb _ _ c2
  replace c3 := kb _ _ c3
  replace c4 := kb _ _ c4
  replace c5 := kb _ _ c5
  replace b1 := b1.trans (bb.mono b1.size)
  replace k1 := k1.trans kb
  replace hK1 := hK1.keeps kk
  clear hKO hk hb bb kk kb hkl
  generalize w1.alloc (Obj.cells #[.int .i64 M, .slice ka l.length kc] 24) = w2 at *
  generalize w1.heap.size = KB at *
  go_wp2_with fail
  refine (heapCopy_any M' ao' cap' l' w2 (h'.keeps k1)).mono ?_
  rintro e w3 ⟨mv, mrows, rfl, hm, hMO, hb⟩
  obtain ⟨ma, mc, rfl⟩ := hMO.form
  have hM1 := hMO.obs.2
  rw [hm] at hM1
  have hml : mrows.length = l'.length := by rw [← hm, List.length_map]
  rw [hml]
  go_upto_region 3 with fail
  have m0 : (w3.alloc (Obj.cells #[.int .i64 M', .slice ma l'.length mc] 24)).cell? ⟨w3.heap.size, 0, none⟩ = some (.int .i64 M') := by simp
  have m1 : (w3.alloc (Obj.cells #[.int .i64 M', .slice ma l'.length mc] 24)).cell? ⟨w3.heap.size, 1, none⟩ = some (.slice ma l'.length mc) := by simp
  have bb := hb.alloc hb.size (Obj.cells #[.int .i64 M', .slice ma l'.length mc] 24)
  have kk := Keeps.alloc w3 (Obj.cells #[.int .i64 M', .slice ma l'.length mc] 24)
  have kb := Keeps.below bb
  replace c0 := kb _ _ c0
  replace c1 := kb _ _ c1
  replace c2 := kb _ _ c2
  replace c3 := kb _ _ c3
  replace c4 := kb _ _ c4
  replace c5 := kb _ _ c5
  replace K0 := kb _ _ K0
  replace K1 := kb _ _ K1
  replace b1 := b1.trans (bb.mono b1.size)
  replace k1 := k1.trans kb
  replace hK1 := hK1.keeps kb
  replace hM1 := hM1.keeps kk
  clear hMO hm hb bb kk kb hml
  generalize w3.alloc (Obj.cells #[.int .i64 M', .slice ma l'.length mc] 24) = w4 at *
  generalize w3.heap.size = MB at *
  obtain ⟨r, hr⟩ : ∃ r, transferS M l ⟨k, n⟩ M' l' move = r := ⟨_, rfl⟩
  have hT1 := transfer_any M ka kc l k n M' ma mc l' move w4 hK1 hM1
  have hT2 := fun wy (hy : Keeps w4 wy) => transferOf_any M ao cap l k n M' ao' cap' l' move wy ((h.keeps k1).keeps hy) ((h'.keeps k1).keeps hy)
  simp only [hr] at hT1 hT2
  obtain ⟨r1, o1, r2, o2, ⟨xk, xn⟩, re⟩ := r
  simp only at hT1 hT2
  clear hr
  go_wp2_with fail
  refine hT1.mono ?_
  clear hT1
  rintro e w5 ⟨fa, fc, ta, tc, rows1, rows2, rfl, hb5, hq1, hq2, hO1, hO2⟩
  have hA1 := hO1.obs.2
  have hA2 := hO2.obs.2
  rw [hq1] at hA1
  rw [hq2] at hA2
  have k5 := Keeps.below hb5
  replace c0 := k5 _ _ c0
  replace c1 := k5 _ _ c1
  replace c2 := k5 _ _ c2
  replace c3 := k5 _ _ c3
  replace c4 := k5 _ _ c4
  replace c5 := k5 _ _ c5
  replace K0 := k5 _ _ K0
  replace K1 := k5 _ _ K1
  replace m0 := k5 _ _ m0
  replace m1 := k5 _ _ m1
  replace b1 := b1.trans (hb5.mono b1.size)
  replace k1 := k1.trans k5
  replace hK1 := hK1.keeps k5
  replace hM1 := hM1.keeps k5
  clear hO1 hO2 hb5 hq1 hq2
  go_upto_region 4 with fail
  obtain ⟨P0, P1, P2, kk, bb, hs'⟩ := boxes3 w5 (Obj.cells #[.int .i64 r1, .slice fa o1.length fc] 24) (Obj.cells #[.int .i64 r2, .slice ta o2.length tc] 24) (Obj.cells #[.int .i64 xk, .int .i64 xn] 34)
  generalize ((w5.alloc (Obj.cells #[.int .i64 r1, .slice fa o1.length fc] 24)).alloc (Obj.cells #[.int .i64 r2, .slice ta o2.length tc] 24)).alloc (Obj.cells #[.int .i64 xk, .int .i64 xn] 34) = Ww5 at *
  obtain ⟨XP, hXP⟩ : ∃ X, X = w5.heap.size := ⟨_, rfl⟩
  rw [← hXP] at P0 P1 P2 ⊢
  clear hs' hXP
  have Pa := cell_blk P0 0
  have Pb := cell_blk P0 1
  have Pc := cell_blk P1 0
  have Pd := cell_blk P1 1
  have Pe := cell_blk P2 0
  have Pf := cell_blk P2 1
  simp at Pa Pb Pc Pd Pe Pf
  clear P0 P1 P2
  replace c0 := kk _ _ c0
  replace c1 := kk _ _ c1
  replace c2 := kk _ _ c2
  replace c3 := kk _ _ c3
  replace c4 := kk _ _ c4
  replace c5 := kk _ _ c5
  replace K0 := kk _ _ K0
  replace K1 := kk _ _ K1
  replace m0 := kk _ _ m0
  replace m1 := kk _ _ m1
  replace b1 := b1.trans (bb.mono b1.size)
  replace k1 := k1.trans kk
  replace hK1 := hK1.keeps kk
  replace hM1 := hM1.keeps kk
  replace hA1 := hA1.keeps kk
  replace hA2 := hA2.keeps kk
  replace k5 := k5.trans kk
  clear kk bb
  go_wp2_with fail
  refine (hT2 _ k5).mono ?_
  clear hT2
  rintro e w7 ⟨ga, gc, ua, uc, rows3, rows4, rfl, hb7, hq3, hq4, hO3, hO4⟩
  have hB1 := hO3.obs.2
  have hB2 := hO4.obs.2
  rw [hq3] at hB1
  rw [hq4] at hB2
  have k7 := Keeps.below hb7
  replace c0 := k7 _ _ c0
  replace c1 := k7 _ _ c1
  replace c2 := k7 _ _ c2
  replace c3 := k7 _ _ c3
  replace c4 := k7 _ _ c4
  replace c5 := k7 _ _ c5
  replace K0 := k7 _ _ K0
  replace K1 := k7 _ _ K1
  replace m0 := k7 _ _ m0
  replace m1 := k7 _ _ m1
  replace Pa := k7 _ _ Pa
  replace Pb := k7 _ _ Pb
  replace Pc := k7 _ _ Pc
  replace Pd := k7 _ _ Pd
  replace Pe := k7 _ _ Pe
  replace Pf := k7 _ _ Pf
  replace b1 := b1.trans (hb7.mono b1.size)
  replace k1 := k1.trans k7
  replace hK1 := hK1.keeps k7
  replace hM1 := hM1.keeps k7
  replace hA1 := hA1.keeps k7
  replace hA2 := hA2.keeps k7
  clear hO3 hO4 hb7 hq3 hq4 k5 k7
  go_upto_region 5 with fail
  obtain ⟨Q0, Q1, Q2, kk, bb, hs'⟩ := boxes3 w7 (Obj.cells #[.int .i64 r1, .slice ga o1.length gc] 24) (Obj.cells #[.int .i64 r2, .slice ua o2.length uc] 24) (Obj.cells #[.int .i64 xk, .int .i64 xn] 34)
  generalize ((w7.alloc (Obj.cells #[.int .i64 r1, .slice ga o1.length gc] 24)).alloc (Obj.cells #[.int .i64 r2, .slice ua o2.length uc] 24)).alloc (Obj.cells #[.int .i64 xk, .int .i64 xn] 34) = Ww7 at *
  obtain ⟨XQ, hXQ⟩ : ∃ X, X = w7.heap.size := ⟨_, rfl⟩
  rw [← hXQ] at Q0 Q1 Q2 ⊢
  clear hs' hXQ
  have Qa := cell_blk Q0 0
  have Qb := cell_blk Q0 1
  have Qc := cell_blk Q1 0
  have Qd := cell_blk Q1 1
  have Qe := cell_blk Q2 0
  have Qf := cell_blk Q2 1
  simp at Qa Qb Qc Qd Qe Qf
  clear Q0 Q1 Q2
  replace c0 := kk _ _ c0
  replace c1 := kk _ _ c1
  replace c2 := kk _ _ c2
  replace c3 := kk _ _ c3
  replace c4 := kk _ _ c4
  replace c5 := kk _ _ c5
  replace K0 := kk _ _ K0
  replace K1 := kk _ _ K1
  replace m0 := kk _ _ m0
  replace m1 := kk _ _ m1
  replace Pa := kk _ _ Pa
  replace Pb := kk _ _ Pb
  replace Pc := kk _ _ Pc
  replace Pd := kk _ _ Pd
  replace Pe := kk _ _ Pe
  replace Pf := kk _ _ Pf
  replace b1 := b1.trans (bb.mono b1.size)
  replace k1 := k1.trans kk
  replace hK1 := hK1.keeps kk
  replace hM1 := hM1.keeps kk
  replace hA1 := hA1.keeps kk
  replace hA2 := hA2.keeps kk
  replace hB1 := hB1.keeps kk
  replace hB2 := hB2.keeps kk
  clear kk bb
  have hh := h.keeps k1
  have hh' := h'.keeps k1
  clear h h' k1
  go_wp2_with fail
  refine (sameHeap_any r1 fa ga fc gc o1 _ hA1 hB1).mono ?_
  rintro e w9 ⟨rfl, hbx⟩
  have kx := Keeps.below hbx
  replace c0 := kx _ _ c0
  replace c1 := kx _ _ c1
  replace c2 := kx _ _ c2
  replace c3 := kx _ _ c3
  replace c4 := kx _ _ c4
  replace c5 := kx _ _ c5
  replace K0 := kx _ _ K0
  replace K1 := kx _ _ K1
  replace m0 := kx _ _ m0
  replace m1 := kx _ _ m1
  replace Pc := kx _ _ Pc
  replace Pd := kx _ _ Pd
  replace Qc := kx _ _ Qc
  replace Qd := kx _ _ Qd
  replace hA2 := hA2.keeps kx
  replace hB2 := hB2.keeps kx
  replace hK1 := hK1.keeps kx
  replace hM1 := hM1.keeps kx
  replace hh := hh.keeps kx
  replace hh' := hh'.keeps kx
  replace b1 := b1.trans (hbx.mono b1.size)
  clear hbx kx
  go_wp2_with fail
  refine (sameHeap_any r2 ta ua tc uc o2 _ hA2 hB2).mono ?_
  rintro e w10 ⟨rfl, hbx⟩
  have kx := Keeps.below hbx
  replace c0 := kx _ _ c0
  replace c1 := kx _ _ c1
  replace c2 := kx _ _ c2
  replace c3 := kx _ _ c3
  replace c4 := kx _ _ c4
  replace c5 := kx _ _ c5
  replace K0 := kx _ _ K0
  replace K1 := kx _ _ K1
  replace m0 := kx _ _ m0
  replace m1 := kx _ _ m1
  replace hK1 := hK1.keeps kx
  replace hM1 := hM1.keeps kx
  replace hh := hh.keeps kx
  replace hh' := hh'.keeps kx
  replace b1 := b1.trans (hbx.mono b1.size)
  clear hbx kx
  go_wp2_with fail
  refine (sameHeap_any M ka ao kc cap l _ hK1 hh).mono ?_
  rintro e w11 ⟨rfl, hbx⟩
  have kx := Keeps.below hbx
  replace c0 := kx _ _ c0
  replace c1 := kx _ _ c1
  replace c2 := kx _ _ c2
  replace c3 := kx _ _ c3
  replace c4 := kx _ _ c4
  replace c5 := kx _ _ c5
  replace K0 := kx _ _ K0
  replace K1 := kx _ _ K1
  replace m0 := kx _ _ m0
  replace m1 := kx _ _ m1
  replace hM1 := hM1.keeps kx
  replace hh' := hh'.keeps kx
  replace b1 := b1.trans (hbx.mono b1.size)
  clear hbx kx
  go_wp2_with fail
  refine (sameHeap_any M' ma ao' mc cap' l' _ hM1 hh').mono ?_
  rintro e w12 ⟨rfl, hbx⟩
  have kx := Keeps.below hbx
  replace b1 := b1.trans (hbx.mono b1.size)
  clear hbx kx
  go_wp2
  go_ret
  exact ⟨rfl, b1⟩

end Go.Proofs.Ytbifdcchdoflpac
