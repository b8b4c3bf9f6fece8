/- The walk of the law SetGets. -/
import Derived.Test.YtemehedbcckmgacHRaw
import Derived.Test.YtemehedbcckmgacHSetGets
import Derived.WalkKit
import Derived.WalkSpells
import Derived.WalkLawsBesides
import Derived.Deep.LoopGhost
import Derived.Deep.Light
import Derived.Deep.QuietTactic
import Derived.BigQuiet
namespace Go.Proofs.Ytemehedbcckmgac
open Go.RowKit

set_option maxRecDepth 100000 in
set_option maxHeartbeats 1600000 in
theorem setGets_walk (ra : Option Addr) (rc : Nat) (l : List Rw) (a b f g x : Int) (w : World) (h : RawsAt w ra l) (ha : -9223372036854775808 ≤ a ∧ a ≤ 9223372036854775807) (hb : -9223372036854775808 ≤ b ∧ b ≤ 9223372036854775807) (hf : -9223372036854775808 ≤ f ∧ f ≤ 9223372036854775807) (hg : -9223372036854775808 ≤ g ∧ g ≤ 9223372036854775807) (hx : -9223372036854775808 ≤ x ∧ x ≤ 9223372036854775807) :
    Calls Try.prog 6 #[.slice ra l.length rc, .int .i64 a, .int .i64 b, .int .i64 f, .int .i64 g, .int .i64 x] w fun e w' => e = .returned (.bool true) ∧ Below w.heap.size w w' := by
  go_enter Try.func6, Try.ntmps6
  go_wp2_with fail
  refine (heapOf_any ra rc l 30 w h (by omega) (by omega)).mono ?_
  rintro e w1 ⟨oa, n, oc, aa, ac, rfl, b1, hv, obs, hlen, hob, hgood⟩
  clear h
  have hn30 : n ≤ 30 := by have := (hMay_parts.1 hgood.1).1; rw [hlen] at this; omega
  by_cases hn0 : n = 0
  · subst hn0
    go_wp2
    go_ret
    first
      | exact ⟨rfl, b1⟩
      | exact ⟨rfl, b1.alloc b1.size _⟩
  · have hnz : ((n : Int) == 0) = false := by simp; omega
    have pa := pick_bd (n := a) (many := n) (by omega)
    have pb := pick_bd (n := b) (many := n) (by omega)
    have pf := pick_bd (n := f) (many := 4) (by omega)
    have pg := pick_bd (n := g) (many := 4) (by omega)
    have px := pick_bd (n := x) (many := 1000) (by omega)
    obtain ⟨jA, hjA⟩ : ∃ j : Nat, pick a n = j := ⟨(pick a n).toNat, by omega⟩
    obtain ⟨jB, hjB⟩ : ∃ j : Nat, pick b n = j := ⟨(pick b n).toNat, by omega⟩
    rw [hjA] at pa
    rw [hjB] at pb
    obtain ⟨gb, go, rfl, hvA1, hvA2⟩ := hv jA _ (allVals_get (by omega))
    obtain ⟨gb', go', hgg, hvB1, hvB2⟩ := hv jB _ (allVals_get (by omega))
    simp only [Option.some.injEq, Addr.mk.injEq, and_true] at hgg
    obtain ⟨rfl, rfl⟩ := hgg
    simp only at hvA1 hvA2 hvB1 hvB2
    go_wp2_with fail
    have k2 := Keeps.alloc w1 (Obj.cells #[.int .i64 30, .slice oa n oc] 24)
    replace hvA1 := k2 _ _ hvA1
    replace hvA2 := k2 _ _ hvA2
    replace hvB1 := k2 _ _ hvB1
    replace hvB2 := k2 _ _ hvB2
    replace hob := hob.keeps k2
    have N0 := Deep.blk_alloc_new w1 (Obj.cells #[.int .i64 30, .slice oa n oc] 24)
    have b2 := b1.trans ((below_box w1 (Obj.cells #[.int .i64 30, .slice oa n oc] 24)).mono b1.size)
    have hs2 : (w1.alloc (Obj.cells #[.int .i64 30, .slice oa n oc] 24)).heap.size = w1.heap.size + 1 := by simp
    generalize w1.alloc (Obj.cells #[.int .i64 30, .slice oa n oc] 24) = W2 at *
    clear k2 hv
    refine (picked_any a n _ ha.1 ha.2 (by omega) (by omega)).mono ?_
    rintro e w' ⟨rfl, rfl⟩
    rw [hjA]
    go_wp2_with fail
    replace hvB1 := Keeps.alloc W2 (Obj.cells #[.int .i64 2, .int .i64 (jA : Int)] 34) _ _ hvB1
    replace hvB2 := Keeps.alloc W2 (Obj.cells #[.int .i64 2, .int .i64 (jA : Int)] 34) _ _ hvB2
    refine (picked_any b n _ hb.1 hb.2 (by omega) (by omega)).mono ?_
    rintro e w' ⟨rfl, rfl⟩
    rw [hjB]
    go_wp2_with fail
    refine (picked_any f 4 _ hf.1 hf.2 (by omega) (by omega)).mono ?_
    rintro e w' ⟨rfl, rfl⟩
    generalize pick f 4 = fi at *
    go_wp2_with fail
    refine (picked_any g 4 _ hg.1 hg.2 (by omega) (by omega)).mono ?_
    rintro e w' ⟨rfl, rfl⟩
    generalize pick g 4 = gi at *
    go_wp2_with fail
    refine (picked_any x 1000 _ hx.1 hx.2 (by omega) (by omega)).mono ?_
    rintro e w' ⟨rfl, rfl⟩
    generalize pick x 1000 = xi at *
    go_upto_region 9 with (fail)
    have HB := boxes3 W2 (Obj.cells #[.int .i64 2, .int .i64 (jA : Int)] 34) (Obj.cells #[.int .i64 2, .int .i64 (jB : Int)] 34) (Obj.cells #[.int .i64 1, .int .i64 xi] 34)
    rw [hs2] at HB
    generalize ((W2.alloc (Obj.cells #[.int .i64 2, .int .i64 (jA : Int)] 34)).alloc (Obj.cells #[.int .i64 2, .int .i64 (jB : Int)] 34)).alloc (Obj.cells #[.int .i64 1, .int .i64 xi] 34) = W at *
    obtain ⟨N1, N2, N3, k3, b3, hs3⟩ := HB
    have m1 : W2.cell? ⟨w1.heap.size, 0, none⟩ = some (.int .i64 30) := by simp [World.cell?, N0]
    have m2 : W2.cell? ⟨w1.heap.size, 1, none⟩ = some (.slice oa n oc) := by simp [World.cell?, N0]
    replace m1 := k3 _ _ m1
    replace m2 := k3 _ _ m2
    have m3 : W.cell? ⟨w1.heap.size + 1, 0, none⟩ = some (.int .i64 2) := by simp [World.cell?, N1]
    have m4 : W.cell? ⟨w1.heap.size + 1, 1, none⟩ = some (.int .i64 (jA : Int)) := by simp [World.cell?, N1]
    have m5 : W.cell? ⟨w1.heap.size + 1 + 1, 0, none⟩ = some (.int .i64 2) := by simp [World.cell?, N2]
    have m6 : W.cell? ⟨w1.heap.size + 1 + 1, 1, none⟩ = some (.int .i64 (jB : Int)) := by simp [World.cell?, N2]
    have m7 : W.cell? ⟨w1.heap.size + 1 + 1 + 1, 0, none⟩ = some (.int .i64 1) := by simp [World.cell?, N3]
    have m8 : W.cell? ⟨w1.heap.size + 1 + 1 + 1, 1, none⟩ = some (.int .i64 xi) := by simp [World.cell?, N3]
    replace hob := hob.keeps k3
    replace b3 := b2.trans (b3.mono (by have := b1.size; omega))
    clear N0 N1 N2 N3 k3 b2 b1 hvA1 hvA2 hvB1 hvB2 hs2 hs3
    clear W2
    generalize w1.heap.size = P at *
    clear w1
    -- was, e := Get(h, w, j)
    obtain ⟨⟨⟨u1, u2⟩, e1⟩, hr1⟩ : ∃ r, r = getS 30 obs ⟨2, (jB : Int)⟩ gi := ⟨_, rfl⟩
    have HR1 : Aside (((⟨u1, u2⟩ : Vl), e1) = getS 30 obs ⟨2, (jB : Int)⟩ gi) := hr1
    have hget := get_any 30 oa oc obs 2 (jB : Int) gi W hob
    rw [hlen, ← hr1] at hget
    clear hr1
    have cells : ∀ wy, Keeps W wy → wy.cell? ⟨P, 0, none⟩ = some (.int .i64 30) ∧ wy.cell? ⟨P, 1, none⟩ = some (.slice oa n oc) ∧ wy.cell? ⟨P + 1, 0, none⟩ = some (.int .i64 2) ∧ wy.cell? ⟨P + 1, 1, none⟩ = some (.int .i64 (jA : Int)) ∧ wy.cell? ⟨P + 1 + 1, 0, none⟩ = some (.int .i64 2) ∧ wy.cell? ⟨P + 1 + 1, 1, none⟩ = some (.int .i64 (jB : Int)) ∧ wy.cell? ⟨P + 1 + 1 + 1, 0, none⟩ = some (.int .i64 1) ∧ wy.cell? ⟨P + 1 + 1 + 1, 1, none⟩ = some (.int .i64 xi) :=
      fun wy k => ⟨k _ _ m1, k _ _ m2, k _ _ m3, k _ _ m4, k _ _ m5, k _ _ m6, k _ _ m7, k _ _ m8⟩
    go_upto_region 10 with (go_at_call 20; refine hget.mono ?_; rintro e w3 ⟨rfl, hb3⟩)
    clear hget m1 m2 m3 m4 m5 m6 m7 m8
    have hbA := hb3.trans ((below_box w3 (Obj.cells #[.int .i64 u1, .int .i64 u2] 34)).mono hb3.size)
    have NA := Deep.blk_alloc_new w3 (Obj.cells #[.int .i64 u1, .int .i64 u2] 34)
    have hsA : w3.heap.size < (w3.alloc (Obj.cells #[.int .i64 u1, .int .i64 u2] 34)).heap.size := by simp
    generalize w3.alloc (Obj.cells #[.int .i64 u1, .int .i64 u2] 34) = WA at *
    generalize w3.heap.size = PA at *
    clear hb3
    clear w3
    -- k, s := Set(h, v, i, x)
    have hobA := hob.keeps (Keeps.below hbA)
    obtain ⟨⟨rM, robs, re⟩, hr2⟩ : ∃ r, r = setS 30 obs ⟨2, (jA : Int)⟩ fi ⟨1, xi⟩ := ⟨_, rfl⟩
    have HR2 : Aside ((rM, robs, re) = setS 30 obs ⟨2, (jA : Int)⟩ fi ⟨1, xi⟩) := hr2
    have hset := set_any 30 oa oc obs 2 (jA : Int) fi 1 xi WA hobA
    rw [hlen, ← hr2] at hset
    clear hr2
    obtain ⟨m1, m2, m3, m4, m5, m6, m7, m8⟩ := cells _ (Keeps.below hbA)
    go_upto_region 11 with (go_at_call 21; refine hset.mono ?_; rintro e w3 ⟨va, vc, rfl, hb3, rows, hrows, hO⟩)
    clear hset m1 m2 m3 m4 m5 m6 m7 m8
    have hobB : ObsAt w3 va robs := hrows ▸ hO.obs.2
    have kB0 := Keeps.alloc w3 (Obj.cells #[.int .i64 rM, .slice va robs.length vc] 24)
    have hbB := hb3.trans ((below_box w3 (Obj.cells #[.int .i64 rM, .slice va robs.length vc] 24)).mono hb3.size)
    have NB := Deep.blk_alloc_new w3 (Obj.cells #[.int .i64 rM, .slice va robs.length vc] 24)
    replace hobB := hobB.keeps kB0
    generalize w3.alloc (Obj.cells #[.int .i64 rM, .slice va robs.length vc] 24) = WB at *
    generalize w3.heap.size = PB at *
    clear hb3 hO hrows kB0
    clear w3
    replace NA := (hbB.block _ hsA).trans NA
    replace hbA := hbA.trans (hbB.mono hbA.size)
    clear hbB hobA hsA
    -- now, d := Get(k, w, j)
    obtain ⟨⟨⟨t1, t2⟩, e2⟩, hr3⟩ : ∃ r, r = getS rM robs ⟨2, (jB : Int)⟩ gi := ⟨_, rfl⟩
    have HR3 : Aside (((⟨t1, t2⟩ : Vl), e2) = getS rM robs ⟨2, (jB : Int)⟩ gi) := hr3
    have hget := get_any rM va vc robs 2 (jB : Int) gi WB hobB
    rw [← hr3] at hget
    clear hr3
    obtain ⟨m1, m2, m3, m4, m5, m6, m7, m8⟩ := cells _ (Keeps.below hbA)
    have n1 : WB.cell? ⟨PB, 0, none⟩ = some (.int .i64 rM) := by simp [World.cell?, NB]
    have n2 : WB.cell? ⟨PB, 1, none⟩ = some (.slice va robs.length vc) := by simp [World.cell?, NB]
    go_upto_region 12 with (go_at_call 20; refine hget.mono ?_; rintro e w3 ⟨rfl, hb3⟩)
    clear hget m1 m2 m3 m4 m5 m6 m7 m8 n1 n2 NB hobB
    have hsW : PA < WB.heap.size := (Array.getElem?_eq_some_iff.1 NA).1
    have hbC := hb3.trans ((below_box w3 (Obj.cells #[.int .i64 t1, .int .i64 t2] 34)).mono hb3.size)
    have NC := Deep.blk_alloc_new w3 (Obj.cells #[.int .i64 t1, .int .i64 t2] 34)
    generalize w3.alloc (Obj.cells #[.int .i64 t1, .int .i64 t2] 34) = WC at *
    generalize w3.heap.size = PC at *
    clear hb3
    clear w3
    replace NA := (hbC.block _ hsW).trans NA
    replace hbA := hbA.trans (hbC.mono hbA.size)
    clear hbC hsW
    obtain ⟨m1, m2, m3, m4, m5, m6, m7, m8⟩ := cells _ (Keeps.below hbA)
    have n1 : WC.cell? ⟨PA, 0, none⟩ = some (.int .i64 u1) := by simp [World.cell?, NA]
    have n2 : WC.cell? ⟨PA, 1, none⟩ = some (.int .i64 u2) := by simp [World.cell?, NA]
    have n3 : WC.cell? ⟨PC, 0, none⟩ = some (.int .i64 t1) := by simp [World.cell?, NC]
    have n4 : WC.cell? ⟨PC, 1, none⟩ = some (.int .i64 t2) := by simp [World.cell?, NC]
    have hobC := hob.keeps (Keeps.below hbA)
    have hbe := b3.trans (hbA.mono b3.size)
    clear cells NA NC hbA hob b3
    clear WB
    clear WA
    obtain ⟨oA, hoA⟩ := at_some (l := obs) (i := jA) (by omega)
    obtain ⟨oB, hoB⟩ := at_some (l := obs) (i := jB) (by omega)
    have hvx : vMay obs.length ⟨1, xi⟩ = true := by simp [vMay]; omega
    have hs4 := setS_good hgood hoA pf.1 hvx
    by_cases hc : fi < (oA.fs.length : Int)
    · rw [if_pos hc, ← HR2.out] at hs4
      simp only [Prod.mk.injEq] at hs4
      obtain ⟨rfl, rfl, rfl⟩ := hs4
      have hsg := set_get hgood hoA hoB pf.1 hc pg.1 hvx
      rw [← HR3.out, ← HR1.out] at hsg
      by_cases hj : jA = jB
      · subst hj
        by_cases hfg : fi = gi
        · subst hfg
          simp only [and_self, if_true, Prod.mk.injEq, Vl.mk.injEq] at hsg
          obtain ⟨⟨rfl, rfl⟩, rfl⟩ := hsg
          go_wp2
          go_ret
          exact ⟨rfl, hbe⟩
        · have hfb : (fi == gi) = false := by simp [hfg]
          rw [if_neg (by simp [hfg])] at hsg
          simp only [Prod.mk.injEq, Vl.mk.injEq] at hsg
          obtain ⟨⟨rfl, rfl⟩, rfl⟩ := hsg
          go_wp2
          go_ret
          exact ⟨rfl, hbe⟩
      · have hjb : ((jA : Int) == (jB : Int)) = false := by simp; omega
        have hjb' : ¬ (jA : Int) = (jB : Int) := by omega
        rw [if_neg (by simp [hj])] at hsg
        simp only [Prod.mk.injEq, Vl.mk.injEq] at hsg
        obtain ⟨⟨rfl, rfl⟩, rfl⟩ := hsg
        go_wp2
        go_ret
        exact ⟨rfl, hbe⟩
    · rw [if_neg hc, ← HR2.out] at hs4
      simp only [Prod.mk.injEq] at hs4
      obtain ⟨rfl, rfl, rfl⟩ := hs4
      obtain ⟨ob, oo, fa, fc, rfl, y1, y2, y3, y4⟩ := hobC.cell jA oA hoA
      have hcd : decide ((oA.fs.length : Int) ≤ fi) = true := by simp; omega
      have hjn : (jA : Int) < (n : Int) := by omega
      go_wp2
      go_ret
      exact ⟨rfl, hbe⟩

end Go.Proofs.Ytemehedbcckmgac
