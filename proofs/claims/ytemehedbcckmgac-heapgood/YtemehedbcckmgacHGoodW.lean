/- The walk of the law HeapGood. -/
import Derived.Test.YtemehedbcckmgacHRaw
import Derived.Test.YtemehedbcckmgacHCheck
import Derived.Test.YtemehedbcckmgacHClone
import Derived.WalkKit
import Derived.WalkSpells
import Derived.WalkLawsBesides
import Derived.Deep.LoopGhost
import Derived.Deep.Light
namespace Go.Proofs.Ytemehedbcckmgac
open Go.RowKit

set_option maxRecDepth 100000 in
set_option maxHeartbeats 1600000 in
theorem heapGood_walk (ra : Option Addr) (rc : Nat) (l : List Rw) (m : Int) (w : World) (h : RawsAt w ra l) (hm : -9223372036854775808 ≤ m ∧ m ≤ 9223372036854775807) :
    Calls Try.prog 5 #[.slice ra l.length rc, .int .i64 m] w fun e w' => e = .returned (.bool true) ∧ Below w.heap.size w w' := by
  have pm := pick_bd (n := m) (many := 61) (by omega)
  go_enter Try.func5, Try.ntmps5
  go_wp2_with (go_at_call 16; refine (picked_any m 61 _ hm.1 hm.2 (by omega) (by omega)).mono ?_; rintro e w' ⟨rfl, rfl⟩)
  generalize pick m 61 = M at *
  refine (heapOf_any ra rc l M w h pm.1 (by omega)).mono ?_
  rintro e w1 ⟨ha, n, hc, aa, ac, rfl, b1, hv, obs, hlen, hob, hgood⟩
  clear h
  have hn60 : n ≤ 60 := by have := (hMay_parts.1 hgood.1).1; rw [hlen] at this; omega
  have hnM : (n : Int) ≤ M := by have := (hMay_parts.1 hgood.1).1; rw [hlen] at this; omega
  go_wp2_with fail
  have b2 := b1.trans ((below_box w1 (Obj.cells #[.int .i64 M, .slice ha n hc] 24)).mono b1.size)
  have k2 := Keeps.alloc w1 (Obj.cells #[.int .i64 M, .slice ha n hc] 24)
  have hs2 : w1.heap.size < (w1.alloc (Obj.cells #[.int .i64 M, .slice ha n hc] 24)).heap.size := by simp
  replace hv := hv.keeps k2
  replace hob := hob.keeps k2
  have c0 : (w1.alloc (Obj.cells #[.int .i64 M, .slice ha n hc] 24)).cell? ⟨w1.heap.size, 0, none⟩ = some (.int .i64 M) := by simp
  have c1 : (w1.alloc (Obj.cells #[.int .i64 M, .slice ha n hc] 24)).cell? ⟨w1.heap.size, 1, none⟩ = some (.slice ha n hc) := by simp
  generalize w1.alloc (Obj.cells #[.int .i64 M, .slice ha n hc] 24) = W at *
  clear k2
  go_loopg [8, 9, 20, 21, 22, 23, 24, 25, 26, 27, 28, 29, 30, 31, 32, 33] n (fun g s8 s9 s20 s21 s22 s23 s24 s25 s26 s27 s28 s29 s30 s31 s32 s33 wr => ∃ i : Nat, i ≤ n ∧ g = n - i ∧ s20 = .int .i64 i ∧ Below W.heap.size W wr)
  case atStart => exact ⟨0, Nat.zero_le _, rfl, rfl, Below.refl _ _⟩
  case round =>
    obtain ⟨i, hi, rfl, rfl, hb⟩ := hrel
    by_cases hin : i < n
    · have hiz : (i : Int) < (n : Int) := by omega
      obtain ⟨b, o, rfl, d1, d2⟩ := hv i _ (allVals_get hin)
      replace d1 := Keeps.below hb _ _ d1
      replace d2 := Keeps.below hb _ _ d2
      have hbx := below_box wr (Obj.cells #[.int .i64 2, .int .i64 (i : Int)] 34)
      simp only at d1 d2
      go_wp2
      go_roundg (n - (i + 1))
      case measure => go_light; omega
      case rel => go_light; exact ⟨i + 1, by omega, rfl, by go_num, hb.trans (hbx.mono hb.size)⟩
    · obtain rfl : i = n := by omega
      have hf : ¬ (i : Int) < (i : Int) := by omega
      have k3 := Keeps.below hb
      replace c0 := k3 _ _ c0
      replace c1 := k3 _ _ c1
      replace hv := hv.keeps k3
      replace hob := hob.keeps k3
      have b3 := b2.trans (hb.mono b2.size)
      clear k3 b2 hb
      have hmy : hMay M obs (allVals i) = true := by rw [← hlen]; exact hMay_all hgood.1
      have hck := check_any M ha hc obs aa ac (allVals i) wr hob hv (by rw [allVals_length]; omega)
      rw [hmy, erS_true, allVals_length, hlen] at hck
      have hdl : decide ((i : Int) ≤ M) = true := by simp [hnM]
      go_wp2_with (go_at_call 18; refine hck.mono ?_; rintro e w4 ⟨rfl, hb4⟩; have k4 := Keeps.below hb4; replace c0 := k4 _ _ c0; replace c1 := k4 _ _ c1; replace hob := hob.keeps k4; replace b3 := b3.trans (hb4.mono b3.size); clear hck hv k4 hb4)
      have hcl := clone_any M ha hc obs w4 hob
      rw [hlen] at hcl
      refine hcl.mono ?_
      rintro e w5 ⟨g, rows, rfl, hr, hO, hb5⟩
      have hob5 : ObsAt w5 (some ⟨g, 0, none⟩) obs := hr ▸ hO.obs.2
      replace b3 := b3.trans (hb5.mono b3.size)
      clear hcl hO hr hb5 c0 c1 hob
      have hck := check_any M (some ⟨g, 0, none⟩) i obs none 0 [] w5 hob5 (fun i v hi => by simp at hi) (by simp)
      rw [hgood.1, erS_true, hlen, List.length_nil] at hck
      go_wp2_with (go_at_call 18; refine hck.mono ?_; rintro e w6 ⟨rfl, hb6⟩; replace b3 := b3.trans (hb6.mono b3.size); clear hck hb6)
      go_ret
      exact ⟨rfl, b3⟩

end Go.Proofs.Ytemehedbcckmgac
