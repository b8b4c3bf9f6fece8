/- The walks of the reader's number and beginning. -/
import Derived.Test.YtahcgnmhhgcfmaaDoorCNext
import Derived.WalkKit
import Derived.WalkSpells
import Derived.WalkLawsBesides
import Derived.Deep.LoopGhost
import Derived.Deep.Light
namespace Go.Proofs.YtahcgnmhhgcfmaaDoor
open Go.RowKit

/-- What a number may have come to behind i bytes. -/
def numBd (i : Nat) (s p : Int) : Prop := 0 ≤ s ∧ 1 ≤ p ∧ s ≤ p ∧ p = 128 ^ i

set_option maxRecDepth 100000 in
set_option maxHeartbeats 800000 in
theorem number_any (R : Nat) (ba : Option Addr) (cap : Nat) (bs : List Int) (k : Nat) (w : World) (h : RdAt w R ba cap bs k) (hR : Apart ba bs R) :
    Calls Tryd.prog 92 #[.pointer (some ⟨R, 0, none⟩)] w fun e w' => e = .returned (.tuple #[.int .i64 (rdNum bs 6 0 0 1 k).1, .int .i64 (rdNum bs 6 0 0 1 k).2.1]) ∧ RdAt w' R ba cap bs (rdNum bs 6 0 0 1 k).2.2 ∧ But R w w' := by
  go_enter Tryd.func92, Tryd.ntmps92
  go_wp2_with fail
  go_loopg [4, 5, 9] 6 (fun g s4 s5 s9 wr => ∃ (i : Nat) (s p : Int) (j : Nat), i ≤ 6 ∧ g = 6 - i ∧ s4 = .int .i64 s ∧ s5 = .int .i64 p ∧ s9 = .int .i64 i ∧ 0 ≤ s ∧ 1 ≤ p ∧ s ≤ 4398046511104 ∧ p ≤ 4398046511104 ∧ Aside (s < p ∧ p = 128 ^ i) ∧ RdAt wr R ba cap bs j ∧ But R w wr ∧ Aside (rdNum bs 6 0 0 1 k = rdNum bs (6 - i) i s p j))
  case atStart => exact ⟨0, 0, 1, k, by omega, rfl, rfl, rfl, rfl, by omega, by omega, by omega, by omega, ⟨by omega, rfl⟩, h, But.refl _ _, rfl⟩
  case round =>
    obtain ⟨i, s, p, j, hi, rfl, rfl, rfl, rfl, hs0, hp1, hsz, hpz, hsp, hr, hb, hA⟩ := hrel
    clear h
    by_cases hi6 : i < 6
    · have hiz : (i : Int) < 6 := by omega
      go_wp2_with fail
      refine (next_any R ba cap bs j _ hr hR).mono ?_
      rintro e w1 ⟨rfl, h1, hb1⟩
      obtain ⟨n1, n2⟩ := rdNext_bd bs j hr.bytes.fits
      have hb2 := hb.trans hb1
      have HN : Aside (rdNum bs (6 - i) i s p j = (if (rdNext bs j).2.1 ≠ 0 then (0, (rdNext bs j).2.1, (rdNext bs j).2.2)
          else if 128 ≤ (rdNext bs j).1 then rdNum bs (6 - (i + 1)) (i + 1) (s + (rdNext bs j).1 % 128 * p) (p * 128) (rdNext bs j).2.2
          else if (rdNext bs j).1 = 0 ∧ 0 < i then (0, 4, (rdNext bs j).2.2) else (unzig (s + (rdNext bs j).1 % 128 * p), 0, (rdNext bs j).2.2))) := by
        obtain ⟨f, hf⟩ : ∃ f, 6 - i = f + 1 := ⟨5 - i, by omega⟩
        show rdNum bs (6 - i) i s p j = _
        rw [hf, rdNum, show 6 - (i + 1) = f by omega]
      have hpz' : p ≤ 34359738368 := by
        have e := hsp.out.2
        have hc : i = 0 ∨ i = 1 ∨ i = 2 ∨ i = 3 ∨ i = 4 ∨ i = 5 := by omega
        rcases hc with rfl | rfl | rfl | rfl | rfl | rfl <;> (simp at e; omega)
      have hspl := hsp.out.1
      have hmul0 : 0 ≤ (rdNext bs j).1 % 128 * p := Int.mul_nonneg (by omega) (by omega)
      have hmul1 : (rdNext bs j).1 % 128 * p ≤ 127 * p := Int.mul_le_mul_of_nonneg_right (by omega) (by omega)
      have hp5 : Aside (p * 128 = 128 ^ (i + 1)) := by show p * 128 = _; rw [hsp.out.2, Int.pow_succ]
      clear hr hb1 hb hsp
      generalize hq : rdNext bs j = q at *
      obtain ⟨c, er, j'⟩ := q
      simp only at n1 n2 h1 hmul0 hmul1
      by_cases he : er = 0
      · subst he
        by_cases hc : 128 ≤ c
        · have HU : Aside (rdNum bs (6 - i) i s p j = rdNum bs (6 - (i + 1)) (i + 1) (s + c % 128 * p) (p * 128) j') := by
            show rdNum bs (6 - i) i s p j = _
            rw [HN.out]; simp [hc]
          clear HN hq
          go_wp2
          go_roundg (6 - (i + 1))
          case measure => go_light; omega
          case rel =>
            go_light
            exact ⟨i + 1, s + c % 128 * p, p * 128, j', by omega, rfl, rfl, rfl, by go_num, by omega, by omega, by omega, by omega, ⟨by omega, hp5.out⟩, h1, hb2, hA.out.trans HU.out⟩
        · by_cases hz : c = 0 ∧ 0 < i
          · obtain ⟨rfl, hi0⟩ := hz
            have HU : Aside (rdNum bs 6 0 0 1 k = (0, 4, j')) := by
              show rdNum bs 6 0 0 1 k = _
              rw [hA.out, HN.out]; simp [hi0]
            have hi0z : (0 : Int) < (i : Int) := by omega
            clear HN hq hA
            go_wp2
            go_ret2
            exact ⟨by rw [HU.out]; rfl, by rw [HU.out]; exact h1, hb2⟩
          · have HU : Aside (rdNum bs 6 0 0 1 k = (unzig (s + c % 128 * p), 0, j')) := by
              show rdNum bs 6 0 0 1 k = _
              rw [hA.out, HN.out, if_neg (by simp), if_neg hc, if_neg hz]
            clear HN hq hA
            by_cases hc0 : c = 0
            · have ec : (c == 0) = true := by simp [hc0]
              have hi0 : ¬ (0 : Int) < (i : Int) := fun hh => hz ⟨hc0, by omega⟩
              have hd : decide ((0 : Int) < (i : Int)) = false := by simpa using hi0
              have hdn : decide (0 < i) = false := by simp; omega
              clear hc0 hz hi0
              go_wp2_with fail
              refine (signed_any _ _ (by omega) (by omega)).mono ?_
              rintro e w2 ⟨rfl, hw2⟩
              rw [hw2]
              go_wp2
              go_ret2
              exact ⟨by rw [HU.out]; rfl, by rw [HU.out]; exact h1, hb2⟩
            · have ec : (c == 0) = false := beq_eq_false_iff_ne.2 hc0
              clear hc0 hz
              go_wp2_with fail
              refine (signed_any _ _ (by omega) (by omega)).mono ?_
              rintro e w2 ⟨rfl, hw2⟩
              rw [hw2]
              go_wp2
              go_ret2
              exact ⟨by rw [HU.out]; rfl, by rw [HU.out]; exact h1, hb2⟩
      · have HU : Aside (rdNum bs 6 0 0 1 k = (0, er, j')) := by
          show rdNum bs 6 0 0 1 k = _
          rw [hA.out, HN.out]; simp [he]
        have heb : (er != 0) = true := by simp [he]
        clear HN hq hA
        go_wp2
        go_ret2
        exact ⟨by rw [HU.out]; rfl, by rw [HU.out]; exact h1, hb2⟩
    · have HU : Aside (rdNum bs 6 0 0 1 k = (0, 4, j)) := by
        show rdNum bs 6 0 0 1 k = _
        rw [hA.out, show 6 - i = 0 by omega, rdNum]
      go_wp2
      go_ret2
      exact ⟨by rw [HU.out]; rfl, by rw [HU.out]; exact hr, hb⟩

set_option maxHeartbeats 800000 in
theorem beginning_any (R : Nat) (ba : Option Addr) (cap : Nat) (bs : List Int) (k : Nat) (w : World) (h : RdAt w R ba cap bs k) (hR : Apart ba bs R) :
    Calls Tryd.prog 48 #[.pointer (some ⟨R, 0, none⟩)] w fun e w' => e = .returned (.int .i64 (rdBegin bs k).1) ∧ RdAt w' R ba cap bs (rdBegin bs k).2 ∧ But R w w' := by
  have i0 : ∀ w, (Instr.index 115 (.agg #[.int .i64 116, .int .i64 119]) (.int .i64 0)).run Tryd.prog w = .ok (.int .i64 116) w := fun _ => by kernel_rfl
  have i1 : ∀ w, (Instr.index 115 (.agg #[.int .i64 116, .int .i64 119]) (.int .i64 1)).run Tryd.prog w = .ok (.int .i64 119) w := fun _ => by kernel_rfl
  go_enter Tryd.func48, Tryd.ntmps48
  go_wp2_with fail
  refine wp_loop_rounds 3 ?_
  rw [rounds_succ]
  go_wp2_with fail
  refine (next_any R ba cap bs k _ h hR).mono ?_
  rintro e w1 ⟨rfl, h1, hb1⟩
  by_cases he : (rdNext bs k).2.1 = 0
  · rw [he]
    by_cases hc : (rdNext bs k).1 = 116
    · have ec : ((rdNext bs k).1 != 116) = false := by simp [hc]
      rw [hc]
      go_wp2_with fail
      rw [rounds_succ]
      go_wp2_with fail
      refine (next_any R ba cap bs _ _ h1 hR).mono ?_
      rintro e w2 ⟨rfl, h2, hb2⟩
      have hb3 := hb1.trans hb2
      by_cases he2 : (rdNext bs (rdNext bs k).2.2).2.1 = 0
      · rw [he2]
        by_cases hc2 : (rdNext bs (rdNext bs k).2.2).1 = 119
        · have HU : Aside (rdBegin bs k = (0, (rdNext bs (rdNext bs k).2.2).2.2)) := by
            show rdBegin bs k = _
            rw [rdBegin, if_neg (by simp [he]), if_neg (by simp [hc]), if_neg (by simp [he2]), if_neg (by simp [hc2])]
          rw [hc2]
          clear he he2 hc hc2 ec
          go_wp2_with fail
          rw [rounds_succ]
          go_wp2
          go_ret
          exact ⟨by rw [HU.out]; rfl, by rw [HU.out]; exact h2, hb3⟩
        · have HU : Aside (rdBegin bs k = (4, (rdNext bs (rdNext bs k).2.2).2.2)) := by
            show rdBegin bs k = _
            rw [rdBegin, if_neg (by simp [he]), if_neg (by simp [hc]), if_neg (by simp [he2]), if_pos hc2]
          have ec2 : ((rdNext bs (rdNext bs k).2.2).1 != 119) = true := by simp [hc2]
          clear he he2 hc ec
          go_wp2
          go_ret
          exact ⟨by rw [HU.out]; rfl, by rw [HU.out]; exact h2, hb3⟩
      · have HU : Aside (rdBegin bs k = ((rdNext bs (rdNext bs k).2.2).2.1, (rdNext bs (rdNext bs k).2.2).2.2)) := by
          show rdBegin bs k = _
          rw [rdBegin, if_neg (by simp [he]), if_neg (by simp [hc]), if_pos he2]
        have heb : ((rdNext bs (rdNext bs k).2.2).2.1 != 0) = true := by simp [he2]
        clear he hc ec
        go_wp2
        go_ret
        exact ⟨by rw [HU.out]; rfl, by rw [HU.out]; exact h2, hb3⟩
    · have HU : Aside (rdBegin bs k = (4, (rdNext bs k).2.2)) := by show rdBegin bs k = _; rw [rdBegin, if_neg (by simp [he]), if_pos hc]
      have ec : ((rdNext bs k).1 != 116) = true := by simp [hc]
      clear he
      go_wp2
      go_ret
      exact ⟨by rw [HU.out]; rfl, by rw [HU.out]; exact h1, hb1⟩
  · have HU : Aside (rdBegin bs k = ((rdNext bs k).2.1, (rdNext bs k).2.2)) := by show rdBegin bs k = _; rw [rdBegin, if_pos he]
    have heb : ((rdNext bs k).2.1 != 0) = true := by simp [he]
    go_wp2
    go_ret
    exact ⟨by rw [HU.out]; rfl, by rw [HU.out]; exact h1, hb1⟩

end Go.Proofs.YtahcgnmhhgcfmaaDoor
