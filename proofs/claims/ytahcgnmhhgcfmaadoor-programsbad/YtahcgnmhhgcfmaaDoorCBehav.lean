/- The walk of checkBehavior: the first fault of a behavior. -/
import Derived.Test.YtahcgnmhhgcfmaaDoorCParts
import Derived.WalkKit
import Derived.WalkSpells
import Derived.WalkLawsBesides
import Derived.Deep.LoopGhost
import Derived.Deep.Light
namespace Go.Proofs.YtahcgnmhhgcfmaaDoor
open Go.RowKit

theorem parts_n {op a b n : Int} (h : partsFault op a b n = 0) : -60 ≤ n ∧ n ≤ 60 ∨ (op ≠ 5 ∧ op ≠ 6) := by
  unfold partsFault at h
  split at h
  · omega
  · split at h
    · omega
    · rename_i h2
      by_cases h5 : op = 5 ∨ op = 6
      · left
        have e1 : op ≠ 1 := by omega
        simp only [not_or] at h2
        have l := h2.2.2.1
        have m := h2.2.2.2
        simp only [loOf, hiOf, if_neg e1, if_pos h5] at l m
        omega
      · right; omega

set_option maxHeartbeats 400000 in
theorem checkBehavior_size (ao : Option Addr) (L C kinds : Nat) (x : Nat → Nat → Int) (w : World) (hL : 32 * L ≤ 281474976710656) (h : L < 1 ∨ 60 < L) :
    Calls Tryd.prog 46 #[.slice ao L C, .int .i64 kinds] w fun e w' => e = .returned (.int .i64 (rowFault kinds L x)) ∧ Below w.heap.size w w' := by
  have hf : rowFault kinds L x = 1 := by rw [rowFault, if_pos h]
  rw [hf]
  clear hf
  by_cases h0 : L < 1
  · have hz : (L : Int) < 1 := by omega
    go_enter Tryd.func46, Tryd.ntmps46
    go_wp2
    go_ret
    exact ⟨rfl, Below.refl _ _⟩
  · have hz : (1 : Int) ≤ (L : Int) := by omega
    have hz' : (60 : Int) < (L : Int) := by omega
    clear h h0
    go_enter Tryd.func46, Tryd.ntmps46
    go_wp2
    go_ret
    exact ⟨rfl, Below.refl _ _⟩

set_option maxHeartbeats 800000 in
theorem checkBehavior_go (ao : Option Addr) (L C kinds : Nat) (x : Nat → Nat → Int) (w : World) (hT : TabAt 0 w) (hR : RowAt w ao L x) (h1 : 1 ≤ L) (h60 : L ≤ 60) :
    Calls Tryd.prog 46 #[.slice ao L C, .int .i64 kinds] w fun e w' => e = .returned (.int .i64 (rowFault kinds L x)) ∧ Below w.heap.size w w' := by
  have hf : rowFault kinds L x = first (fun i => insFault kinds L i (x i 0) (x i 1) (x i 2) (x i 3)) L 0 := by simp [rowFault]; omega
  rw [hf]
  clear hf
  generalize hF : (fun i : Nat => insFault kinds L i (x i 0) (x i 1) (x i 2) (x i 3)) = F
  have HF : Aside ((fun i : Nat => insFault kinds L i (x i 0) (x i 1) (x i 2) (x i 3)) = F) := hF
  clear hF
  have hd1 : decide ((L : Int) < 1) = false := by simp; omega
  have hd2 : decide ((60 : Int) < (L : Int)) = false := by simp; omega
  go_enter Tryd.func46, Tryd.ntmps46
  go_wp2
  clear hd1 hd2
  go_loopg [18] L (fun g s18 wr => ∃ i : Nat, i ≤ L ∧ g = L - i ∧ s18 = .int .i64 i ∧ Below w.heap.size w wr ∧ Aside (first F L 0 = first F (L - i) i))
  case atStart => exact ⟨0, Nat.zero_le _, rfl, rfl, Below.refl _ _, rfl⟩
  case round =>
    obtain ⟨i, hi, rfl, rfl, hb, hA⟩ := hrel
    by_cases hiL : i < L
    · have hiz : (i : Int) < (L : Int) := by omega
      have hfi : Aside (F i = insFault kinds L i (x i 0) (x i 1) (x i 2) (x i 3)) := by rw [← HF.out]; rfl
      obtain ⟨b, o, rfl, hc⟩ := (hR.keeps (Keeps.below hb)) i hiL
      have a0 : wr.cell? ⟨b, o + i * 4, none⟩ = some (.int .i64 (x i 0)) := by simpa using hc 0 (by omega)
      have a1 := hc 1 (by omega)
      have a2 := hc 2 (by omega)
      have a3 := hc 3 (by omega)
      clear hc
      have hTr := hT.keeps (Keeps.below hb)
      go_wp2_with fail
      generalize x i 0 = op at *
      generalize x i 1 = ra at *
      generalize x i 2 = rb at *
      generalize x i 3 = n at *
      refine (checkParts_any op ra rb n _ (hTr.keeps (Keeps.alloc _ _))).mono ?_
      rintro e w1 ⟨rfl, hb1⟩
      have k1 := Keeps.below hb1
      have c0 : w1.cell? ⟨wr.heap.size, 0, none⟩ = some (.int .i64 op) := k1 _ _ (by simp)
      have c1 : w1.cell? ⟨wr.heap.size, 1, none⟩ = some (.int .i64 ra) := k1 _ _ (by simp)
      have c2 : w1.cell? ⟨wr.heap.size, 2, none⟩ = some (.int .i64 rb) := k1 _ _ (by simp)
      have c3 : w1.cell? ⟨wr.heap.size, 3, none⟩ = some (.int .i64 n) := k1 _ _ (by simp)
      have hs := hb.size
      have hb' : Below w.heap.size w w1 := (hb.alloc hs _).trans (hb1.mono (by simp; omega))
      have hsz1 := hb1.size
      clear k1 hb1 a0 a1 a2 a3 hTr hb
      by_cases hp : partsFault op ra rb n = 0
      · have hpn := parts_n hp
        have Hp : Aside (partsFault op ra rb n = 0) := hp
        rw [hp]
        clear hp
        go_wp2_with fail
        refine (leadsBeside_any op ra rb n i L _ hpn (by omega) (by omega)).mono ?_
        rintro e w2 ⟨rfl, hb2⟩
        have k2 := Keeps.below hb2
        have d0 := k2 _ _ c0
        have d3 := k2 _ _ c3
        have hb3 : Below w.heap.size w w2 := hb'.trans (hb2.mono hb'.size)
        clear k2 hb2 c0 c1 c2 c3 hb' hpn
        cases hbs : beside op n i L
        · by_cases h17 : op = 17
          · have e17 : (op == 17) = true := by simp [h17]
            by_cases hkn : (kinds : Int) ≤ n
            · have Hfi : Aside (F i = 2) := hfi.out.trans (ins_spawn Hp.out h17 hkn)
              clear hfi Hp h17
              go_wp2
              go_ret
              exact ⟨cret_num (by rw [hA.out, first_hit F L i hiL (by rw [Hfi.out]; decide), Hfi.out]), hb3⟩
            · have hno : ¬ (op = 17 ∧ (kinds : Int) ≤ n) := fun c => hkn c.2
              have hdk : decide ((kinds : Int) ≤ n) = false := by simp; omega
              clear h17
              by_cases hl : i = L - 1
              · have el : ((i : Int) == (L : Int) - 1) = true := by simp; omega
                cases hg : (op != 0 && op != 19 && op != 6)
                · have Hfi : Aside (F i = 0) := hfi.out.trans (ins_last Hp.out hbs hno hg)
                  have HG : Aside ((op != 0 && op != 19 && op != 6) = false) := hg
                  clear hfi Hp hno hl hg
                  go_wp2_with (go_at_call 60; refine (goesOn_any _ _).mono ?_; rintro e w' ⟨rfl, rfl⟩; rw [HG.out])
                  go_roundg (L - (i + 1))
                  case measure => go_light; omega
                  case rel => go_light; exact ⟨i + 1, by omega, rfl, by go_num, hb3, hA.out.trans (first_pass F L i hiL Hfi.out)⟩
                · have Hfi : Aside (F i = 5) := hfi.out.trans (ins_short Hp.out hbs hno (by omega) hg)
                  have HG : Aside ((op != 0 && op != 19 && op != 6) = true) := hg
                  clear hfi Hp hno hl hg
                  go_wp2_with (go_at_call 60; refine (goesOn_any _ _).mono ?_; rintro e w' ⟨rfl, rfl⟩; rw [HG.out])
                  go_ret
                  exact ⟨cret_num (by rw [hA.out, first_hit F L i hiL (by rw [Hfi.out]; decide), Hfi.out]), hb3⟩
              · have el : ((i : Int) == (L : Int) - 1) = false := by simp; omega
                have Hfi : Aside (F i = 0) := hfi.out.trans (ins_inner Hp.out hbs hno (by omega))
                clear hfi Hp hno hl
                go_wp2
                go_roundg (L - (i + 1))
                case measure => go_light; omega
                case rel => go_light; exact ⟨i + 1, by omega, rfl, by go_num, hb3, hA.out.trans (first_pass F L i hiL Hfi.out)⟩
          · have e17 : (op == 17) = false := beq_eq_false_iff_ne.2 h17
            have hno : ¬ (op = 17 ∧ (kinds : Int) ≤ n) := fun c => h17 c.1
            clear h17
            by_cases hl : i = L - 1
            · have el : ((i : Int) == (L : Int) - 1) = true := by simp; omega
              cases hg : (op != 0 && op != 19 && op != 6)
              · have Hfi : Aside (F i = 0) := hfi.out.trans (ins_last Hp.out hbs hno hg)
                have HG : Aside ((op != 0 && op != 19 && op != 6) = false) := hg
                clear hfi Hp hno hl hg
                go_wp2_with (go_at_call 60; refine (goesOn_any _ _).mono ?_; rintro e w' ⟨rfl, rfl⟩; rw [HG.out])
                go_roundg (L - (i + 1))
                case measure => go_light; omega
                case rel => go_light; exact ⟨i + 1, by omega, rfl, by go_num, hb3, hA.out.trans (first_pass F L i hiL Hfi.out)⟩
              · have Hfi : Aside (F i = 5) := hfi.out.trans (ins_short Hp.out hbs hno (by omega) hg)
                have HG : Aside ((op != 0 && op != 19 && op != 6) = true) := hg
                clear hfi Hp hno hl hg
                go_wp2_with (go_at_call 60; refine (goesOn_any _ _).mono ?_; rintro e w' ⟨rfl, rfl⟩; rw [HG.out])
                go_ret
                exact ⟨cret_num (by rw [hA.out, first_hit F L i hiL (by rw [Hfi.out]; decide), Hfi.out]), hb3⟩
            · have el : ((i : Int) == (L : Int) - 1) = false := by simp; omega
              have Hfi : Aside (F i = 0) := hfi.out.trans (ins_inner Hp.out hbs hno (by omega))
              clear hfi Hp hno hl
              go_wp2
              go_roundg (L - (i + 1))
              case measure => go_light; omega
              case rel => go_light; exact ⟨i + 1, by omega, rfl, by go_num, hb3, hA.out.trans (first_pass F L i hiL Hfi.out)⟩
        · have Hfi : Aside (F i = 2) := hfi.out.trans (ins_beside Hp.out hbs)
          clear hfi Hp
          go_wp2
          go_ret
          exact ⟨cret_num (by rw [hA.out, first_hit F L i hiL (by rw [Hfi.out]; decide), Hfi.out]), hb3⟩
      · have Hfi : Aside (F i = partsFault op ra rb n) := hfi.out.trans (ins_parts hp)
        have hpb : (partsFault op ra rb n != 0) = true := by simp [hp]
        clear hfi
        go_wp2
        go_ret
        exact ⟨cret_num (by rw [hA.out, first_hit F L i hiL (by rw [Hfi.out]; exact hp), Hfi.out]), hb'⟩
    · go_wp2
      go_ret
      exact ⟨cret_num (by rw [hA.out, show L - i = 0 by omega]; rfl), hb⟩

theorem checkBehavior_any (ao : Option Addr) (L C kinds : Nat) (x : Nat → Nat → Int) (w : World) (hT : TabAt 0 w) (hR : RowAt w ao L x) (hL : 32 * L ≤ 281474976710656) :
    Calls Tryd.prog 46 #[.slice ao L C, .int .i64 kinds] w fun e w' => e = .returned (.int .i64 (rowFault kinds L x)) ∧ Below w.heap.size w w' := by
  by_cases h : L < 1 ∨ 60 < L
  · exact checkBehavior_size ao L C kinds x w hL h
  · exact checkBehavior_go ao L C kinds x w hT hR (by omega) (by omega)

end Go.Proofs.YtahcgnmhhgcfmaaDoor
