/- The walk of the reference's ProgramFault: the first fault of a program. -/
import Derived.Test.YtahcgnmhhgcfmaaDoorCSmall2
import Derived.Test.YtahcgnmhhgcfmaaDoorCPlain
import Derived.WalkKit
import Derived.WalkSpells
import Derived.WalkLawsBesides
import Derived.Deep.LoopGhost
import Derived.Deep.Light
import Derived.Deep.DeepCutAuto
namespace Go.Proofs.YtahcgnmhhgcfmaaDoor
open Go.RowKit

set_option maxRecDepth 100000 in
set_option maxHeartbeats 2000000 in
theorem refFault_any (ao : Option Addr) (G cap : Nat) (A : Nat → Option Addr) (L C : Nat → Nat) (X : Nat → Nat → Nat → Int) (w : World) (hp : ProgAt w ao G A L C X) :
    Calls Tryd.prog 51 #[.agg #[.slice ao G cap]] w fun e w' => e = .returned (.int .i64 (progFault G L X)) ∧ Below w.heap.size w w' := by
  have hG := hp.many
  by_cases h0 : G = 0
  · subst h0
    go_enter Tryd.func51, Tryd.ntmps51
    go_wp2
    go_ret
    exact ⟨rfl, cbelow_box _ _⟩
  have e0 : ((G : Int) == 0) = false := by simp; omega
  by_cases h6 : 6 < G
  · have hf : progFault G L X = 1 := by rw [progFault, if_neg h0, if_pos h6]
    rw [hf]
    have hz : (6 : Int) < (G : Int) := by omega
    clear hf
    go_enter Tryd.func51, Tryd.ntmps51
    go_wp2
    go_ret
    exact ⟨rfl, cbelow_box _ _⟩
  have hf : progFault G L X = first (fun r => rowFault G (L r) (X r)) G 0 := by rw [progFault, if_neg h0, if_neg h6]
  rw [hf]
  clear hf
  generalize hF : (fun r : Nat => rowFault G (L r) (X r)) = F
  have HF : Aside ((fun r : Nat => rowFault G (L r) (X r)) = F) := hF
  clear hF
  have hz : decide ((6 : Int) < (G : Int)) = false := by simp; omega
  go_enter Tryd.func51, Tryd.ntmps51
  go_wp2
  clear hz e0
  have hbox : Aside (Below w.heap.size w (w.alloc (Obj.cells #[Value.slice ao G cap] 26))) := cbelow_box _ _
  have cbox : (w.alloc (Obj.cells #[Value.slice ao G cap] 26)).cell? ⟨w.heap.size, 0, none⟩ = some (.slice ao G cap) := by simp
  go_loopg [3] G (fun g s3 wr => ∃ r : Nat, r ≤ G ∧ g = G - r ∧ s3 = .int .i64 r ∧ Below w.heap.size w wr ∧ Aside (wr.cell? ⟨w.heap.size, 0, none⟩ = some (.slice ao G cap)) ∧ Aside (first F G 0 = first F (G - r) r))
  case atStart => exact ⟨0, Nat.zero_le _, rfl, rfl, hbox.out, cbox, rfl⟩
  case round =>
    obtain ⟨r, hr, rfl, rfl, hb, hc, hA⟩ := hrel
    clear cbox hbox
    by_cases hrG : r < G
    · have hrz : (r : Int) < (G : Int) := by omega
      have hfi : Aside (F r = rowFault G (L r) (X r)) := by rw [← HF.out]; rfl
      have hp' := hp.keeps (Keeps.below hb)
      obtain ⟨b, o, rfl, hca⟩ := hp'.outer r hrG
      have hcb := hc.out
      have hLl := hp.long r hrG
      go_wp2_with fail
      refine (cin_any _ _ _ _).mono ?_
      rintro e w' ⟨rfl, rfl⟩
      by_cases hs : L r < 1 ∨ 60 < L r
      · have hd : (decide (1 ≤ (L r : Int)) && decide ((L r : Int) ≤ 60)) = false := by simp; omega
        have Hz : Aside (F r = 1) := by show F r = 1; rw [hfi.out, rowFault, if_pos hs]
        rw [hd]
        clear hd hs
        go_wp2
        go_ret
        exact ⟨cret_num (by rw [hA.out, first_hit F G r hrG (by rw [Hz.out]; decide), Hz.out]), hb⟩
      · have hd : (decide (1 ≤ (L r : Int)) && decide ((L r : Int) ≤ 60)) = true := by simp; omega
        obtain ⟨E, hE⟩ : ∃ E : Nat → Int, E = fun i : Nat => insFault G (L r) i (X r i 0) (X r i 1) (X r i 2) (X r i 3) := ⟨_, rfl⟩
        have HE : Aside (E = fun i : Nat => insFault G (L r) i (X r i 0) (X r i 1) (X r i 2) (X r i 3)) := hE
        have Hr : Aside (F r = first E (L r) 0) := by show F r = _; rw [hfi.out, rowFault, if_neg hs, HE.out]
        have hLr : 1 ≤ L r := by omega
        have hLr' : L r ≤ 60 := by omega
        have hRow := hp.rows r hrG
        obtain ⟨bb, oo, hAr, _⟩ := hRow 0 (by omega)
        rw [hAr] at hRow ⊢
        rw [hd]
        clear hd hs hE hfi hca hp' hAr
        go_wp2_with fail
        go_loopg [5] (L r) (fun g s5 wi => ∃ i : Nat, i ≤ L r ∧ g = L r - i ∧ s5 = .int .i64 i ∧ Below w.heap.size w wi ∧ Aside (wi.cell? ⟨w.heap.size, 0, none⟩ = some (.slice (some ⟨b, o, none⟩) G cap)) ∧ Aside (first E (L r) 0 = first E (L r - i) i))
        case atStart => exact ⟨0, Nat.zero_le _, rfl, rfl, hb, hcb, rfl⟩
        case round =>
          clear hcb hc hb
          obtain ⟨i, hi, rfl, rfl, hb, hc, hA2⟩ := hrel
          by_cases hiL : i < L r
          · have hiz : (i : Int) < (L r : Int) := by omega
            have HEi : Aside (E i = refIns G (L r) i (X r i 0) (X r i 1) (X r i 2) (X r i 3)) := by show E i = _; rw [HE.out, refIns_eq]
            obtain ⟨bb', oo', hq, hx⟩ := (hRow.keeps (Keeps.below hb)) i hiL
            simp only [Option.some.injEq, Addr.mk.injEq, and_true] at hq
            obtain ⟨rfl, rfl⟩ := hq
            have a0 : wr.cell? ⟨bb, oo + i * 4, none⟩ = some (.int .i64 (X r i 0)) := by simpa using hx 0 (by omega)
            have a1 := hx 1 (by omega)
            have a2 := hx 2 (by omega)
            have a3 := hx 3 (by omega)
            clear hx
            go_wp2_with fail
            generalize X r i 0 = op at *
            generalize X r i 1 = ra at *
            generalize X r i 2 = rb at *
            generalize X r i 3 = n at *
            have hs := hb.size
            have cb := hc.out
            have hcw : w.heap.size < wr.heap.size := World.block_lt_of_cell? _ _ cb
            refine (cin_any _ _ _ _).mono ?_
            rintro e w'' ⟨rfl, rfl⟩
            have hit : ∀ v : Int, v ≠ 0 → E i = v → first F G 0 = v := fun v hv hE => by
              rw [hA.out, first_hit F G r hrG (by rw [Hr.out, hA2.out, first_hit E (L r) i hiL (by rw [hE]; exact hv), hE]; exact hv), Hr.out, hA2.out, first_hit E (L r) i hiL (by rw [hE]; exact hv), hE]
            have HIT : Aside (∀ v : Int, v ≠ 0 → E i = v → first F G 0 = v) := hit
            clear hit
            have hb1 : Below w.heap.size w (wr.alloc (Obj.cells #[.int .i64 op, .int .i64 ra, .int .i64 rb, .int .i64 n] 40)) := hb.alloc hs _
            clear a0 a1 a2 a3
            cases hop : okOp op
            · have hd : (decide (0 ≤ op) && decide (op ≤ 19)) = false := hop
              have hv : Aside (E i = 3) := by show E i = 3; rw [HEi.out, refIns, if_pos hop]
              rw [hd]
              clear hd
              go_wp2
              go_ret
              exact ⟨cret_num (HIT.out 3 (by decide) hv.out).symm, hb1⟩
            · have hd : (decide (0 ≤ op) && decide (op ≤ 19)) = true := hop
              have HOP : Aside (okOp op = true) := hop
              rw [hd]
              clear hd hop
              go_upto_region 18 with fail
              go_cut [59] (fun s59 wx => (wr.alloc (Obj.cells #[.int .i64 op, .int .i64 ra, .int .i64 rb, .int .i64 n] 40)).alloc (Obj.cells #[.int .i64 op, .int .i64 ra, .int .i64 rb, .int .i64 n] 40) = wx ∧ s59 = .bool (special op))
              case first =>
                cases e5 : (op == 5)
                · cases e6 : (op == 6)
                  · cases e17 : (op == 17)
                    all_goals (go_wp2_with fail; go_meet; go_light; exact ⟨rfl, congrArg Value.bool (by simp only [special, e5, e6, e17]; rfl)⟩)
                  · go_wp2_with fail; go_meet; go_light; exact ⟨rfl, congrArg Value.bool (by simp only [special, e5, e6]; rfl)⟩
                · go_wp2_with fail; go_meet; go_light; exact ⟨rfl, congrArg Value.bool (by simp only [special, e5]; rfl)⟩
              case rest =>
                obtain ⟨rfl, rfl⟩ := hcut
                go_upto_if 59 with fail
                go_cut [7] (fun s7 wx => (wr.alloc (Obj.cells #[.int .i64 op, .int .i64 ra, .int .i64 rb, .int .i64 n] 40)).alloc (Obj.cells #[.int .i64 op, .int .i64 ra, .int .i64 rb, .int .i64 (farN op n)] 40) = wx ∧ s7 = .pointer (some ⟨wr.heap.size + 1, 0, none⟩) ∧ Aside (farBad op n = false))
                case first =>
                  cases hsp : special op
                  · have HFN : Aside (farN op n = n) := by show farN op n = n; simp [farN, hsp]
                    have hfb : farBad op n = false := by simp [farBad, hsp]
                    go_wp2_with fail
                    go_meet
                    go_light
                    exact ⟨by rw [HFN.out], rfl, hfb⟩
                  · have HFN : Aside (farN op n = 0) := by show farN op n = 0; simp [farN, hsp]
                    go_wp2_with fail
                    refine (cin_any _ _ _ _).mono ?_; rintro e w'' ⟨rfl, rfl⟩
                    cases hin : (decide (-60 ≤ n) && decide (n ≤ 60))
                    · have hv : Aside (E i = 2) := by
                        have hfb : farBad op n = true := by rw [farBad, hsp, hin]; rfl
                        show E i = 2; rw [HEi.out, refIns, if_neg (by simp [HOP.out]), if_pos hfb]
                      go_wp2
                      go_ret
                      exact ⟨cret_num (HIT.out 2 (by decide) hv.out).symm, hb1.alloc (by simp; omega) _⟩
                    · cases e17 : (op == 17)
                      · have hfb : farBad op n = false := by rw [farBad, hsp, hin, e17]; rfl
                        go_wp2_with fail
                        go_meet
                        go_light
                        exact ⟨by rw [HFN.out], rfl, hfb⟩
                      · go_wp2_with fail
                        refine (cin_any _ _ _ _).mono ?_; rintro e w'' ⟨rfl, rfl⟩
                        cases hin2 : (decide (0 ≤ n) && decide (n ≤ 5))
                        · have hv : Aside (E i = 2) := by
                            have hfb : farBad op n = true := by rw [farBad, hsp, hin, e17, hin2]; rfl
                            show E i = 2; rw [HEi.out, refIns, if_neg (by simp [HOP.out]), if_pos hfb]
                          go_wp2
                          go_ret
                          exact ⟨cret_num (HIT.out 2 (by decide) hv.out).symm, hb1.alloc (by simp; omega) _⟩
                        · have hfb : farBad op n = false := by rw [farBad, hsp, hin, e17, hin2]; rfl
                          go_wp2_with fail
                          go_meet
                          go_light
                          exact ⟨by rw [HFN.out], rfl, hfb⟩
                case rest =>
                  obtain ⟨rfl, rfl, HFB⟩ := hcut
                  go_wp2_with fail
                  refine (cin_any _ _ _ _).mono ?_; rintro e w'' ⟨rfl, rfl⟩
                  have hb2 : Below w.heap.size w ((wr.alloc (Obj.cells #[.int .i64 op, .int .i64 ra, .int .i64 rb, .int .i64 n] 40)).alloc (Obj.cells #[.int .i64 op, .int .i64 ra, .int .i64 rb, .int .i64 (farN op n)] 40)) := hb1.alloc (by simp; omega) _
                  cases hra : okReg ra
                  · have hd : (decide (0 ≤ ra) && decide (ra ≤ 7)) = false := hra
                    have hv : Aside (E i = 2) := by show E i = 2; rw [HEi.out, refIns, if_neg (by simp [HOP.out]), if_neg (by simp [HFB.out]), if_pos (Or.inl hra)]
                    rw [hd]
                    clear hd
                    go_wp2
                    go_ret
                    exact ⟨cret_num (HIT.out 2 (by decide) hv.out).symm, hb2⟩
                  have hd : (decide (0 ≤ ra) && decide (ra ≤ 7)) = true := hra
                  have HRA : Aside (okReg ra = true) := hra
                  rw [hd]
                  clear hd hra
                  go_wp2_with fail
                  refine (cin_any _ _ _ _).mono ?_; rintro e w'' ⟨rfl, rfl⟩
                  cases hrb : okReg rb
                  · have hd : (decide (0 ≤ rb) && decide (rb ≤ 7)) = false := hrb
                    have hv : Aside (E i = 2) := by show E i = 2; rw [HEi.out, refIns, if_neg (by simp [HOP.out]), if_neg (by simp [HFB.out]), if_pos (Or.inr (Or.inl hrb))]
                    rw [hd]
                    clear hd
                    go_wp2
                    go_ret
                    exact ⟨cret_num (HIT.out 2 (by decide) hv.out).symm, hb2⟩
                  have hd : (decide (0 ≤ rb) && decide (rb ≤ 7)) = true := hrb
                  have HRB : Aside (okReg rb = true) := hrb
                  rw [hd]
                  clear hd hrb
                  go_wp2_with fail
                  refine (nMay_any op ra rb (farN op n) 0 1 1 _ (by omega) (by omega) (by omega) (by omega) (by omega) (by omega)).mono ?_
                  rintro e w2 ⟨rfl, hbn⟩
                  have k2 := Keeps.below hbn
                  have c0 : w2.cell? ⟨wr.heap.size, 0, none⟩ = some (.int .i64 op) := k2 _ _ (by simp)
                  have c1 : w2.cell? ⟨wr.heap.size, 1, none⟩ = some (.int .i64 ra) := k2 _ _ (by simp)
                  have c2 : w2.cell? ⟨wr.heap.size, 2, none⟩ = some (.int .i64 rb) := k2 _ _ (by simp)
                  have c3 : w2.cell? ⟨wr.heap.size, 3, none⟩ = some (.int .i64 n) := k2 _ _ (by simp)
                  have cw : w2.cell? ⟨w.heap.size, 0, none⟩ = some (.slice (some ⟨b, o, none⟩) G cap) := k2 _ _ (((Keeps.alloc wr _).trans (Keeps.alloc _ _)) _ _ cb)
                  have hb4 : Below w.heap.size w w2 := hb2.trans (hbn.mono (by simp; omega))
                  clear k2 hbn hb2 hb1 cb hb hc
                  cases hm : nMay op (farN op n) 0 1 1
                  · have hv : Aside (E i = 2) := by show E i = 2; rw [HEi.out, refIns, if_neg (by simp [HOP.out]), if_neg (by simp [HFB.out]), if_pos (Or.inr (Or.inr hm))]
                    go_wp2
                    go_ret
                    exact ⟨cret_num (HIT.out 2 (by decide) hv.out).symm, hb4⟩
                  have HM : Aside (nMay op (farN op n) 0 1 1 = true) := hm
                  clear hm
                  go_upto_region 24 with fail
                  go_cut [110] (fun s110 wx => w2 = wx ∧ s110 = .bool (formBad op ra rb))
                  case first =>
                    cases ha : aOf op
                    · cases ea : (ra != 0)
                      · cases hbo : bOf op
                        · cases eb : (rb != 0)
                          all_goals (go_wp2_with (first | (go_at_call 67; refine (refHasA_any _ _).mono ?_; rintro e w'' ⟨rfl, rfl⟩) | (go_at_call 68; refine (refHasB_any _ _).mono ?_; rintro e w'' ⟨rfl, rfl⟩)); go_meet; go_light; exact ⟨rfl, congrArg Value.bool (by simp only [formBad, ha, ea, hbo, eb]; rfl)⟩)
                        · go_wp2_with (first | (go_at_call 67; refine (refHasA_any _ _).mono ?_; rintro e w'' ⟨rfl, rfl⟩) | (go_at_call 68; refine (refHasB_any _ _).mono ?_; rintro e w'' ⟨rfl, rfl⟩)); go_meet; go_light; exact ⟨rfl, congrArg Value.bool (by simp only [formBad, ha, ea, hbo]; rfl)⟩
                      · go_wp2_with (first | (go_at_call 67; refine (refHasA_any _ _).mono ?_; rintro e w'' ⟨rfl, rfl⟩) | (go_at_call 68; refine (refHasB_any _ _).mono ?_; rintro e w'' ⟨rfl, rfl⟩)); go_meet; go_light; exact ⟨rfl, congrArg Value.bool (by simp only [formBad, ha, ea]; rfl)⟩
                    · cases hbo : bOf op
                      · cases eb : (rb != 0)
                        all_goals (go_wp2_with (first | (go_at_call 67; refine (refHasA_any _ _).mono ?_; rintro e w'' ⟨rfl, rfl⟩) | (go_at_call 68; refine (refHasB_any _ _).mono ?_; rintro e w'' ⟨rfl, rfl⟩)); go_meet; go_light; exact ⟨rfl, congrArg Value.bool (by simp only [formBad, ha, hbo, eb]; rfl)⟩)
                      · go_wp2_with (first | (go_at_call 67; refine (refHasA_any _ _).mono ?_; rintro e w'' ⟨rfl, rfl⟩) | (go_at_call 68; refine (refHasB_any _ _).mono ?_; rintro e w'' ⟨rfl, rfl⟩)); go_meet; go_light; exact ⟨rfl, congrArg Value.bool (by simp only [formBad, ha, hbo]; rfl)⟩
                  case rest =>
                    obtain ⟨rfl, rfl⟩ := hcut
                    have hn3 : ¬ (okReg ra = false ∨ okReg rb = false ∨ nMay op (farN op n) 0 1 1 = false) := by rw [HRA.out, HRB.out, HM.out]; simp
                    have HN3 : Aside (¬ (okReg ra = false ∨ okReg rb = false ∨ nMay op (farN op n) 0 1 1 = false)) := hn3
                    clear hn3
                    cases hfo : formBad op ra rb
                    · go_wp2_with fail
                      refine (nMay_any op ra rb n i (L r) G _ (by omega) (by omega) (by omega) (by omega) (by omega) (by omega)).mono ?_
                      rintro e w3 ⟨rfl, hbn⟩
                      have d0 := Keeps.below hbn _ _ c0
                      have hc3 : Aside (w3.cell? ⟨w.heap.size, 0, none⟩ = some (.slice (some ⟨b, o, none⟩) G cap)) := Keeps.below hbn _ _ cw
                      have hb3 : Below w.heap.size w w3 := hb4.trans (hbn.mono hb4.size)
                      clear hbn c0 c1 c2 c3 cw hb4
                      cases hm2 : nMay op n i (L r) G
                      · have hv : Aside (E i = 2) := by show E i = 2; rw [HEi.out, refIns, if_neg (by simp [HOP.out]), if_neg (by simp [HFB.out]), if_neg HN3.out, if_neg (by simp [hfo]), if_pos hm2]
                        go_wp2
                        go_ret
                        exact ⟨cret_num (HIT.out 2 (by decide) hv.out).symm, hb3⟩
                      have HRE : Aside (E i = if lastBad op i (L r) = true then 5 else 0) := by show E i = _; rw [HEi.out, refIns, if_neg (by simp [HOP.out]), if_neg (by simp [HFB.out]), if_neg HN3.out, if_neg (by simp [hfo]), if_neg (by simp [hm2])]
                      clear hfo hm2
                      cases el : ((i : Int) + 1 == (L r : Int))
                      · have hv : Aside (E i = 0) := by show E i = 0; rw [HRE.out, if_neg (by simp only [lastBad, el]; simp)]
                        go_wp2
                        go_roundg (L r - (i + 1))
                        case measure => go_light; omega
                        case rel => go_light; exact ⟨i + 1, by omega, rfl, by go_num, hb3, hc3, hA2.out.trans (first_pass E (L r) i hiL hv.out)⟩
                      cases e0 : (op != 0)
                      · have hv : Aside (E i = 0) := by show E i = 0; rw [HRE.out, if_neg (by simp only [lastBad, el, e0]; simp)]
                        go_wp2
                        go_roundg (L r - (i + 1))
                        case measure => go_light; omega
                        case rel => go_light; exact ⟨i + 1, by omega, rfl, by go_num, hb3, hc3, hA2.out.trans (first_pass E (L r) i hiL hv.out)⟩
                      cases e19 : (op != 19)
                      · have hv : Aside (E i = 0) := by show E i = 0; rw [HRE.out, if_neg (by simp only [lastBad, el, e0, e19]; simp)]
                        go_wp2
                        go_roundg (L r - (i + 1))
                        case measure => go_light; omega
                        case rel => go_light; exact ⟨i + 1, by omega, rfl, by go_num, hb3, hc3, hA2.out.trans (first_pass E (L r) i hiL hv.out)⟩
                      cases e6 : (op != 6)
                      · have hv : Aside (E i = 0) := by show E i = 0; rw [HRE.out, if_neg (by simp only [lastBad, el, e0, e19, e6]; simp)]
                        go_wp2
                        go_roundg (L r - (i + 1))
                        case measure => go_light; omega
                        case rel => go_light; exact ⟨i + 1, by omega, rfl, by go_num, hb3, hc3, hA2.out.trans (first_pass E (L r) i hiL hv.out)⟩
                      have hv : Aside (E i = 5) := by show E i = 5; rw [HRE.out, if_pos (by simp only [lastBad, el, e0, e19, e6]; rfl)]
                      go_wp2
                      go_ret
                      exact ⟨cret_num (HIT.out 5 (by decide) hv.out).symm, hb3⟩
                    · have hv : Aside (E i = 4) := by show E i = 4; rw [HEi.out, refIns, if_neg (by simp [HOP.out]), if_neg (by simp [HFB.out]), if_neg HN3.out, if_pos hfo]
                      go_wp2
                      go_ret
                      exact ⟨cret_num (HIT.out 4 (by decide) hv.out).symm, hb4⟩
          · go_wp2
            go_roundg (G - (r + 1))
            case measure => go_light; omega
            case rel => go_light; exact ⟨r + 1, by omega, rfl, by go_num, hb, hc, hA.out.trans (first_pass F G r hrG (by rw [Hr.out, hA2.out, show L r - i = 0 by omega]; rfl))⟩
    · have hcb := hc.out
      go_wp2
      go_ret
      exact ⟨cret_num (by rw [hA.out, show G - r = 0 by omega]; rfl), hb⟩

end Go.Proofs.YtahcgnmhhgcfmaaDoor
