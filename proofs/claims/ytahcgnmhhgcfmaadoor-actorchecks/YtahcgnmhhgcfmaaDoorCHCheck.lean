/- The walks of isObject, Check, and of the reference's HeapMay: which heaps may be. -/
import Derived.Test.YtahcgnmhhgcfmaaDoorCHSmall
import Derived.WalkKit
import Derived.WalkSpells
import Derived.WalkLawsBesides
import Derived.Deep.LoopGhost
import Derived.Deep.Light
import Derived.Deep.QuietTactic
import Derived.BigQuiet
namespace Go.Proofs.YtahcgnmhhgcfmaaDoor
open Go.RowKit

set_option maxHeartbeats 400000 in
theorem isObject_any (fa : Option Addr) (fc : Nat) (fs : List Vl) (dead : Bool) (m : Int) (w : World) (h : ValsAt w fa fs) (hl : 16 * fs.length ≤ 140737488351232) :
    Calls Tryd.prog 88 #[.agg #[.slice fa fs.length fc, .bool dead], .int .i64 m] w fun e w' => e = .returned (.bool (oMay m ⟨fs, dead⟩)) ∧ Below w.heap.size w w' := by
  cases dead with
  | true =>
    go_enter Tryd.func88, Tryd.ntmps88
    go_wp2
    all_goals
      go_ret
      refine ⟨ret_bool ?_, below_box _ _⟩
      go_light
      simp [oMay, beq_dec]
  | false =>
    cases hq : (decide (1 ≤ (fs.length : Int)) && decide ((fs.length : Int) ≤ 4)) with
    | false =>
      have HN : Aside (oMay m ⟨fs, false⟩ = false) := by
        show oMay m ⟨fs, false⟩ = false
        have : (decide (1 ≤ fs.length) && decide (fs.length ≤ 4)) = false := by rw [← hq]; congr 1 <;> simp <;> omega
        simp [oMay] at this ⊢
        intro h1 h2; have := this h1; omega
      go_enter Tryd.func88, Tryd.ntmps88
      go_wp2_with (go_at_call 93; refine (isFieldCount_any _ _).mono ?_; rintro e w' ⟨rfl, rfl⟩; rw [hq])
      go_ret
      exact ⟨ret_bool HN.out.symm, below_box _ _⟩
    | true =>
      have HN : Aside (oMay m ⟨fs, false⟩ = fs.all (vMay m)) := by
        show oMay m ⟨fs, false⟩ = _
        simp at hq
        simp only [oMay]
        have : (decide (1 ≤ fs.length) && decide (fs.length ≤ 4)) = true := by simp; omega
        rw [this]; rfl
      go_enter Tryd.func88, Tryd.ntmps88
      go_wp2_with (first | (go_at_call 93; refine (isFieldCount_any _ _).mono ?_; rintro e w' ⟨rfl, rfl⟩; rw [hq]) | (go_at_call 89; refine (areValues_any fa fc fs m _ (h.keeps (Keeps.alloc _ _)) hl).mono ?_; rintro e w' ⟨rfl, hb'⟩))
      go_ret
      exact ⟨ret_bool HN.out.symm, (below_box _ _).trans (hb'.mono (by simp))⟩

set_option maxHeartbeats 400000 in
theorem check_any (M : Int) (ao : Option Addr) (cap : Nat) (l : List Ob) (ra : Option Addr) (rc : Nat) (roots : List Vl) (w : World) (h : ObsAt w ao l) (hr : ValsAt w ra roots) (hrl : 16 * roots.length ≤ 140737488351232) :
    Calls Tryd.prog 76 #[.agg #[.int .i64 M, .slice ao l.length cap], .slice ra roots.length rc] w fun e w' => e = .returned (.int .i64 (erS (hMay M l roots))) ∧ Below w.heap.size w w' := by
  have hm := h.many
  obtain ⟨L, hL⟩ : ∃ L, L = l.length := ⟨_, rfl⟩
  have HL : Aside (L = l.length) := hL
  have HM : Aside (hMay M l roots = (mMay M L && l.all (oMay L) && roots.all (vMay L))) := by show hMay M l roots = _; rw [hL]; rfl
  rw [← hL] at hm ⊢
  clear hL
  cases hq : (decide (0 ≤ M) && decide (M ≤ 60)) with
  | false =>
    have HN : Aside (erS (hMay M l roots) = 8) := by show erS (hMay M l roots) = 8; rw [HM.out, mMay, hq]; rfl
    clear HM
    go_enter Tryd.func76, Tryd.ntmps76
    go_wp2_with (go_at_call 87; refine (isMost_any _ _).mono ?_; rintro e w' ⟨rfl, rfl⟩; rw [hq])
    go_ret
    exact ⟨ret_num HN.out.symm, below_box _ _⟩
  | true =>
    by_cases hLM : (M : Int) < (L : Int)
    · have HN : Aside (erS (hMay M l roots) = 8) := by
        show erS (hMay M l roots) = 8
        have : decide ((L : Int) ≤ M) = false := by simp; omega
        rw [HM.out, mMay, this]; simp [erS]
      clear HM
      go_enter Tryd.func76, Tryd.ntmps76
      go_wp2_with (go_at_call 87; refine (isMost_any _ _).mono ?_; rintro e w' ⟨rfl, rfl⟩; rw [hq])
      go_ret
      exact ⟨ret_num HN.out.symm, below_box _ _⟩
    · have hLM' : decide (M < (L : Int)) = false := by simp; omega
      have HM2 : Aside (hMay M l roots = (l.all (oMay L) && roots.all (vMay L))) := by
        show hMay M l roots = _
        have : decide ((L : Int) ≤ M) = true := by simp; omega
        rw [HM.out, mMay, this, hq]; rfl
      clear HM
      go_enter Tryd.func76, Tryd.ntmps76
      go_wp2_with (go_at_call 87; refine (isMost_any _ _).mono ?_; rintro e w' ⟨rfl, rfl⟩; rw [hq])
      clear hq hLM hLM'
      have cbox : (w.alloc (Obj.cells #[Value.int IntKind.i64 M, Value.slice ao L cap] 85)).cell? ⟨w.heap.size, 1, none⟩ = some (.slice ao L cap) := by simp
      have hbox : Aside (Below w.heap.size w (w.alloc (Obj.cells #[Value.int IntKind.i64 M, Value.slice ao L cap] 85))) := below_box _ _
      go_loopg [22, 6] L (fun g s22 s6 wr => ∃ i : Nat, i ≤ L ∧ g = L - i ∧ s22 = .int .i64 i ∧ Below w.heap.size w wr ∧ Aside (wr.cell? ⟨w.heap.size, 1, none⟩ = some (.slice ao L cap)) ∧ Aside (hMay M l roots = ((l.drop i).all (oMay L) && roots.all (vMay L))))
      case atStart => exact ⟨0, Nat.zero_le _, rfl, rfl, hbox.out, cbox, HM2.out⟩
      case round =>
        obtain ⟨i, hi, rfl, rfl, hb, hc, hA⟩ := hrel
        clear cbox hbox HM2
        have hcx := hc.out
        have hcy : ∀ o, (wr.alloc o).cell? ⟨w.heap.size, 1, none⟩ = some (.slice ao L cap) := fun o => Keeps.alloc wr o _ _ hcx
        have hs := hb.size
        by_cases hiL : i < L
        · have hiz : (i : Int) < (L : Int) := by omega
          obtain ⟨⟨fs, dead⟩, hv⟩ := at_some (l := l) (i := i) (by rw [← HL.out]; exact hiL)
          have HS : Aside ((l.drop i).all (oMay L) = (oMay L ⟨fs, dead⟩ && (l.drop (i + 1)).all (oMay L))) := all_from _ _ hv
          obtain ⟨b, o, fa, fc, rfl, c1, c2, hfs, hfl⟩ := h.cell i _ hv
          replace c1 := Keeps.below hb _ _ c1
          replace c2 := Keeps.below hb _ _ c2
          replace hfs := hfs.keeps (Keeps.below hb)
          clear hv hc
          simp only at c1 c2 hfs hfl
          cases hq : oMay L ⟨fs, dead⟩ with
          | false =>
            have HN : Aside (erS (hMay M l roots) = 8) := by show erS (hMay M l roots) = 8; rw [hA.out, HS.out, hq]; rfl
            clear HS hA
            go_wp2_with (go_at_call 88; refine (isObject_any fa fc fs dead L _ (hfs.keeps (Keeps.alloc _ _)) hfl).mono ?_; rintro e w' ⟨rfl, hb'⟩; rw [hq])
            go_ret
            exact ⟨ret_num HN.out.symm, (hb.alloc hs _).trans (hb'.mono (by simp; omega))⟩
          | true =>
            have HN : Aside (hMay M l roots = ((l.drop (i + 1)).all (oMay L) && roots.all (vMay L))) := by show hMay M l roots = _; rw [hA.out, HS.out, hq]; rfl
            clear HS hA
            go_wp2_with (go_at_call 88; refine (isObject_any fa fc fs dead L _ (hfs.keeps (Keeps.alloc _ _)) hfl).mono ?_; rintro e w' ⟨rfl, hb'⟩; rw [hq])
            have hb2 := (hb.alloc hs (Obj.cells #[Value.slice fa fs.length fc, Value.bool dead] 82)).trans (hb'.mono (by simp; omega))
            have hc2 : Aside (w'.cell? ⟨w.heap.size, 1, none⟩ = some (.slice (some ⟨b, o, none⟩) L cap)) := Keeps.below hb' _ _ (Keeps.alloc _ _ _ _ hcx)
            clear hb hb' hfs c1 c2
            go_roundg (L - (i + 1))
            case measure => go_light; omega
            case rel => go_light; exact ⟨i + 1, by omega, rfl, by go_num, hb2, hc2, HN⟩
        · have HN : Aside (hMay M l roots = roots.all (vMay L)) := by show hMay M l roots = _; rw [hA.out, List.drop_eq_nil_of_le (by rw [← HL.out]; omega)]; rfl
          have hr' := hr.keeps (Keeps.below hb)
          clear hA
          cases hq : roots.all (vMay L) with
          | false =>
            go_wp2_with (go_at_call 89; refine (areValues_any ra rc roots L _ hr' hrl).mono ?_; rintro e w' ⟨rfl, hb'⟩; rw [hq])
            go_ret
            exact ⟨ret_num (by rw [HN.out, hq]; rfl), hb.trans (hb'.mono hs)⟩
          | true =>
            go_wp2_with (go_at_call 89; refine (areValues_any ra rc roots L _ hr' hrl).mono ?_; rintro e w' ⟨rfl, hb'⟩; rw [hq])
            go_ret
            exact ⟨ret_num (by rw [HN.out, hq]; rfl), hb.trans (hb'.mono hs)⟩

set_option maxHeartbeats 400000 in
theorem heapMay_any (M : Int) (ao : Option Addr) (cap : Nat) (l : List Ob) (ra : Option Addr) (rc : Nat) (roots : List Vl) (w : World) (h : ObsAt w ao l) (hr : ValsAt w ra roots) (hrl : 16 * roots.length ≤ 140737488351232) :
    Calls Tryd.prog 56 #[.agg #[.int .i64 M, .slice ao l.length cap], .slice ra roots.length rc] w fun e w' => e = .returned (.bool (hMay M l roots)) ∧ Below w.heap.size w w' := by
  have hm := h.many
  obtain ⟨L, hL⟩ : ∃ L, L = l.length := ⟨_, rfl⟩
  have HL : Aside (L = l.length) := hL
  have HM : Aside (hMay M l roots = (mMay M L && l.all (oMay L) && roots.all (vMay L))) := by show hMay M l roots = _; rw [hL]; rfl
  rw [← hL] at hm ⊢
  clear hL
  obtain ⟨R, hR⟩ : ∃ R, R = roots.length := ⟨_, rfl⟩
  have HR : Aside (R = roots.length) := hR
  rw [← hR] at hrl ⊢
  clear hR
  cases hq : (decide (0 ≤ M) && decide (M ≤ 60)) with
  | false =>
    have HN : Aside (hMay M l roots = false) := by show hMay M l roots = false; rw [HM.out, mMay, hq]; rfl
    clear HM
    go_enter Tryd.func56, Tryd.ntmps56
    go_wp2_with (go_at_call 37; refine (in_any _ _ _ _).mono ?_; rintro e w' ⟨rfl, rfl⟩; rw [hq])
    go_ret
    exact ⟨ret_bool HN.out.symm, below_box _ _⟩
  | true =>
    by_cases hLM : (M : Int) < (L : Int)
    · have HN : Aside (hMay M l roots = false) := by
        show hMay M l roots = false
        have : decide ((L : Int) ≤ M) = false := by simp; omega
        rw [HM.out, mMay, this]; simp
      clear HM
      go_enter Tryd.func56, Tryd.ntmps56
      go_wp2_with (go_at_call 37; refine (in_any _ _ _ _).mono ?_; rintro e w' ⟨rfl, rfl⟩; rw [hq])
      go_ret
      exact ⟨ret_bool HN.out.symm, below_box _ _⟩
    · have hLM' : decide (M < (L : Int)) = false := by simp; omega
      have HM2 : Aside (hMay M l roots = (l.all (oMay L) && roots.all (vMay L))) := by
        show hMay M l roots = _
        have : decide ((L : Int) ≤ M) = true := by simp; omega
        rw [HM.out, mMay, this, hq]; rfl
      have hL60 : L ≤ 60 := by simp at hq; omega
      clear HM
      go_enter Tryd.func56, Tryd.ntmps56
      go_wp2_with (go_at_call 37; refine (in_any _ _ _ _).mono ?_; rintro e w' ⟨rfl, rfl⟩; rw [hq])
      clear hq hLM hLM'
      have cbox : (w.alloc (Obj.cells #[Value.int IntKind.i64 M, Value.slice ao L cap] 85)).cell? ⟨w.heap.size, 1, none⟩ = some (.slice ao L cap) := by simp
      have hbox : Aside (Below w.heap.size w (w.alloc (Obj.cells #[Value.int IntKind.i64 M, Value.slice ao L cap] 85))) := below_box _ _
      go_loopg [6, 7, 8] L (fun g s6 s7 s8 wr => ∃ i : Nat, i ≤ L ∧ g = L - i ∧ s6 = .int .i64 i ∧ Below w.heap.size w wr ∧ Aside (wr.cell? ⟨w.heap.size, 1, none⟩ = some (.slice ao L cap)) ∧ Aside (hMay M l roots = ((l.drop i).all (oMay L) && roots.all (vMay L))))
      case atStart => exact ⟨0, Nat.zero_le _, rfl, rfl, hbox.out, cbox, HM2.out⟩
      case round =>
        obtain ⟨i, hi, rfl, rfl, hb, hc, hA⟩ := hrel
        clear cbox hbox HM2
        have hcx := hc.out
        have hs := hb.size
        by_cases hiL : i < L
        · have hiz : (i : Int) < (L : Int) := by omega
          obtain ⟨⟨fs, dead⟩, hv⟩ := at_some (l := l) (i := i) (by rw [← HL.out]; exact hiL)
          have HS : Aside ((l.drop i).all (oMay L) = (oMay L ⟨fs, dead⟩ && (l.drop (i + 1)).all (oMay L))) := all_from _ _ hv
          obtain ⟨b, o, fa, fc, rfl, c1, c2, hfs, hfl⟩ := h.cell i _ hv
          replace c1 := Keeps.below hb _ _ c1
          replace c2 := Keeps.below hb _ _ c2
          replace hfs := hfs.keeps (Keeps.below hb)
          clear hv hc
          simp only at c1 c2 hfs hfl
          obtain ⟨F, hF⟩ : ∃ F, F = fs.length := ⟨_, rfl⟩
          have HF : Aside (F = fs.length) := hF
          rw [← hF] at c1 hfl
          clear hF
          cases dead with
          | true =>
            by_cases hF0 : F = 0
            · subst hF0
              have HN : Aside (hMay M l roots = ((l.drop (i + 1)).all (oMay L) && roots.all (vMay L))) := by
                show hMay M l roots = _
                have : oMay L ⟨fs, true⟩ = true := by simp [oMay, ← HF.out]
                rw [hA.out, HS.out, this]; rfl
              clear HS hA hfs hfl HF
              go_wp2
              refine wp_loop_rounds 1 ?_
              rw [rounds_succ]
              go_wp2
              go_roundg (L - (i + 1))
              case measure => go_light; omega
              case rel => go_light; exact ⟨i + 1, by omega, rfl, by go_num, hb, hcx, HN⟩
            · have hpos : (0 : Int) < (F : Int) := by omega
              have HN : Aside (hMay M l roots = false) := by
                show hMay M l roots = false
                have : oMay L ⟨fs, true⟩ = false := by simp [oMay, ← HF.out, hF0]
                rw [hA.out, HS.out, this]; rfl
              clear HS hA hfs hfl HF
              go_wp2
              go_ret
              exact ⟨ret_bool HN.out.symm, hb⟩
          | false =>
            cases hq : (decide (1 ≤ (F : Int)) && decide ((F : Int) ≤ 4)) with
            | false =>
              have HN : Aside (hMay M l roots = false) := by
                show hMay M l roots = false
                have : oMay L ⟨fs, false⟩ = false := by
                  simp only [oMay, ← HF.out]
                  have : (decide (1 ≤ F) && decide (F ≤ 4)) = false := by rw [← hq]; congr 1 <;> simp <;> omega
                  rw [this]; rfl
                rw [hA.out, HS.out, this]; rfl
              clear HS hA hfs hfl HF
              go_wp2_with (go_at_call 37; refine (in_any _ _ _ _).mono ?_; rintro e w' ⟨rfl, rfl⟩; rw [hq])
              go_ret
              exact ⟨ret_bool HN.out.symm, hb⟩
            | true =>
              have HN : Aside (hMay M l roots = ((fs.all (vMay L) && (l.drop (i + 1)).all (oMay L)) && roots.all (vMay L))) := by
                show hMay M l roots = _
                have : oMay L ⟨fs, false⟩ = fs.all (vMay L) := by
                  simp only [oMay, ← HF.out]
                  have : (decide (1 ≤ F) && decide (F ≤ 4)) = true := by rw [← hq]; congr 1 <;> simp <;> omega
                  rw [this]; rfl
                rw [hA.out, HS.out, this]
              clear HS hA
              go_wp2_with (go_at_call 37; refine (in_any _ _ _ _).mono ?_; rintro e w' ⟨rfl, rfl⟩; rw [hq])
              clear hq
              go_loopg [8] F (fun g s8 wi => ∃ k : Nat, k ≤ F ∧ g = F - k ∧ s8 = .int .i64 k ∧ Below wr.heap.size wr wi ∧ Aside (hMay M l roots = (((fs.drop k).all (vMay L) && (l.drop (i + 1)).all (oMay L)) && roots.all (vMay L))))
              case atStart => exact ⟨0, Nat.zero_le _, rfl, rfl, Below.refl _ _, HN.out⟩
              case round =>
                obtain ⟨k, hk, rfl, rfl, hbi, hAi⟩ := hrel
                clear HN
                have hsi := hbi.size
                by_cases hkF : k < F
                · have hkz : (k : Int) < (F : Int) := by omega
                  obtain ⟨⟨vk, vn⟩, hv⟩ := at_some (l := fs) (i := k) (by rw [← HF.out]; exact hkF)
                  have HS : Aside ((fs.drop k).all (vMay L) = (vMay L ⟨vk, vn⟩ && (fs.drop (k + 1)).all (vMay L))) := all_from _ _ hv
                  obtain ⟨fb, fo, rfl, d1, d2⟩ := hfs k _ hv
                  replace d1 := Keeps.below hbi _ _ d1
                  replace d2 := Keeps.below hbi _ _ d2
                  clear hv
                  simp only at d1 d2
                  cases hq : vMay L ⟨vk, vn⟩ with
                  | false =>
                    have HN : Aside (hMay M l roots = false) := by show hMay M l roots = false; rw [hAi.out, HS.out, hq]; rfl
                    clear HS hAi
                    go_wp2_with (go_at_call 79; refine (valueMay_any vk vn L _ (by omega) (by omega)).mono ?_; rintro e w' ⟨rfl, hb'⟩; rw [hq])
                    go_ret
                    exact ⟨ret_bool HN.out.symm, (hb.trans (hbi.mono hs)).trans (hb'.mono (by omega))⟩
                  | true =>
                    have HN : Aside (hMay M l roots = (((fs.drop (k + 1)).all (vMay L) && (l.drop (i + 1)).all (oMay L)) && roots.all (vMay L))) := by show hMay M l roots = _; rw [hAi.out, HS.out, hq]; rfl
                    clear HS hAi
                    go_wp2_with (go_at_call 79; refine (valueMay_any vk vn L _ (by omega) (by omega)).mono ?_; rintro e w' ⟨rfl, hb'⟩; rw [hq])
                    have hb2 := hbi.trans (hb'.mono hsi)
                    clear hbi hb' d1 d2
                    go_roundg (F - (k + 1))
                    case measure => go_light; omega
                    case rel => go_light; exact ⟨k + 1, by omega, rfl, by go_num, hb2, HN⟩
                · have HN : Aside (hMay M l roots = ((l.drop (i + 1)).all (oMay L) && roots.all (vMay L))) := by show hMay M l roots = _; rw [hAi.out, List.drop_eq_nil_of_le (by rw [← HF.out]; omega)]; rfl
                  have hc2 := Keeps.below hbi _ _ hcx
                  have hb2 := hb.trans (hbi.mono hs)
                  clear hAi
                  go_wp2
                  go_roundg (L - (i + 1))
                  case measure => go_light; omega
                  case rel => go_light; exact ⟨i + 1, by omega, rfl, by go_num, hb2, hc2, HN⟩
        · have HN : Aside (hMay M l roots = roots.all (vMay L)) := by show hMay M l roots = _; rw [hA.out, List.drop_eq_nil_of_le (by rw [← HL.out]; omega)]; rfl
          have hr' := hr.keeps (Keeps.below hb)
          clear hA hc hcx
          go_wp2
          go_loopg [9] R (fun g s9 wi => ∃ k : Nat, k ≤ R ∧ g = R - k ∧ s9 = .int .i64 k ∧ Below w.heap.size w wi ∧ Aside (hMay M l roots = (roots.drop k).all (vMay L)))
          case atStart => exact ⟨0, Nat.zero_le _, rfl, rfl, hb, HN.out⟩
          case round =>
            obtain ⟨k, hk, rfl, rfl, hbi, hAi⟩ := hrel
            clear HN
            have hsi := hbi.size
            by_cases hkF : k < R
            · have hkz : (k : Int) < (R : Int) := by omega
              obtain ⟨⟨vk, vn⟩, hv⟩ := at_some (l := roots) (i := k) (by rw [← HR.out]; exact hkF)
              have HS : Aside ((roots.drop k).all (vMay L) = (vMay L ⟨vk, vn⟩ && (roots.drop (k + 1)).all (vMay L))) := all_from _ _ hv
              obtain ⟨fb, fo, rfl, d1, d2⟩ := hr k _ hv
              replace d1 := Keeps.below hbi _ _ d1
              replace d2 := Keeps.below hbi _ _ d2
              clear hv
              simp only at d1 d2
              cases hq : vMay L ⟨vk, vn⟩ with
              | false =>
                have HN : Aside (hMay M l roots = false) := by show hMay M l roots = false; rw [hAi.out, HS.out, hq]; rfl
                clear HS hAi
                go_wp2_with (go_at_call 79; refine (valueMay_any vk vn L _ (by omega) (by omega)).mono ?_; rintro e w' ⟨rfl, hb'⟩; rw [hq])
                go_ret
                exact ⟨ret_bool HN.out.symm, hbi.trans (hb'.mono (by omega))⟩
              | true =>
                have HN : Aside (hMay M l roots = (roots.drop (k + 1)).all (vMay L)) := by show hMay M l roots = _; rw [hAi.out, HS.out, hq]; rfl
                clear HS hAi
                go_wp2_with (go_at_call 79; refine (valueMay_any vk vn L _ (by omega) (by omega)).mono ?_; rintro e w' ⟨rfl, hb'⟩; rw [hq])
                have hb2 := hbi.trans (hb'.mono hsi)
                clear hbi hb' d1 d2
                go_roundg (R - (k + 1))
                case measure => go_light; omega
                case rel => go_light; exact ⟨k + 1, by omega, rfl, by go_num, hb2, HN⟩
            · have HN : Aside (hMay M l roots = true) := by show hMay M l roots = _; rw [hAi.out, List.drop_eq_nil_of_le (by rw [← HR.out]; omega)]; rfl
              go_wp2
              go_ret
              exact ⟨ret_bool HN.out.symm, hbi⟩

end Go.Proofs.YtahcgnmhhgcfmaaDoor
