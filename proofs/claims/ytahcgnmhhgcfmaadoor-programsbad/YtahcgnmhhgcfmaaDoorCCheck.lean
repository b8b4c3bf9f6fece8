/- The walk of Check: the first fault of a program. -/
import Derived.Test.YtahcgnmhhgcfmaaDoorCBehav
import Derived.WalkKit
import Derived.WalkSpells
import Derived.WalkLawsBesides
import Derived.Deep.LoopGhost
import Derived.Deep.Light
namespace Go.Proofs.YtahcgnmhhgcfmaaDoor
open Go.RowKit

set_option maxHeartbeats 400000 in
theorem ccheck_any (ao : Option Addr) (G cap : Nat) (A : Nat → Option Addr) (L C : Nat → Nat) (X : Nat → Nat → Nat → Int) (w : World) (hT : TabAt 0 w) (hp : ProgAt w ao G A L C X) :
    Calls Tryd.prog 27 #[.agg #[.slice ao G cap]] w fun e w' => e = .returned (.int .i64 (progFault G L X)) ∧ Below w.heap.size w w' := by
  have hG := hp.many
  by_cases h0 : G = 0
  · subst h0
    go_enter Tryd.func27, Tryd.ntmps27
    go_wp2
    go_ret
    exact ⟨rfl, cbelow_box _ _⟩
  · have e0 : ((G : Int) == 0) = false := by simp; omega
    by_cases h6 : 6 < G
    · have hf : progFault G L X = 1 := by rw [progFault, if_neg h0, if_pos h6]
      rw [hf]
      have hz : (6 : Int) < (G : Int) := by omega
      clear hf
      go_enter Tryd.func27, Tryd.ntmps27
      go_wp2
      go_ret
      exact ⟨rfl, cbelow_box _ _⟩
    · have hf : progFault G L X = first (fun r => rowFault G (L r) (X r)) G 0 := by rw [progFault, if_neg h0, if_neg h6]
      rw [hf]
      clear hf
      generalize hF : (fun r : Nat => rowFault G (L r) (X r)) = F
      have HF : Aside ((fun r : Nat => rowFault G (L r) (X r)) = F) := hF
      clear hF
      have hz : decide ((6 : Int) < (G : Int)) = false := by simp; omega
      go_enter Tryd.func27, Tryd.ntmps27
      go_wp2
      clear hz e0
      have hbox : Aside (Below w.heap.size w (w.alloc (Obj.cells #[Value.slice ao G cap] 26))) := cbelow_box _ _
      have cbox : (w.alloc (Obj.cells #[Value.slice ao G cap] 26)).cell? ⟨w.heap.size, 0, none⟩ = some (.slice ao G cap) := by simp
      go_loopg [17] G (fun g s17 wr => ∃ r : Nat, r ≤ G ∧ g = G - r ∧ s17 = .int .i64 r ∧ Below w.heap.size w wr ∧ Aside (wr.cell? ⟨w.heap.size, 0, none⟩ = some (.slice ao G cap)) ∧ Aside (first F G 0 = first F (G - r) r))
      case atStart => exact ⟨0, Nat.zero_le _, rfl, rfl, hbox.out, cbox, rfl⟩
      case round =>
        obtain ⟨r, hr, rfl, rfl, hb, hc, hA⟩ := hrel
        clear cbox hbox
        by_cases hrG : r < G
        · have hrz : (r : Int) < (G : Int) := by omega
          have hfi : Aside (F r = rowFault G (L r) (X r)) := by rw [← HF.out]; rfl
          have hp' := hp.keeps (Keeps.below hb)
          obtain ⟨b, o, rfl, hca⟩ := hp'.outer r hrG
          have hcb := hc.out
          go_wp2_with fail
          refine (checkBehavior_any _ (L r) (C r) G (X r) _ (hT.keeps (Keeps.below hb)) (hp'.rows r hrG) (hp.long r hrG)).mono ?_
          rintro e w1 ⟨rfl, hb1⟩
          have hb' : Below w.heap.size w w1 := hb.trans (hb1.mono hb.size)
          have hc' : Aside (w1.cell? ⟨w.heap.size, 0, none⟩ = some (.slice (some ⟨b, o, none⟩) G cap)) := Keeps.below hb1 _ _ hcb
          clear hb1 hcb hca hp' hb hc
          by_cases hz : rowFault G (L r) (X r) = 0
          · have Hz : Aside (F r = 0) := hfi.out.trans hz
            rw [hz]
            clear hz hfi
            go_wp2
            go_roundg (G - (r + 1))
            case measure => go_light; omega
            case rel => go_light; exact ⟨r + 1, by omega, rfl, by go_num, hb', hc', hA.out.trans (first_pass F G r hrG Hz.out)⟩
          · have hzb : (rowFault G (L r) (X r) != 0) = true := by simp [hz]
            go_wp2
            go_ret
            exact ⟨cret_num (by rw [hA.out, first_hit F G r hrG (by rw [hfi.out]; exact hz), hfi.out]), hb'⟩
        · go_wp2
          go_ret
          exact ⟨cret_num (by rw [hA.out, show G - r = 0 by omega]; rfl), hb⟩

end Go.Proofs.YtahcgnmhhgcfmaaDoor
