/- The walks of slices.Equal of instructions, and of slices.EqualFunc with it. -/
import Derived.Test.YtahcgnmhhgcfmaaDoorCProgL
import Derived.Test.YtahcgnmhhgcfmaaDoorCPlain
import Derived.WalkSpells
import Derived.WalkLawsBesides
import Derived.Deep.LoopGhost
import Derived.Deep.Light
import Derived.Deep.QuietTactic
import Derived.BigQuiet
namespace Go.Proofs.YtahcgnmhhgcfmaaDoor
open Go.RowKit

set_option maxRecDepth 100000 in
set_option maxHeartbeats 800000 in
theorem equalIns_any (aa ab : Option Addr) (ca cb n : Nat) (x : Nat → Nat → Int) (w : World) (ha : RowAt w aa n x) (hb : RowAt w ab n x) (hn : n ≤ 1000000) :
    Calls Tryd.prog 16 #[.slice aa n ca, .slice ab n cb] w fun e w' => e = .returned (.bool true) ∧ ∃ m, w' = w.drewN m := by
  go_enter Tryd.func16, Tryd.ntmps16
  go_wp2
  go_loopg [13] n (fun g s13 wr => ∃ i m : Nat, i ≤ n ∧ g = n - i ∧ s13 = .int .i64 i ∧ wr = w.drewN m)
  case atStart => exact ⟨0, 0, Nat.zero_le _, rfl, rfl, rfl⟩
  case round =>
    obtain ⟨i, m, hi, rfl, rfl, rfl⟩ := hrel
    by_cases hiL : i < n
    · have hiz : (i : Int) < (n : Int) := by omega
      obtain ⟨ba, oa, rfl, a⟩ := ha i hiL
      obtain ⟨bb, ob, rfl, b⟩ := hb i hiL
      have a0 := a 0 (by omega)
      have a1 := a 1 (by omega)
      have a2 := a 2 (by omega)
      have a3 := a 3 (by omega)
      have b0 := b 0 (by omega)
      have b1 := b 1 (by omega)
      have b2 := b 2 (by omega)
      have b3 := b 3 (by omega)
      simp only [Nat.add_zero] at a0 b0
      clear a b
      generalize x i 0 = x0 at *
      generalize x i 1 = x1 at *
      generalize x i 2 = x2 at *
      generalize x i 3 = x3 at *
      go_wp2
      go_quiet (fail)
      go_wp2
      go_roundg (n - (i + 1))
      case measure => go_light; omega
      case rel => go_light; exact ⟨i + 1, _, by omega, rfl, by go_num, rfl⟩
    · go_wp2
      go_ret
      exact ⟨rfl, _, rfl⟩

set_option maxRecDepth 100000 in
set_option maxHeartbeats 800000 in
theorem equalFunc_any (ao bo : Option Addr) (G ca cb : Nat) (A B : Nat → Option Addr) (L C D : Nat → Nat) (X : Nat → Nat → Nat → Int) (w : World) (ha : ProgAt w ao G A L C X) (hb : ProgAt w bo G B L D X) (hG : G ≤ 1000000) (hL : ∀ r, r < G → L r ≤ 1000000) :
    Calls Tryd.prog 15 #[.slice ao G ca, .slice bo G cb, .func (.func 16) #[] #[]] w fun e w' => e = .returned (.bool true) ∧ ∃ m, w' = w.drewN m := by
  go_enter Tryd.func15, Tryd.ntmps15
  go_wp2
  go_loopg [17] G (fun g s17 wr => ∃ i m : Nat, i ≤ G ∧ g = G - i ∧ s17 = .int .i64 i ∧ wr = w.drewN m)
  case atStart => exact ⟨0, 0, Nat.zero_le _, rfl, rfl, rfl⟩
  case round =>
    obtain ⟨i, m, hi, rfl, rfl, rfl⟩ := hrel
    by_cases hiL : i < G
    · have hiz : (i : Int) < (G : Int) := by omega
      obtain ⟨ba, oa, rfl, a⟩ := ha.outer i hiL
      obtain ⟨bb, ob, rfl, b⟩ := hb.outer i hiL
      have kn := Keeps.drewN w m
      have r1 := (ha.rows i hiL).keeps kn
      have r2 := (hb.rows i hiL).keeps kn
      have hl := hL i hiL
      have ha' := kn _ _ a
      have hb' := kn _ _ b
      go_wp2_with fail
      refine (equalIns_any (A i) (B i) (C i) (D i) (L i) (X i) _ r1 r2 hl).mono ?_
      rintro e w' ⟨rfl, m2, rfl⟩
      go_wp2_with fail
      go_roundg (G - (i + 1))
      case measure => go_light; omega
      case rel => go_light; exact ⟨i + 1, _, by omega, rfl, by go_num, rfl⟩
    · go_wp2
      go_ret
      exact ⟨rfl, _, rfl⟩

end Go.Proofs.YtahcgnmhhgcfmaaDoor
