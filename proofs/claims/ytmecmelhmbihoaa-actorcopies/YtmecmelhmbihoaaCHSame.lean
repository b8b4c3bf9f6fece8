/- The walks of sameValues and sameHeap: what is the same as data is found the same. -/
import Derived.Test.YtmecmelhmbihoaaChecked
import Derived.Test.YtmecmelhmbihoaaCPlain
import Derived.WalkKit
import Derived.WalkSpells
import Derived.WalkLawsBesides
import Derived.Deep.LoopGhost
import Derived.Deep.Light
import Derived.Deep.QuietTactic
import Derived.BigQuiet
namespace Go.Proofs.Ytmecmelhmbihoaa
open Go.RowKit

set_option maxHeartbeats 400000 in
theorem sameValues_any (aa ab : Option Addr) (ca cb : Nat) (l : List Vl) (w : World) (ha : ValsAt w aa l) (hb : ValsAt w ab l) (hl : 16 * l.length ≤ 140737488351232) :
    Calls Try.prog 11 #[.slice aa l.length ca, .slice ab l.length cb] w fun e w' => e = .returned (.bool true) ∧ ∃ n, w' = w.drewN n := by
  obtain ⟨L, hL⟩ : ∃ L, L = l.length := ⟨_, rfl⟩
  have HL : Aside (L = l.length) := hL
  rw [← hL] at hl ⊢
  clear hL
  go_enter Try.func11, Try.ntmps11
  go_wp2
  go_loopg [5] L (fun g s5 wr => ∃ i n : Nat, i ≤ L ∧ g = L - i ∧ s5 = .int .i64 i ∧ wr = w.drewN n)
  case atStart => exact ⟨0, 0, Nat.zero_le _, rfl, rfl, rfl⟩
  case round =>
    obtain ⟨i, n, hi, rfl, rfl, rfl⟩ := hrel
    by_cases hiL : i < L
    · have hiz : (i : Int) < (L : Int) := by omega
      obtain ⟨⟨k, m⟩, hv⟩ := at_some (l := l) (i := i) (by rw [← HL.out]; exact hiL)
      obtain ⟨ba, oa, rfl, a1, a2⟩ := ha i _ hv
      obtain ⟨bb, ob, rfl, b1, b2⟩ := hb i _ hv
      clear hv
      simp only at a1 a2 b1 b2
      go_wp2
      go_quiet (fail)
      go_wp2
      go_roundg (L - (i + 1))
      case measure => go_light; omega
      case rel => go_light; exact ⟨i + 1, _, by omega, rfl, by go_num, rfl⟩
    · go_wp2
      go_ret
      exact ⟨rfl, _, rfl⟩

set_option maxHeartbeats 400000 in
theorem sameHeap_any (M : Int) (aa ab : Option Addr) (ca cb : Nat) (l : List Ob) (w : World) (ha : ObsAt w aa l) (hb : ObsAt w ab l) :
    Calls Try.prog 10 #[.agg #[.int .i64 M, .slice aa l.length ca], .agg #[.int .i64 M, .slice ab l.length cb]] w fun e w' => e = .returned (.bool true) ∧ Below w.heap.size w w' := by
  have hm := ha.many
  obtain ⟨L, hL⟩ : ∃ L, L = l.length := ⟨_, rfl⟩
  have HL : Aside (L = l.length) := hL
  rw [← hL] at hm ⊢
  clear hL
  go_enter Try.func10, Try.ntmps10
  go_wp2
  have kW := (Keeps.alloc w (.cells #[.int .i64 M, .slice aa L ca] 32)).trans (Keeps.alloc _ (.cells #[.int .i64 M, .slice ab L cb] 32))
  have ha' := ha.keeps kW
  have hb' := hb.keeps kW
  have hbel : Below w.heap.size w ((w.alloc (Obj.cells #[.int .i64 M, Value.slice aa L ca] 32)).alloc (Obj.cells #[.int .i64 M, Value.slice ab L cb] 32)) := ((Below.refl _ _).alloc (Nat.le_refl _) _).alloc (by simp) _
  have c1 : ((w.alloc (Obj.cells #[.int .i64 M, Value.slice aa L ca] 32)).alloc (Obj.cells #[.int .i64 M, Value.slice ab L cb] 32)).cell? ⟨w.heap.size, 1, none⟩ = some (.slice aa L ca) := by simp
  have c2 : ((w.alloc (Obj.cells #[.int .i64 M, Value.slice aa L ca] 32)).alloc (Obj.cells #[.int .i64 M, Value.slice ab L cb] 32)).cell? ⟨w.heap.size + 1, 1, none⟩ = some (.slice ab L cb) := by simp
  clear ha hb kW
  generalize (w.alloc (Obj.cells #[.int .i64 M, Value.slice aa L ca] 32)).alloc (Obj.cells #[.int .i64 M, Value.slice ab L cb] 32) = W at *
  go_loopg [5] L (fun g s5 wr => ∃ i : Nat, i ≤ L ∧ g = L - i ∧ s5 = .int .i64 i ∧ Keeps W wr ∧ Below w.heap.size w wr)
  case atStart => exact ⟨0, Nat.zero_le _, rfl, rfl, Keeps.refl _, hbel⟩
  case round =>
    obtain ⟨i, hi, rfl, rfl, hk, hbr⟩ := hrel
    replace c1 := hk _ _ c1
    replace c2 := hk _ _ c2
    by_cases hiL : i < L
    · have hiz : (i : Int) < (L : Int) := by omega
      obtain ⟨⟨fs, dead⟩, hv⟩ := at_some (l := l) (i := i) (by rw [← HL.out]; exact hiL)
      obtain ⟨ba, oa, fa, fca, rfl, a1, a2, a3, hfl⟩ := ha'.cell i _ hv
      obtain ⟨bb, ob, fb, fcb, rfl, b1, b2, b3, _⟩ := hb'.cell i _ hv
      clear hv
      replace a1 := hk _ _ a1
      replace a2 := hk _ _ a2
      replace b1 := hk _ _ b1
      replace b2 := hk _ _ b2
      replace a3 := a3.keeps hk
      replace b3 := b3.keeps hk
      simp only at a1 a2 b1 b2 a3 b3 hfl
      go_wp2
      go_quiet (first | (go_at_call 11; refine Calls.quiet_of (sameValues_any fa fb fca fcb fs _ (a3.keeps (Keeps.drewN _ _)) (b3.keeps (Keeps.drewN _ _)) hfl)))
      go_wp2
      go_roundg (L - (i + 1))
      case measure => go_light; omega
      case rel => go_light; exact ⟨i + 1, by omega, rfl, by go_num, hk.trans (Keeps.drewN _ _), below_drewN hbr _⟩
    · go_wp2
      go_ret
      exact ⟨rfl, hbr⟩

end Go.Proofs.Ytmecmelhmbihoaa
