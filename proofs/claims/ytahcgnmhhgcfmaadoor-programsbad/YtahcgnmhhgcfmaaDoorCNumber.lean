/- The walk of appendNumber: the bytes of a number behind those that are there. -/
import Derived.Test.YtahcgnmhhgcfmaaDoorChecked
import Derived.Test.YtahcgnmhhgcfmaaDoorCSmall
import Derived.Test.YtahcgnmhhgcfmaaDoorCPlain
import Derived.WalkKit
import Derived.WalkSpells
import Derived.WalkLawsBesides
import Derived.Deep.LoopGhost
import Derived.Deep.Light
import Derived.Deep.DeepCutAuto
namespace Go.Proofs.YtahcgnmhhgcfmaaDoor
open Go.RowKit

theorem Tryd.infoByte : (Tryd.prog.info? 5).map (fun i => (i.zero, i.size, i.bytes)) = some (some (.int .u8 0), 1, 1) := by kernel_rfl

theorem bytesT : ∃ i, ByteType Tryd.prog 28 5 i := by
  obtain ⟨i, hi, h⟩ := Option.map_eq_some_iff.1 Tryd.infoByte
  simp only [Prod.mk.injEq] at h
  exact ⟨i, Tryd.underlying28, hi, h.1, h.2.1, h.2.2⟩

set_option maxHeartbeats 800000 in
theorem appendNumber_any (v : Value) (bs : List Int) (n : Int) (base : Nat) (w : World) (hB : Buf w base 5 v bs) (hl : bs.length ≤ 100000) (hbase : base ≤ w.heap.size) (h1 : -1099511627776 ≤ n) (h2 : n ≤ 1099511627776) :
    Calls Tryd.prog 47 #[v, .int .i64 n] w fun e w' => ∃ v', e = .returned v' ∧ Buf w' base 5 v' (bs ++ sev 7 (zig n)) ∧ Below base w w' := by
  obtain ⟨i0, BT⟩ := bytesT
  obtain ⟨z1, z2⟩ := zig_bd h1 h2
  go_enter Tryd.func47, Tryd.ntmps47
  go_upto_if 9 with fail
  go_cut [5] (fun s5 wx => w = wx ∧ s5 = .int .i64 (zig n))
  case first =>
    by_cases hn : n < 0
    · have hz : zig n = -2 * n - 1 := by rw [zig, if_pos hn]
      have HZ : Aside (zig n = -2 * n - 1) := hz
      clear hz
      go_wp2_with fail
      go_meet
      go_light
      exact ⟨rfl, by rw [HZ.out]⟩
    · have hz : zig n = 2 * n := by rw [zig, if_neg hn]
      have HZ : Aside (zig n = 2 * n) := hz
      clear hz
      go_wp2_with fail
      go_meet
      go_light
      exact ⟨rfl, by rw [HZ.out]⟩
  case rest =>
    obtain ⟨rfl, rfl⟩ := hcut
    generalize hzz : zig n = z at *
    have HZZ : Aside (zig n = z) := hzz
    clear hzz
    go_wp2_with fail
    go_loopg [0, 5] 7 (fun g s0 s5 wr => ∃ (k : Nat) (u : Value) (ys : List Int) (q : Int), g = k + 1 ∧ s0 = u ∧ s5 = .int .i64 q ∧ 0 ≤ q ∧ q ≤ 2199023255552 ∧ q < 128 ^ (k + 1) ∧ Buf wr base 5 u ys ∧ Below base w wr ∧ Aside (ys ++ sev (k + 1) q = bs ++ sev 7 z ∧ ys.length + k ≤ bs.length + 6))
    case atStart => exact ⟨6, _, bs, z, rfl, rfl, rfl, z1, z2, by omega, hB, Below.refl _ _, rfl, Nat.le_refl _⟩
    case round =>
      obtain ⟨k, u, ys, q, rfl, rfl, rfl, hq0, hqz, hq1, hBr, hbr, hA⟩ := hrel
      have hyl := hA.out.2
      have hbz := hbr.size
      by_cases hq : q < 128
      · have hfin : Aside (ys ++ [q] = bs ++ sev 7 z) := by
          have := hA.out.1
          rw [sev_small k q hq] at this
          exact this
        clear hA
        go_wp2_with (at_builtin; refine wpList_push (v := u0) BT rfl (.tmp 24) (.tmp 27) rfl rfl (hBr.alloc _) q wr.heap.size rfl (by simp) (by omega) (by simp; omega) ?_; intro v' w1 hB1 hg1 hb1)
        go_ret
        exact ⟨_, rfl, by rw [HZZ.out, ← hfin.out]; exact hB1, (hbr.alloc (by omega) _).trans hb1⟩
      · obtain ⟨k, rfl⟩ : ∃ j, k = j + 1 := ⟨k - 1, by
          have : k ≠ 0 := fun h => by subst h; simp at hq1; omega
          omega⟩
        have hnext : Aside ((ys ++ [q % 128 + 128]) ++ sev (k + 1) (q / 128) = bs ++ sev 7 z) := by
          have := hA.out.1
          rw [sev_big (k + 1) q hq] at this
          show (ys ++ [q % 128 + 128]) ++ sev (k + 1) (q / 128) = bs ++ sev 7 z
          simpa using this
        have hq2 : q / 128 < 128 ^ (k + 1) := by
          have e : (128 : Int) ^ (k + 1 + 1) = 128 ^ (k + 1) * 128 := Int.pow_succ ..
          rw [e] at hq1
          exact Int.ediv_lt_of_lt_mul (by omega) hq1
        have HQ : Aside (q / 128 < 128 ^ (k + 1)) := hq2
        clear hA hq1 hq2
        go_wp2_with (at_builtin; refine wpList_push (v := u0) BT rfl (.tmp 15) (.tmp 20) rfl rfl (hBr.alloc _) (q % 128 + 128) wr.heap.size rfl (by simp) (by omega) (by simp; omega) ?_; intro v' w1 hB1 hg1 hb1)
        go_roundg (k + 1)
        case measure => go_light; omega
        case rel =>
          go_light
          refine ⟨k, _, ys ++ [q % 128 + 128], q / 128, rfl, rfl, rfl, by omega, by omega, HQ.out, hB1, (hbr.alloc (by omega) _).trans hb1, hnext.out, ?_⟩
          simp
          omega

end Go.Proofs.YtahcgnmhhgcfmaaDoor
