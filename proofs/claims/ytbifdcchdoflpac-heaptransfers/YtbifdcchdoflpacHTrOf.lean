/- The walk of the reference's TransferOf: its closure fix. -/
import Derived.Test.YtbifdcchdoflpacHTransfer
import Derived.Test.YtbifdcchdoflpacHCopy
import Derived.Test.YtbifdcchdoflpacHColOf2
namespace Go.Proofs.Ytbifdcchdoflpac
open Go.RowKit Go.Maps

set_option maxHeartbeats 1000000 in
theorem fixT_any (k n : Int) (LB NB : Nat) (la : Option Addr) (lc : Nat) (order : List Int) (b : Nat) (w : World) (hL : w.heap[LB]? = some (.cells #[.slice la order.length lc] 52 (0, 0))) (hN : w.heap[NB]? = some (.cells #[.int .i64 (b : Int)] 3 (0, 0)))
    (hI : IntsAt w la order) (hok : Ok 60 order) (hb : b ≤ 60) (hk : k = 2 → n ∈ order) :
    Calls Try.prog 41 #[.agg #[.int .i64 k, .int .i64 n], .pointer (some ⟨LB, 0, none⟩), .pointer (some ⟨NB, 0, none⟩)] w fun e w' => e = .returned (.agg #[.int .i64 (mvV order b ⟨k, n⟩).k, .int .i64 (mvV order b ⟨k, n⟩).n]) ∧ Below w.heap.size w w' := by
  have hlen := hok.len
  obtain ⟨n0, n1, k1, b1, hs'⟩ := boxes2 w (Obj.cells #[.int .i64 k, .int .i64 n] 34) (Obj.cells #[.int .i64 0, .int .i64 0] 34)
  have hL1 := (b1.block LB (Array.getElem?_eq_some_iff.1 hL).1).trans hL
  have hN1 := (b1.block NB (Array.getElem?_eq_some_iff.1 hN).1).trans hN
  have hI1 := hI.keeps k1
  have HOK : Aside (Ok 60 order) := hok
  clear hL hN hI hok k1
  go_enter Try.func41, Try.ntmps41
  go_upto_region 1 with fail
  generalize (w.alloc (Obj.cells #[.int .i64 k, .int .i64 n] 34)).alloc (Obj.cells #[.int .i64 0, .int .i64 0] 34) = W at *
  have hs : w.heap.size + 1 + 1 ≤ W.heap.size := Nat.le_of_eq hs'.symm
  clear hs'
  have c0 := cell_blk n0 0
  have c1 := cell_blk n0 1
  have d0 := cell_blk n1 0
  have d1 := cell_blk n1 1
  have fz : ∀ j, W.frozen? ⟨w.heap.size + 1, j, none⟩ = false := fun j => fz_blk n1 j
  have l0 := cell_blk hL1 0
  have m0 := cell_blk hN1 0
  simp at c0 c1 d0 d1 l0 m0
  by_cases h2 : k = 2
  · subst h2
    have hin := hk rfl
    have hV : Aside (mvV order b ⟨2, n⟩ = ⟨2, (b : Int) + (order.idxOf n : Nat)⟩) := by show mvV order b ⟨2, n⟩ = _; simp [mvV]
    have HIN : Aside (n ∈ order) := hin
    clear hin hk
    obtain ⟨R, hR⟩ : ∃ R, R = order.length := ⟨_, rfl⟩
    have HR : Aside (R = order.length) := hR
    rw [← hR] at hlen l0
    clear hR
    go_wp2
    go_loopg [5] R (fun g s5 wr => ∃ i q : Nat, i ≤ R ∧ g = R - i ∧ s5 = .int .i64 i ∧ wr = W.drewN q ∧ Aside (n ∉ order.take i))
    case atStart => exact ⟨0, 0, Nat.zero_le _, rfl, rfl, rfl, by show n ∉ _; simp⟩
    case round =>
      obtain ⟨i, q, hi, rfl, rfl, rfl, hno⟩ := hrel
      by_cases hiR : i < R
      · have hiz : (i : Int) < (R : Int) := by omega
        obtain ⟨z, hz⟩ := at_some (l := order) (i := i) (by rw [← HR.out]; exact hiR)
        obtain ⟨ib, io, rfl, z0⟩ := hI1 i _ hz
        have HZ : Aside (order[i]? = some z) := hz
        clear hz
        by_cases he : z = n
        · subst he
          have HX : Aside (order.idxOf z = i) := idx_of HOK.out.1 HZ.out
          have hzb : (z == z) = true := by simp
          go_wp2
          go_quiet (fail)
          go_wp2
          have p := put2_blk (w := W.drewN (q + nq)) (A := w.heap.size + 1) n1 (.int .i64 2) (.int .i64 ((b : Int) + i))
          have bb : Below w.heap.size w (put2 (W.drewN (q + nq)) (w.heap.size + 1) (.int .i64 2) (.int .i64 ((b : Int) + i))) := put2_below (below_drewN b1 _) (by omega) _ _
          change bodyPost _ _ _ _ _ (put2 (W.drewN (q + nq)) (w.heap.size + 1) (.int .i64 2) (.int .i64 ((b : Int) + i)))
          have e0 := cell_blk p 0
          have e1 := cell_blk p 1
          simp at e0 e1
          refine bodyPost_ret (v := .agg #[.int .i64 2, .int .i64 ((b : Int) + i)]) (by simp [results, Try.results41, go_sem, e0, e1]) rfl ?_
          rw [hV.out, HX.out]
          exact ⟨rfl, bb⟩
        · have hzb : (z == n) = false := by simp [he]
          have HNX : Aside (n ∉ order.take (i + 1)) := by
            show n ∉ _
            rw [List.take_add_one, HZ.out]
            intro hm
            rcases List.mem_append.1 hm with hm | hm
            · exact hno.out hm
            · simp at hm; exact he hm.symm
          clear he
          go_wp2
          go_quiet (fail)
          go_wp2
          go_roundg (R - (i + 1))
          case measure => go_light; omega
          case rel => go_light; exact ⟨i + 1, _, by omega, rfl, by go_num, rfl, HNX⟩
      · exact absurd HIN.out (by rw [List.take_of_length_le (by rw [← HR.out]; omega)] at hno; exact hno.out)
  · have hkb : (k == 2) = false := by simp [h2]
    have hV : Aside (mvV order b ⟨k, n⟩ = ⟨k, n⟩) := by show mvV order b ⟨k, n⟩ = _; simp [mvV, h2]
    clear h2 hk
    have p := put2_blk n1 (.int .i64 k) (.int .i64 n)
    have bb : Below w.heap.size w (put2 W (w.heap.size + 1) (.int .i64 k) (.int .i64 n)) := put2_below b1 (by omega) _ _
    go_wp2
    change bodyPost _ _ _ _ _ (put2 W (w.heap.size + 1) (.int .i64 k) (.int .i64 n))
    have e0 := cell_blk p 0
    have e1 := cell_blk p 1
    simp at e0 e1
    refine bodyPost_ret (v := .agg #[.int .i64 k, .int .i64 n]) (by simp [results, Try.results41, go_sem, e0, e1]) rfl ?_
    rw [hV.out]
    exact ⟨rfl, bb⟩

end Go.Proofs.Ytbifdcchdoflpac
