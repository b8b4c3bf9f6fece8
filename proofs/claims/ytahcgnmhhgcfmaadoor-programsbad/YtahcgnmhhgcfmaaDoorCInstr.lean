/- The walk of appendInstr: the bytes of an instruction behind those that are there. -/
import Derived.Test.YtahcgnmhhgcfmaaDoorCNumber
import Derived.Test.YtahcgnmhhgcfmaaDoorCPlain
import Derived.WalkKit
import Derived.WalkSpells
import Derived.WalkLawsBesides
import Derived.Deep.LoopGhost
import Derived.Deep.Light
import Derived.Deep.DeepCutAuto
namespace Go.Proofs.YtahcgnmhhgcfmaaDoor
open Go.RowKit

set_option maxHeartbeats 800000 in
theorem appendInstr_any (v : Value) (bs : List Int) (k : Nat) (a b n : Int) (base : Nat) (w : World) (hT : TabAt 0 w) (hB : Buf w base 5 v bs) (hl : bs.length ≤ 99000) (hbase : base ≤ w.heap.size) (hk : k < 20)
    (a1 : 0 ≤ a) (a2 : a ≤ 7) (b1 : 0 ≤ b) (b2 : b ≤ 7) (h1 : -1099511627776 ≤ n) (h2 : n ≤ 1099511627776) :
    Calls Tryd.prog 28 #[v, .agg #[.int .i64 k, .int .i64 a, .int .i64 b, .int .i64 n]] w fun e w' => ∃ v', e = .returned v' ∧ Buf w' base 5 v' (bs ++ insBytes k a b n) ∧ Below base w w' := by
  obtain ⟨i0, BT⟩ := bytesT
  obtain ⟨t0, t1, t2, t3, t4⟩ := hT.keeps (Keeps.alloc w (Obj.cells #[.int .i64 k, .int .i64 a, .int .i64 b, .int .i64 n] 40)) k hk
  have hkz : (k : Int) < 20 := by omega
  have HB : Aside (insBytes k a b n = [(k : Int)] ++ ((if aOf k then [a + 8 * b] else []) ++ (if nOf k then sev 7 (zig n) else []))) := rfl
  cases hA : aOf k
  · rw [hA] at t0
    cases hN : nOf k
    · rw [hN] at t2
      rw [hA, hN] at HB
      clear hA hN
      go_enter Tryd.func28, Tryd.ntmps28
      go_wp2_with (first | (at_builtin; refine wpList_push (v := v) BT rfl (.tmp 10) (.tmp 14) rfl rfl (((hB.alloc _).alloc _).alloc _) k (w.heap.size + 1 + 1) rfl ?p1 ?p2 ?p3 ?_; (case p1 => exact cell_new_at _ _ _ _ (by simp)); (case p2 => omega); (case p3 => simp; omega); intro v1 w1 hB1 hg1 hb1; have H0 := Buf.keep (((hB.alloc _).alloc _).alloc _) hg1 (block_old (block_old (block_new w _) _) _) (by decide); have H1 := Buf.keep (((hB.alloc _).alloc _).alloc _) hg1 (block_old (block_new (w.alloc _) _) _) (by decide); simp only [World.size_alloc] at H1; have c0 := ccell_blk H0 0; have c1 := ccell_blk H0 1; have c2 := ccell_blk H0 2; have c3 := ccell_blk H0 3; have d0 := ccell_blk H1 0; have d2 := ccell_blk H1 2; have bl1 := hb1.size; simp at c0 c1 c2 c3 d0 d2 bl1))
      go_ret
      exact ⟨_, rfl, by rw [HB.out]; simpa using hB1, ((((Below.refl base w).alloc hbase _).alloc (by simp; omega) _).alloc (by simp; omega) _).trans hb1⟩
    · rw [hN] at t2
      rw [hA, hN] at HB
      clear hA hN
      go_enter Tryd.func28, Tryd.ntmps28
      go_wp2_with (first | (at_builtin; refine wpList_push (v := v) BT rfl (.tmp 10) (.tmp 14) rfl rfl (((hB.alloc _).alloc _).alloc _) k (w.heap.size + 1 + 1) rfl ?p1 ?p2 ?p3 ?_; (case p1 => exact cell_new_at _ _ _ _ (by simp)); (case p2 => omega); (case p3 => simp; omega); intro v1 w1 hB1 hg1 hb1; have H0 := Buf.keep (((hB.alloc _).alloc _).alloc _) hg1 (block_old (block_old (block_new w _) _) _) (by decide); have H1 := Buf.keep (((hB.alloc _).alloc _).alloc _) hg1 (block_old (block_new (w.alloc _) _) _) (by decide); simp only [World.size_alloc] at H1; have c0 := ccell_blk H0 0; have c1 := ccell_blk H0 1; have c2 := ccell_blk H0 2; have c3 := ccell_blk H0 3; have d0 := ccell_blk H1 0; have d2 := ccell_blk H1 2; have bl1 := hb1.size; simp at c0 c1 c2 c3 d0 d2 bl1) | (go_at_call 47; refine (appendNumber_any v1 _ n base _ hB1 (by simp; omega) (by omega) h1 h2).mono ?_; rintro e w3 ⟨v3, rfl, hB3, hb3⟩))
      go_ret
      exact ⟨_, rfl, by rw [HB.out]; simpa using hB3, (((((Below.refl base w).alloc hbase _).alloc (by simp; omega) _).alloc (by simp; omega) _).trans hb1).trans hb3⟩
  · rw [hA] at t0
    cases hN : nOf k
    · rw [hN] at t2
      rw [hA, hN] at HB
      clear hA hN
      go_enter Tryd.func28, Tryd.ntmps28
      go_wp2_with (first | (at_builtin; refine wpList_push (v := v) BT rfl (.tmp 10) (.tmp 14) rfl rfl (((hB.alloc _).alloc _).alloc _) k (w.heap.size + 1 + 1) rfl ?p1 ?p2 ?p3 ?_; (case p1 => exact cell_new_at _ _ _ _ (by simp)); (case p2 => omega); (case p3 => simp; omega); intro v1 w1 hB1 hg1 hb1; have H0 := Buf.keep (((hB.alloc _).alloc _).alloc _) hg1 (block_old (block_old (block_new w _) _) _) (by decide); have H1 := Buf.keep (((hB.alloc _).alloc _).alloc _) hg1 (block_old (block_new (w.alloc _) _) _) (by decide); simp only [World.size_alloc] at H1; have c0 := ccell_blk H0 0; have c1 := ccell_blk H0 1; have c2 := ccell_blk H0 2; have c3 := ccell_blk H0 3; have d0 := ccell_blk H1 0; have d2 := ccell_blk H1 2; have bl1 := hb1.size; simp at c0 c1 c2 c3 d0 d2 bl1) | (at_builtin; refine wpList_push (v := v1) BT rfl (.tmp 18) (.tmp 26) rfl rfl (hB1.alloc _) (a + 8 * b) w1.heap.size rfl ?q1 ?q2 ?q3 ?_; (case q1 => simp); (case q2 => simp; omega); (case q3 => simp; omega); intro v2 w2 hB2 hg2 hb2; have J0 := Buf.keep (hB1.alloc _) hg2 (block_old H0 _) (by decide); have J1 := Buf.keep (hB1.alloc _) hg2 (block_old H1 _) (by decide); have e3 := ccell_blk J0 3; have f2 := ccell_blk J1 2; have bl2 := hb2.size; simp at e3 f2 bl2))
      go_ret
      exact ⟨_, rfl, by rw [HB.out]; simpa using hB2, (((((((Below.refl base w).alloc hbase _).alloc (by simp; omega) _).alloc (by simp; omega) _).trans hb1).alloc (by omega) _)).trans hb2⟩
    · rw [hN] at t2
      rw [hA, hN] at HB
      clear hA hN
      go_enter Tryd.func28, Tryd.ntmps28
      go_wp2_with (first | (at_builtin; refine wpList_push (v := v) BT rfl (.tmp 10) (.tmp 14) rfl rfl (((hB.alloc _).alloc _).alloc _) k (w.heap.size + 1 + 1) rfl ?p1 ?p2 ?p3 ?_; (case p1 => exact cell_new_at _ _ _ _ (by simp)); (case p2 => omega); (case p3 => simp; omega); intro v1 w1 hB1 hg1 hb1; have H0 := Buf.keep (((hB.alloc _).alloc _).alloc _) hg1 (block_old (block_old (block_new w _) _) _) (by decide); have H1 := Buf.keep (((hB.alloc _).alloc _).alloc _) hg1 (block_old (block_new (w.alloc _) _) _) (by decide); simp only [World.size_alloc] at H1; have c0 := ccell_blk H0 0; have c1 := ccell_blk H0 1; have c2 := ccell_blk H0 2; have c3 := ccell_blk H0 3; have d0 := ccell_blk H1 0; have d2 := ccell_blk H1 2; have bl1 := hb1.size; simp at c0 c1 c2 c3 d0 d2 bl1) | (at_builtin; refine wpList_push (v := v1) BT rfl (.tmp 18) (.tmp 26) rfl rfl (hB1.alloc _) (a + 8 * b) w1.heap.size rfl ?q1 ?q2 ?q3 ?_; (case q1 => simp); (case q2 => simp; omega); (case q3 => simp; omega); intro v2 w2 hB2 hg2 hb2; have J0 := Buf.keep (hB1.alloc _) hg2 (block_old H0 _) (by decide); have J1 := Buf.keep (hB1.alloc _) hg2 (block_old H1 _) (by decide); have e3 := ccell_blk J0 3; have f2 := ccell_blk J1 2; have bl2 := hb2.size; simp at e3 f2 bl2) | (go_at_call 47; refine (appendNumber_any v2 _ n base _ hB2 (by simp; omega) (by omega) h1 h2).mono ?_; rintro e w3 ⟨v3, rfl, hB3, hb3⟩))
      go_ret
      exact ⟨_, rfl, by rw [HB.out]; simpa using hB3, ((((((((Below.refl base w).alloc hbase _).alloc (by simp; omega) _).alloc (by simp; omega) _).trans hb1).alloc (by omega) _)).trans hb2).trans hb3⟩

end Go.Proofs.YtahcgnmhhgcfmaaDoor
