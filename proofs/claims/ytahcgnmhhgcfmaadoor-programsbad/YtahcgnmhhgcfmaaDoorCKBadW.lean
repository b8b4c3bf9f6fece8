/- The walk of ProgramsBad. -/
import Derived.Test.YtahcgnmhhgcfmaaDoorCKBadP
import Derived.Test.YtahcgnmhhgcfmaaDoorCWNew
import Derived.Test.YtahcgnmhhgcfmaaDoorCEncode
import Derived.RegionTactic
namespace Go.Proofs.YtahcgnmhhgcfmaaDoor
open Go.RowKit

/-- Twelve programs lie in a row. -/
theorem bad_all {k B : Nat} {w : World} {t : TypeId} {a0 a1 a2 a3 a4 a5 a6 a7 a8 a9 a10 a11 : Option Addr} {c0 c1 c2 c3 c4 c5 c6 c7 c8 c9 c10 c11 : Nat}
    (h : w.heap[B]? = some (.cells #[.slice a0 0 c0, .slice a1 (6 + k) c1, .slice a2 1 c2, .slice a3 1 c3, .slice a4 1 c4, .slice a5 1 c5, .slice a6 1 c6, .slice a7 1 c7, .slice a8 1 c8, .slice a9 1 c9, .slice a10 1 c10, .slice a11 1 c11] t (0, 0)))
    {r0 r1 r2 r3 r4 r5 r6 r7 r8 r9 r10 r11 : List (List Ins)} (h0 : KindsAt w a0 r0) (h1 : KindsAt w a1 r1) (h2 : KindsAt w a2 r2) (h3 : KindsAt w a3 r3) (h4 : KindsAt w a4 r4) (h5 : KindsAt w a5 r5) (h6 : KindsAt w a6 r6) (h7 : KindsAt w a7 r7) (h8 : KindsAt w a8 r8) (h9 : KindsAt w a9 r9) (h10 : KindsAt w a10 r10) (h11 : KindsAt w a11 r11)
    (hl : bdRows k = [r0, r1, r2, r3, r4, r5, r6, r7, r8, r9, r10, r11] := by rfl) : (Sp.all (bdRows k)).ok (.slice (some ⟨B, 0, none⟩) 12 12) w := by
  have e := hl
  unfold bdRows at e
  simp only [List.cons.injEq, and_true] at e
  obtain ⟨rfl, rfl, rfl, rfl, rfl, rfl, rfl, rfl, rfl, rfl, rfl, rfl⟩ := e
  refine ⟨B, rfl, fun j r hj => ?_⟩
  unfold bdRows at hj
  match j, hj with
  | 0, hj => simp at hj; subst hj; exact ⟨a0, c0, by rw [cellBlk h]; rfl, h0⟩
  | 1, hj => simp at hj; subst hj; exact ⟨a1, c1, by rw [cellBlk h]; simp, h1⟩
  | 2, hj => simp at hj; subst hj; exact ⟨a2, c2, by rw [cellBlk h]; rfl, h2⟩
  | 3, hj => simp at hj; subst hj; exact ⟨a3, c3, by rw [cellBlk h]; rfl, h3⟩
  | 4, hj => simp at hj; subst hj; exact ⟨a4, c4, by rw [cellBlk h]; rfl, h4⟩
  | 5, hj => simp at hj; subst hj; exact ⟨a5, c5, by rw [cellBlk h]; rfl, h5⟩
  | 6, hj => simp at hj; subst hj; exact ⟨a6, c6, by rw [cellBlk h]; rfl, h6⟩
  | 7, hj => simp at hj; subst hj; exact ⟨a7, c7, by rw [cellBlk h]; rfl, h7⟩
  | 8, hj => simp at hj; subst hj; exact ⟨a8, c8, by rw [cellBlk h]; rfl, h8⟩
  | 9, hj => simp at hj; subst hj; exact ⟨a9, c9, by rw [cellBlk h]; rfl, h9⟩
  | 10, hj => simp at hj; subst hj; exact ⟨a10, c10, by rw [cellBlk h]; rfl, h10⟩
  | 11, hj => simp at hj; subst hj; exact ⟨a11, c11, by rw [cellBlk h]; rfl, h11⟩
  | j + 12, hj => simp at hj

set_option maxRecDepth 100000 in
set_option maxHeartbeats 8000000 in
theorem programsBad_walk (which n : Int) (w : World) (hT : TabAt 0 w) (hi1 : -9223372036854775808 ≤ which ∧ which ≤ 9223372036854775807) (hi2 : -9223372036854775808 ≤ n ∧ n ≤ 9223372036854775807) :
    Calls Tryd.prog 8 #[.int .i64 which, .int .i64 n] w fun e w' => e = .returned (.bool true) ∧ Below w.heap.size w w' := by
  go_enter Tryd.func8, Tryd.ntmps8
  go_wp2_with fail
  refine (picked_any n 50 _ hi2.1 hi2.2 (by omega) (by omega)).mono ?_
  rintro e w1 ⟨rfl, hw1⟩
  subst hw1
  obtain ⟨pb1, pb2⟩ := pick_bd (n := n) (many := 50) (by omega)
  obtain ⟨k0, hk0⟩ := Int.eq_ofNat_of_zero_le pb1
  rw [hk0]
  obtain ⟨k, hk⟩ : ∃ k : Nat, k = 1 + k0 := ⟨_, rfl⟩
  have hkz : (1 : Int) + (k0 : Int) = (k : Int) := by omega
  have hk1 : 1 ≤ k := by omega
  have hk2 : k ≤ 50 := by omega
  clear hk0 pb1 pb2 hk
  obtain ⟨N0, k1, b1, s1⟩ := boxes1 w (.cells #[.int .i64 0, .int .i64 0, .int .i64 0, .int .i64 0] 40)
  go_upto_region 3 with fail
  clear hkz
  generalize w.alloc (.cells #[.int .i64 0, .int .i64 0, .int .i64 0, .int .i64 0] 40) = W at *
  have e0 : W.cell? ⟨w.heap.size, 0, none⟩ = some (.int .i64 0) := cellBlk N0 0
  have e1 : W.cell? ⟨w.heap.size, 1, none⟩ = some (.int .i64 0) := cellBlk N0 1
  have e2 : W.cell? ⟨w.heap.size, 2, none⟩ = some (.int .i64 0) := cellBlk N0 2
  have e3 : W.cell? ⟨w.heap.size, 3, none⟩ = some (.int .i64 0) := cellBlk N0 3
  have hmkA := fun (w : World) => run_make_wide (P := Tryd.prog) 1 24 37 (.slice none 0 0) 24 Tryd.underlying24 (by kernel_rfl) .i64 .i64 (6 + k) (by omega) (by omega) w
  have hmkB := fun (w : World) => run_make_wide (P := Tryd.prog) 4 37 40 (.agg #[.int .i64 0, .int .i64 0, .int .i64 0, .int .i64 0]) 32 Tryd.underlying37 (by kernel_rfl) .i64 .i64 (60 + k) (by omega) (by omega) w
  have c6 : ((6 + k : Nat) : Int) = 6 + (k : Int) := by omega
  have c60 : ((60 + k : Nat) : Int) = 60 + (k : Int) := by omega
  rw [c6] at hmkA
  rw [c60] at hmkB
  have hz6 : ∀ r, r < 6 + k → (madeCells (Value.cells (.slice none 0 0)) ((6 + k) * 1))[r]? = some (.slice none 0 0) := fun r hr => by
    simp [madeCells, Value.cells]
    exact ⟨r, by simp [hr], by simp [Nat.mod_one]⟩
  have hz60 : (madeCells (Value.cells (.agg #[.int .i64 0, .int .i64 0, .int .i64 0, .int .i64 0])) ((60 + k) * 4)).toList = (List.replicate (60 + k) noIns).flatMap fIns := made_flat (f := fIns) (s := 4) fIns_len (by omega) _ noIns rfl (60 + k)
  clear c6 c60
  have w6 : IntKind.i64.wrap (6 + (k : Int)) = 6 + k := by rw [IntKind.wrap_i64]; omega
  have w19 : IntKind.i64.wrap (19 + (k : Int)) = 19 + k := by rw [IntKind.wrap_i64]; omega
  have w7 : IntKind.i64.wrap (7 + (k : Int)) = 7 + k := by rw [IntKind.wrap_i64]; omega
  have w60 : IntKind.i64.wrap (60 + (k : Int)) = 60 + k := by rw [IntKind.wrap_i64]; omega
  generalize madeCells (Value.cells (.slice none 0 0)) ((6 + k) * 1) = MA at *
  generalize madeCells (Value.cells (.agg #[.int .i64 0, .int .i64 0, .int .i64 0, .int .i64 0])) ((60 + k) * 4) = MB at *
  refine wp_region_any (by kernel_rfl) (wpAny_inv (fun listed a wl => ∃ vs : Nat → Value, a = { tmps := #[.int .i64 which, .int .i64 n, undef, undef, .bool false, .int .i64 k, .pointer (some ⟨w.heap.size, 0, none⟩), vs 55, undef, undef, undef, undef, undef, undef, undef, undef, undef, .int .i64 n, .int .i64 k0, .int .i64 k, .agg #[.int .i64 0, .int .i64 0, .int .i64 0, .int .i64 0], vs 0, vs 1, vs 2, vs 3, vs 4, vs 5, vs 6, vs 7, vs 8, vs 9, vs 10, vs 11, vs 12, vs 13, vs 14, vs 15, vs 16, vs 17, vs 18, vs 19, vs 20, vs 21, vs 22, vs 23, vs 24, vs 25, vs 26, vs 27, vs 28, vs 29, vs 30, vs 31, vs 32, vs 33, vs 34, vs 35, vs 36, vs 37, vs 38, vs 39, vs 40, vs 41, vs 42, vs 43, vs 44, vs 45, vs 46, vs 47, vs 48, vs 49, vs 50, vs 51, vs 52, vs 53, vs 54, undef, undef, undef, undef, undef, undef, undef, undef, undef, undef, undef, undef, undef, undef, undef, undef, undef, undef, undef, undef, undef, undef, undef, undef, undef, undef, undef, undef, undef, undef, undef, undef, undef, undef, undef, undef, undef, undef, undef, undef, undef, undef, undef, undef, undef, undef, undef, undef, undef, undef, undef, undef], defers := [] } ∧ listed.size = 56 ∧ Below W.heap.size W wl ∧ BadG k listed vs wl) ?_ ?_ _ _ _ _ (by simp) ⟨fun _ => undef, rfl, by simp, (Below.refl _ _).drew, fun i s h => by
    exfalso
    simp [Array.getD_eq_getD_getElem?, Array.getElem?_replicate] at h
    split at h <;> simp at h⟩)
  · intro listed a wl i o hI ho hl ha
    obtain ⟨vs, rfl, hsz, hb, hg⟩ := hI
    have hi : i < 56 := (Array.getElem?_eq_some_iff.1 ho).1
    clear hl
    match i, hi with
    | 0, _ =>
      cases ho
      refine wpOp_step rfl (fun K' hK => ?_)
      simp only [List.getElem_toArray, List.getElem_cons_zero]
      go_simp
      refine hK _ _ ⟨fun j => if j = 0 then .agg #[.slice none 0 0] else vs j, by simp [], by simpa using hsz, hb, BadG.put hg (Keeps.refl wl) (i := 0) rfl ⟨none, 0, rfl, kinds_nil _⟩⟩
    | 1, _ =>
      cases ho
      refine wpOp_step rfl (fun K' hK => ?_)
      simp only [List.getElem_toArray, List.getElem_cons_zero, List.getElem_cons_succ]
      go_simp
      refine hK _ _ ⟨fun j => if j = 1 then .int .i64 (k) else vs j, by simp [], by simpa using hsz, hb, BadG.put hg (Keeps.refl wl) (i := 1) rfl rfl⟩
    | 2, _ =>
      cases ho
      have d1 : listed.getD 1 false = true := ha ⟨1, .data⟩ (by simp) rfl
      have g1 : vs 1 = .int .i64 (k) := hg 1 _ d1 rfl
      refine wpOp_step rfl (fun K' hK => ?_)
      simp only [List.getElem_toArray, List.getElem_cons_zero, List.getElem_cons_succ]
      go_simp
      refine hK _ _ ⟨fun j => if j = 2 then .int .i64 (6 + k) else vs j, by simp [g1], by simpa using hsz, hb, BadG.put hg (Keeps.refl wl) (i := 2) rfl rfl⟩
    | 3, _ =>
      cases ho
      have d2 : listed.getD 2 false = true := ha ⟨2, .data⟩ (by simp) rfl
      have g2 : vs 2 = .int .i64 (6 + k) := hg 2 _ d2 rfl
      refine wpOp_step rfl (fun K' hK => ?_)
      simp only [List.getElem_toArray, List.getElem_cons_zero, List.getElem_cons_succ]
      go_simp
      refine hK _ _ ⟨fun j => if j = 3 then .slice (some ⟨wl.heap.size, 0, none⟩) (6 + k) (6 + k) else vs j, by simp [g2], by simpa using hsz, (hb.alloc hb.size _), BadG.put hg (Keeps.alloc wl _) (i := 3) rfl ⟨_, 6 + k, by simp only [List.length_replicate], kinds_made (Deep.blk_alloc_new wl _) hz6⟩⟩
    | 4, _ =>
      cases ho
      have d3 : listed.getD 3 false = true := ha ⟨3, .data⟩ (by simp) rfl
      obtain ⟨ao3, c3, g3, s3⟩ := hg 3 _ d3 rfl
      rw [List.length_replicate] at g3
      refine wpOp_step rfl (fun K' hK => ?_)
      simp only [List.getElem_toArray, List.getElem_cons_zero, List.getElem_cons_succ]
      go_simp
      refine hK _ _ ⟨fun j => if j = 4 then .agg #[.slice ao3 (6 + k) c3] else vs j, by simp [g3], by simpa using hsz, hb, BadG.put hg (Keeps.refl wl) (i := 4) rfl ⟨ao3, c3, by simp only [List.length_replicate], s3⟩⟩
    | 5, _ =>
      cases ho
      refine wpOp_step rfl (fun K' hK => ?_)
      simp only [List.getElem_toArray, List.getElem_cons_zero, List.getElem_cons_succ]
      go_simp
      refine hK _ _ ⟨fun j => if j = 5 then .slice (some ⟨wl.heap.size, 0, none⟩) 1 1 else vs j, by simp [], by simpa using hsz, (hb.alloc hb.size _), BadG.put hg (Keeps.alloc wl _) (i := 5) rfl ⟨_, _, rfl, kinds1 (a := []) (ac := 0) (Deep.blk_alloc_new wl _) (fun i x hx => by simp at hx)⟩⟩
    | 6, _ =>
      cases ho
      have d5 : listed.getD 5 false = true := ha ⟨5, .data⟩ (by simp) rfl
      obtain ⟨ao5, c5, g5, s5⟩ := hg 5 _ d5 rfl
      change vs 5 = .slice ao5 1 c5 at g5
      refine wpOp_step rfl (fun K' hK => ?_)
      simp only [List.getElem_toArray, List.getElem_cons_zero, List.getElem_cons_succ]
      go_simp
      refine hK _ _ ⟨fun j => if j = 6 then .agg #[.slice ao5 1 c5] else vs j, by simp [g5], by simpa using hsz, hb, BadG.put hg (Keeps.refl wl) (i := 6) rfl ⟨ao5, c5, rfl, s5⟩⟩
    | 7, _ =>
      cases ho
      refine wpOp_step rfl (fun K' hK => ?_)
      simp only [List.getElem_toArray, List.getElem_cons_zero, List.getElem_cons_succ]
      go_simp
      refine hK _ _ ⟨fun j => if j = 7 then .int .i64 (k) else vs j, by simp [], by simpa using hsz, hb, BadG.put hg (Keeps.refl wl) (i := 7) rfl rfl⟩
    | 8, _ =>
      cases ho
      have d7 : listed.getD 7 false = true := ha ⟨7, .data⟩ (by simp) rfl
      have g7 : vs 7 = .int .i64 (k) := hg 7 _ d7 rfl
      refine wpOp_step rfl (fun K' hK => ?_)
      simp only [List.getElem_toArray, List.getElem_cons_zero, List.getElem_cons_succ]
      go_simp
      refine hK _ _ ⟨fun j => if j = 8 then .int .i64 (19 + k) else vs j, by simp [g7], by simpa using hsz, hb, BadG.put hg (Keeps.refl wl) (i := 8) rfl rfl⟩
    | 9, _ =>
      cases ho
      have d8 : listed.getD 8 false = true := ha ⟨8, .data⟩ (by simp) rfl
      have g8 : vs 8 = .int .i64 (19 + k) := hg 8 _ d8 rfl
      refine wpOp_step rfl (fun K' hK => ?_)
      simp only [List.getElem_toArray, List.getElem_cons_zero, List.getElem_cons_succ]
      go_simp
      refine hK _ _ ⟨fun j => if j = 9 then .agg #[.int .i64 (19 + k), .int .i64 0, .int .i64 0, .int .i64 0] else vs j, by simp [g8], by simpa using hsz, hb, BadG.put hg (Keeps.refl wl) (i := 9) rfl rfl⟩
    | 10, _ =>
      cases ho
      have d9 : listed.getD 9 false = true := ha ⟨9, .data⟩ (by simp) rfl
      have g9 : vs 9 = .agg #[.int .i64 (19 + k), .int .i64 0, .int .i64 0, .int .i64 0] := hg 9 _ d9 rfl
      refine wpOp_step rfl (fun K' hK => ?_)
      simp only [List.getElem_toArray, List.getElem_cons_zero, List.getElem_cons_succ]
      go_simp
      refine hK _ _ ⟨fun j => if j = 10 then .slice (some ⟨wl.heap.size, 0, none⟩) 1 1 else vs j, by simp [g9], by simpa using hsz, (hb.alloc hb.size _), BadG.put hg (Keeps.alloc wl _) (i := 10) rfl ⟨_, _, rfl, seq_of_blk _ (Deep.blk_alloc_new wl _) rfl⟩⟩
    | 11, _ =>
      cases ho
      have d10 : listed.getD 10 false = true := ha ⟨10, .data⟩ (by simp) rfl
      obtain ⟨ao10, c10, g10, s10⟩ := hg 10 _ d10 rfl
      change vs 10 = .slice ao10 1 c10 at g10
      refine wpOp_step rfl (fun K' hK => ?_)
      simp only [List.getElem_toArray, List.getElem_cons_zero, List.getElem_cons_succ]
      go_simp
      refine hK _ _ ⟨fun j => if j = 11 then .slice (some ⟨wl.heap.size, 0, none⟩) 1 1 else vs j, by simp [g10], by simpa using hsz, (hb.alloc hb.size _), BadG.put hg (Keeps.alloc wl _) (i := 11) rfl ⟨_, _, rfl, kinds1 (a := [⟨19 + k, 0, 0, 0⟩]) (ac := c10) (Deep.blk_alloc_new wl _) (s10.keeps (Keeps.alloc wl _))⟩⟩
    | 12, _ =>
      cases ho
      have d11 : listed.getD 11 false = true := ha ⟨11, .data⟩ (by simp) rfl
      obtain ⟨ao11, c11, g11, s11⟩ := hg 11 _ d11 rfl
      change vs 11 = .slice ao11 1 c11 at g11
      refine wpOp_step rfl (fun K' hK => ?_)
      simp only [List.getElem_toArray, List.getElem_cons_zero, List.getElem_cons_succ]
      go_simp
      refine hK _ _ ⟨fun j => if j = 12 then .agg #[.slice ao11 1 c11] else vs j, by simp [g11], by simpa using hsz, hb, BadG.put hg (Keeps.refl wl) (i := 12) rfl ⟨ao11, c11, rfl, s11⟩⟩
    | 13, _ =>
      cases ho
      refine wpOp_step rfl (fun K' hK => ?_)
      simp only [List.getElem_toArray, List.getElem_cons_zero, List.getElem_cons_succ]
      go_simp
      refine hK _ _ ⟨fun j => if j = 13 then .int .i64 (k) else vs j, by simp [], by simpa using hsz, hb, BadG.put hg (Keeps.refl wl) (i := 13) rfl rfl⟩
    | 14, _ =>
      cases ho
      have d13 : listed.getD 13 false = true := ha ⟨13, .data⟩ (by simp) rfl
      have g13 : vs 13 = .int .i64 (k) := hg 13 _ d13 rfl
      refine wpOp_step rfl (fun K' hK => ?_)
      simp only [List.getElem_toArray, List.getElem_cons_zero, List.getElem_cons_succ]
      go_simp
      refine hK _ _ ⟨fun j => if j = 14 then .int .i64 (7 + k) else vs j, by simp [g13], by simpa using hsz, hb, BadG.put hg (Keeps.refl wl) (i := 14) rfl rfl⟩
    | 15, _ =>
      cases ho
      have d14 : listed.getD 14 false = true := ha ⟨14, .data⟩ (by simp) rfl
      have g14 : vs 14 = .int .i64 (7 + k) := hg 14 _ d14 rfl
      refine wpOp_step rfl (fun K' hK => ?_)
      simp only [List.getElem_toArray, List.getElem_cons_zero, List.getElem_cons_succ]
      go_simp
      refine hK _ _ ⟨fun j => if j = 15 then .agg #[.int .i64 15, .int .i64 (7 + k), .int .i64 0, .int .i64 0] else vs j, by simp [g14], by simpa using hsz, hb, BadG.put hg (Keeps.refl wl) (i := 15) rfl rfl⟩
    | 16, _ =>
      cases ho
      have z0 := Keeps.below hb _ _ e0
      have z1 := Keeps.below hb _ _ e1
      have z2 := Keeps.below hb _ _ e2
      have z3 := Keeps.below hb _ _ e3
      refine wpOp_step rfl (fun K' hK => ?_)
      simp only [List.getElem_toArray, List.getElem_cons_zero, List.getElem_cons_succ]
      go_simp
      refine hK _ _ ⟨fun j => if j = 16 then .agg #[.int .i64 0, .int .i64 0, .int .i64 0, .int .i64 0] else vs j, by simp [], by simpa using hsz, hb, BadG.put hg (Keeps.refl wl) (i := 16) rfl rfl⟩
    | 17, _ =>
      cases ho
      have d15 : listed.getD 15 false = true := ha ⟨15, .data⟩ (by simp) rfl
      have g15 : vs 15 = .agg #[.int .i64 15, .int .i64 (7 + k), .int .i64 0, .int .i64 0] := hg 15 _ d15 rfl
      have d16 : listed.getD 16 false = true := ha ⟨16, .data⟩ (by simp) rfl
      have g16 : vs 16 = .agg #[.int .i64 0, .int .i64 0, .int .i64 0, .int .i64 0] := hg 16 _ d16 rfl
      refine wpOp_step rfl (fun K' hK => ?_)
      simp only [List.getElem_toArray, List.getElem_cons_zero, List.getElem_cons_succ]
      go_simp
      refine hK _ _ ⟨fun j => if j = 17 then .slice (some ⟨wl.heap.size, 0, none⟩) 2 2 else vs j, by simp [g15, g16], by simpa using hsz, (hb.alloc hb.size _), BadG.put hg (Keeps.alloc wl _) (i := 17) rfl ⟨_, _, rfl, seq_of_blk _ (Deep.blk_alloc_new wl _) rfl⟩⟩
    | 18, _ =>
      cases ho
      have d17 : listed.getD 17 false = true := ha ⟨17, .data⟩ (by simp) rfl
      obtain ⟨ao17, c17, g17, s17⟩ := hg 17 _ d17 rfl
      change vs 17 = .slice ao17 2 c17 at g17
      refine wpOp_step rfl (fun K' hK => ?_)
      simp only [List.getElem_toArray, List.getElem_cons_zero, List.getElem_cons_succ]
      go_simp
      refine hK _ _ ⟨fun j => if j = 18 then .slice (some ⟨wl.heap.size, 0, none⟩) 1 1 else vs j, by simp [g17], by simpa using hsz, (hb.alloc hb.size _), BadG.put hg (Keeps.alloc wl _) (i := 18) rfl ⟨_, _, rfl, kinds1 (a := [⟨15, 7 + k, 0, 0⟩, ⟨0, 0, 0, 0⟩]) (ac := c17) (Deep.blk_alloc_new wl _) (s17.keeps (Keeps.alloc wl _))⟩⟩
    | 19, _ =>
      cases ho
      have d18 : listed.getD 18 false = true := ha ⟨18, .data⟩ (by simp) rfl
      obtain ⟨ao18, c18, g18, s18⟩ := hg 18 _ d18 rfl
      change vs 18 = .slice ao18 1 c18 at g18
      refine wpOp_step rfl (fun K' hK => ?_)
      simp only [List.getElem_toArray, List.getElem_cons_zero, List.getElem_cons_succ]
      go_simp
      refine hK _ _ ⟨fun j => if j = 19 then .agg #[.slice ao18 1 c18] else vs j, by simp [g18], by simpa using hsz, hb, BadG.put hg (Keeps.refl wl) (i := 19) rfl ⟨ao18, c18, rfl, s18⟩⟩
    | 20, _ =>
      cases ho
      refine wpOp_step rfl (fun K' hK => ?_)
      simp only [List.getElem_toArray, List.getElem_cons_zero, List.getElem_cons_succ]
      go_simp
      refine hK _ _ ⟨fun j => if j = 20 then .agg #[.int .i64 18, .int .i64 0, .int .i64 1, .int .i64 0] else vs j, by simp [], by simpa using hsz, hb, BadG.put hg (Keeps.refl wl) (i := 20) rfl rfl⟩
    | 21, _ =>
      cases ho
      have z0 := Keeps.below hb _ _ e0
      have z1 := Keeps.below hb _ _ e1
      have z2 := Keeps.below hb _ _ e2
      have z3 := Keeps.below hb _ _ e3
      refine wpOp_step rfl (fun K' hK => ?_)
      simp only [List.getElem_toArray, List.getElem_cons_zero, List.getElem_cons_succ]
      go_simp
      refine hK _ _ ⟨fun j => if j = 21 then .agg #[.int .i64 0, .int .i64 0, .int .i64 0, .int .i64 0] else vs j, by simp [], by simpa using hsz, hb, BadG.put hg (Keeps.refl wl) (i := 21) rfl rfl⟩
    | 22, _ =>
      cases ho
      have d20 : listed.getD 20 false = true := ha ⟨20, .data⟩ (by simp) rfl
      have g20 : vs 20 = .agg #[.int .i64 18, .int .i64 0, .int .i64 1, .int .i64 0] := hg 20 _ d20 rfl
      have d21 : listed.getD 21 false = true := ha ⟨21, .data⟩ (by simp) rfl
      have g21 : vs 21 = .agg #[.int .i64 0, .int .i64 0, .int .i64 0, .int .i64 0] := hg 21 _ d21 rfl
      refine wpOp_step rfl (fun K' hK => ?_)
      simp only [List.getElem_toArray, List.getElem_cons_zero, List.getElem_cons_succ]
      go_simp
      refine hK _ _ ⟨fun j => if j = 22 then .slice (some ⟨wl.heap.size, 0, none⟩) 2 2 else vs j, by simp [g20, g21], by simpa using hsz, (hb.alloc hb.size _), BadG.put hg (Keeps.alloc wl _) (i := 22) rfl ⟨_, _, rfl, seq_of_blk _ (Deep.blk_alloc_new wl _) rfl⟩⟩
    | 23, _ =>
      cases ho
      have d22 : listed.getD 22 false = true := ha ⟨22, .data⟩ (by simp) rfl
      obtain ⟨ao22, c22, g22, s22⟩ := hg 22 _ d22 rfl
      change vs 22 = .slice ao22 2 c22 at g22
      refine wpOp_step rfl (fun K' hK => ?_)
      simp only [List.getElem_toArray, List.getElem_cons_zero, List.getElem_cons_succ]
      go_simp
      refine hK _ _ ⟨fun j => if j = 23 then .slice (some ⟨wl.heap.size, 0, none⟩) 1 1 else vs j, by simp [g22], by simpa using hsz, (hb.alloc hb.size _), BadG.put hg (Keeps.alloc wl _) (i := 23) rfl ⟨_, _, rfl, kinds1 (a := [⟨18, 0, 1, 0⟩, ⟨0, 0, 0, 0⟩]) (ac := c22) (Deep.blk_alloc_new wl _) (s22.keeps (Keeps.alloc wl _))⟩⟩
    | 24, _ =>
      cases ho
      have d23 : listed.getD 23 false = true := ha ⟨23, .data⟩ (by simp) rfl
      obtain ⟨ao23, c23, g23, s23⟩ := hg 23 _ d23 rfl
      change vs 23 = .slice ao23 1 c23 at g23
      refine wpOp_step rfl (fun K' hK => ?_)
      simp only [List.getElem_toArray, List.getElem_cons_zero, List.getElem_cons_succ]
      go_simp
      refine hK _ _ ⟨fun j => if j = 24 then .agg #[.slice ao23 1 c23] else vs j, by simp [g23], by simpa using hsz, hb, BadG.put hg (Keeps.refl wl) (i := 24) rfl ⟨ao23, c23, rfl, s23⟩⟩
    | 25, _ =>
      cases ho
      refine wpOp_step rfl (fun K' hK => ?_)
      simp only [List.getElem_toArray, List.getElem_cons_zero, List.getElem_cons_succ]
      go_simp
      refine hK _ _ ⟨fun j => if j = 25 then .int .i64 (k) else vs j, by simp [], by simpa using hsz, hb, BadG.put hg (Keeps.refl wl) (i := 25) rfl rfl⟩
    | 26, _ =>
      cases ho
      have d25 : listed.getD 25 false = true := ha ⟨25, .data⟩ (by simp) rfl
      have g25 : vs 25 = .int .i64 (k) := hg 25 _ d25 rfl
      refine wpOp_step rfl (fun K' hK => ?_)
      simp only [List.getElem_toArray, List.getElem_cons_zero, List.getElem_cons_succ]
      go_simp
      refine hK _ _ ⟨fun j => if j = 26 then .agg #[.int .i64 6, .int .i64 0, .int .i64 0, .int .i64 k] else vs j, by simp [g25], by simpa using hsz, hb, BadG.put hg (Keeps.refl wl) (i := 26) rfl rfl⟩
    | 27, _ =>
      cases ho
      have d26 : listed.getD 26 false = true := ha ⟨26, .data⟩ (by simp) rfl
      have g26 : vs 26 = .agg #[.int .i64 6, .int .i64 0, .int .i64 0, .int .i64 k] := hg 26 _ d26 rfl
      refine wpOp_step rfl (fun K' hK => ?_)
      simp only [List.getElem_toArray, List.getElem_cons_zero, List.getElem_cons_succ]
      go_simp
      refine hK _ _ ⟨fun j => if j = 27 then .slice (some ⟨wl.heap.size, 0, none⟩) 1 1 else vs j, by simp [g26], by simpa using hsz, (hb.alloc hb.size _), BadG.put hg (Keeps.alloc wl _) (i := 27) rfl ⟨_, _, rfl, seq_of_blk _ (Deep.blk_alloc_new wl _) rfl⟩⟩
    | 28, _ =>
      cases ho
      have d27 : listed.getD 27 false = true := ha ⟨27, .data⟩ (by simp) rfl
      obtain ⟨ao27, c27, g27, s27⟩ := hg 27 _ d27 rfl
      change vs 27 = .slice ao27 1 c27 at g27
      refine wpOp_step rfl (fun K' hK => ?_)
      simp only [List.getElem_toArray, List.getElem_cons_zero, List.getElem_cons_succ]
      go_simp
      refine hK _ _ ⟨fun j => if j = 28 then .slice (some ⟨wl.heap.size, 0, none⟩) 1 1 else vs j, by simp [g27], by simpa using hsz, (hb.alloc hb.size _), BadG.put hg (Keeps.alloc wl _) (i := 28) rfl ⟨_, _, rfl, kinds1 (a := [⟨6, 0, 0, k⟩]) (ac := c27) (Deep.blk_alloc_new wl _) (s27.keeps (Keeps.alloc wl _))⟩⟩
    | 29, _ =>
      cases ho
      have d28 : listed.getD 28 false = true := ha ⟨28, .data⟩ (by simp) rfl
      obtain ⟨ao28, c28, g28, s28⟩ := hg 28 _ d28 rfl
      change vs 28 = .slice ao28 1 c28 at g28
      refine wpOp_step rfl (fun K' hK => ?_)
      simp only [List.getElem_toArray, List.getElem_cons_zero, List.getElem_cons_succ]
      go_simp
      refine hK _ _ ⟨fun j => if j = 29 then .agg #[.slice ao28 1 c28] else vs j, by simp [g28], by simpa using hsz, hb, BadG.put hg (Keeps.refl wl) (i := 29) rfl ⟨ao28, c28, rfl, s28⟩⟩
    | 30, _ =>
      cases ho
      refine wpOp_step rfl (fun K' hK => ?_)
      simp only [List.getElem_toArray, List.getElem_cons_zero, List.getElem_cons_succ]
      go_simp
      refine hK _ _ ⟨fun j => if j = 30 then .agg #[.int .i64 5, .int .i64 0, .int .i64 0, .int .i64 (-1)] else vs j, by simp [], by simpa using hsz, hb, BadG.put hg (Keeps.refl wl) (i := 30) rfl rfl⟩
    | 31, _ =>
      cases ho
      have z0 := Keeps.below hb _ _ e0
      have z1 := Keeps.below hb _ _ e1
      have z2 := Keeps.below hb _ _ e2
      have z3 := Keeps.below hb _ _ e3
      refine wpOp_step rfl (fun K' hK => ?_)
      simp only [List.getElem_toArray, List.getElem_cons_zero, List.getElem_cons_succ]
      go_simp
      refine hK _ _ ⟨fun j => if j = 31 then .agg #[.int .i64 0, .int .i64 0, .int .i64 0, .int .i64 0] else vs j, by simp [], by simpa using hsz, hb, BadG.put hg (Keeps.refl wl) (i := 31) rfl rfl⟩
    | 32, _ =>
      cases ho
      have d30 : listed.getD 30 false = true := ha ⟨30, .data⟩ (by simp) rfl
      have g30 : vs 30 = .agg #[.int .i64 5, .int .i64 0, .int .i64 0, .int .i64 (-1)] := hg 30 _ d30 rfl
      have d31 : listed.getD 31 false = true := ha ⟨31, .data⟩ (by simp) rfl
      have g31 : vs 31 = .agg #[.int .i64 0, .int .i64 0, .int .i64 0, .int .i64 0] := hg 31 _ d31 rfl
      refine wpOp_step rfl (fun K' hK => ?_)
      simp only [List.getElem_toArray, List.getElem_cons_zero, List.getElem_cons_succ]
      go_simp
      refine hK _ _ ⟨fun j => if j = 32 then .slice (some ⟨wl.heap.size, 0, none⟩) 2 2 else vs j, by simp [g30, g31], by simpa using hsz, (hb.alloc hb.size _), BadG.put hg (Keeps.alloc wl _) (i := 32) rfl ⟨_, _, rfl, seq_of_blk _ (Deep.blk_alloc_new wl _) rfl⟩⟩
    | 33, _ =>
      cases ho
      have d32 : listed.getD 32 false = true := ha ⟨32, .data⟩ (by simp) rfl
      obtain ⟨ao32, c32, g32, s32⟩ := hg 32 _ d32 rfl
      change vs 32 = .slice ao32 2 c32 at g32
      refine wpOp_step rfl (fun K' hK => ?_)
      simp only [List.getElem_toArray, List.getElem_cons_zero, List.getElem_cons_succ]
      go_simp
      refine hK _ _ ⟨fun j => if j = 33 then .slice (some ⟨wl.heap.size, 0, none⟩) 1 1 else vs j, by simp [g32], by simpa using hsz, (hb.alloc hb.size _), BadG.put hg (Keeps.alloc wl _) (i := 33) rfl ⟨_, _, rfl, kinds1 (a := [⟨5, 0, 0, -1⟩, ⟨0, 0, 0, 0⟩]) (ac := c32) (Deep.blk_alloc_new wl _) (s32.keeps (Keeps.alloc wl _))⟩⟩
    | 34, _ =>
      cases ho
      have d33 : listed.getD 33 false = true := ha ⟨33, .data⟩ (by simp) rfl
      obtain ⟨ao33, c33, g33, s33⟩ := hg 33 _ d33 rfl
      change vs 33 = .slice ao33 1 c33 at g33
      refine wpOp_step rfl (fun K' hK => ?_)
      simp only [List.getElem_toArray, List.getElem_cons_zero, List.getElem_cons_succ]
      go_simp
      refine hK _ _ ⟨fun j => if j = 34 then .agg #[.slice ao33 1 c33] else vs j, by simp [g33], by simpa using hsz, hb, BadG.put hg (Keeps.refl wl) (i := 34) rfl ⟨ao33, c33, rfl, s33⟩⟩
    | 35, _ =>
      cases ho
      refine wpOp_step rfl (fun K' hK => ?_)
      simp only [List.getElem_toArray, List.getElem_cons_zero, List.getElem_cons_succ]
      go_simp
      refine hK _ _ ⟨fun j => if j = 35 then .agg #[.int .i64 17, .int .i64 0, .int .i64 0, .int .i64 1] else vs j, by simp [], by simpa using hsz, hb, BadG.put hg (Keeps.refl wl) (i := 35) rfl rfl⟩
    | 36, _ =>
      cases ho
      have z0 := Keeps.below hb _ _ e0
      have z1 := Keeps.below hb _ _ e1
      have z2 := Keeps.below hb _ _ e2
      have z3 := Keeps.below hb _ _ e3
      refine wpOp_step rfl (fun K' hK => ?_)
      simp only [List.getElem_toArray, List.getElem_cons_zero, List.getElem_cons_succ]
      go_simp
      refine hK _ _ ⟨fun j => if j = 36 then .agg #[.int .i64 0, .int .i64 0, .int .i64 0, .int .i64 0] else vs j, by simp [], by simpa using hsz, hb, BadG.put hg (Keeps.refl wl) (i := 36) rfl rfl⟩
    | 37, _ =>
      cases ho
      have d35 : listed.getD 35 false = true := ha ⟨35, .data⟩ (by simp) rfl
      have g35 : vs 35 = .agg #[.int .i64 17, .int .i64 0, .int .i64 0, .int .i64 1] := hg 35 _ d35 rfl
      have d36 : listed.getD 36 false = true := ha ⟨36, .data⟩ (by simp) rfl
      have g36 : vs 36 = .agg #[.int .i64 0, .int .i64 0, .int .i64 0, .int .i64 0] := hg 36 _ d36 rfl
      refine wpOp_step rfl (fun K' hK => ?_)
      simp only [List.getElem_toArray, List.getElem_cons_zero, List.getElem_cons_succ]
      go_simp
      refine hK _ _ ⟨fun j => if j = 37 then .slice (some ⟨wl.heap.size, 0, none⟩) 2 2 else vs j, by simp [g35, g36], by simpa using hsz, (hb.alloc hb.size _), BadG.put hg (Keeps.alloc wl _) (i := 37) rfl ⟨_, _, rfl, seq_of_blk _ (Deep.blk_alloc_new wl _) rfl⟩⟩
    | 38, _ =>
      cases ho
      have d37 : listed.getD 37 false = true := ha ⟨37, .data⟩ (by simp) rfl
      obtain ⟨ao37, c37, g37, s37⟩ := hg 37 _ d37 rfl
      change vs 37 = .slice ao37 2 c37 at g37
      refine wpOp_step rfl (fun K' hK => ?_)
      simp only [List.getElem_toArray, List.getElem_cons_zero, List.getElem_cons_succ]
      go_simp
      refine hK _ _ ⟨fun j => if j = 38 then .slice (some ⟨wl.heap.size, 0, none⟩) 1 1 else vs j, by simp [g37], by simpa using hsz, (hb.alloc hb.size _), BadG.put hg (Keeps.alloc wl _) (i := 38) rfl ⟨_, _, rfl, kinds1 (a := [⟨17, 0, 0, 1⟩, ⟨0, 0, 0, 0⟩]) (ac := c37) (Deep.blk_alloc_new wl _) (s37.keeps (Keeps.alloc wl _))⟩⟩
    | 39, _ =>
      cases ho
      have d38 : listed.getD 38 false = true := ha ⟨38, .data⟩ (by simp) rfl
      obtain ⟨ao38, c38, g38, s38⟩ := hg 38 _ d38 rfl
      change vs 38 = .slice ao38 1 c38 at g38
      refine wpOp_step rfl (fun K' hK => ?_)
      simp only [List.getElem_toArray, List.getElem_cons_zero, List.getElem_cons_succ]
      go_simp
      refine hK _ _ ⟨fun j => if j = 39 then .agg #[.slice ao38 1 c38] else vs j, by simp [g38], by simpa using hsz, hb, BadG.put hg (Keeps.refl wl) (i := 39) rfl ⟨ao38, c38, rfl, s38⟩⟩
    | 40, _ =>
      cases ho
      refine wpOp_step rfl (fun K' hK => ?_)
      simp only [List.getElem_toArray, List.getElem_cons_zero, List.getElem_cons_succ]
      go_simp
      refine hK _ _ ⟨fun j => if j = 40 then .agg #[.int .i64 1, .int .i64 0, .int .i64 0, .int .i64 0] else vs j, by simp [], by simpa using hsz, hb, BadG.put hg (Keeps.refl wl) (i := 40) rfl rfl⟩
    | 41, _ =>
      cases ho
      have d40 : listed.getD 40 false = true := ha ⟨40, .data⟩ (by simp) rfl
      have g40 : vs 40 = .agg #[.int .i64 1, .int .i64 0, .int .i64 0, .int .i64 0] := hg 40 _ d40 rfl
      refine wpOp_step rfl (fun K' hK => ?_)
      simp only [List.getElem_toArray, List.getElem_cons_zero, List.getElem_cons_succ]
      go_simp
      refine hK _ _ ⟨fun j => if j = 41 then .slice (some ⟨wl.heap.size, 0, none⟩) 1 1 else vs j, by simp [g40], by simpa using hsz, (hb.alloc hb.size _), BadG.put hg (Keeps.alloc wl _) (i := 41) rfl ⟨_, _, rfl, seq_of_blk _ (Deep.blk_alloc_new wl _) rfl⟩⟩
    | 42, _ =>
      cases ho
      have d41 : listed.getD 41 false = true := ha ⟨41, .data⟩ (by simp) rfl
      obtain ⟨ao41, c41, g41, s41⟩ := hg 41 _ d41 rfl
      change vs 41 = .slice ao41 1 c41 at g41
      refine wpOp_step rfl (fun K' hK => ?_)
      simp only [List.getElem_toArray, List.getElem_cons_zero, List.getElem_cons_succ]
      go_simp
      refine hK _ _ ⟨fun j => if j = 42 then .slice (some ⟨wl.heap.size, 0, none⟩) 1 1 else vs j, by simp [g41], by simpa using hsz, (hb.alloc hb.size _), BadG.put hg (Keeps.alloc wl _) (i := 42) rfl ⟨_, _, rfl, kinds1 (a := [⟨1, 0, 0, 0⟩]) (ac := c41) (Deep.blk_alloc_new wl _) (s41.keeps (Keeps.alloc wl _))⟩⟩
    | 43, _ =>
      cases ho
      have d42 : listed.getD 42 false = true := ha ⟨42, .data⟩ (by simp) rfl
      obtain ⟨ao42, c42, g42, s42⟩ := hg 42 _ d42 rfl
      change vs 42 = .slice ao42 1 c42 at g42
      refine wpOp_step rfl (fun K' hK => ?_)
      simp only [List.getElem_toArray, List.getElem_cons_zero, List.getElem_cons_succ]
      go_simp
      refine hK _ _ ⟨fun j => if j = 43 then .agg #[.slice ao42 1 c42] else vs j, by simp [g42], by simpa using hsz, hb, BadG.put hg (Keeps.refl wl) (i := 43) rfl ⟨ao42, c42, rfl, s42⟩⟩
    | 44, _ =>
      cases ho
      refine wpOp_step rfl (fun K' hK => ?_)
      simp only [List.getElem_toArray, List.getElem_cons_zero, List.getElem_cons_succ]
      go_simp
      refine hK _ _ ⟨fun j => if j = 44 then .agg #[.int .i64 7, .int .i64 0, .int .i64 0, .int .i64 0] else vs j, by simp [], by simpa using hsz, hb, BadG.put hg (Keeps.refl wl) (i := 44) rfl rfl⟩
    | 45, _ =>
      cases ho
      have z0 := Keeps.below hb _ _ e0
      have z1 := Keeps.below hb _ _ e1
      have z2 := Keeps.below hb _ _ e2
      have z3 := Keeps.below hb _ _ e3
      refine wpOp_step rfl (fun K' hK => ?_)
      simp only [List.getElem_toArray, List.getElem_cons_zero, List.getElem_cons_succ]
      go_simp
      refine hK _ _ ⟨fun j => if j = 45 then .agg #[.int .i64 0, .int .i64 0, .int .i64 0, .int .i64 0] else vs j, by simp [], by simpa using hsz, hb, BadG.put hg (Keeps.refl wl) (i := 45) rfl rfl⟩
    | 46, _ =>
      cases ho
      have d44 : listed.getD 44 false = true := ha ⟨44, .data⟩ (by simp) rfl
      have g44 : vs 44 = .agg #[.int .i64 7, .int .i64 0, .int .i64 0, .int .i64 0] := hg 44 _ d44 rfl
      have d45 : listed.getD 45 false = true := ha ⟨45, .data⟩ (by simp) rfl
      have g45 : vs 45 = .agg #[.int .i64 0, .int .i64 0, .int .i64 0, .int .i64 0] := hg 45 _ d45 rfl
      refine wpOp_step rfl (fun K' hK => ?_)
      simp only [List.getElem_toArray, List.getElem_cons_zero, List.getElem_cons_succ]
      go_simp
      refine hK _ _ ⟨fun j => if j = 46 then .slice (some ⟨wl.heap.size, 0, none⟩) 2 2 else vs j, by simp [g44, g45], by simpa using hsz, (hb.alloc hb.size _), BadG.put hg (Keeps.alloc wl _) (i := 46) rfl ⟨_, _, rfl, seq_of_blk _ (Deep.blk_alloc_new wl _) rfl⟩⟩
    | 47, _ =>
      cases ho
      have d46 : listed.getD 46 false = true := ha ⟨46, .data⟩ (by simp) rfl
      obtain ⟨ao46, c46, g46, s46⟩ := hg 46 _ d46 rfl
      change vs 46 = .slice ao46 2 c46 at g46
      refine wpOp_step rfl (fun K' hK => ?_)
      simp only [List.getElem_toArray, List.getElem_cons_zero, List.getElem_cons_succ]
      go_simp
      refine hK _ _ ⟨fun j => if j = 47 then .slice (some ⟨wl.heap.size, 0, none⟩) 1 1 else vs j, by simp [g46], by simpa using hsz, (hb.alloc hb.size _), BadG.put hg (Keeps.alloc wl _) (i := 47) rfl ⟨_, _, rfl, kinds1 (a := [⟨7, 0, 0, 0⟩, ⟨0, 0, 0, 0⟩]) (ac := c46) (Deep.blk_alloc_new wl _) (s46.keeps (Keeps.alloc wl _))⟩⟩
    | 48, _ =>
      cases ho
      have d47 : listed.getD 47 false = true := ha ⟨47, .data⟩ (by simp) rfl
      obtain ⟨ao47, c47, g47, s47⟩ := hg 47 _ d47 rfl
      change vs 47 = .slice ao47 1 c47 at g47
      refine wpOp_step rfl (fun K' hK => ?_)
      simp only [List.getElem_toArray, List.getElem_cons_zero, List.getElem_cons_succ]
      go_simp
      refine hK _ _ ⟨fun j => if j = 48 then .agg #[.slice ao47 1 c47] else vs j, by simp [g47], by simpa using hsz, hb, BadG.put hg (Keeps.refl wl) (i := 48) rfl ⟨ao47, c47, rfl, s47⟩⟩
    | 49, _ =>
      cases ho
      refine wpOp_step rfl (fun K' hK => ?_)
      simp only [List.getElem_toArray, List.getElem_cons_zero, List.getElem_cons_succ]
      go_simp
      refine hK _ _ ⟨fun j => if j = 49 then .int .i64 (k) else vs j, by simp [], by simpa using hsz, hb, BadG.put hg (Keeps.refl wl) (i := 49) rfl rfl⟩
    | 50, _ =>
      cases ho
      have d49 : listed.getD 49 false = true := ha ⟨49, .data⟩ (by simp) rfl
      have g49 : vs 49 = .int .i64 (k) := hg 49 _ d49 rfl
      refine wpOp_step rfl (fun K' hK => ?_)
      simp only [List.getElem_toArray, List.getElem_cons_zero, List.getElem_cons_succ]
      go_simp
      refine hK _ _ ⟨fun j => if j = 50 then .int .i64 (60 + k) else vs j, by simp [g49], by simpa using hsz, hb, BadG.put hg (Keeps.refl wl) (i := 50) rfl rfl⟩
    | 51, _ =>
      cases ho
      have d50 : listed.getD 50 false = true := ha ⟨50, .data⟩ (by simp) rfl
      have g50 : vs 50 = .int .i64 (60 + k) := hg 50 _ d50 rfl
      refine wpOp_step rfl (fun K' hK => ?_)
      simp only [List.getElem_toArray, List.getElem_cons_zero, List.getElem_cons_succ]
      go_simp
      refine hK _ _ ⟨fun j => if j = 51 then .slice (some ⟨wl.heap.size, 0, none⟩) (60 + k) (60 + k) else vs j, by simp [g50], by simpa using hsz, (hb.alloc hb.size _), BadG.put hg (Keeps.alloc wl _) (i := 51) rfl ⟨_, 60 + k, by simp only [List.length_replicate], seq_of_blk _ (Deep.blk_alloc_new wl _) hz60⟩⟩
    | 52, _ =>
      cases ho
      have d51 : listed.getD 51 false = true := ha ⟨51, .data⟩ (by simp) rfl
      obtain ⟨ao51, c51, g51, s51⟩ := hg 51 _ d51 rfl
      rw [List.length_replicate] at g51
      refine wpOp_step rfl (fun K' hK => ?_)
      simp only [List.getElem_toArray, List.getElem_cons_zero, List.getElem_cons_succ]
      go_simp
      refine hK _ _ ⟨fun j => if j = 52 then .slice (some ⟨wl.heap.size, 0, none⟩) 1 1 else vs j, by simp [g51], by simpa using hsz, (hb.alloc hb.size _), BadG.put hg (Keeps.alloc wl _) (i := 52) rfl ⟨_, _, rfl, kinds1 (a := (List.replicate (60 + k) noIns)) (ac := c51) (by simp only [List.length_replicate]; exact Deep.blk_alloc_new wl _) (s51.keeps (Keeps.alloc wl _))⟩⟩
    | 53, _ =>
      cases ho
      have d52 : listed.getD 52 false = true := ha ⟨52, .data⟩ (by simp) rfl
      obtain ⟨ao52, c52, g52, s52⟩ := hg 52 _ d52 rfl
      change vs 52 = .slice ao52 1 c52 at g52
      refine wpOp_step rfl (fun K' hK => ?_)
      simp only [List.getElem_toArray, List.getElem_cons_zero, List.getElem_cons_succ]
      go_simp
      refine hK _ _ ⟨fun j => if j = 53 then .agg #[.slice ao52 1 c52] else vs j, by simp [g52], by simpa using hsz, hb, BadG.put hg (Keeps.refl wl) (i := 53) rfl ⟨ao52, c52, rfl, s52⟩⟩
    | 54, _ =>
      cases ho
      have d0 : listed.getD 0 false = true := ha ⟨0, .data⟩ (by simp) rfl
      obtain ⟨ao0, c0, g0, s0⟩ := hg 0 _ d0 rfl
      change vs 0 = .agg #[.slice ao0 0 c0] at g0
      have d4 : listed.getD 4 false = true := ha ⟨4, .data⟩ (by simp) rfl
      obtain ⟨ao4, c4, g4, s4⟩ := hg 4 _ d4 rfl
      rw [List.length_replicate] at g4
      have d6 : listed.getD 6 false = true := ha ⟨6, .data⟩ (by simp) rfl
      obtain ⟨ao6, c6, g6, s6⟩ := hg 6 _ d6 rfl
      change vs 6 = .agg #[.slice ao6 1 c6] at g6
      have d12 : listed.getD 12 false = true := ha ⟨12, .data⟩ (by simp) rfl
      obtain ⟨ao12, c12, g12, s12⟩ := hg 12 _ d12 rfl
      change vs 12 = .agg #[.slice ao12 1 c12] at g12
      have d19 : listed.getD 19 false = true := ha ⟨19, .data⟩ (by simp) rfl
      obtain ⟨ao19, c19, g19, s19⟩ := hg 19 _ d19 rfl
      change vs 19 = .agg #[.slice ao19 1 c19] at g19
      have d24 : listed.getD 24 false = true := ha ⟨24, .data⟩ (by simp) rfl
      obtain ⟨ao24, c24, g24, s24⟩ := hg 24 _ d24 rfl
      change vs 24 = .agg #[.slice ao24 1 c24] at g24
      have d29 : listed.getD 29 false = true := ha ⟨29, .data⟩ (by simp) rfl
      obtain ⟨ao29, c29, g29, s29⟩ := hg 29 _ d29 rfl
      change vs 29 = .agg #[.slice ao29 1 c29] at g29
      have d34 : listed.getD 34 false = true := ha ⟨34, .data⟩ (by simp) rfl
      obtain ⟨ao34, c34, g34, s34⟩ := hg 34 _ d34 rfl
      change vs 34 = .agg #[.slice ao34 1 c34] at g34
      have d39 : listed.getD 39 false = true := ha ⟨39, .data⟩ (by simp) rfl
      obtain ⟨ao39, c39, g39, s39⟩ := hg 39 _ d39 rfl
      change vs 39 = .agg #[.slice ao39 1 c39] at g39
      have d43 : listed.getD 43 false = true := ha ⟨43, .data⟩ (by simp) rfl
      obtain ⟨ao43, c43, g43, s43⟩ := hg 43 _ d43 rfl
      change vs 43 = .agg #[.slice ao43 1 c43] at g43
      have d48 : listed.getD 48 false = true := ha ⟨48, .data⟩ (by simp) rfl
      obtain ⟨ao48, c48, g48, s48⟩ := hg 48 _ d48 rfl
      change vs 48 = .agg #[.slice ao48 1 c48] at g48
      have d53 : listed.getD 53 false = true := ha ⟨53, .data⟩ (by simp) rfl
      obtain ⟨ao53, c53, g53, s53⟩ := hg 53 _ d53 rfl
      change vs 53 = .agg #[.slice ao53 1 c53] at g53
      refine wpOp_step rfl (fun K' hK => ?_)
      simp only [List.getElem_toArray, List.getElem_cons_zero, List.getElem_cons_succ]
      go_simp
      refine hK _ _ ⟨fun j => if j = 54 then .slice (some ⟨wl.heap.size, 0, none⟩) 12 12 else vs j, by simp [g0, g4, g6, g12, g19, g24, g29, g34, g39, g43, g48, g53], by simpa using hsz, (hb.alloc hb.size _), BadG.put hg (Keeps.alloc wl _) (i := 54) rfl (bad_all (Deep.blk_alloc_new wl _) (s0.keeps (Keeps.alloc wl _)) (s4.keeps (Keeps.alloc wl _)) (s6.keeps (Keeps.alloc wl _)) (s12.keeps (Keeps.alloc wl _)) (s19.keeps (Keeps.alloc wl _)) (s24.keeps (Keeps.alloc wl _)) (s29.keeps (Keeps.alloc wl _)) (s34.keeps (Keeps.alloc wl _)) (s39.keeps (Keeps.alloc wl _)) (s43.keeps (Keeps.alloc wl _)) (s48.keeps (Keeps.alloc wl _)) (s53.keeps (Keeps.alloc wl _)))⟩
    | 55, _ =>
      cases ho
      have d54 : listed.getD 54 false = true := ha ⟨54, .data⟩ (by simp) rfl
      obtain ⟨b54, g54, s54⟩ := hg 54 _ d54 rfl
      change vs 54 = .slice (some ⟨b54, 0, none⟩) 12 12 at g54
      refine wpOp_step rfl (fun K' hK => ?_)
      simp only [List.getElem_toArray, List.getElem_cons_zero, List.getElem_cons_succ]
      go_simp
      refine hK _ _ ⟨fun j => if j = 55 then vs 54 else vs j, by simp [g54], by simpa using hsz, hb, BadG.put hg (Keeps.refl wl) (i := 55) rfl (hg 54 _ d54 rfl)⟩
  · intro listed a wl hI hr
    obtain ⟨vs, rfl, hsz, hb, hg⟩ := hI
    have h55 : listed.getD 55 false = true := all_listed hr (by kernel_rfl) hsz 55 (by show 55 < 56; omega)
    obtain ⟨b, hv55, hrows⟩ := hg 55 _ h55 rfl
    change vs 55 = .slice (some ⟨b, 0, none⟩) 12 12 at hv55
    obtain ⟨pb1, pb2⟩ := pick_bd (n := which) (many := 12) (by omega)
    obtain ⟨j, hj⟩ := Int.eq_ofNat_of_zero_le pb1
    have hj12 : j < 12 := by omega
    have hjz : (j : Int) < 12 := by omega
    obtain ⟨r, hr'⟩ : ∃ r, (bdRows k)[j]? = some r := at_some (show j < 12 from hj12)
    obtain ⟨ao, c, hcell, hK⟩ := hrows j r hr'
    have hrj : (bdRows k).getD j [] = r := by simp [List.getD_eq_getElem?_getD, hr']
    have hfa := bad_fault k (by omega) hk1 j hj12
    have hfi := fit_of (bad_fitB k (by omega) j hj12)
    rw [hrj] at hfa hfi
    obtain ⟨er, her⟩ : ∃ er, bdErr[j]? = some er := at_some (show j < 12 from hj12)
    have herj : bdErr.getD j 0 = er := by simp [List.getD_eq_getElem?_getD, her]
    rw [herj] at hfa
    have herne : er ≠ 0 := by
      have : ∀ j, j < 12 → bdErr.getD j 0 ≠ 0 := by decide
      rw [← herj]
      exact this j hj12
    have HJ : Aside (pick which 12 = (j : Int)) := hj
    have HE : Aside (bdErr[j]? = some er ∧ er ≠ 0 ∧ rowsFault r = er) := ⟨her, herne, hfa⟩
    have hTl := (hT.keeps k1).keeps (Keeps.below hb)
    have bl := b1.trans (hb.mono b1.size)
    obtain ⟨A, C, hP⟩ := prog_of hK hfi.1 hfi.2
    clear hg hrows hr hr' hrj herj her herne hfa hfi hK hj pb1 pb2 h55 hmkA hmkB hz6 hz60 e0 e1 e2 e3 N0 w6 w7 w19 w60 hT k1 b1 hb s1
    obtain ⟨X0, kx, bx, sx⟩ := boxes1 wl (.cells #[.int .i64 6, .int .i64 1, .int .i64 1, .int .i64 3, .int .i64 2, .int .i64 4, .int .i64 2, .int .i64 2, .int .i64 2, .int .i64 5, .int .i64 2, .int .i64 1] 29)
    have xe : (wl.alloc (.cells #[.int .i64 6, .int .i64 1, .int .i64 1, .int .i64 3, .int .i64 2, .int .i64 4, .int .i64 2, .int .i64 2, .int .i64 2, .int .i64 5, .int .i64 2, .int .i64 1] 29)).cell? ⟨wl.heap.size, j, none⟩ = some (.int .i64 er) := by
      rw [cellBlk X0]
      have h1 : (bdErr.map (Value.int .i64))[j]? = some (.int .i64 er) := by rw [List.getElem?_map, HE.out.1]; rfl
      have h2 : (#[.int .i64 6, .int .i64 1, .int .i64 1, .int .i64 3, .int .i64 2, .int .i64 4, .int .i64 2, .int .i64 2, .int .i64 2, .int .i64 5, .int .i64 2, .int .i64 1] : Array Value) = (bdErr.map (Value.int .i64)).toArray := rfl
      rw [h2, List.getElem?_toArray]
      exact h1
    have bE := bl.trans (bx.mono bl.size)
    replace hP := hP.keeps kx
    replace hTl := hTl.keeps kx
    replace hcell := kx _ _ hcell
    obtain ⟨rn, hrn⟩ : ∃ rn, rn = r.length := ⟨_, rfl⟩
    have HRN : Aside (rn = r.length) := hrn
    rw [← hrn] at hP hcell
    have hpf : progFault rn (lenOf r) (xOf r) = er := by rw [hrn]; exact HE.out.2.2
    have hck : ckS rn (lenOf r) (xOf r) = (0, 0, er) := by rw [ckS, if_pos (by rw [hpf]; exact HE.out.2.1), hpf]
    have hwe : wnewE rn (lenOf r) (xOf r) 10 = er := by rw [wnewE, hck]; simp [HE.out.2.1]
    have hwn : wnew rn (lenOf r) (xOf r) 10 = ⟨[], []⟩ := by rw [wnew, hwe]; simp [HE.out.2.1]
    clear hrn X0 sx bx kx bl
    go_wp2_with fail
    generalize wl.alloc (.cells #[.int .i64 6, .int .i64 1, .int .i64 1, .int .i64 3, .int .i64 2, .int .i64 4, .int .i64 2, .int .i64 2, .int .i64 2, .int .i64 5, .int .i64 2, .int .i64 1] 29) = We at *
    refine (picked_any which 12 _ hi1.1 hi1.2 (by omega) (by omega)).mono ?_
    rintro e w' ⟨rfl, hw'⟩
    subst hw'
    rw [HJ.out]
    go_wp2_with fail
    refine (encode_any ao rn c A _ C _ _ hTl hP).mono ?_
    rintro e w2 ⟨v, rfl, _, hb2⟩
    rw [hpf]
    have k2 := Keeps.below hb2
    have b2 := bE.trans (hb2.mono bE.size)
    replace hP := hP.keeps k2
    replace hTl := hTl.keeps k2
    replace hcell := k2 _ _ hcell
    replace xe := k2 _ _ xe
    clear k2 hb2 bE
    go_wp2_with fail
    refine (vcheck_any ao rn c A _ C _ _ hTl hP).mono ?_
    rintro e w3 ⟨rfl, hb3⟩
    rw [hck]
    have k3 := Keeps.below hb3
    have b3 := b2.trans (hb3.mono b2.size)
    replace hP := hP.keeps k3
    replace hTl := hTl.keeps k3
    replace hcell := k3 _ _ hcell
    replace xe := k3 _ _ xe
    clear k3 hb3 b2
    go_wp2_with fail
    refine (anew_any ao rn c A _ C _ 10 _ hTl hP).mono ?_
    rintro e w4 ⟨aa, ca, rfl, hb4, _, _⟩
    rw [hwe, hwn]
    simp only [List.length_nil]
    have k4 := (Keeps.below hb4).trans (Keeps.alloc w4 (.cells #[.slice aa 0 ca, .slice none 0 0] 54))
    have b4 := b3.trans (hb4.mono b3.size)
    have b5 := b4.alloc b4.size (.cells #[.slice aa 0 ca, .slice none 0 0] 54)
    replace xe := k4 _ _ xe
    clear k4 hb4 b3 b4 hck hwe hwn hpf hcell hP hTl
    go_wp2
    go_ret
    exact ⟨ret_bool (by simp), b5⟩

end Go.Proofs.YtahcgnmhhgcfmaaDoor
