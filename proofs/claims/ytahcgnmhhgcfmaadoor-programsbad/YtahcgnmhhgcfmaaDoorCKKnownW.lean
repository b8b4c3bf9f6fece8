/- The walk of TypesKnown. -/
import Derived.Test.YtahcgnmhhgcfmaaDoorCPlain
import Derived.Test.YtahcgnmhhgcfmaaDoorCKClone
import Derived.Test.YtahcgnmhhgcfmaaDoorCKRight
import Derived.Test.YtahcgnmhhgcfmaaDoorCKFlowW
namespace Go.Proofs.YtahcgnmhhgcfmaaDoor
open Go.RowKit

theorem seq_of_blk {w : World} {B : Nat} {c : Array Value} {t : TypeId} (l : List Ins) (h : w.heap[B]? = some (.cells c t (0, 0))) (hc : c.toList = l.flatMap fIns) : SeqAt fIns 4 w (some ⟨B, 0, none⟩) l := fun i x hx => by
  refine ⟨B, 0, rfl, fun j u hu => ?_⟩
  have hj : j < 4 := by rw [← fIns_len x]; exact (List.getElem?_eq_some_iff.1 hu).1
  rw [cellBlk h, Nat.zero_add]
  have := (flat_get fIns_len l i j hx hj).trans hu
  rw [← hc, Array.getElem?_toList] at this
  exact this

theorem kinds1 {w : World} {B : Nat} {a : List Ins} {aa : Option Addr} {ac : Nat} {t : TypeId} (h : w.heap[B]? = some (.cells #[.slice aa a.length ac] t (0, 0))) (ha : SeqAt fIns 4 w aa a) : KindsAt w (some ⟨B, 0, none⟩) [a] := fun r l hl => by
  match r, hl with
  | 0, hl => simp at hl; subst hl; exact ⟨B, 0, aa, ac, rfl, by rw [cellBlk h]; rfl, ha⟩
  | r + 1, hl => simp at hl

theorem kinds2 {w : World} {B : Nat} {a b : List Ins} {aa ba : Option Addr} {ac bc : Nat} {t : TypeId} (h : w.heap[B]? = some (.cells #[.slice aa a.length ac, .slice ba b.length bc] t (0, 0))) (ha : SeqAt fIns 4 w aa a) (hb : SeqAt fIns 4 w ba b) : KindsAt w (some ⟨B, 0, none⟩) [a, b] := fun r l hl => by
  match r, hl with
  | 0, hl => simp at hl; subst hl; exact ⟨B, 0, aa, ac, rfl, by rw [cellBlk h]; rfl, ha⟩
  | 1, hl => simp at hl; subst hl; exact ⟨B, 0, ba, bc, rfl, by rw [cellBlk h]; rfl, hb⟩
  | r + 2, hl => simp at hl

theorem kwL_fit : ∀ x ∈ kwL, insFit x := by unfold insFit; decide +kernel
theorem kwOdd_fit : ∀ x ∈ kwOdd, insFit x := by unfold insFit; decide +kernel
theorem done_fit : insFit doneI := by unfold insFit; decide +kernel

theorem kwBad_fit {x : Ins} (hx : x ∈ kwOdd) : ∀ r ∈ [[doneI], kwBad x], r.length ≤ 1000000 ∧ ∀ y ∈ r, insFit y := fun r hr => by
  simp only [List.mem_cons, List.not_mem_nil, or_false] at hr
  rcases hr with rfl | rfl
  · exact ⟨by simp, fun y hy => by simp at hy; rw [hy]; exact done_fit⟩
  · refine ⟨by simp [kwBad, kwL], fun y hy => ?_⟩
    simp only [kwBad, List.mem_append, List.mem_cons, List.not_mem_nil, or_false] at hy
    rcases hy with hy | rfl | rfl
    · exact kwL_fit y (List.mem_of_mem_take hy)
    · exact kwOdd_fit _ hx
    · exact done_fit

theorem seq_cell4 {w : World} {B O : Nat} {l : List Ins} (h : SeqAt fIns 4 w (some ⟨B, O, none⟩) l) {i : Nat} {x : Ins} (hx : l[i]? = some x) : w.cell? ⟨B, O + i * 4, none⟩ = some (.int .i64 x.op) ∧ w.cell? ⟨B, O + i * 4 + 1, none⟩ = some (.int .i64 x.a) ∧ w.cell? ⟨B, O + i * 4 + 2, none⟩ = some (.int .i64 x.b) ∧ w.cell? ⟨B, O + i * 4 + 3, none⟩ = some (.int .i64 x.n) := by
  obtain ⟨b, o, e, hc⟩ := h i x hx
  simp only [Option.some.injEq, Addr.mk.injEq, and_true] at e
  obtain ⟨rfl, rfl⟩ := e
  exact ⟨hc 0 _ rfl, hc 1 _ rfl, hc 2 _ rfl, hc 3 _ rfl⟩

theorem seq_take {w : World} {ao : Option Addr} {l : List Ins} (h : SeqAt fIns 4 w ao l) (k : Nat) : SeqAt fIns 4 w ao (l.take k) := fun i x hx => by
  rw [List.getElem?_take] at hx
  split at hx
  · exact h i x hx
  · cases hx

set_option maxRecDepth 100000 in
set_option maxHeartbeats 2000000 in
theorem typesKnown_walk (n : Int) (w : World) (hT : TabAt 0 w) (hn : -9223372036854775808 ≤ n ∧ n ≤ 9223372036854775807) :
    Calls Tryd.prog 4 #[.int .i64 n] w fun e w' => e = .returned (.bool true) ∧ Below w.heap.size w w' := by
  obtain ⟨N0, N1, k1, b1, s1⟩ := boxes2 w (.cells #[.int .i64 7, .int .i64 2, .int .i64 0, .int .i64 2, .int .i64 7, .int .i64 3, .int .i64 0, .int .i64 1, .int .i64 11, .int .i64 2, .int .i64 3, .int .i64 0, .int .i64 10, .int .i64 4, .int .i64 2, .int .i64 0, .int .i64 1, .int .i64 5, .int .i64 0, .int .i64 1, .int .i64 13, .int .i64 1, .int .i64 5, .int .i64 0, .int .i64 0, .int .i64 0, .int .i64 0, .int .i64 0] 40) (.cells #[.slice (some ⟨w.heap.size, 0, none⟩) 7 7] 37)
  go_enter Tryd.func4, Tryd.ntmps4
  go_wp2_with fail
  generalize (w.alloc (.cells #[.int .i64 7, .int .i64 2, .int .i64 0, .int .i64 2, .int .i64 7, .int .i64 3, .int .i64 0, .int .i64 1, .int .i64 11, .int .i64 2, .int .i64 3, .int .i64 0, .int .i64 10, .int .i64 4, .int .i64 2, .int .i64 0, .int .i64 1, .int .i64 5, .int .i64 0, .int .i64 1, .int .i64 13, .int .i64 1, .int .i64 5, .int .i64 0, .int .i64 0, .int .i64 0, .int .i64 0, .int .i64 0] 40)).alloc (.cells #[.slice (some ⟨w.heap.size, 0, none⟩) 7 7] 37) = W at *
  have hS := seq_of_blk kwL N0 (by rfl)
  obtain ⟨A, C, hP⟩ := prog_of (kinds1 (a := kwL) N1 hS) (by simp) (fun r hr => by simp at hr; rw [hr]; exact ⟨by simp [kwL], kwL_fit⟩)
  have hpf : progFault 1 (lenOf [kwL]) (xOf [kwL]) = 0 := (ver_of (by rw [kw_ck])).1
  have hT1 := hT.keeps k1
  refine (types_ok _ 1 1 A _ C _ 0 _ hT1 hP hpf (by omega)).mono ?_
  rintro e w2 ⟨g, vc, rfl, hb2, rows, hRf⟩
  have hlen : lenOf [kwL] 0 = 7 := rfl
  rw [hlen, kw_flow] at hRf
  rw [hlen]
  have b2 := b1.trans (hb2.mono b1.size)
  have k2 := Keeps.below hb2
  have hT2 := hT1.keeps k2
  have hS2 := hS.keeps k2
  have s2 := hb2.size
  clear hT hT1 k1 b1 N0 hS hP hb2 N1 k2
  obtain ⟨N3, k3, b3, s3⟩ := boxes1 w2 (.cells #[.slice (some ⟨w.heap.size, 0, none⟩) 7 7] 37)
  go_wp2_with fail
  generalize w2.alloc (.cells #[.slice (some ⟨w.heap.size, 0, none⟩) 7 7] 37) = W3 at *
  have hS3 := hS2.keeps k3
  have hT3 := hT2.keeps k3
  have hR3 := hRf.below b3
  obtain ⟨A3, C3, hP3⟩ := prog_of (kinds1 (a := kwL) N3 hS3) (by simp) (fun r hr => by simp at hr; rw [hr]; exact ⟨by simp [kwL], kwL_fit⟩)
  refine (vcheck_any _ 1 1 A3 _ C3 _ _ hT3 hP3).mono ?_
  rintro e w4 ⟨rfl, hb4⟩
  rw [kw_ck]
  have b4 := b2.trans ((b3.trans (hb4.mono b3.size)).mono b2.size)
  have hS4 := hS3.keeps (Keeps.below hb4)
  have hT4 := hT3.keeps (Keeps.below hb4)
  have hR4 := hR3.below hb4
  have hsz4 : w.heap.size < w4.heap.size := by have := hb4.size; omega
  clear hS3 hT3 hR3 hP3 N3 k3 b3 b2 hRf hS2 hT2 s3 hb4 s2 s1
  obtain ⟨N5, k5, b5, s5⟩ := boxes1 w4 (.cells #[.int .i64 13, .int .i64 2, .int .i64 5, .int .i64 0, .int .i64 13, .int .i64 1, .int .i64 5, .int .i64 0, .int .i64 11, .int .i64 2, .int .i64 3, .int .i64 0, .int .i64 15, .int .i64 2, .int .i64 0, .int .i64 0, .int .i64 8, .int .i64 0, .int .i64 5, .int .i64 0, .int .i64 17, .int .i64 6, .int .i64 4, .int .i64 0, .int .i64 12, .int .i64 6, .int .i64 7, .int .i64 0, .int .i64 14, .int .i64 4, .int .i64 6, .int .i64 0] 40)
  go_upto_region 5 with fail
  generalize hW5 : w4.alloc (.cells #[.int .i64 13, .int .i64 2, .int .i64 5, .int .i64 0, .int .i64 13, .int .i64 1, .int .i64 5, .int .i64 0, .int .i64 11, .int .i64 2, .int .i64 3, .int .i64 0, .int .i64 15, .int .i64 2, .int .i64 0, .int .i64 0, .int .i64 8, .int .i64 0, .int .i64 5, .int .i64 0, .int .i64 17, .int .i64 6, .int .i64 4, .int .i64 0, .int .i64 12, .int .i64 6, .int .i64 7, .int .i64 0, .int .i64 14, .int .i64 4, .int .i64 6, .int .i64 0] 40) = W5 at *
  have hS5 := hS4.keeps k5
  have hT5 := hT4.keeps k5
  have hR5 := hR4.below b5
  have hO5 := seq_of_blk kwOdd N5 (by rfl)
  have b6 := b4.trans (b5.mono b4.size)
  clear hW5 hS4 hT4 hR4 k5 b5 b4 N5
  obtain ⟨pb1, pb2⟩ := pick_bd (n := n) (many := 8) (by omega)
  obtain ⟨j, hj⟩ := Int.eq_ofNat_of_zero_le pb1
  have hj8 : j < 8 := by omega
  have hjz : (j : Int) < 8 := by omega
  obtain ⟨x, hx⟩ : ∃ x, kwOdd[j]? = some x := at_some (show j < kwOdd.length from hj8)
  have hxm := List.mem_of_getElem? hx
  have HX : Aside (x ∈ kwOdd ∧ pick n 8 = (j : Int)) := ⟨hxm, hj⟩
  obtain ⟨i0, i1, i2, i3⟩ := seq_cell4 hS5 (i := 6) (x := doneI) rfl
  obtain ⟨o0, o1, o2, o3⟩ := seq_cell4 hO5 hx
  simp only [Nat.zero_add] at o0 o1 o2 o3
  have hSof : ∀ w', Below W5.heap.size W5 w' → (w'.cell? ⟨w.heap.size, 24, none⟩ = some (.int .i64 0) ∧ w'.cell? ⟨w.heap.size, 25, none⟩ = some (.int .i64 0) ∧ w'.cell? ⟨w.heap.size, 26, none⟩ = some (.int .i64 0) ∧ w'.cell? ⟨w.heap.size, 27, none⟩ = some (.int .i64 0) ∧ w'.cell? ⟨w4.heap.size, j * 4, none⟩ = some (.int .i64 x.op) ∧ w'.cell? ⟨w4.heap.size, j * 4 + 1, none⟩ = some (.int .i64 x.a) ∧ w'.cell? ⟨w4.heap.size, j * 4 + 2, none⟩ = some (.int .i64 x.b) ∧ w'.cell? ⟨w4.heap.size, j * 4 + 3, none⟩ = some (.int .i64 x.n)) := fun w' hb' => ⟨Keeps.below hb' _ _ i0, Keeps.below hb' _ _ i1, Keeps.below hb' _ _ i2, Keeps.below hb' _ _ i3, Keeps.below hb' _ _ o0, Keeps.below hb' _ _ o1, Keeps.below hb' _ _ o2, Keeps.below hb' _ _ o3⟩
  clear i0 i1 i2 i3 o0 o1 o2 o3 hx hxm pb1 pb2 hj hO5
  have hmx : maxLen = 9223372036854775807 := rfl
  have hBd : Below W5.heap.size W5 W5.drew := (Below.refl _ _).drew
  refine wp_region_need (fun j => j != 15) (fun w' => w'.cell? ⟨w.heap.size, 24, none⟩ = some (.int .i64 0) ∧ w'.cell? ⟨w.heap.size, 25, none⟩ = some (.int .i64 0) ∧ w'.cell? ⟨w.heap.size, 26, none⟩ = some (.int .i64 0) ∧ w'.cell? ⟨w.heap.size, 27, none⟩ = some (.int .i64 0) ∧ w'.cell? ⟨w4.heap.size, j * 4, none⟩ = some (.int .i64 x.op) ∧ w'.cell? ⟨w4.heap.size, j * 4 + 1, none⟩ = some (.int .i64 x.a) ∧ w'.cell? ⟨w4.heap.size, j * 4 + 2, none⟩ = some (.int .i64 x.b) ∧ w'.cell? ⟨w4.heap.size, j * 4 + 3, none⟩ = some (.int .i64 x.n)) (by kernel_rfl) (hSof _ hBd) (fun hS => ?_)
  generalize W5.drew = wc0 at hS hBd ⊢
  refine wpAnyN_take (i := 0) (v := ?v1) rfl (by kernel_rfl) (by kernel_rfl) (by kernel_rfl) (by kernel_rfl) (fun _ _ _ h => h) (by rfl) ?hy1 hS ?rest1
  case hy1 => (intro wy hSy; (try dsimp only at hSy); go_simp; try (with_reducible rfl))
  simp only [Act.put, List.getElem_toArray, List.getElem_cons_zero, List.setIfInBounds_toArray, List.set_cons_zero, List.set_cons_succ]
  refine wpAnyN_take (i := 1) (v := ?v2) rfl (by kernel_rfl) (by kernel_rfl) (by kernel_rfl) (by kernel_rfl) (fun _ _ _ h => h) (by rfl) ?hy2 hS ?rest2
  case hy2 => (intro wy hSy; (try dsimp only at hSy); go_simp; try (with_reducible rfl))
  simp only [Act.put, List.getElem_toArray, List.getElem_cons_zero, List.getElem_cons_succ, List.setIfInBounds_toArray, List.set_cons_zero, List.set_cons_succ]
  refine wpAnyN_take (i := 3) (v := ?v3) rfl (by kernel_rfl) (by kernel_rfl) (by kernel_rfl) (by kernel_rfl) (fun _ _ _ h => h) (by rfl) ?hy3 hS ?rest3
  case hy3 => (intro wy hSy; (try dsimp only at hSy); go_simp; try (with_reducible rfl))
  simp only [Act.put, List.getElem_toArray, List.getElem_cons_zero, List.getElem_cons_succ, List.setIfInBounds_toArray, List.set_cons_zero, List.set_cons_succ]
  refine wpAnyN_take (i := 4) (v := ?v4) rfl (by kernel_rfl) (by kernel_rfl) (by kernel_rfl) (by kernel_rfl) (fun _ _ _ h => h) (by rfl) ?hy4 hS ?rest4
  case hy4 => (intro wy hSy; (try dsimp only at hSy); go_simp; try (with_reducible rfl))
  simp only [Act.put, List.getElem_toArray, List.getElem_cons_zero, List.getElem_cons_succ, List.setIfInBounds_toArray, List.set_cons_zero, List.set_cons_succ]
  refine wpAnyN_take (i := 5) (v := ?v5) rfl (by kernel_rfl) (by kernel_rfl) (by kernel_rfl) (by kernel_rfl) (fun _ _ _ h => h) (by rfl) ?hy5 hS ?rest5
  case hy5 => (intro wy hSy; (try dsimp only at hSy); go_simp; try (with_reducible rfl))
  simp only [Act.put, List.getElem_toArray, List.getElem_cons_zero, List.getElem_cons_succ, List.setIfInBounds_toArray, List.set_cons_zero, List.set_cons_succ]
  refine wpAnyN_take (i := 6) (v := ?v6) rfl (by kernel_rfl) (by kernel_rfl) (by kernel_rfl) (by kernel_rfl) (fun _ _ _ h => h) (by rfl) ?hy6 hS ?rest6
  case hy6 => (intro wy hSy; (try dsimp only at hSy); go_simp; try (with_reducible rfl))
  simp only [Act.put, List.getElem_toArray, List.getElem_cons_zero, List.getElem_cons_succ, List.setIfInBounds_toArray, List.set_cons_zero, List.set_cons_succ]
  refine wpAnyN_take (i := 10) (v := ?v7) rfl (by kernel_rfl) (by kernel_rfl) (by kernel_rfl) (by kernel_rfl) (fun _ _ _ h => h) (by rfl) ?hy7 hS ?rest7
  case hy7 => (intro wy hSy; (try dsimp only at hSy); go_simp; try (with_reducible rfl))
  simp only [Act.put, List.getElem_toArray, List.getElem_cons_zero, List.getElem_cons_succ, List.setIfInBounds_toArray, List.set_cons_zero, List.set_cons_succ]
  refine wpAnyN_take (i := 11) (v := ?v8) rfl (by kernel_rfl) (by kernel_rfl) (by kernel_rfl) (by kernel_rfl) (fun _ _ _ h => h) (by rfl) ?hy8 hS ?rest8
  case hy8 => (intro wy hSy; (try dsimp only at hSy); go_simp; try (with_reducible rfl))
  simp only [Act.put, List.getElem_toArray, List.getElem_cons_zero, List.getElem_cons_succ, List.setIfInBounds_toArray, List.set_cons_zero, List.set_cons_succ]
  refine wpAnyN_take (i := 12) (v := ?v9) rfl (by kernel_rfl) (by kernel_rfl) (by kernel_rfl) (by kernel_rfl) (fun _ _ _ h => h) (by rfl) ?hy9 hS ?rest9
  case hy9 => (intro wy hSy; (try dsimp only at hSy); go_simp; try (with_reducible rfl))
  simp only [Act.put, List.getElem_toArray, List.getElem_cons_zero, List.getElem_cons_succ, List.setIfInBounds_toArray, List.set_cons_zero, List.set_cons_succ]
  refine wpAnyN_one (i := 2) (by kernel_rfl) rfl (fun K hK => ?_)
  simp only [List.getElem_toArray, List.getElem_cons_zero, List.getElem_cons_succ]
  go_simp
  refine (cloneIns_any (kwL.take 6) w.heap.size 0 7 wc0 (seq_take (hS5.keeps (Keeps.below hBd)) 6) (by decide) (by decide)).mono ?_
  rintro e wc1 ⟨g1, cap1, rfl, hC, hbn⟩
  have hC1 : SeqOwn fIns 4 40 wc1 W5.heap.size (.slice (some ⟨g1, 0, none⟩) 6 cap1) (kwL.take 6) := hC.le hBd.size
  have hB1 := hBd.trans (hbn.mono hBd.size)
  clear hC hbn hBd
  refine hK.out _ _ (fun _ => hSof _ hB1) ?_
  clear hK
  replace hS := hSof _ hB1
  try simp only [Act.put, List.getElem_toArray, List.getElem_cons_zero, List.getElem_cons_succ, List.setIfInBounds_toArray, List.set_cons_zero, List.set_cons_succ]
  refine wpAnyN_one (i := 7) (by kernel_rfl) rfl (fun K hK => ?_)
  simp only [List.getElem_toArray, List.getElem_cons_zero, List.getElem_cons_succ]
  go_simp
  refine (picked_any n 8 _ hn.1 hn.2 (by omega) (by omega)).mono ?_
  rintro e w' ⟨rfl, rfl⟩
  rw [HX.out.2]
  refine hK.out _ _ (fun _ => hSof _ hB1) ?_
  clear hK
  replace hS := hSof _ hB1
  try simp only [Act.put, List.getElem_toArray, List.getElem_cons_zero, List.getElem_cons_succ, List.setIfInBounds_toArray, List.set_cons_zero, List.set_cons_succ]
  refine wpAnyN_take (i := 8) (v := ?v10) rfl (by kernel_rfl) (by kernel_rfl) (by kernel_rfl) (by kernel_rfl) (fun _ _ _ h => h) (by rfl) ?hy10 hS ?rest10
  case hy10 => (intro wy hSy; (try dsimp only at hSy); go_simp; try (with_reducible rfl))
  simp only [Act.put, List.getElem_toArray, List.getElem_cons_zero, List.getElem_cons_succ, List.setIfInBounds_toArray, List.set_cons_zero, List.set_cons_succ]
  refine wpAnyN_take (i := 9) (v := ?v11) rfl (by kernel_rfl) (by kernel_rfl) (by kernel_rfl) (by kernel_rfl) (fun _ _ _ h => h) (by rfl) ?hy11 hS ?rest11
  case hy11 => (intro wy hSy; (try dsimp only at hSy); go_simp; try (with_reducible rfl))
  simp only [Act.put, List.getElem_toArray, List.getElem_cons_zero, List.getElem_cons_succ, List.setIfInBounds_toArray, List.set_cons_zero, List.set_cons_succ]
  refine wpAnyN_one (i := 13) (by kernel_rfl) rfl (fun K hK => ?_)
  simp only [List.getElem_toArray, List.getElem_cons_zero, List.getElem_cons_succ]
  go_simp
  have hD3 : SeqAt fIns 4 (wc1.alloc (Obj.cells #[.int .i64 x.op, .int .i64 x.a, .int .i64 x.b, .int .i64 x.n, .int .i64 0, .int .i64 0, .int .i64 0, .int .i64 0] 40)) (some ⟨wc1.heap.size, 0, none⟩) [x, doneI] := seqIns_new2 wc1 x doneI 40 wc1.heap.size rfl
  have hbn := below_box wc1 (Obj.cells #[.int .i64 x.op, .int .i64 x.a, .int .i64 x.b, .int .i64 x.n, .int .i64 0, .int .i64 0, .int .i64 0, .int .i64 0] 40)
  generalize wc1.alloc (Obj.cells #[.int .i64 x.op, .int .i64 x.a, .int .i64 x.b, .int .i64 x.n, .int .i64 0, .int .i64 0, .int .i64 0, .int .i64 0] 40) = wc3 at hD3 hbn ⊢
  have hC3 := hC1.below hbn
  have hB3 := hB1.trans (hbn.mono hB1.size)
  clear hC1 hbn hB1
  generalize wc1.heap.size = GB at hD3 ⊢
  refine hK.out _ _ (fun _ => hSof _ hB3) ?_
  clear hK
  replace hS := hSof _ hB3
  try simp only [Act.put, List.getElem_toArray, List.getElem_cons_zero, List.getElem_cons_succ, List.setIfInBounds_toArray, List.set_cons_zero, List.set_cons_succ]
  refine wpAnyN_one (i := 14) (by kernel_rfl) rfl (fun K hK => ?_)
  refine step_seq Tryd.rowIns (by rfl) _ _ (by rfl) (v := .slice (some ⟨g1, 0, none⟩) 6 cap1) (by rfl) hC3 hB3.size [x, doneI] (some ⟨GB, 0, none⟩) 2 (by rfl) hD3 (by simp) (by simp [kwL]) (by simp [kwL, hmx]) ?_
  rintro g2 cap2 wc4 hO4 _ hbn _
  have hB4 := hB3.trans hbn
  clear hC3 hD3 hbn hB3
  rw [show (kwL.take 6).length + [x, doneI].length = 8 from rfl] at hO4
  rw [show (kwL.take 6).length + [x, doneI].length = 8 from rfl]
  refine hK.out _ _ (fun _ => hSof _ hB4) ?_
  clear hK
  replace hS := hSof _ hB4
  try simp only [Act.put, List.getElem_toArray, List.getElem_cons_zero, List.getElem_cons_succ, List.setIfInBounds_toArray, List.set_cons_zero, List.set_cons_succ]
  refine wpAnyN_one (i := 15) (by kernel_rfl) rfl (fun K hK => ?_)
  simp only [List.getElem_toArray, List.getElem_cons_zero, List.getElem_cons_succ]
  go_simp
  refine hK.out _ _ (fun h => absurd h (by decide)) ?_
  clear hK
  refine wpAnyN_done (by kernel_rfl) ?_ _
  refine NoPanic.normal ?_
  try simp only [Act.put, List.getElem_toArray, List.getElem_cons_zero, List.getElem_cons_succ, List.setIfInBounds_toArray, List.set_cons_zero, List.set_cons_succ]
  replace hO4 : SeqAt fIns 4 wc4 (some ⟨g2, 0, none⟩) (kwBad x) := hO4.at Tryd.rowIns.len
  have hT6 := hT5.keeps (Keeps.below hB4)
  have hR6 := hR5.below hB4
  have b7 := b6.trans (hB4.mono b6.size)
  clear hS hSof hT5 hR5 hS5 hB4 b6 s5 hsz4 hmx
  obtain ⟨M0, M1, k7, b8, s8⟩ := boxes2 wc4 (Obj.cells #[.int .i64 0, .int .i64 0, .int .i64 0, .int .i64 0] 40) (Obj.cells #[.slice (some ⟨wc4.heap.size, 0, none⟩) 1 1, .slice (some ⟨g2, 0, none⟩) 8 cap2] 37)
  go_wp2_with fail
  generalize (wc4.alloc (Obj.cells #[.int .i64 0, .int .i64 0, .int .i64 0, .int .i64 0] 40)).alloc (Obj.cells #[.slice (some ⟨wc4.heap.size, 0, none⟩) 1 1, .slice (some ⟨g2, 0, none⟩) 8 cap2] 37) = W8 at *
  have hD8 := seq_of_blk [doneI] M0 (by rfl)
  obtain ⟨A8, C8, hP8⟩ := prog_of (kinds2 (a := [doneI]) (b := kwBad x) M1 hD8 (hO4.keeps k7)) (by simp) (kwBad_fit HX.out.1)
  refine (vcheck_any _ 2 2 A8 _ C8 _ _ (hT6.keeps k7) hP8).mono ?_
  rintro e w9 ⟨rfl, hb9⟩
  rw [kw_bad x HX.out.1]
  have hR9 := (hR6.below b8).below hb9
  have b10 := b7.trans ((b8.trans (hb9.mono b8.size)).mono b7.size)
  clear hR6 b8 hb9 b7 hP8 hD8 M0 M1 k7 hT6 hO4
  obtain ⟨r1b, r1o, r1c, c1, d1⟩ := hR9.reg (i := 1) rfl rfl
  obtain ⟨r3b, r3o, r3c, c3, d3⟩ := hR9.reg (i := 3) rfl rfl
  obtain ⟨r6b, r6o, r6c, c6, d6⟩ := hR9.reg (i := 6) rfl rfl
  have e12 : w9.cell? ⟨r1b, r1o + 2, none⟩ = some (.int .i64 3) := d1 2 (by omega)
  have e33 : w9.cell? ⟨r3b, r3o + 3, none⟩ = some (.int .i64 0) := d3 3 (by omega)
  have e32 : w9.cell? ⟨r3b, r3o + 2, none⟩ = some (.int .i64 3) := d3 2 (by omega)
  have e62 : w9.cell? ⟨r6b, r6o + 2, none⟩ = some (.int .i64 2) := d6 2 (by omega)
  have e64 : w9.cell? ⟨r6b, r6o + 4, none⟩ = some (.int .i64 2) := d6 4 (by omega)
  have e65 : w9.cell? ⟨r6b, r6o + 5, none⟩ = some (.int .i64 1) := d6 5 (by omega)
  have e61 : w9.cell? ⟨r6b, r6o + 1, none⟩ = some (.int .i64 0) := d6 1 (by omega)
  have e60 : w9.cell? ⟨r6b, r6o, none⟩ = some (.int .i64 3) := d6 0 (by omega)
  clear d1 d3 d6 hR9
  go_wp2_with fail
  go_ret
  exact ⟨ret_bool (by simp), b10⟩

end Go.Proofs.YtahcgnmhhgcfmaaDoor
