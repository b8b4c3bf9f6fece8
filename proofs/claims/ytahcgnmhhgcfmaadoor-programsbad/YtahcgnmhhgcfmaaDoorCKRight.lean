/- The walk of right: is code verified, with an end? -/
import Derived.Test.YtahcgnmhhgcfmaaDoorCKInstr
import Derived.Test.YtahcgnmhhgcfmaaDoorCProgL
import Derived.Test.YtahcgnmhhgcfmaaDoorCVCheck
namespace Go.Proofs.YtahcgnmhhgcfmaaDoor
open Go.RowKit

theorem seqIns_new (w : World) (x : Ins) (t : TypeId) (B : Nat) (hB : B = w.heap.size) : SeqAt fIns 4 (w.alloc (.cells #[.int .i64 x.op, .int .i64 x.a, .int .i64 x.b, .int .i64 x.n] t)) (some ⟨B, 0, none⟩) [x] := fun i y hy => by
  match i, hy with
  | 0, hy =>
    simp at hy
    subst hy
    refine ⟨B, 0, rfl, fun j u hu => ?_⟩
    rw [cellBlk (by rw [hB]; exact Deep.blk_alloc_new w _)]
    simpa [fIns] using hu
  | i + 1, hy => simp at hy

theorem insFit_of {x : Ins} (h : insB1 x) : insFit x := fun f hf => by
  obtain ⟨h1, h2, h3, h4⟩ := h
  match f, hf with
  | 0, _ => show -9223372036854775808 ≤ x.op ∧ x.op ≤ 9223372036854775807; omega
  | 1, _ => show -9223372036854775808 ≤ x.a ∧ x.a ≤ 9223372036854775807; omega
  | 2, _ => show -9223372036854775808 ≤ x.b ∧ x.b ≤ 9223372036854775807; omega
  | 3, _ => show -9223372036854775808 ≤ x.n ∧ x.n ≤ 9223372036854775807; omega

theorem done_bd : insB1 doneI := by unfold insB1 doneI; simp

/-- Three behaviors whose slices lie in a row. -/
theorem kinds3 {w : World} {B : Nat} {a b c : List Ins} {aa ba ca : Option Addr} {ac bc cc : Nat} {t : TypeId} (h : w.heap[B]? = some (.cells #[.slice aa a.length ac, .slice ba b.length bc, .slice ca c.length cc] t (0, 0))) (ha : SeqAt fIns 4 w aa a) (hb : SeqAt fIns 4 w ba b) (hc : SeqAt fIns 4 w ca c) : KindsAt w (some ⟨B, 0, none⟩) [a, b, c] := fun r l hl => by
  match r, hl with
  | 0, hl => simp at hl; subst hl; exact ⟨B, 0, aa, ac, rfl, by rw [cellBlk h]; rfl, ha⟩
  | 1, hl => simp at hl; subst hl; exact ⟨B, 0, ba, bc, rfl, by rw [cellBlk h]; rfl, hb⟩
  | 2, hl => simp at hl; subst hl; exact ⟨B, 0, ca, cc, rfl, by rw [cellBlk h]; rfl, hc⟩
  | r + 3, hl => simp at hl

set_option maxRecDepth 100000 in
set_option maxHeartbeats 1000000 in
theorem right_any (l : List Ins) (la : Option Addr) (lc : Nat) (w : World) (hS : SeqAt fIns 4 w la l) (hl : l.length ≤ 1000) (hbd : ∀ x ∈ l, insB1 x) (hT : TabAt 0 w) :
    Calls Tryd.prog 45 #[.slice la l.length lc] w fun e w' => e = .returned (.bool (rightS l)) ∧ Below w.heap.size w w' := by
  obtain ⟨R, hR⟩ : ∃ R, R = rightS l := ⟨_, rfl⟩
  have HR : Aside (R = rightS l) := hR
  rw [← hR]
  clear hR
  go_enter Tryd.func45, Tryd.ntmps45
  go_upto_region 2 with fail
  obtain ⟨N0, k1, b1, s1⟩ := boxes1 w (Obj.cells #[.int .i64 0, .int .i64 0, .int .i64 0, .int .i64 0] 40)
  have hD := seqIns_new w doneI 40 w.heap.size rfl
  have hD1 : SeqAt fIns 4 (w.alloc (Obj.cells #[.int .i64 0, .int .i64 0, .int .i64 0, .int .i64 0] 40)) (some ⟨w.heap.size, 0, none⟩) [doneI] := hD
  clear hD
  generalize w.alloc (Obj.cells #[.int .i64 0, .int .i64 0, .int .i64 0, .int .i64 0] 40) = W at *
  have hsq := hS.keeps k1
  have hmx : maxLen = 9223372036854775807 := rfl
  go_wp2_with (first
    | (at_builtin; refine wpList_seqCopy Tryd.rowIns rfl _ _ (by rfl) (by rfl) l la lc (by simp [Act.eval]) hsq (by omega) (by omega) ?_; rintro va vc w2 hO hb2; have hO2 := hO.below (below_box w2 (Obj.cells #[.int .i64 0, .int .i64 0, .int .i64 0, .int .i64 0] 40)); have hsz2 := hb2.size; have hD2 := seqIns_new w2 doneI 40 w2.heap.size rfl)
    | (at_builtin; refine wpList_seq Tryd.rowIns rfl _ _ (by rfl) (v := .slice va l.length vc) (by simp [Act.eval]) hO2 (by simp; omega) [doneI] (some ⟨w2.heap.size, 0, none⟩) 1 (by simp [Act.eval]) hD2 (by simp) (by simp; omega) (by simp; omega) ?_; rintro g cap w3 hO3 hg3 hb3 hg4)
    | fail)
  clear hO hO2 hD2 hg3 hg4
  have hbA : Below W.heap.size W w3 := (hb2.trans ((below_box w2 _).mono hsz2)).trans hb3
  clear hb2 hb3
  obtain ⟨N3, k3, b3, s3⟩ := boxes1 w3 (Obj.cells #[.slice (some ⟨g, 0, none⟩) (l.length + 1) cap, .slice (some ⟨w.heap.size, 0, none⟩) 1 1, .slice (some ⟨w.heap.size, 0, none⟩) 1 1] 37)
  have hD3 := (hD1.keeps (Keeps.below hbA)).keeps k3
  have hO4 := (hO3.at Tryd.rowIns.len).keeps k3
  have hT3 := ((hT.keeps k1).keeps (Keeps.below hbA)).keeps k3
  have hbB : Below w.heap.size w (w3.alloc (Obj.cells #[.slice (some ⟨g, 0, none⟩) (l.length + 1) cap, .slice (some ⟨w.heap.size, 0, none⟩) 1 1, .slice (some ⟨w.heap.size, 0, none⟩) 1 1] 37)) := (b1.trans (hbA.mono b1.size)).trans (b3.mono (Nat.le_trans b1.size hbA.size))
  clear hO3 hD1 hbA k1 b1 k3 b3 s3 hsq hT hS
  generalize w3.alloc (Obj.cells #[.slice (some ⟨g, 0, none⟩) (l.length + 1) cap, .slice (some ⟨w.heap.size, 0, none⟩) 1 1, .slice (some ⟨w.heap.size, 0, none⟩) 1 1] 37) = W3 at *
  have e1 : (l ++ [doneI]).length = l.length + 1 := by simp
  have N4 : W3.heap[w3.heap.size]? = some (.cells #[.slice (some ⟨g, 0, none⟩) (l ++ [doneI]).length cap, .slice (some ⟨w.heap.size, 0, none⟩) [doneI].length 1, .slice (some ⟨w.heap.size, 0, none⟩) [doneI].length 1] 37 (0, 0)) := by rw [e1]; exact N3
  obtain ⟨A, C, hP⟩ := prog_of (kinds3 N4 hO4 hD3 hD3) (by simp) (fun r hr => by
    have h1 : insFit doneI := insFit_of done_bd
    simp at hr
    rcases hr with rfl | rfl
    · refine ⟨by simp; omega, fun x hx => ?_⟩
      simp at hx
      rcases hx with hx | rfl
      · exact insFit_of (hbd x hx)
      · exact h1
    · exact ⟨by simp, fun x hx => by simp at hx; rw [hx]; exact h1⟩)
  clear N3 N4 hD3 hO4 e1
  refine (vcheck_any _ 3 3 A _ C _ _ hT3 hP).mono ?_
  rintro e w4 ⟨rfl, hb4⟩
  have HR2 : Aside (R = decide ((ckS 3 (lenOf [l ++ [doneI], [doneI], [doneI]]) (xOf [l ++ [doneI], [doneI], [doneI]])).2.2 = 0)) := HR.out
  clear hP hT3 hbd HR
  generalize ckS 3 (lenOf [l ++ [doneI], [doneI], [doneI]]) (xOf [l ++ [doneI], [doneI], [doneI]]) = K at *
  have hbC := hbB.trans (hb4.mono hbB.size)
  clear hbB hb4
  have hK : (K.2.2 == 0) = R := by rw [HR2.out]; by_cases h : K.2.2 = 0 <;> simp [h]
  go_wp2
  exact bodyPost_ret (v := .bool R) (by simp [results, Tryd.results45, go_sem]) rfl ⟨rfl, hbC⟩

end Go.Proofs.YtahcgnmhhgcfmaaDoor
