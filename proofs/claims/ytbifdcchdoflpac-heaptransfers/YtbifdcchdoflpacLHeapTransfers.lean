/- For every input the law HeapTransfers answers true and leaves its arguments as they were. -/
import Derived.Test.YtbifdcchdoflpacRows
import Derived.Test.YtbifdcchdoflpacHOpen
import Derived.Test.YtbifdcchdoflpacHTransfersW
import Derived.ProofKit
import Derived.SizedLaws
namespace Go.Proofs.Ytbifdcchdoflpac
open Go.ChangeShapes Go.WideShapes Go.ChangeAt Go.RowKit Go.Deep

set_option maxHeartbeats 1600000 in
set_option maxRecDepth 100000 in
theorem heapTransfers_lifted (os : Os) (started : os.Started) (H : Type) (enc : TypeId × Value → H) :
    ReturnsInHanded {} Try.checked os 4 .any (Rows.heapTransfersSpec.pre6 enc Try.prog Try.f4 Rows.heapTransfersRow.domain false) (Rows.heapTransfersSpec.post enc Try.prog Try.f4 false true false false) := by
  refine returnsInHanded_of_change_sized (C := Try.checked) Try.own started (by kernel_rfl) Try.func4
    (ChangeSpec.witness6 (enc := enc) (C := Try.checked) false ⟨#[], #[.agg #[.int .i64 0, .slice none 0 0], .agg #[.int .i64 0, .int .i64 0], .agg #[.int .i64 0, .slice none 0 0], .bool false], []⟩ 8 (by kernel_rfl) (by kernel_rfl) (by kernel_rfl) (by kernel_rfl)) ?_
  intro W base args ds gs before hval0 hW _ hsz0 _
  have hsz : (DataW.weightsEach Try.prog (Try.f4.params.toList ++ Rows.heapTransfersSpec.plain.varTypes Try.prog) (ds ++ gs)).all (· ≤ reachBytes) = true := hsz0
  clear hsz0
  have hval : ∀ (j : Nat) t v, Try.f4.params[j]? = some t → args[j]? = some v → Value.okWide Try.prog W .any base t v := hval0
  have hW' := hW
  obtain ⟨p, q, hA0, hV, rfl, hfz, _⟩ := hW
  have hA : DataW.TrodAll enc Try.prog W 0 (fun _ => true) true Try.f4.params.toList args.toList ds p := hA0
  rw [Try.params4] at hA hval hsz
  have hAk : DataW.TrodAll enc Try.prog W 0 (fun _ => true) true [24, 34, 24, 4] args.toList ds p := hA
  obtain ⟨rfl, rfl⟩ := trodVars_none hV
  clear hA0 hval0 hV
  simp only [List.append_nil] at hW' hfz hsz
  have hlt : ∀ x ∈ p, x.block < W.heap.size := fun x hx => hW'.lt x (by simp [hx])
  have hAc := hAk
  obtain ⟨v0, vs0, d0, ds0, p0, q0, hargs, hds, hps, h0, hAc⟩ := trodAll_cons hAc
  obtain ⟨v1, vs1, d1, ds1, p1, q1, rfl, rfl, rfl, h1, hAc⟩ := trodAll_cons hAc
  obtain ⟨v2, vs2, d2, ds2, p2, q2, rfl, rfl, rfl, h2, hAc⟩ := trodAll_cons hAc
  obtain ⟨v3, vs3, d3, ds3, p3, q3, rfl, rfl, rfl, h3, hAc⟩ := trodAll_cons hAc
  obtain ⟨rfl, rfl, rfl⟩ := trodAll_nil hAc
  obtain rfl : args = #[v0, v1, v2, v3] := by cases args; simp_all
  subst hds
  clear hAc hargs
  obtain ⟨_, _, _, _, _, _, T⟩ := types
  have hw0 : ∀ n ∈ d0.weights Try.prog 24, n ≤ reachBytes := fun n hn => of_decide_eq_true (List.all_eq_true.1 hsz n (DataW.weights_mem_each (j := 0) (t := 24) rfl rfl n hn))
  have hw2 : ∀ n ∈ d2.weights Try.prog 24, n ≤ reachBytes := fun n hn => of_decide_eq_true (List.all_eq_true.1 hsz n (DataW.weights_mem_each (j := 2) (t := 24) rfl rfl n hn))
  obtain ⟨M0, a0, l0, c0, rfl, hp0⟩ := open_heap T (hval 0 24 v0 rfl rfl) h0 hw0
  obtain ⟨⟨k1, n1⟩, rfl⟩ := open_value T (hval 1 34 v1 rfl rfl) h1
  obtain ⟨M2, a2, l2, c2, rfl, hp2⟩ := open_heap T (hval 2 24 v2 rfl rfl) h2 hw2
  obtain ⟨b3, rfl⟩ := okWide_bool Try.underlying4 (hval 3 4 v3 rfl rfl)
  refine (heapTransfers_walk M0 a0 c0 l0 k1 n1 M2 a2 c2 l2 b3 W hp0 hp2).mono fun e W' ⟨he, hb⟩ => ?_
  subst he
  refine ⟨_, rfl, ?_⟩
  have ARG : DataW.TrodAll enc Try.prog W' 0 (fun x => decide (x < W.heap.size)) true [24, 34, 24, 4] _ _ p :=
    trodAll_stays Try.laidOut hAk (fun t ht => by
      have hall : ([24, 34, 24, 4].all fun u => Try.prog.readableRec u && decide (u < Try.prog.types.size)) = true := by kernel_rfl
      simpa using List.all_eq_true.1 hall t ht) (fun x hx => hb.same (hlt x hx)) (fun x hx => by simpa using hlt x hx)
  refine ⟨_, _, _, [], p, [], hW', trodAll_mk1 (shut_bool Try.underlying4 true), ARG, rfl, hb.frame _, fun h => by cases h⟩

theorem heapTransfers_holds : Rows.HeapTransfersSaid :=
  OpenClaim.holds_of_wide 4 Try.f4 rfl rfl rfl rfl rfl rfl rfl ⟨rfl, rfl, rfl, rfl, rfl⟩ rfl rfl rfl rfl rfl (by kernel_rfl) Try.func4 (by kernel_rfl)
    (of_decide_eq_true (by kernel_rfl)) (by unfold Func.isWrapper; rw [if_neg (of_decide_eq_false (by kernel_rfl))]; exact ⟨rfl, rfl⟩)
    (fun os started H enc _ => heapTransfers_lifted os started H enc)

#print axioms heapTransfers_holds
end Go.Proofs.Ytbifdcchdoflpac
