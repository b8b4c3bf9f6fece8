/- For every input the law TransferSame answers true and leaves its arguments as they were. -/
import Derived.Test.YtbifdcchdoflpadRows
import Derived.Test.YtbifdcchdoflpadHOpen
import Derived.Test.YtbifdcchdoflpadHTransferSameW
import Derived.Test.YtbifdcchdoflpadHRawOpen
import Derived.ProofKit
import Derived.SizedLaws
namespace Go.Proofs.Ytbifdcchdoflpad
open Go.ChangeShapes Go.WideShapes Go.ChangeAt Go.RowKit Go.Deep

set_option maxHeartbeats 1600000 in
set_option maxRecDepth 100000 in
theorem transferSame_lifted (os : Os) (started : os.Started) (H : Type) (enc : TypeId × Value → H) :
    ReturnsInHanded {} Try.checked os 3 .any (Rows.transferSameSpec.pre6 enc Try.prog Try.f3 Rows.transferSameRow.domain false) (Rows.transferSameSpec.post enc Try.prog Try.f3 false true false false) := by
  refine returnsInHanded_of_change_sized (C := Try.checked) Try.own started (by kernel_rfl) Try.func3
    (ChangeSpec.witness6 (enc := enc) (C := Try.checked) false ⟨#[], #[.slice none 0 0, .slice none 0 0, .int .i64 0, .bool false], []⟩ 8 (by kernel_rfl) (by kernel_rfl) (by kernel_rfl) (by kernel_rfl)) ?_
  intro W base args ds gs before hval0 hW _ hsz0 _
  have hsz : (DataW.weightsEach Try.prog (Try.f3.params.toList ++ Rows.transferSameSpec.plain.varTypes Try.prog) (ds ++ gs)).all (· ≤ reachBytes) = true := hsz0
  clear hsz0
  have hval : ∀ (j : Nat) t v, Try.f3.params[j]? = some t → args[j]? = some v → Value.okWide Try.prog W .any base t v := hval0
  have hW' := hW
  obtain ⟨p, q, hA0, hV, rfl, hfz, _⟩ := hW
  have hA : DataW.TrodAll enc Try.prog W 0 (fun _ => true) true Try.f3.params.toList args.toList ds p := hA0
  rw [Try.params3] at hA hval hsz
  have hAk : DataW.TrodAll enc Try.prog W 0 (fun _ => true) true [22, 22, 3, 4] args.toList ds p := hA
  obtain ⟨rfl, rfl⟩ := trodVars_none hV
  clear hA0 hval0 hV
  simp only [List.append_nil] at hW' hfz hsz
  have hlt : ∀ x ∈ p, x.block < W.heap.size := fun x hx => hW'.lt x (by simp [hx])
  have hAc := hAk
  obtain ⟨v0, vs0, d0, ds0, p0, q0, hargs, hds, hps, h0, hAc⟩ := trodAll_cons hAc
  obtain ⟨v1, vs1, d1, ds1, p1, q1, rfl, rfl, rfl, h1, hAc⟩ := trodAll_cons hAc
  obtain ⟨v2, vs2, d2, ds2, p2, q2, rfl, rfl, rfl, h2, hAc⟩ := trodAll_cons hAc
  obtain ⟨v3, vs3, d3, ds3, p3, q3, rfl, rfl, rfl, h3, hAc⟩ := trodAll_cons hAc
  obtain ⟨rfl, rfl, rfl⟩ := trodAll_nil hAc
  obtain rfl : args = #[v0, v1, v2, v3] := by cases args; simp_all
  subst hds
  clear hAc hargs
  obtain ⟨_, _, _, _, _, _, T⟩ := types
  obtain ⟨_, _, _, _, TR⟩ := rawTypes
  have hw0 : ∀ n ∈ d0.weights Try.prog 22, n ≤ reachBytes := fun n hn => of_decide_eq_true (List.all_eq_true.1 hsz n (DataW.weights_mem_each (j := 0) (t := 22) rfl rfl n hn))
  have hw1 : ∀ n ∈ d1.weights Try.prog 22, n ≤ reachBytes := fun n hn => of_decide_eq_true (List.all_eq_true.1 hsz n (DataW.weights_mem_each (j := 1) (t := 22) rfl rfl n hn))
  obtain ⟨a0, l0, c0, rfl, hp0, _⟩ := open_raws TR (hval 0 22 v0 rfl rfl) h0 hw0
  obtain ⟨a1, l1, c1, rfl, hp1, _⟩ := open_raws TR (hval 1 22 v1 rfl rfl) h1 hw1
  obtain ⟨n2, rfl, hi2⟩ := open_num T (hval 2 3 v2 rfl rfl) h2
  obtain ⟨b3, rfl⟩ := okWide_bool Try.underlying4 (hval 3 4 v3 rfl rfl)
  refine (transferSame_walk a0 c0 l0 a1 c1 l1 n2 b3 W hp0 hp1 hi2).mono fun e W' ⟨he, hb⟩ => ?_
  subst he
  refine ⟨_, rfl, ?_⟩
  have ARG : DataW.TrodAll enc Try.prog W' 0 (fun x => decide (x < W.heap.size)) true [22, 22, 3, 4] _ _ p :=
    trodAll_stays Try.laidOut hAk (fun t ht => by
      have hall : ([22, 22, 3, 4].all fun u => Try.prog.readableRec u && decide (u < Try.prog.types.size)) = true := by kernel_rfl
      simpa using List.all_eq_true.1 hall t ht) (fun x hx => hb.same (hlt x hx)) (fun x hx => by simpa using hlt x hx)
  refine ⟨_, _, _, [], p, [], hW', trodAll_mk1 (shut_bool Try.underlying4 true), ARG, rfl, hb.frame _, fun h => by cases h⟩

theorem transferSame_holds : Rows.TransferSameSaid :=
  OpenClaim.holds_of_wide 3 Try.f3 rfl rfl rfl rfl rfl rfl rfl ⟨rfl, rfl, rfl, rfl, rfl⟩ rfl rfl rfl rfl rfl (by kernel_rfl) Try.func3 (by kernel_rfl)
    (of_decide_eq_true (by kernel_rfl)) (by unfold Func.isWrapper; rw [if_neg (of_decide_eq_false (by kernel_rfl))]; exact ⟨rfl, rfl⟩)
    (fun os started H enc _ => transferSame_lifted os started H enc)

#print axioms transferSame_holds
end Go.Proofs.Ytbifdcchdoflpad
