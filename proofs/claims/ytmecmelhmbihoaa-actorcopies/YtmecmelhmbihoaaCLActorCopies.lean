/- For every input the law ActorCopies answers true and leaves its arguments as they were. -/
import Derived.Test.YtmecmelhmbihoaaRows
import Derived.Test.YtmecmelhmbihoaaCHOpen
import Derived.Test.YtmecmelhmbihoaaCActorCopiesW
import Derived.Test.YtmecmelhmbihoaaCWOpen
import Derived.ProofKit
import Derived.SizedLaws
namespace Go.Proofs.Ytmecmelhmbihoaa
open Go.ChangeShapes Go.WideShapes Go.ChangeAt Go.RowKit Go.Deep

set_option maxHeartbeats 1600000 in
set_option maxRecDepth 100000 in
theorem actorCopies_lifted (os : Os) (started : os.Started) (H : Type) (enc : TypeId × Value → H) :
    ReturnsInHanded {} Try.checked os 3 .any (Rows.actorCopiesSpec.pre6 enc Try.prog Try.f3 Rows.actorCopiesRow.domain false) (Rows.actorCopiesSpec.post enc Try.prog Try.f3 false true false false) := by
  refine returnsInHanded_of_change_sized (C := Try.checked) Try.own started (by kernel_rfl) Try.func3
    (ChangeSpec.witness6 (enc := enc) (C := Try.checked) false ⟨#[], #[.agg #[.slice none 0 0, .slice none 0 0]], []⟩ 8 (by kernel_rfl) (by kernel_rfl) (by kernel_rfl) (by kernel_rfl)) ?_
  intro W base args ds gs before hval0 hW _ hsz0 _
  have hsz : (DataW.weightsEach Try.prog (Try.f3.params.toList ++ Rows.actorCopiesSpec.plain.varTypes Try.prog) (ds ++ gs)).all (· ≤ reachBytes) = true := hsz0
  clear hsz0
  have hval : ∀ (j : Nat) t v, Try.f3.params[j]? = some t → args[j]? = some v → Value.okWide Try.prog W .any base t v := hval0
  have hW' := hW
  obtain ⟨p, q, hA0, hV, rfl, hfz, _⟩ := hW
  have hA : DataW.TrodAll enc Try.prog W 0 (fun _ => true) true Try.f3.params.toList args.toList ds p := hA0
  rw [Try.params3] at hA hval hsz
  have hAk : DataW.TrodAll enc Try.prog W 0 (fun _ => true) true [25] args.toList ds p := hA
  obtain ⟨rfl, rfl⟩ := trodVars_none hV
  clear hA0 hval0 hV
  simp only [List.append_nil] at hW' hfz hsz
  have hlt : ∀ x ∈ p, x.block < W.heap.size := fun x hx => hW'.lt x (by simp [hx])
  have hAc := hAk
  obtain ⟨v0, vs0, d0, ds0, p0, q0, hargs, hds, hps, h0, hAc⟩ := trodAll_cons hAc
  obtain ⟨rfl, rfl, rfl⟩ := trodAll_nil hAc
  obtain rfl : args = #[v0] := by cases args; simp_all
  subst hds
  clear hAc hargs
  obtain ⟨_, _, _, _, _, _, T⟩ := types
  obtain ⟨_, _, _, _, _, _, _, _, _, _, _, TW⟩ := worldTypes
  have hw0 : ∀ n ∈ d0.weights Try.prog 25, n ≤ reachBytes := fun n hn => of_decide_eq_true (List.all_eq_true.1 hsz n (DataW.weights_mem_each (j := 0) (t := 25) rfl rfl n hn))
  obtain ⟨V0, aa0, pa0, ac0, pc0, rfl, ha0, hp0⟩ := open_world TW T (hval 0 25 v0 rfl rfl) h0 hw0
  refine (actorCopies_walk V0 aa0 pa0 ac0 pc0 W ha0 hp0).mono fun e W' ⟨he, hb⟩ => ?_
  subst he
  refine ⟨_, rfl, ?_⟩
  have ARG : DataW.TrodAll enc Try.prog W' 0 (fun x => decide (x < W.heap.size)) true [25] _ _ p :=
    trodAll_stays Try.laidOut hAk (fun t ht => by
      have hall : ([25].all fun u => Try.prog.readableRec u && decide (u < Try.prog.types.size)) = true := by kernel_rfl
      simpa using List.all_eq_true.1 hall t ht) (fun x hx => hb.same (hlt x hx)) (fun x hx => by simpa using hlt x hx)
  refine ⟨_, _, _, [], p, [], hW', trodAll_mk1 (shut_bool Try.underlying4 true), ARG, rfl, hb.frame _, fun h => by cases h⟩

theorem actorCopies_holds : Rows.ActorCopiesSaid :=
  OpenClaim.holds_of_wide 3 Try.f3 rfl rfl rfl rfl rfl rfl rfl ⟨rfl, rfl, rfl, rfl, rfl⟩ rfl rfl rfl rfl rfl (by kernel_rfl) Try.func3 (by kernel_rfl)
    (of_decide_eq_true (by kernel_rfl)) (by unfold Func.isWrapper; rw [if_neg (of_decide_eq_false (by kernel_rfl))]; exact ⟨rfl, rfl⟩)
    (fun os started H enc _ => actorCopies_lifted os started H enc)

#print axioms actorCopies_holds
end Go.Proofs.Ytmecmelhmbihoaa
