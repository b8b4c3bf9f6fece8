/- For every input the law ActorChecks answers true and leaves its arguments as they were; the table of operators is as the program's own text lays it (the card ties it). -/
import Derived.Test.YtahcgnmhhgcfmaaDoorRows
import Derived.Test.YtahcgnmhhgcfmaaDoorCards
import Derived.Test.YtahcgnmhhgcfmaaDoorTie
import Derived.Test.YtahcgnmhhgcfmaaDoorCFacts
import Derived.Test.YtahcgnmhhgcfmaaDoorCHStays
import Derived.Test.YtahcgnmhhgcfmaaDoorCActorChecksW
import Derived.Test.YtahcgnmhhgcfmaaDoorCWOpen
import Derived.ProofKit
import Derived.SizedLaws
import Derived.SevenTiedAt
import Derived.Deep.Modes
namespace Go.Proofs.YtahcgnmhhgcfmaaDoor
open Go.ChangeShapes Go.WideShapes Go.ChangeAt Go.RowKit Go.Deep

set_option maxHeartbeats 1600000 in
set_option maxRecDepth 100000 in
theorem actorChecks_lifted (os : Os) (started : os.Started) (H : Type) (enc : TypeId × Value → H) :
    ReturnsInHanded {} Tryd.checked os 7 .any (fun w args => (Rows.actorChecksSpec.pre enc Tryd.prog Tryd.f7 [] false w args ∧ laidMetH Tryd.prog opsLaid w) ∧ sizedMet enc Tryd.prog Tryd.f7 (OpenSpec.ofChange Rows.actorChecksSpec) false w args)
      (Rows.actorChecksSpec.post enc Tryd.prog Tryd.f7 false true false false) := by
  refine returnsInHanded_of_change_and (C := Tryd.checked) (X := fun w _ => laidMetH Tryd.prog opsLaid w) (fun _ _ _ hh h => h.of_heap hh) Tryd.cown started (by kernel_rfl) Tryd.func7
    (ChangeSpec.witness_shaped (enc := enc) (C := Tryd.checked) (os := os) (X := fun w _ => laidMetH Tryd.prog opsLaid w) false (World.doorLaid Tryd.prog 400 os) #[.agg #[.slice none 0 0], .agg #[.slice none 0 0, .slice none 0 0]] 8 rfl (World.shaped_of_RefB (by kernel_rfl) (by kernel_rfl)) (by kernel_rfl) (by kernel_rfl) (by kernel_rfl) (door_met os _)) ?_
  intro W base args ds gs before hval0 hW _ hsz0 hL _
  have hsz : (DataW.weightsEach Tryd.prog (Tryd.f7.params.toList ++ Rows.actorChecksSpec.plain.varTypes Tryd.prog) (ds ++ gs)).all (· ≤ reachBytes) = true := hsz0
  clear hsz0
  have hval : ∀ (j : Nat) t v, Tryd.f7.params[j]? = some t → args[j]? = some v → Value.okWide Tryd.prog W .any base t v := hval0
  have hW' := hW
  obtain ⟨p, q, hA0, hV, rfl, hfz, _⟩ := hW
  have hA : DataW.TrodAll enc Tryd.prog W 0 (fun _ => true) true Tryd.f7.params.toList args.toList ds p := hA0
  rw [Tryd.params7] at hA hval hsz
  have hAk : DataW.TrodAll enc Tryd.prog W 0 (fun _ => true) true [26, 54] args.toList ds p := hA
  obtain ⟨rfl, rfl⟩ := trodVars_none hV
  clear hA0 hval0 hV hA
  simp only [List.append_nil] at hW' hfz hsz
  have hlt : ∀ x ∈ p, x.block < W.heap.size := fun x hx => hW'.lt x (by simp [hx])
  have hAc := hAk
  obtain ⟨v0, vs0, d0, ds0, p0, q0, hargs, hds, hps, h0, hAc⟩ := trodAll_cons hAc
  obtain ⟨v1, vs1, d1, ds1, p1, q1, rfl, rfl, rfl, h1, hAc⟩ := trodAll_cons hAc
  obtain ⟨rfl, rfl, rfl⟩ := trodAll_nil hAc
  obtain rfl : args = #[v0, v1] := by cases args; simp_all
  subst hds
  clear hAc hargs
  obtain ⟨_, _, _, _, _, T⟩ := ctypes
  obtain ⟨_, _, _, _, _, _, U⟩ := types
  obtain ⟨_, _, _, _, _, _, _, _, _, _, _, TW⟩ := worldTypes
  have hw0 : ∀ n ∈ d0.weights Tryd.prog 26, n ≤ reachBytes := fun n hn => of_decide_eq_true (List.all_eq_true.1 hsz n (DataW.weights_mem_each (j := 0) (t := 26) rfl rfl n hn))
  obtain ⟨ao0, G0, cap0, A0, L0, C0, X0, rfl, hp0⟩ := open_prog T (hval 0 26 v0 rfl rfl) h0 hw0
  have hw1 : ∀ n ∈ d1.weights Tryd.prog 54, n ≤ reachBytes := fun n hn => of_decide_eq_true (List.all_eq_true.1 hsz n (DataW.weights_mem_each (j := 1) (t := 54) rfl rfl n hn))
  obtain ⟨V1, aa1, pa1, ac1, pc1, rfl, ha1, hp1⟩ := open_world TW U (hval 1 54 v1 rfl rfl) h1 hw1
  refine (actorChecks_walk ao0 G0 cap0 A0 L0 C0 X0 V1 aa1 pa1 ac1 pc1 W (tab_of_laid hL) hp0 ha1 hp1).mono fun e W' ⟨he, hb⟩ => ?_
  subst he
  refine ⟨_, rfl, ?_⟩
  have ARG : DataW.TrodAll enc Tryd.prog W' 0 (fun x => decide (x < W.heap.size)) true [26, 54] _ _ p :=
    trodAll_stays Tryd.claidOut hAk (fun t ht => by
      have hall : ([26, 54].all fun u => Tryd.prog.readableRec u && decide (u < Tryd.prog.types.size)) = true := by kernel_rfl
      simpa using List.all_eq_true.1 hall t ht) (fun x hx => hb.same (hlt x hx)) (fun x hx => by simpa using hlt x hx)
  refine ⟨_, _, _, [], p, [], hW', trodAll_mk1 (shut_bool Tryd.underlying4 true), ARG, rfl, hb.frame _, fun h => by cases h⟩

theorem actorChecks_row : Rows.ActorChecksSaid :=
  OpenClaim.holds_of_wide 7 Tryd.f7 rfl rfl rfl rfl rfl rfl rfl ⟨rfl, rfl, rfl, rfl, rfl⟩ rfl rfl rfl rfl rfl (by kernel_rfl) Tryd.func7 (by kernel_rfl)
    (of_decide_eq_true (by kernel_rfl)) (by unfold Func.isWrapper; rw [if_neg (of_decide_eq_false (by kernel_rfl))]; exact ⟨rfl, rfl⟩)
    (fun os started H enc _ => actorChecks_lifted os started H enc)

theorem actorChecks_card : Rows.ActorChecksCardSaid :=
  Claim7.holds_tied_plain_at .later [] [.data] true Rows.actorChecksCard.stood.harness false
    actorChecks_row (fun _ h => by cases h) (by kernel_rfl) (fun _ h => by cases h) actorChecks_row_tie rfl ⟨rfl, rfl⟩ (by kernel_rfl) rfl
    (fun f fn hf hfn => by
      obtain rfl : f = 7 := Option.some.inj ((show Tryd.prog.funcNamed "treadwheel/treadwheellaw.ActorChecks" = some 7 by kernel_rfl).symm.trans hf) |>.symm
      obtain rfl : fn = Tryd.f7 := (Option.some.inj (Tryd.func7.symm.trans hfn)).symm
      exact ⟨by kernel_rfl, fun j t ht => by
        rw [Tryd.params7] at ht
        have hm : t ∈ [26, 54] := by simpa using Array.mem_of_getElem? ht
        have hall : ([26, 54].all fun u => !Tryd.prog.wantsStandIn u) = true := by kernel_rfl
        exact (show Tryd.prog.wantsStandIn t = false by simpa using List.all_eq_true.1 hall t hm)⟩)
    (by kernel_rfl)

#print axioms actorChecks_card
end Go.Proofs.YtahcgnmhhgcfmaaDoor
