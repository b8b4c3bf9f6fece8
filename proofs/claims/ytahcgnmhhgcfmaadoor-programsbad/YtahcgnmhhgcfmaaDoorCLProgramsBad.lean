/- For every input the law ProgramsBad answers true and leaves its arguments as they were; the table of operators is as the program's own text lays it (the card ties it). -/
import Derived.Test.YtahcgnmhhgcfmaaDoorRows
import Derived.Test.YtahcgnmhhgcfmaaDoorCards
import Derived.Test.YtahcgnmhhgcfmaaDoorTie
import Derived.Test.YtahcgnmhhgcfmaaDoorCFacts
import Derived.Test.YtahcgnmhhgcfmaaDoorCHStays
import Derived.Test.YtahcgnmhhgcfmaaDoorCKBadW
import Derived.Test.YtahcgnmhhgcfmaaDoorCHOpen
import Derived.ProofKit
import Derived.SizedLaws
import Derived.SevenTiedAt
import Derived.Deep.Modes
namespace Go.Proofs.YtahcgnmhhgcfmaaDoor
open Go.ChangeShapes Go.WideShapes Go.ChangeAt Go.RowKit Go.Deep

set_option maxHeartbeats 1600000 in
set_option maxRecDepth 100000 in
theorem programsBad_lifted (os : Os) (started : os.Started) (H : Type) (enc : TypeId × Value → H) :
    ReturnsInHanded {} Tryd.checked os 8 .any (fun w args => (Rows.programsBadSpec.pre enc Tryd.prog Tryd.f8 [] false w args ∧ laidMetH Tryd.prog opsLaid w) ∧ sizedMet enc Tryd.prog Tryd.f8 (OpenSpec.ofChange Rows.programsBadSpec) false w args)
      (Rows.programsBadSpec.post enc Tryd.prog Tryd.f8 false true false false) := by
  refine returnsInHanded_of_change_and (C := Tryd.checked) (X := fun w _ => laidMetH Tryd.prog opsLaid w) (fun _ _ _ hh h => h.of_heap hh) Tryd.cown started (by kernel_rfl) Tryd.func8
    (ChangeSpec.witness_shaped (enc := enc) (C := Tryd.checked) (os := os) (X := fun w _ => laidMetH Tryd.prog opsLaid w) false (World.doorLaid Tryd.prog 400 os) #[.int .i64 0, .int .i64 0] 8 rfl (World.shaped_of_RefB (by kernel_rfl) (by kernel_rfl)) (by kernel_rfl) (by kernel_rfl) (by kernel_rfl) (door_met os _)) ?_
  intro W base args ds gs before hval0 hW _ hsz0 hL _
  have hsz : (DataW.weightsEach Tryd.prog (Tryd.f8.params.toList ++ Rows.programsBadSpec.plain.varTypes Tryd.prog) (ds ++ gs)).all (· ≤ reachBytes) = true := hsz0
  clear hsz0
  have hval : ∀ (j : Nat) t v, Tryd.f8.params[j]? = some t → args[j]? = some v → Value.okWide Tryd.prog W .any base t v := hval0
  have hW' := hW
  obtain ⟨p, q, hA0, hV, rfl, hfz, _⟩ := hW
  have hA : DataW.TrodAll enc Tryd.prog W 0 (fun _ => true) true Tryd.f8.params.toList args.toList ds p := hA0
  rw [Tryd.params8] at hA hval hsz
  have hAk : DataW.TrodAll enc Tryd.prog W 0 (fun _ => true) true [3, 3] args.toList ds p := hA
  obtain ⟨rfl, rfl⟩ := trodVars_none hV
  clear hA0 hval0 hV hA
  simp only [List.append_nil] at hW' hfz hsz
  have hlt : ∀ x ∈ p, x.block < W.heap.size := fun x hx => hW'.lt x (by simp [hx])
  have hAc := hAk
  obtain ⟨v0, vs0, d0, ds0, p0, q0, hargs, hds, hps, h0, hAc⟩ := trodAll_cons hAc
  obtain ⟨v1, vs1, d1, ds1, p1, q1, rfl, rfl, rfl, h1, hAc⟩ := trodAll_cons hAc
  obtain ⟨rfl, rfl, rfl⟩ := trodAll_nil hAc
  obtain rfl : args = #[v0, v1] := by cases args; simp_all
  subst hds
  clear hAc hargs
  obtain ⟨n0, rfl, hi0⟩ := open_int Tryd.underlying3 (hval 0 3 v0 rfl rfl) h0
  obtain ⟨n1, rfl, hi1⟩ := open_int Tryd.underlying3 (hval 1 3 v1 rfl rfl) h1
  refine (programsBad_walk n0 n1 W (tab_of_laid hL) hi0 hi1).mono fun e W' ⟨he, hb⟩ => ?_
  subst he
  refine ⟨_, rfl, ?_⟩
  have ARG : DataW.TrodAll enc Tryd.prog W' 0 (fun x => decide (x < W.heap.size)) true [3, 3] _ _ p :=
    trodAll_stays Tryd.claidOut hAk (fun t ht => by
      have hall : ([3, 3].all fun u => Tryd.prog.readableRec u && decide (u < Tryd.prog.types.size)) = true := by kernel_rfl
      simpa using List.all_eq_true.1 hall t ht) (fun x hx => hb.same (hlt x hx)) (fun x hx => by simpa using hlt x hx)
  refine ⟨_, _, _, [], p, [], hW', trodAll_mk1 (shut_bool Tryd.underlying4 true), ARG, rfl, hb.frame _, fun h => by cases h⟩

theorem programsBad_row : Rows.ProgramsBadSaid :=
  OpenClaim.holds_of_wide 8 Tryd.f8 rfl rfl rfl rfl rfl rfl rfl ⟨rfl, rfl, rfl, rfl, rfl⟩ rfl rfl rfl rfl rfl (by kernel_rfl) Tryd.func8 (by kernel_rfl)
    (of_decide_eq_true (by kernel_rfl)) (by unfold Func.isWrapper; rw [if_neg (of_decide_eq_false (by kernel_rfl))]; exact ⟨rfl, rfl⟩)
    (fun os started H enc _ => programsBad_lifted os started H enc)

theorem programsBad_card : Rows.ProgramsBadCardSaid :=
  Claim7.holds_tied_plain_at .later [] [.data] true Rows.programsBadCard.stood.harness false
    programsBad_row (fun _ h => by cases h) (by kernel_rfl) (fun _ h => by cases h) programsBad_row_tie rfl ⟨rfl, rfl⟩ (by kernel_rfl) rfl
    (fun f fn hf hfn => by
      obtain rfl : f = 8 := Option.some.inj ((show Tryd.prog.funcNamed "treadwheel/treadwheelkeep.ProgramsBad" = some 8 by kernel_rfl).symm.trans hf) |>.symm
      obtain rfl : fn = Tryd.f8 := (Option.some.inj (Tryd.func8.symm.trans hfn)).symm
      exact ⟨by kernel_rfl, fun j t ht => by
        rw [Tryd.params8] at ht
        have hm : t ∈ [3, 3] := by simpa using Array.mem_of_getElem? ht
        have hall : ([3, 3].all fun u => !Tryd.prog.wantsStandIn u) = true := by kernel_rfl
        exact (show Tryd.prog.wantsStandIn t = false by simpa using List.all_eq_true.1 hall t hm)⟩)
    (by kernel_rfl)

#print axioms programsBad_card
end Go.Proofs.YtahcgnmhhgcfmaaDoor
