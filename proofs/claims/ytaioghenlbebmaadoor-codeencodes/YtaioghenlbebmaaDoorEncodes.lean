/- For every program that is handed in, the law CodeEncodes answers true and leaves the program as it was; the table of operators is as the program's own text lays it (the card ties it). -/
import Derived.Test.YtaioghenlbebmaaDoorRows
import Derived.Test.YtaioghenlbebmaaDoorCards
import Derived.Test.YtaioghenlbebmaaDoorTie
import Derived.Test.YtaioghenlbebmaaDoorEncode
import Derived.Test.YtaioghenlbebmaaDoorRefBytes
import Derived.Test.YtaioghenlbebmaaDoorFacts
import Derived.ProofKit
import Derived.SizedLaws
import Derived.SevenTiedAt
import Derived.Deep.Modes
namespace Go.Proofs.YtaioghenlbebmaaDoor
open Go.ChangeShapes Go.WideShapes Go.ChangeAt Go.RowKit Go.Deep

set_option maxHeartbeats 400000 in
theorem encodes_walk (ao : Option Addr) (G cap : Nat) (A : Nat → Option Addr) (L C : Nat → Nat) (X : Nat → Nat → Nat → Int) (w : World) (hT : TabAt 0 w) (hp : ProgAt w ao G A L C X) :
    Calls Tryd.prog 4 #[.agg #[.slice ao G cap]] w fun e w' => e = .returned (.bool true) ∧ Below w.heap.size w w' := by
  go_enter Tryd.func4, Tryd.ntmps4
  go_wp2_with fail
  have k1 := Keeps.alloc w (Obj.cells #[Value.slice ao G cap] 24)
  have b1 := below_box w (Obj.cells #[Value.slice ao G cap] 24)
  have c1 : (w.alloc (Obj.cells #[Value.slice ao G cap] 24)).cell? ⟨w.heap.size, 0, none⟩ = some (.slice ao G cap) := by simp
  refine (encode_any ao G cap A L C X _ (hT.keeps k1) (hp.keeps k1)).mono ?_
  rintro e w1 ⟨v1, rfl, hB1, hb⟩
  have k2 := Keeps.below hb
  have c2 := k2 _ _ c1
  have b2 : Below w.heap.size w w1 := b1.trans (hb.mono (by simp))
  have hp2 := hp.keeps (k1.trans k2)
  clear hb c1 k2 k1 b1 hp
  go_wp2_with fail
  refine (refBytes_any ao G cap A L C X _ hp2).mono ?_
  rintro e w2 ⟨v2, rfl, hB2, hb2⟩
  have b3 : Below w.heap.size w w2 := b2.trans (hb2.mono b2.size)
  have q1 := (hB1.below hb2).str (P := Tryd.prog) Tryd.underlying28 Tryd.underlying5 Tryd.underlying9
  have q2 := hB2.str (P := Tryd.prog) Tryd.underlying28 Tryd.underlying5 Tryd.underlying9
  clear hb2 c2 hB1 hB2
  go_wp2
  all_goals
    go_ret
    exact ⟨ret_bool (by simp), b3⟩

set_option maxHeartbeats 1600000 in
set_option maxRecDepth 100000 in
theorem encodes_lifted (os : Os) (started : os.Started) (H : Type) (enc : TypeId × Value → H) :
    ReturnsInHanded {} Tryd.checked os 4 .any (fun w args => (Rows.codeEncodesSpec.pre enc Tryd.prog Tryd.f4 [] false w args ∧ laidMetH Tryd.prog opsLaid w) ∧ sizedMet enc Tryd.prog Tryd.f4 (OpenSpec.ofChange Rows.codeEncodesSpec) false w args)
      (Rows.codeEncodesSpec.post enc Tryd.prog Tryd.f4 false true false false) := by
  refine returnsInHanded_of_change_and (C := Tryd.checked) (X := fun w _ => laidMetH Tryd.prog opsLaid w) (fun _ _ _ hh h => h.of_heap hh) Tryd.own started (by kernel_rfl) Tryd.func4
    (ChangeSpec.witness_shaped (enc := enc) (C := Tryd.checked) (os := os) (X := fun w _ => laidMetH Tryd.prog opsLaid w) false (World.doorLaid Tryd.prog 400 os) #[.agg #[.slice none 0 0]] 8 rfl (World.shaped_of_RefB (by kernel_rfl) (by kernel_rfl)) (by kernel_rfl) (by kernel_rfl) (by kernel_rfl) (door_met os _)) ?_
  intro W base args ds gs before hval0 hW _ hsz0 hL _
  have hsz : (DataW.weightsEach Tryd.prog (Tryd.f4.params.toList ++ Rows.codeEncodesSpec.plain.varTypes Tryd.prog) (ds ++ gs)).all (· ≤ reachBytes) = true := hsz0
  clear hsz0
  have hval : ∀ (j : Nat) t v, Tryd.f4.params[j]? = some t → args[j]? = some v → Value.okWide Tryd.prog W .any base t v := hval0
  have hW' := hW
  obtain ⟨p, q, hA0, hV, rfl, hfz, _⟩ := hW
  have hA : DataW.TrodAll enc Tryd.prog W 0 (fun _ => true) true Tryd.f4.params.toList args.toList ds p := hA0
  rw [Tryd.params4] at hA hval hsz
  obtain ⟨v0, d0, rfl, rfl, h0⟩ := trodAll_one hA
  obtain ⟨rfl, rfl⟩ := trodVars_none hV
  clear hA0 hval0 hA
  simp only [List.append_nil] at hW' hfz hsz
  have hlt : ∀ x ∈ p, x.block < W.heap.size := fun x hx => hW'.lt x (by simp [hx])
  have hwt : ∀ n ∈ d0.weights Tryd.prog 24, n ≤ reachBytes := fun n hn => of_decide_eq_true (List.all_eq_true.1 hsz n (DataW.weights_mem_each (j := 0) (t := 24) rfl rfl n hn))
  obtain ⟨_, _, _, _, _, T⟩ := types
  obtain ⟨ao, G, cap, A, L, C, X, rfl, hp⟩ := open_prog T (hval 0 24 v0 rfl rfl) h0 hwt
  refine (encodes_walk ao G cap A L C X W (tab_of_laid hL) hp).mono fun e W' ⟨he, hb⟩ => ?_
  subst he
  refine ⟨_, rfl, ?_⟩
  have ARG : DataW.Trod enc Tryd.prog W' 0 (fun x => decide (x < W.heap.size)) true 24 (.agg #[.slice ao G cap]) d0 p :=
    WideElems.Trod_stays Tryd.laidOut (by kernel_rfl) (of_decide_eq_true (by kernel_rfl)) h0 (fun x hx => hb.same (hlt x hx)) (fun x hx => by simpa using hlt x hx)
  refine ⟨_, _, _, [], p, [], hW', trodAll_mk1 (shut_bool Tryd.underlying4 true), trodAll_mk1 ARG, rfl, hb.frame _, fun h => by cases h⟩

theorem codeEncodes_row : Rows.CodeEncodesSaid :=
  OpenClaim.holds_of_wide 4 Tryd.f4 rfl rfl rfl rfl rfl rfl rfl ⟨rfl, rfl, rfl, rfl, rfl⟩ rfl rfl rfl rfl rfl (by kernel_rfl) Tryd.func4 (by kernel_rfl)
    (of_decide_eq_true (by kernel_rfl)) (by unfold Func.isWrapper; rw [if_neg (of_decide_eq_false (by kernel_rfl))]; exact ⟨rfl, rfl⟩)
    (fun os started H enc _ => encodes_lifted os started H enc)

theorem codeEncodes_card : Rows.CodeEncodesCardSaid :=
  Claim7.holds_tied_plain_at .later [] [.data] true Rows.codeEncodesCard.stood.harness false
    codeEncodes_row (fun _ h => by cases h) (by kernel_rfl) (fun _ h => by cases h) codeEncodes_row_tie rfl ⟨rfl, rfl⟩ (by kernel_rfl) rfl
    (fun f fn hf hfn => by
      obtain rfl : f = 4 := Option.some.inj ((show Tryd.prog.funcNamed "treadwheel/treadwheellaw.CodeEncodes" = some 4 by kernel_rfl).symm.trans hf) |>.symm
      obtain rfl : fn = Tryd.f4 := (Option.some.inj (Tryd.func4.symm.trans hfn)).symm
      exact ⟨by kernel_rfl, fun j t ht => by
        rw [Tryd.params4] at ht
        have hm : t ∈ [24] := by simpa using Array.mem_of_getElem? ht
        have hall : ([24].all fun u => !Tryd.prog.wantsStandIn u) = true := by kernel_rfl
        exact (show Tryd.prog.wantsStandIn t = false by simpa using List.all_eq_true.1 hall t hm)⟩)
    (by kernel_rfl)

#print axioms codeEncodes_card
end Go.Proofs.YtaioghenlbebmaaDoor
