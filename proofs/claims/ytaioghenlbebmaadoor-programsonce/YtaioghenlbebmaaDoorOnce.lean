/- For all bytes that are handed in, the law ProgramsOnce answers true and leaves the bytes as they were; the table of operators is as the program's own text lays it (the card ties it). -/
import Derived.Test.YtaioghenlbebmaaDoorRows
import Derived.Test.YtaioghenlbebmaaDoorCards
import Derived.Test.YtaioghenlbebmaaDoorTie
import Derived.Test.YtaioghenlbebmaaDoorEncode
import Derived.Test.YtaioghenlbebmaaDoorDecode
import Derived.Test.YtaioghenlbebmaaDoorFacts
import Derived.ProofKit
import Derived.SizedLaws
import Derived.SevenTiedAt
import Derived.Deep.Modes
import Derived.OpenShut
namespace Go.Proofs.YtaioghenlbebmaaDoor
open Go.ChangeShapes Go.WideShapes Go.ChangeAt Go.RowKit Go.Deep

/-- 'string(b)' of bytes that came in. -/
theorem BytesAt.str {P : Program} {w : World} {ba : Option Addr} {bs : List Int} (h : BytesAt w ba bs) {t e dst : TypeId} (hs : P.underlying t = some (.slice e)) (he : P.underlying e = some (.int .u8)) (hd : P.underlying dst = some .string) (cap : Nat) (hnil : ba = none → bs = []) :
    (convert t dst (.slice ba bs.length cap)).run P w = .ok (.string (strOfNums bs)) w := by
  have key : ∀ b o, ba = some ⟨b, o, none⟩ → (convert t dst (.slice ba bs.length cap)).run P w = .ok (.string (strOfNums bs)) w := fun b o e => by
    subst e
    refine run_convert_bytes_arg w t e hs he b o bs.length cap bs rfl ?_ dst hd
    intro i hi
    obtain ⟨b', o', e', hc⟩ := h.cell i hi
    simp only [Option.some.injEq, Addr.mk.injEq, and_true] at e'
    obtain ⟨rfl, rfl⟩ := e'
    exact hc
  cases hba : ba with
  | none =>
    obtain rfl := hnil hba
    rw [run_convert_bytes_nil w t e hs he _ _ dst hd]
    rfl
  | some a =>
    rw [← hba]
    by_cases hb : bs = []
    · subst hb
      subst hba
      have hl := run_loadCells_list (P := P) w a [] (by simp)
      rw [run_convert_bytes_string w t dst e _ _ _ hs he hd]
      exact run_bytesToString w a 0 cap [] (by simpa using hl)
    · obtain ⟨b, o, e, _⟩ := h.cell 0 (List.length_pos_iff.2 hb)
      exact key b o e

set_option maxHeartbeats 400000 in
theorem once_long (ba : Option Addr) (len cap : Nat) (w : World) (h : 5000 < len) (h' : len ≤ 9223372036854775807) :
    Calls Tryd.prog 5 #[.slice ba len cap] w fun e w' => e = .returned (.bool true) ∧ Below w.heap.size w w' := by
  go_enter Tryd.func5, Tryd.ntmps5
  go_wp2_with fail
  refine (decode_long ba len cap w h h').mono ?_
  rintro e w1 ⟨rfl, hb⟩
  have hs := hb.size
  go_wp2
  go_ret
  exact ⟨rfl, hb.alloc hs _⟩

set_option maxHeartbeats 400000 in
theorem once_walk (ba : Option Addr) (cap : Nat) (bs : List Int) (w : World) (hT : TabAt 0 w) (hB : BytesAt w ba bs) (hnil : ba = none → bs = []) :
    Calls Tryd.prog 5 #[.slice ba bs.length cap] w fun e w' => e = .returned (.bool true) ∧ Below w.heap.size w w' := by
  go_enter Tryd.func5, Tryd.ntmps5
  go_wp2_with fail
  refine (decode_any ba cap bs w hB hT).mono ?_
  rintro e w1 ⟨ao, c, rows, A, C, rfl, hb, hbad, hok⟩
  have hs := hb.size
  by_cases he : decErr bs = 0
  · obtain ⟨hr0, hp, hf, hby⟩ := hok he
    clear hr0
    have HBY : Aside (bytesOf rows.length (lenOf rows) (xOf rows) = bs) := by show bytesOf rows.length (lenOf rows) (xOf rows) = bs; rw [bytesOf, if_pos hf]; exact hby
    rw [he]
    clear hbad hok hby he
    have hTB : ∀ o, TabAt 0 (w1.alloc o) := fun o => hT.keeps ((Keeps.below hb).trans (Keeps.alloc _ _))
    go_wp2_with fail
    refine (encode_any ao rows.length c A (lenOf rows) C (xOf rows) _ (hTB _) (hp.keeps (Keeps.alloc _ _))).mono ?_
    rintro e w2 ⟨v, rfl, hB2, hb2⟩
    rw [HBY.out] at hB2
    rw [hf]
    have b3 : Below w.heap.size w w2 := (hb.alloc hs _).trans (hb2.mono (by simp; omega))
    have q1 := hB2.str (P := Tryd.prog) Tryd.underlying28 Tryd.underlying5 Tryd.underlying9
    have q2 := (hB.keeps (Keeps.below b3)).str (P := Tryd.prog) Tryd.underlying28 Tryd.underlying5 Tryd.underlying9 cap hnil
    clear hb2 hB2 hp hTB HBY hf
    go_wp2
    all_goals
      go_ret
      exact ⟨ret_bool (by simp), b3⟩
  · obtain rfl := hbad he
    have heb : (decErr bs != 0) = true := by simp [he]
    clear hok hbad
    go_wp2
    go_ret
    exact ⟨rfl, hb.alloc hs _⟩

set_option maxHeartbeats 1600000 in
set_option maxRecDepth 100000 in
theorem once_lifted (os : Os) (started : os.Started) (H : Type) (enc : TypeId × Value → H) :
    ReturnsInHanded {} Tryd.checked os 5 .any (fun w args => (Rows.programsOnceSpec.pre enc Tryd.prog Tryd.f5 [] false w args ∧ laidMetH Tryd.prog opsLaid w) ∧ sizedMet enc Tryd.prog Tryd.f5 (OpenSpec.ofChange Rows.programsOnceSpec) false w args)
      (Rows.programsOnceSpec.post enc Tryd.prog Tryd.f5 false true false false) := by
  refine returnsInHanded_of_change_and (C := Tryd.checked) (X := fun w _ => laidMetH Tryd.prog opsLaid w) (fun _ _ _ hh h => h.of_heap hh) Tryd.own started (by kernel_rfl) Tryd.func5
    (ChangeSpec.witness_shaped (enc := enc) (C := Tryd.checked) (os := os) (X := fun w _ => laidMetH Tryd.prog opsLaid w) false (World.doorLaid Tryd.prog 400 os) #[.slice none 0 0] 8 rfl (World.shaped_of_RefB (by kernel_rfl) (by kernel_rfl)) (by kernel_rfl) (by kernel_rfl) (by kernel_rfl) (door_met os _)) ?_
  intro W base args ds gs before hval0 hW _ hsz0 hL _
  have hsz : (DataW.weightsEach Tryd.prog (Tryd.f5.params.toList ++ Rows.programsOnceSpec.plain.varTypes Tryd.prog) (ds ++ gs)).all (· ≤ reachBytes) = true := hsz0
  clear hsz0
  have hval : ∀ (j : Nat) t v, Tryd.f5.params[j]? = some t → args[j]? = some v → Value.okWide Tryd.prog W .any base t v := hval0
  have hW' := hW
  obtain ⟨p, q, hA0, hV, rfl, hfz, _⟩ := hW
  have hA : DataW.TrodAll enc Tryd.prog W 0 (fun _ => true) true Tryd.f5.params.toList args.toList ds p := hA0
  rw [Tryd.params5] at hA hval hsz
  obtain ⟨v0, d0, rfl, rfl, h0⟩ := trodAll_one hA
  obtain ⟨rfl, rfl⟩ := trodVars_none hV
  clear hA0 hval0 hA
  simp only [List.append_nil] at hW' hfz hsz
  have hlt : ∀ x ∈ p, x.block < W.heap.size := fun x hx => hW'.lt x (by simp [hx])
  obtain ⟨a0, len, cap, rfl⟩ := okWide_slice Tryd.underlying28 (hval 0 28 v0 rfl rfl)
  have h0k := h0
  obtain ⟨fuel, hf⟩ := h0
  have fin : ∀ W' : World, Below W.heap.size W W' → Rows.programsOnceSpec.post enc Tryd.checked.prog Tryd.f5 false true false false W #[.slice a0 len cap] (.bool true) W' := fun W' hb => by
    have ARG : DataW.Trod enc Tryd.prog W' 0 (fun x => decide (x < W.heap.size)) true 28 (.slice a0 len cap) d0 p :=
      WideElems.Trod_stays Tryd.laidOut (by kernel_rfl) (of_decide_eq_true (by kernel_rfl)) h0k (fun x hx => hb.same (hlt x hx)) (fun x hx => by simpa using hlt x hx)
    exact ⟨_, _, _, [], p, [], hW', trodAll_mk1 (shut_bool Tryd.underlying4 true), trodAll_mk1 ARG, rfl, hb.frame _, fun h => by cases h⟩
  rcases open_ints Tryd.underlying28 Tryd.underlying5 Tryd.cByte hf with ⟨hcs, hx⟩ | ⟨a, len', cap', zs, hcs, _, hl, hm, hz, hx, hcell, hwz⟩
  · simp [Value.cells] at hcs
    obtain ⟨rfl, rfl, rfl⟩ := hcs
    have hB : BytesAt W none [] := ⟨fun i hi => absurd hi (Nat.not_lt_zero _), fun i => by simp, by simp⟩
    refine (once_walk none 0 [] W (tab_of_laid hL) hB (fun _ => rfl)).mono fun e W' ⟨he, hb⟩ => ?_
    subst he
    exact ⟨_, rfl, fin W' hb⟩
  · simp [Value.cells] at hcs
    obtain ⟨rfl, rfl, rfl⟩ := hcs
    simp only [if_true] at hz
    by_cases hlong : 5000 < len
    · refine (once_long (some a) len cap W hlong (by unfold maxLen at hm; omega)).mono fun e W' ⟨he, hb⟩ => ?_
      subst he
      exact ⟨_, rfl, fin W' hb⟩
    · have hlen : (zs.take len).length = len := by simp; omega
      have hB : BytesAt W (some a) (zs.take len) := by
        refine ⟨fun i hi => ?_, fun i => ?_, by omega⟩
        · obtain ⟨ab, ao, asp⟩ := a
          have hc0 := hcell 0 (by omega)
          have hsp : asp = none := by
            have := World.cell?_spot hc0
            simpa [Addr.add] using this
          subst hsp
          refine ⟨ab, ao, rfl, ?_⟩
          have hc := hcell i (by omega)
          rw [add_plain] at hc
          rw [hc]
          simp [List.getD, show i < len by omega]
        · by_cases hi : i < (zs.take len).length
          · have hmem : (zs.take len).getD i 0 ∈ zs := by
              rw [List.getD_eq_getElem?_getD, List.getElem?_eq_getElem hi]
              exact List.mem_of_mem_take (List.getElem_mem _)
            exact bounds_u8 (hwz _ hmem)
          · simp only [List.getD_eq_getElem?_getD, List.getElem?_eq_none (Nat.le_of_not_lt hi)]
            simp
      have hw := once_walk (some a) cap (zs.take len) W (tab_of_laid hL) hB (fun h => by cases h)
      rw [hlen] at hw
      refine hw.mono fun e W' ⟨he, hb⟩ => ?_
      subst he
      exact ⟨_, rfl, fin W' hb⟩

theorem programsOnce_row : Rows.ProgramsOnceSaid :=
  OpenClaim.holds_of_wide 5 Tryd.f5 rfl rfl rfl rfl rfl rfl rfl ⟨rfl, rfl, rfl, rfl, rfl⟩ rfl rfl rfl rfl rfl (by kernel_rfl) Tryd.func5 (by kernel_rfl)
    (of_decide_eq_true (by kernel_rfl)) (by unfold Func.isWrapper; rw [if_neg (of_decide_eq_false (by kernel_rfl))]; exact ⟨rfl, rfl⟩)
    (fun os started H enc _ => once_lifted os started H enc)

theorem programsOnce_card : Rows.ProgramsOnceCardSaid :=
  Claim7.holds_tied_plain_at .later [] [.data] true Rows.programsOnceCard.stood.harness false
    programsOnce_row (fun _ h => by cases h) (by kernel_rfl) (fun _ h => by cases h) programsOnce_row_tie rfl ⟨rfl, rfl⟩ (by kernel_rfl) rfl
    (fun f fn hf hfn => by
      obtain rfl : f = 5 := Option.some.inj ((show Tryd.prog.funcNamed "treadwheel/treadwheelkeep.ProgramsOnce" = some 5 by kernel_rfl).symm.trans hf) |>.symm
      obtain rfl : fn = Tryd.f5 := (Option.some.inj (Tryd.func5.symm.trans hfn)).symm
      exact ⟨by kernel_rfl, fun j t ht => by
        rw [Tryd.params5] at ht
        have hm : t ∈ [28] := by simpa using Array.mem_of_getElem? ht
        have hall : ([28].all fun u => !Tryd.prog.wantsStandIn u) = true := by kernel_rfl
        exact (show Tryd.prog.wantsStandIn t = false by simpa using List.all_eq_true.1 hall t hm)⟩)
    (by kernel_rfl)

#print axioms programsOnce_card
end Go.Proofs.YtaioghenlbebmaaDoor
