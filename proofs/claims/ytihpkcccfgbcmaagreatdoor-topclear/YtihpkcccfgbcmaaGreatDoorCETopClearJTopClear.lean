/- JTopClear. -/
import Derived.ProofKit
import Derived.SizedLaws
import Derived.Test.YtihpkcccfgbcmaaGreatDoorRows
namespace Go.Proofs.YtihpkcccfgbcmaaGreatDoor
set_option maxRecDepth 100000
set_option maxHeartbeats 8000000
open Go.ChangeShapes Go.WideShapes Go.ChangeAt Go.RowKit
theorem and_up {a b:Bool} (ha:a=true) (hb:b=true):(a && b)=true:=by rw[ha,hb];rfl
theorem topClear_facts:joinedFacts Tryz.prog 9 Tryz.f9 Rows.topClearSpec Rows.topClearRow=true:=by
 unfold joinedFacts
 refine and_up ?_ (by as_aux_lemma=>kernel_rfl);refine and_up ?_ (by as_aux_lemma=>kernel_rfl);refine and_up ?_ (by as_aux_lemma=>kernel_rfl);refine and_up ?_ (by as_aux_lemma=>kernel_rfl);refine and_up ?_ (by as_aux_lemma=>kernel_rfl);refine and_up ?_ (by as_aux_lemma=>kernel_rfl);refine and_up ?_ (by as_aux_lemma=>kernel_rfl);refine and_up ?_ (by as_aux_lemma=>kernel_rfl);refine and_up ?_ (by as_aux_lemma=>kernel_rfl)
 refine and_up ?_ (by as_aux_lemma=>kernel_rfl);refine and_up ?_ (by as_aux_lemma=>kernel_rfl);refine and_up ?_ (by as_aux_lemma=>kernel_rfl);refine and_up ?_ (by as_aux_lemma=>kernel_rfl);refine and_up ?_ (by as_aux_lemma=>kernel_rfl);refine and_up ?_ (by as_aux_lemma=>kernel_rfl);refine and_up ?_ (by as_aux_lemma=>kernel_rfl);refine and_up ?_ (by as_aux_lemma=>kernel_rfl);refine and_up ?_ (by as_aux_lemma=>kernel_rfl)
 refine and_up ?_ (by as_aux_lemma=>kernel_rfl);refine and_up ?_ (by as_aux_lemma=>kernel_rfl);refine and_up ?_ (by as_aux_lemma=>kernel_rfl);refine and_up ?_ (by as_aux_lemma=>kernel_rfl);refine and_up ?_ (by as_aux_lemma=>kernel_rfl);refine and_up ?_ (by as_aux_lemma=>kernel_rfl);refine and_up ?_ (by as_aux_lemma=>kernel_rfl);refine and_up ?_ (by as_aux_lemma=>kernel_rfl);refine and_up ?_ (by as_aux_lemma=>kernel_rfl)
 refine and_up ?_ (by as_aux_lemma=>kernel_rfl);refine and_up ?_ (by as_aux_lemma=>kernel_rfl);refine and_up ?_ (by as_aux_lemma=>kernel_rfl);refine and_up ?_ (by as_aux_lemma=>kernel_rfl)
 as_aux_lemma=>kernel_rfl
end Go.Proofs.YtihpkcccfgbcmaaGreatDoor
