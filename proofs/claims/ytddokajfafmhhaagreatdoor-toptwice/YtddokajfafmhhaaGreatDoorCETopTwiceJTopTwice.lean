/- JTopTwice. -/
import Derived.ProofKit
import Derived.SizedLaws
import Derived.Test.YtddokajfafmhhaaGreatDoorRows
namespace Go.Proofs.YtddokajfafmhhaaGreatDoor
set_option maxRecDepth 100000
set_option maxHeartbeats 8000000
open Go.ChangeShapes Go.WideShapes Go.ChangeAt Go.RowKit
theorem and_up {a b:Bool} (ha:a=true) (hb:b=true):(a && b)=true:=by rw [ha,hb];rfl
theorem topTwice_facts:joinedFacts Tryz.prog 9 Tryz.f9 Rows.topTwiceSpec Rows.topTwiceRow=true:=by
 unfold joinedFacts
 refine and_up ?_ (by as_aux_lemma=>kernel_rfl)
 refine and_up ?_ (by as_aux_lemma=>kernel_rfl)
 refine and_up ?_ (by as_aux_lemma=>kernel_rfl)
 refine and_up ?_ (by as_aux_lemma=>kernel_rfl)
 refine and_up ?_ (by as_aux_lemma=>kernel_rfl)
 refine and_up ?_ (by as_aux_lemma=>kernel_rfl)
 refine and_up ?_ (by as_aux_lemma=>kernel_rfl)
 refine and_up ?_ (by as_aux_lemma=>kernel_rfl)
 refine and_up ?_ (by as_aux_lemma=>kernel_rfl)
 refine and_up ?_ (by as_aux_lemma=>kernel_rfl)
 refine and_up ?_ (by as_aux_lemma=>kernel_rfl)
 refine and_up ?_ (by as_aux_lemma=>kernel_rfl)
 refine and_up ?_ (by as_aux_lemma=>kernel_rfl)
 refine and_up ?_ (by as_aux_lemma=>kernel_rfl)
 refine and_up ?_ (by as_aux_lemma=>kernel_rfl)
 refine and_up ?_ (by as_aux_lemma=>kernel_rfl)
 refine and_up ?_ (by as_aux_lemma=>kernel_rfl)
 refine and_up ?_ (by as_aux_lemma=>kernel_rfl)
 refine and_up ?_ (by as_aux_lemma=>kernel_rfl)
 refine and_up ?_ (by as_aux_lemma=>kernel_rfl)
 refine and_up ?_ (by as_aux_lemma=>kernel_rfl)
 refine and_up ?_ (by as_aux_lemma=>kernel_rfl)
 refine and_up ?_ (by as_aux_lemma=>kernel_rfl)
 refine and_up ?_ (by as_aux_lemma=>kernel_rfl)
 refine and_up ?_ (by as_aux_lemma=>kernel_rfl)
 refine and_up ?_ (by as_aux_lemma=>kernel_rfl)
 refine and_up ?_ (by as_aux_lemma=>kernel_rfl)
 refine and_up ?_ (by as_aux_lemma=>kernel_rfl)
 refine and_up ?_ (by as_aux_lemma=>kernel_rfl)
 refine and_up ?_ (by as_aux_lemma=>kernel_rfl)
 refine and_up ?_ (by as_aux_lemma=>kernel_rfl)
 as_aux_lemma=>kernel_rfl
end Go.Proofs.YtddokajfafmhhaaGreatDoor
