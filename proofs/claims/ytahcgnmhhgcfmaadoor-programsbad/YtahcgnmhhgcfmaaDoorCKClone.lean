/- The walk of slices.Clone of instructions. -/
import Derived.Test.YtahcgnmhhgcfmaaDoorCProgL
import Derived.Test.YtahcgnmhhgcfmaaDoorCPlain
import Derived.Lib.LazyBuf
import Derived.WalkSpells
import Derived.WalkLawsBesides
namespace Go.Proofs.YtahcgnmhhgcfmaaDoor
open Go.RowKit

set_option maxRecDepth 100000 in
set_option maxHeartbeats 800000 in
theorem cloneIns_any (l : List Ins) (b o lc : Nat) (w : World) (hS : SeqAt fIns 4 w (some ⟨b, o, none⟩) l) (h0 : 0 < l.length) (hl : l.length ≤ 1000) :
    Calls Tryd.prog 19 #[.slice (some ⟨b, o, none⟩) l.length lc] w fun e w' => ∃ g cap, e = .returned (.slice (some ⟨g, 0, none⟩) l.length cap) ∧ SeqOwn fIns 4 40 w' w.heap.size (.slice (some ⟨g, 0, none⟩) l.length cap) l ∧ Below w.heap.size w w' := by
  have heq := fun (w : World) => run_eql_slice_nil (P := Tryd.prog) w 37 40 (some ⟨b, o, none⟩) l.length lc Tryd.underlying37
  go_enter Tryd.func19, Tryd.ntmps19
  have hO0 : SeqOwn fIns 4 40 (w.alloc (.cells #[] 40)) w.heap.size (.slice (some ⟨w.heap.size, 0, none⟩) 0 0) [] :=
    ⟨by simp, .inr ⟨w.heap.size, 0, #[], rfl, Nat.le_refl _, Deep.blk_alloc_new w _, Nat.le_refl _, Nat.zero_le _, by simp, by simp⟩⟩
  have hS0 := hS.keeps (Keeps.alloc w (.cells #[] 40))
  have hmx : maxLen = 9223372036854775807 := rfl
  have hb0 := below_box w (.cells #[] 40)
  go_wp2_with (at_builtin; refine wpList_seq Tryd.rowIns rfl _ _ (by rfl) (v := .slice (some ⟨w.heap.size, 0, none⟩) 0 0) (by simp [Act.eval]) hO0 (by simp) l _ lc (by simp [Act.eval]) hS0 h0 (by simp; omega) (by simp; omega) ?_; rintro g cap w2 hO hg2 hb2 hg)
  simp only [List.length_nil, Nat.zero_add, List.nil_append] at hO
  go_ret
  exact ⟨g, cap, by simp, hO, hb0.trans hb2⟩

end Go.Proofs.YtahcgnmhhgcfmaaDoor
