/- The walk of the reference's CollectedOf. -/
import Derived.Test.YtbifdcchdoflpacHCollect
import Derived.Test.YtbifdcchdoflpacHCopy
import Derived.Test.YtbifdcchdoflpacHHeld
import Derived.WalkKit
import Derived.WalkSpells
import Derived.WalkLawsBesides
import Derived.Deep.LoopGhost
import Derived.Deep.Light
import Derived.Deep.QuietTactic
import Derived.BigQuiet
import Derived.BigRegion
namespace Go.Proofs.Ytbifdcchdoflpac
open Go.RowKit Go.Maps

/-- The new place of each object, -1: it goes. -/
def placeL (order : List Int) (n : Nat) : List Int := (List.range n).map fun i : Nat => if (i : Int) ∈ order then ((keptOf order i).length : Int) else -1

theorem placeL_length (order : List Int) (n : Nat) : (placeL order n).length = n := by simp [placeL]

theorem placeL_at (order : List Int) {n i : Nat} (hi : i < n) : (placeL order n)[i]? = some (if (i : Int) ∈ order then ((keptOf order i).length : Int) else -1) := by
  simp [placeL, List.getElem?_range hi]

theorem placeL_succ (order : List Int) (n : Nat) : placeL order (n + 1) = placeL order n ++ [if (n : Int) ∈ order then ((keptOf order n).length : Int) else -1] := by
  simp [placeL, List.range_succ]

theorem kept_idx (order : List Int) : ∀ {n i : Nat}, i < n → (i : Int) ∈ order → (keptOf order n).idxOf (i : Int) = (keptOf order i).length
  | n + 1, i, hi, hm => by
    rw [keptOf_succ]
    by_cases e : i = n
    · subst e
      have hnot : (i : Int) ∉ keptOf order i := fun h => by have := (mem_keptOf.1 h).1.2; omega
      rw [if_pos hm, List.idxOf_append, if_neg hnot]
      simp
    · have hin : (i : Int) ∈ keptOf order n := mem_keptOf.2 ⟨⟨by omega, by omega⟩, hm⟩
      by_cases hn : (n : Int) ∈ order
      · rw [if_pos hn, List.idxOf_append, if_pos hin]
        exact kept_idx order (by omega) hm
      · rw [if_neg hn]
        exact kept_idx order (by omega) hm

/-- A value, its place looked up in a list. -/
def fixV (pl : List Int) (v : Vl) : Vl := if v.k = 2 then ⟨2, (pl[v.n.toNat]?).getD 0⟩ else v

theorem fixV_mv {order : List Int} {n : Nat} (v : Vl) (h : v.k = 2 → v.n ∈ keptOf order n) : fixV (placeL order n) v = mvV (keptOf order n) 0 v := by
  unfold fixV mvV
  by_cases hk : v.k = 2
  · have hm := mem_keptOf.1 (h hk)
    rw [if_pos hk, if_pos hk]
    obtain ⟨i, hi⟩ := Int.eq_ofNat_of_zero_le hm.1.1
    have hlt : i < n := by have := hm.1.2; omega
    rw [hi, Int.toNat_natCast, placeL_at order hlt, if_pos (by rw [← hi]; exact hm.2), kept_idx order hlt (by rw [← hi]; exact hm.2)]
    simp
  · rw [if_neg hk, if_neg hk]

theorem set_one {α : Type} (l : List α) (i : Nat) (x : α) (h : l[i]? = some x) : l.set i x = l := by
  refine List.ext_getElem? fun j => ?_
  rw [List.getElem?_set]
  split
  · rename_i e; subst e; rw [if_pos (List.getElem?_eq_some_iff.1 h).1, h]
  · rfl

theorem ValsOwn.setN {w : World} {base g n cap : Nat} {l : List Vl} (h : ValsOwn w base (.slice (some ⟨g, 0, none⟩) n cap) l) {i : Nat} {k m : Int} (hi : l[i]? = some ⟨k, m⟩) (x : Int) : ValsOwn (w.setCell ⟨g, i * 2 + 1, none⟩ (.int .i64 x)) base (.slice (some ⟨g, 0, none⟩) n cap) (l.set i ⟨k, x⟩) := by
  have := ownsRow_set h (g := g) rfl (i * 2 + 1) (.int .i64 x)
  unfold ValsOwn
  have e : valCells (l.set i ⟨k, x⟩) = (valCells l).set (i * 2 + 1) (.int .i64 x) := by
    have e1 : (valCells l).set (i * 2) (.int .i64 k) = valCells l := set_one _ _ _ (by simp [valCells, pairs_fst, hi, valPair])
    have e2 : valCells (l.set i ⟨k, x⟩) = ((valCells l).set (i * 2) (.int .i64 k)).set (i * 2 + 1) (.int .i64 x) := by
      rw [valCells, valCells, pairs_set, List.map_set]; rfl
    rw [e2, e1]
  rw [List.length_set, e]
  exact this

set_option maxHeartbeats 1000000 in
theorem fix_any (la : Option Addr) (lc : Nat) (l : List Vl) (PB : Nat) (pa : Option Addr) (pc : Nat) (pl : List Int) (w : World) (h : ValsAt w la l) (hl : 16 * l.length ≤ 140737488351232)
    (hbox : w.heap[PB]? = some (.cells #[.slice pa pl.length pc] 52 (0, 0))) (hI : IntsAt w pa pl) (_hpl : pl.length ≤ 60) (hin : ∀ v ∈ l, v.k = 2 → 0 ≤ v.n ∧ v.n < (pl.length : Int)) :
    Calls Try.prog 38 #[.slice la l.length lc, .pointer (some ⟨PB, 0, none⟩)] w fun e w' => ∃ va vc, e = .returned (.slice va l.length vc) ∧ ValsOwn w' w.heap.size (.slice va l.length vc) (l.map (fixV pl)) ∧ Below w.heap.size w w' := by
  have HV := values_any la lc l w h hl
  obtain ⟨L, hL⟩ : ∃ L, L = l.length := ⟨_, rfl⟩
  have HL : Aside (L = l.length) := hL
  rw [← hL] at hl HV ⊢
  clear hL
  have HIN : Aside (∀ v ∈ l, v.k = 2 → 0 ≤ v.n ∧ v.n < (pl.length : Int)) := hin
  clear hin
  have hc0 := cell_blk hbox 0
  simp at hc0
  have hPB := (Array.getElem?_eq_some_iff.1 hbox).1
  go_enter Try.func38, Try.ntmps38
  go_wp2_with fail
  refine HV.mono ?_
  rintro e w1 ⟨va, vc, rfl, hO1, hb1⟩
  clear HV
  go_wp2
  go_loopg [5] L (fun g s5 wr => ∃ i : Nat, i ≤ L ∧ g = L - i ∧ s5 = .int .i64 i ∧ Below w.heap.size w wr ∧ ValsOwn wr w.heap.size (.slice va L vc) ((l.take i).map (fixV pl) ++ l.drop i))
  case atStart => exact ⟨0, Nat.zero_le _, rfl, rfl, hb1, by simpa using hO1⟩
  case round =>
    obtain ⟨i, hi, rfl, rfl, hb, hO⟩ := hrel
    clear hO1 hb1
    by_cases hiL : i < L
    · have hiz : (i : Int) < (L : Int) := by omega
      obtain ⟨⟨k, n⟩, hv⟩ := at_some (l := l) (i := i) (by rw [← HL.out]; exact hiL)
      have HT : Aside (l.take (i + 1) = l.take i ++ [⟨k, n⟩]) := by show l.take (i + 1) = _; rw [List.take_add_one, hv]; rfl
      have HD : Aside (l.drop i = ⟨k, n⟩ :: l.drop (i + 1)) := by
        obtain ⟨hlt, e⟩ := List.getElem?_eq_some_iff.1 hv
        show l.drop i = _
        rw [List.drop_eq_getElem_cons hlt, e]
      have hlen : Aside (((l.take i).map (fixV pl)).length = i) := by show ((l.take i).map (fixV pl)).length = i; rw [List.length_map, List.length_take, ← HL.out]; omega
      have hnb := HIN.out _ (List.mem_of_getElem? hv)
      have HAT : Aside (((l.take i).map (fixV pl) ++ l.drop i)[i]? = some ⟨k, n⟩) := by
        show ((l.take i).map (fixV pl) ++ l.drop i)[i]? = _
        rw [List.getElem?_append_right (by rw [hlen.out]; omega), hlen.out, Nat.sub_self, HD.out]
        rfl
      obtain ⟨g, hg⟩ : ∃ g, va = some ⟨g, 0, none⟩ := by
        rcases ownsRow_form hO with ⟨hx, _⟩ | ⟨g, gc, hg', _⟩
        · simp only [Value.slice.injEq] at hx; omega
        · simp only [Value.slice.injEq] at hg'
          exact ⟨g, hg'.1⟩
      subst hg
      obtain ⟨q1, q2⟩ := ValsOwn.cells2 hO HAT.out
      simp only at q1 q2 hnb
      have q3 : ∀ j, wr.frozen? ⟨g, j, none⟩ = false := fun j => ownsRow_frozen hO rfl j
      have hgb := (World.ownsRow.lt hO g rfl).1
      clear hv
      by_cases hk : k = 2
      · subst hk
        have hn := hnb rfl
        obtain ⟨q, rfl⟩ := Int.eq_ofNat_of_zero_le hn.1
        have hqz : (q : Int) < (pl.length : Int) := hn.2
        obtain ⟨x, hx⟩ := at_some (l := pl) (i := q) (by omega)
        have hpx := hI q x hx
        obtain ⟨pb, po, rfl, c1⟩ := hpx
        have hplt := World.block_lt_of_cell? _ _ c1
        simp only at hplt
        replace c1 := Keeps.below hb _ _ c1
        have c0 := Keeps.below hb _ _ hc0
        have HX : Aside (fixV pl ⟨2, q⟩ = ⟨2, x⟩) := by show fixV pl ⟨2, q⟩ = _; simp [fixV, hx]
        have hO2 := ValsOwn.setN hO HAT.out x
        have HO3 : Aside (ValsOwn (wr.setCell ⟨g, i * 2 + 1, none⟩ (.int .i64 x)).drew w.heap.size (.slice (some ⟨g, 0, none⟩) L vc) ((l.take (i + 1)).map (fixV pl) ++ l.drop (i + 1))) := by
          have e : ((l.take i).map (fixV pl) ++ l.drop i).set i ⟨2, x⟩ = (l.take (i + 1)).map (fixV pl) ++ l.drop (i + 1) := by
            have := set_mid ((l.take i).map (fixV pl)) (⟨2, q⟩ : Vl) (l.drop (i + 1)) ⟨2, x⟩
            rw [hlen.out] at this
            rw [HD.out, this, HT.out, List.map_append, ← HX.out]
            simp
          rw [e] at hO2
          exact ownsRow_below hO2 (Below.refl _ _).drew
        have hb3 : Aside (Below w.heap.size w (wr.setCell ⟨g, i * 2 + 1, none⟩ (.int .i64 x)).drew) := (hb.setCell hgb _).drew
        clear hO2 hO hb hx hnb
        go_wp2
        go_region
        all_goals
          change Exit.inBlock _ _ _ _ ((wr.setCell ⟨g, i * 2 + 1, none⟩ (.int .i64 x)).drew)
          have hO4 := HO3.out
          have hb4 := hb3.out
          clear HO3 hb3 q1 q2 q3 c1 c0
          generalize (wr.setCell ⟨g, i * 2 + 1, none⟩ (.int .i64 x)).drew = w5 at *
          go_wp2
          go_roundg (L - (i + 1))
          case measure => go_light; omega
          case rel => go_light; exact ⟨i + 1, by omega, rfl, by go_num, hb4, hO4⟩
      · have hkb : (k == 2) = false := by simp [hk]
        have HX : Aside (fixV pl ⟨k, n⟩ = ⟨k, n⟩) := by show fixV pl ⟨k, n⟩ = _; simp [fixV, hk]
        have HE : Aside ((l.take (i + 1)).map (fixV pl) ++ l.drop (i + 1) = (l.take i).map (fixV pl) ++ l.drop i) := by
          show _ = _
          rw [HT.out, HD.out, List.map_append]
          simp [HX.out]
        clear hk
        go_wp2
        go_roundg (L - (i + 1))
        case measure => go_light; omega
        case rel => go_light; exact ⟨i + 1, by omega, rfl, by go_num, hb, by rw [HE.out]; exact hO⟩
    · have HT : Aside ((l.take i).map (fixV pl) ++ l.drop i = l.map (fixV pl)) := by
        show _ = _
        rw [List.take_of_length_le (by rw [← HL.out]; omega), List.drop_eq_nil_of_le (by rw [← HL.out]; omega)]
        simp
      rw [HT.out] at hO
      go_wp2
      go_ret
      exact ⟨va, vc, rfl, hO, hb⟩

end Go.Proofs.Ytbifdcchdoflpac
