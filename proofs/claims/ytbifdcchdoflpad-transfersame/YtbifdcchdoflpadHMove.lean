/- The walks of newPlaces, mover and movedValues: places in a map; values at their new places. -/
import Derived.Test.YtbifdcchdoflpadHLed
import Derived.Test.YtbifdcchdoflpadHPureM
import Derived.WalkKit
import Derived.WalkSpells
import Derived.WalkLawsBesides
import Derived.Deep.LoopGhost
import Derived.Deep.Light
import Derived.Maps.Own
import Derived.Maps.OwnOps
import Derived.Maps.OwnSet
namespace Go.Proofs.Ytbifdcchdoflpad
open Go.RowKit Go.Maps

/-- The map m, of the call's own, has the new places of these. -/
def PlAt (w : World) (m : Nat) (order : List Int) (b : Int) : Prop :=
  ∃ (D : DataW Unit) (n : Nat), w.ownsMap Try.prog 3 (plainElem Try.prog 3) m n D ∧ ∀ (i : Nat) p, order[i]? = some p → D.atKey (.int .i64 p) (.lit (.int .i64 0)) = .lit (.int .i64 (b + i))

theorem PlAt.below {w w' : World} {m : Nat} {order : List Int} {b : Int} (h : PlAt w m order b) (hb : Below w.heap.size w w') : PlAt w' m order b := by
  obtain ⟨D, n, hD, hh⟩ := h
  exact ⟨D, n, hD.kept (row := none) ⟨hb.os, hb.tape, hb.output, hb.size, fun k hk _ => hb.block k hk⟩ (by simp), hh⟩

theorem run_makeMap_hint (n : Nat) (w : World) : (Instr.makeMap 59 (some (.int .i64 (n : Int)))).run Try.prog w = .ok (.map (some w.heap.size)) (w.alloc (.map #[] 0)) := by
  simp [Instr.makeMap, run_underlying Try.underlying59, asInt, asIntOf, Result.andThen, newObj]
  rfl

set_option maxHeartbeats 400000 in
theorem newPlaces_any (oa : Option Addr) (oc : Nat) (l : List Int) (b : Int) (w : World) (h : IntsAt w oa l) (hok : Ok 60 l) (hb0 : 0 ≤ b) (hb1 : b ≤ 60) :
    Calls Try.prog 23 #[.slice oa l.length oc, .int .i64 b] w fun e w' => ∃ m, e = .returned (.map (some m)) ∧ PlAt w' m l b ∧ Below w.heap.size w w' := by
  have hl60 := hok.len
  obtain ⟨L, hL⟩ : ∃ L, L = l.length := ⟨_, rfl⟩
  have HL : Aside (L = l.length) := hL
  rw [← hL] at hl60 ⊢
  clear hL
  have HOK : Aside (Ok 60 l) := hok
  clear hok
  have hmm := run_makeMap_hint L
  go_enter Try.func23, Try.ntmps23
  go_wp2
  clear hmm
  have hD0 : Aside ((w.alloc (Obj.map #[] 0)).ownsMap Try.prog 3 (plainElem (H := Unit) Try.prog 3) w.heap.size 0 (.map [])) := World.ownsMap_made (H := Unit) w Try.prog 3 (plainElem Try.prog 3)
  have hB0 : Aside (Below w.heap.size w (w.alloc (Obj.map #[] 0))) := below_box _ _
  go_loopg [13, 6, 7] L (fun g s13 s6 s7 wr => ∃ (i : Nat) (D : DataW Unit), i ≤ L ∧ g = L - i ∧ s13 = .int .i64 i ∧ Below w.heap.size w wr ∧ wr.ownsMap Try.prog 3 (plainElem Try.prog 3) w.heap.size i D ∧ Aside (∀ (j : Nat) p, j < i → l[j]? = some p → D.atKey (.int .i64 p) (.lit (.int .i64 0)) = .lit (.int .i64 (b + j))))
  case atStart => exact ⟨0, _, Nat.zero_le _, rfl, rfl, hB0.out, hD0.out, fun j p hj => absurd hj (Nat.not_lt_zero _)⟩
  case round =>
    obtain ⟨i, D, hi, rfl, rfl, hb, hD, hA⟩ := hrel
    clear hD0 hB0
    by_cases hiL : i < L
    · have hiz : (i : Int) < (L : Int) := by omega
      obtain ⟨p, hp⟩ := at_some (l := l) (i := i) (by rw [← HL.out]; exact hiL)
      have HP : Aside (l[i]? = some p) := hp
      have hpb := HOK.out.2 p (List.mem_of_getElem? hp)
      obtain ⟨bk, o, rfl, c1⟩ := (h.keeps (Keeps.below hb)) i _ hp
      have hkey := keyOf_int_mk (P := Try.prog) (k := 3) (q := .i64) (a := p) Try.underlying3 (wf64 (by omega) (by omega))
      clear hp
      go_wp2_with (at_mapUpdate; refine wpList_mapUpdate_own _ rfl _ _ _ 59 rfl 3 3 keysN Try.underlying59 _ w.heap.size i D rfl hD ?m1 _ _ _ rfl rfl hkey _ [] (plainElem_int Try.underlying3 (wf64 ?m2 ?m3)) ?_; (case m1 => unfold maxLen; omega); (case m2 => omega); (case m3 => omega); intro w1 hD1 hg1)
      have hb2 : Below w.heap.size w w1 := hb.grown hg1 hb.size (fun k hk => by cases hk; exact Nat.le_refl _)
      have HA2 : Aside (∀ (j : Nat) q, j < i + 1 → l[j]? = some q → (D.put (.int .i64 p) (.lit (.int .i64 (b + i)))).atKey (.int .i64 q) (.lit (.int .i64 0)) = .lit (.int .i64 (b + j))) := fun j q hj hq => by
        by_cases hji : j = i
        · subst hji
          have := HP.out
          rw [hq] at this
          cases this
          exact atKey_put_same hD.isMap (by simp [WideAt.IsKeyLit]) _ _
        · have hne : q ≠ p := fun e => by
            subst e
            have h1 := idx_of HOK.out.1 hq
            have h2 := idx_of HOK.out.1 HP.out
            omega
          rw [atKey_put_other (by simp [hne])]
          exact hA.out j q (by omega) hq
      clear hA hb hD hg1 c1 hkey
      go_wp2
      go_roundg (L - (i + 1))
      case measure => go_light; omega
      case rel => go_light; exact ⟨i + 1, _, by omega, rfl, by go_num, hb2, hD1, HA2⟩
    · have HA2 : Aside (∀ (j : Nat) q, l[j]? = some q → D.atKey (.int .i64 q) (.lit (.int .i64 0)) = .lit (.int .i64 (b + j))) := fun j q hq => hA.out j q (by have := (List.getElem?_eq_some_iff.1 hq).1; rw [← HL.out] at this; omega) hq
      clear hA
      go_wp2
      go_ret
      exact ⟨_, rfl, ⟨D, i, hD, HA2.out⟩, hb⟩

/-- The mover's variable, and its map. -/
def MvAt (w : World) (B : Nat) (order : List Int) (b : Int) : Prop := ∃ m, w.heap[B]? = some (.cells #[.map (some m)] 59 (0, 0)) ∧ PlAt w m order b

theorem MvAt.below {w w' : World} {B : Nat} {order : List Int} {b : Int} (h : MvAt w B order b) (hb : Below w.heap.size w w') : MvAt w' B order b := by
  obtain ⟨m, h1, h2⟩ := h
  exact ⟨m, (hb.block _ (Array.getElem?_eq_some_iff.1 h1).1).trans h1, h2.below hb⟩

set_option maxHeartbeats 400000 in
theorem mover_any (m : Nat) (order : List Int) (b : Int) (w : World) (h : PlAt w m order b) :
    Calls Try.prog 22 #[.map (some m)] w fun e w' => ∃ B, e = .returned (.func (.func 38) #[] #[.pointer (some ⟨B, 0, none⟩)]) ∧ MvAt w' B order b ∧ Below w.heap.size w w' := by
  go_enter Try.func22, Try.ntmps22
  go_wp2
  go_ret
  exact ⟨_, rfl, ⟨m, Deep.blk_alloc_new _ _, h.below (below_box _ _)⟩, below_box _ _⟩

theorem PlAt.at {w : World} {m : Nat} {order : List Int} {b : Int} (h : PlAt w m order b) {p : Int} (hp : p ∈ order) : ∃ (D : DataW Unit) (n : Nat), w.ownsMap Try.prog 3 (plainElem Try.prog 3) m n D ∧ D.atKey (.int .i64 p) (.lit (.int .i64 0)) = .lit (.int .i64 (b + (order.idxOf p : Nat))) := by
  obtain ⟨D, n, hD, hh⟩ := h
  exact ⟨D, n, hD, hh _ p (idx_at hp)⟩

set_option maxHeartbeats 400000 in
theorem mover1_any (k n : Int) (B : Nat) (order : List Int) (b : Int) (w : World) (h : MvAt w B order b) (hk : k = 2 → n ∈ order) (hn : k = 2 → 0 ≤ n ∧ n < 60) :
    Calls Try.prog 38 #[.agg #[.int .i64 k, .int .i64 n], .pointer (some ⟨B, 0, none⟩)] w fun e w' => e = .returned (.agg #[.int .i64 (mvV order b ⟨k, n⟩).k, .int .i64 (mvV order b ⟨k, n⟩).n]) ∧ Below w.heap.size w w' := by
  obtain ⟨m, hB, hP⟩ := h
  by_cases h2 : k = 2
  · subst h2
    have hnb := hn rfl
    have hb2 : Below w.heap.size w ((w.alloc (Obj.cells #[.int .i64 2, .int .i64 n] 30)).alloc (Obj.cells #[.int .i64 0, .int .i64 0] 30)) := (below_box _ _).alloc (by simp) _
    obtain ⟨D, nn, hD, hat⟩ := (hP.below hb2).at (hk rfl)
    have hV : mvV order b ⟨2, n⟩ = ⟨2, b + (order.idxOf n : Nat)⟩ := by simp [mvV]
    rw [hV]
    clear hV
    have hB2 := (hb2.block _ (Array.getElem?_eq_some_iff.1 hB).1).trans hB
    have c0 := cell_blk hB2 0
    simp at c0
    have hkey := keyOf_int_mk (P := Try.prog) (k := 3) (q := .i64) (a := n) Try.underlying3 (wf64 (by omega) (by omega))
    generalize hq : b + (order.idxOf n : Nat) = q at *
    clear hb2 hB hP hB2 hk hn
    go_enter Try.func38, Try.ntmps38
    go_wp2_with (at_lookup; refine wpList_lookup_own_int _ rfl _ _ 59 rfl 3 3 .i64 keysN Try.underlying59 Try.underlying3 (Try.zeroN _) m nn D rfl hD _ _ rfl hkey ?_; intro c hc hwc; obtain rfl : q = c := by (rw [hat] at hc; simpa using hc))
    refine bodyPost_ret (v := .agg #[.int .i64 2, .int .i64 q]) (by simp [results, Try.results38, go_sem]) rfl ⟨rfl, (below_box _ _).alloc (by simp) _⟩
  · have hkb : (k == 2) = false := by simp [h2]
    have hV : mvV order b ⟨k, n⟩ = ⟨k, n⟩ := by simp [mvV, h2]
    rw [hV]
    clear hV
    go_enter Try.func38, Try.ntmps38
    go_wp2
    refine bodyPost_ret (v := .agg #[.int .i64 k, .int .i64 n]) (by simp [results, Try.results38, go_sem]) rfl ⟨rfl, (below_box _ _).alloc (by simp) _⟩

theorem ValsOwn.set {w : World} {base g n cap : Nat} {l : List Vl} (h : ValsOwn w base (.slice (some ⟨g, 0, none⟩) n cap) l) (i : Nat) (x : Vl) : ValsOwn ((w.setCell ⟨g, i * 2, none⟩ (.int .i64 x.k)).setCell ⟨g, i * 2 + 1, none⟩ (.int .i64 x.n)) base (.slice (some ⟨g, 0, none⟩) n cap) (l.set i x) := by
  have := ownsRow_set (ownsRow_set h (g := g) rfl (i * 2) (.int .i64 x.k)) (g := g) rfl (i * 2 + 1) (.int .i64 x.n)
  unfold ValsOwn
  have e : valCells (l.set i x) = ((valCells l).set (i * 2) (.int .i64 x.k)).set (i * 2 + 1) (.int .i64 x.n) := by
    rw [valCells, valCells, pairs_set, List.map_set]; rfl
  rw [List.length_set, e]
  exact this

theorem ValsOwn.cells2 {w : World} {base g n cap : Nat} {l : List Vl} (h : ValsOwn w base (.slice (some ⟨g, 0, none⟩) n cap) l) {i : Nat} {v : Vl} (hi : l[i]? = some v) : w.cell? ⟨g, i * 2, none⟩ = some (.int .i64 v.k) ∧ w.cell? ⟨g, i * 2 + 1, none⟩ = some (.int .i64 v.n) :=
  ⟨ownsRow_cell h rfl (by simp [valCells, pairs_fst, hi, valPair]), ownsRow_cell h rfl (by simp [valCells, pairs_snd, hi, valPair])⟩

theorem set_mid {α : Type} (a : List α) (z : α) (r : List α) (x : α) : (a ++ z :: r).set a.length x = a ++ x :: r := by simp

set_option maxHeartbeats 1000000 in
theorem movedValues_any (la : Option Addr) (lc : Nat) (l : List Vl) (B : Nat) (order : List Int) (b : Int) (w : World) (h : ValsAt w la l) (hl : 16 * l.length ≤ 140737488351232) (hM : MvAt w B order b) (hld : Leads order l) (hok : Ok 60 order) :
    Calls Try.prog 39 #[.slice la l.length lc, .func (.func 38) #[] #[.pointer (some ⟨B, 0, none⟩)]] w fun e w' => ∃ va vc, e = .returned (.slice va l.length vc) ∧ ValsOwn w' w.heap.size (.slice va l.length vc) (l.map (mvV order b)) ∧ Below w.heap.size w w' := by
  obtain ⟨L, hL⟩ : ∃ L, L = l.length := ⟨_, rfl⟩
  have HL : Aside (L = l.length) := hL
  rw [← hL] at hl ⊢
  clear hL
  have HLD : Aside (Leads order l ∧ Ok 60 order) := ⟨hld, hok⟩
  clear hld hok
  have hmk := run_make_rowk (P := Try.prog) 2 26 30 _ 16 Try.underlying26 Try.infoV .i64 .i64 L (by omega) (by omega)
  go_enter Try.func39, Try.ntmps39
  go_wp2
  clear hmk
  have hO0 : Aside (ValsOwn (w.alloc (.cells (madeCells #[.int .i64 0, .int .i64 0] (L * 2)) 30)) w.heap.size (.slice (some ⟨w.heap.size, 0, none⟩) L L) (zeroVals L)) := vals_made w w.heap.size L (Nat.le_refl _) (by unfold maxLen; omega)
  have hB0 : Aside (Below w.heap.size w (w.alloc (.cells (madeCells #[.int .i64 0, .int .i64 0] (L * 2)) 30))) := below_box _ _
  go_loopg [13, 6, 7] L (fun g s13 s6 s7 wr => ∃ i : Nat, i ≤ L ∧ g = L - i ∧ s13 = .int .i64 i ∧ Below w.heap.size w wr ∧ ValsOwn wr w.heap.size (.slice (some ⟨w.heap.size, 0, none⟩) L L) ((l.take i).map (mvV order b) ++ zeroVals (L - i)))
  case atStart => exact ⟨0, Nat.zero_le _, rfl, rfl, hB0.out, by simpa using hO0.out⟩
  case round =>
    obtain ⟨i, hi, rfl, rfl, hb, hO⟩ := hrel
    clear hO0 hB0
    by_cases hiL : i < L
    · have hiz : (i : Int) < (L : Int) := by omega
      obtain ⟨⟨k, n⟩, hv⟩ := at_some (l := l) (i := i) (by rw [← HL.out]; exact hiL)
      have HT : Aside (l.take (i + 1) = l.take i ++ [⟨k, n⟩]) := by show l.take (i + 1) = _; rw [List.take_add_one, hv]; rfl
      have hm := HLD.out.1 _ (List.mem_of_getElem? hv)
      have hn60 : k = 2 → 0 ≤ n ∧ n < 60 := fun e => HLD.out.2.2 _ (hm e)
      obtain ⟨bk, o, rfl, c1, c2⟩ := (h.keeps (Keeps.below hb)) i _ hv
      clear hv
      simp only at c1 c2
      have hs := (World.ownsRow.lt hO w.heap.size rfl).2
      go_wp2_with fail
      refine (mover1_any k n B order b _ ((hM.below hb).below (below_box _ _)) hm hn60).mono ?_
      rintro e w1 ⟨rfl, hb1⟩
      have hO1 := ownsRow_below (ownsRow_below hO (below_box wr (Obj.cells #[Value.int IntKind.i64 k, Value.int IntKind.i64 n] 30))) hb1
      have hbw : Below w.heap.size w w1 := (hb.alloc (by omega) _).trans (hb1.mono (by simp; omega))
      generalize hx : mvV order b ⟨k, n⟩ = x
      have HX : Aside (mvV order b ⟨k, n⟩ = x) := hx
      clear hx
      obtain ⟨x1, x2⟩ := x
      simp only
      have hlen : Aside ((l.take i).length = i) := by show (l.take i).length = i; rw [List.length_take, ← HL.out]; omega
      obtain ⟨z, hz⟩ : ∃ z, zeroVals (L - i) = ⟨0, 0⟩ :: z ∧ z = zeroVals (L - (i + 1)) := ⟨zeroVals (L - (i + 1)), by rw [show L - i = (L - (i + 1)) + 1 by omega]; rfl, rfl⟩
      obtain ⟨q1, q2⟩ := ValsOwn.cells2 hO1 (i := i) (v := ⟨0, 0⟩) (by rw [hz.1, List.getElem?_append_right (by rw [List.length_map, hlen.out]; omega), List.length_map, hlen.out, Nat.sub_self]; rfl)
      simp only at q1 q2
      have q3 : ∀ j, w1.frozen? ⟨w.heap.size, j, none⟩ = false := fun j => ownsRow_frozen hO1 rfl j
      have hO2 := ValsOwn.set hO1 i ⟨x1, x2⟩
      have HO3 : Aside (ValsOwn ((w1.setCell ⟨w.heap.size, i * 2, none⟩ (.int .i64 x1)).setCell ⟨w.heap.size, i * 2 + 1, none⟩ (.int .i64 x2)) w.heap.size (.slice (some ⟨w.heap.size, 0, none⟩) L L) ((l.take (i + 1)).map (mvV order b) ++ zeroVals (L - (i + 1)))) := by
        have e : ((l.take i).map (mvV order b) ++ zeroVals (L - i)).set i ⟨x1, x2⟩ = (l.take (i + 1)).map (mvV order b) ++ zeroVals (L - (i + 1)) := by
          have := set_mid ((l.take i).map (mvV order b)) (⟨0, 0⟩ : Vl) z ⟨x1, x2⟩
          rw [List.length_map, hlen.out] at this
          rw [hz.1, this, HT.out, ← hz.2, List.map_append, ← HX.out]
          simp
        rw [e] at hO2
        exact hO2
      have hb3 : Aside (Below w.heap.size w ((w1.setCell ⟨w.heap.size, i * 2, none⟩ (.int .i64 x1)).setCell ⟨w.heap.size, i * 2 + 1, none⟩ (.int .i64 x2))) := (hbw.setCell (Nat.le_refl _) _).setCell (Nat.le_refl _) _
      clear hO1 hO2 hbw hb1 hO hb c1 c2 hz
      go_wp2
      go_roundg (L - (i + 1))
      case measure => go_light; omega
      case rel => go_light; exact ⟨i + 1, by omega, rfl, by go_num, hb3.out, HO3.out⟩
    · obtain rfl : i = L := by omega
      have HT : Aside ((l.take i).map (mvV order b) ++ zeroVals (i - i) = l.map (mvV order b)) := by
        show _ = _
        rw [List.take_of_length_le (by rw [← HL.out]; omega), Nat.sub_self]
        simp [zeroVals]
      rw [HT.out] at hO
      go_wp2
      go_ret
      exact ⟨_, _, rfl, hO, hb⟩

end Go.Proofs.Ytbifdcchdoflpad
