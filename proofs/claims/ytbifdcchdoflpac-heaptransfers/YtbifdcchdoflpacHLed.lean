/- The walks of has, ledTo, ReachOf and sameInts. -/
import Derived.Test.YtbifdcchdoflpacHReach
import Derived.WalkKit
import Derived.WalkSpells
import Derived.WalkLawsBesides
import Derived.Deep.LoopGhost
import Derived.Deep.Light
import Derived.Deep.QuietTactic
import Derived.BigQuiet
import Derived.BigRegion
namespace Go.Proofs.Ytbifdcchdoflpac
open Go.RowKit Go.Maps

/-- These numbers lie in a row. -/
def IntsAt (w : World) (ao : Option Addr) (l : List Int) : Prop := ∀ (i : Nat) z, l[i]? = some z → ∃ b o, ao = some ⟨b, o, none⟩ ∧ w.cell? ⟨b, o + i, none⟩ = some (.int .i64 z)

theorem IntsAt.keeps {w w' : World} {ao : Option Addr} {l : List Int} (h : IntsAt w ao l) (k : Keeps w w') : IntsAt w' ao l := fun i z hi => by
  obtain ⟨b, o, e, h1⟩ := h i z hi
  exact ⟨b, o, e, k _ _ h1⟩

theorem IntsOwn.at {w : World} {base : Nat} {ao : Option Addr} {n c : Nat} {l : List Int} (h : IntsOwn w base (.slice ao n c) l) : IntsAt w ao l := fun i z hi => by
  rcases ownsRow_form h with ⟨_, hn⟩ | ⟨g, cap, hv, _⟩
  · have : l = [] := List.eq_nil_of_length_eq_zero hn
    subst this
    simp at hi
  · simp only [Value.slice.injEq] at hv
    obtain ⟨rfl, rfl, rfl⟩ := hv
    exact ⟨g, 0, rfl, by rw [Nat.zero_add]; exact ownsRow_cell h rfl (by simp [hi])⟩

set_option maxHeartbeats 400000 in
theorem has_any (oa : Option Addr) (oc : Nat) (l : List Int) (z : Int) (w : World) (h : IntsAt w oa l) (hl : l.length ≤ 1000000) :
    Calls Try.prog 37 #[.slice oa l.length oc, .int .i64 z] w fun e w' => e = .returned (.bool (decide (z ∈ l))) ∧ w = w' := by
  obtain ⟨L, hL⟩ : ∃ L, L = l.length := ⟨_, rfl⟩
  have HL : Aside (L = l.length) := hL
  rw [← hL] at hl ⊢
  clear hL
  go_enter Try.func37, Try.ntmps37
  go_wp2
  go_loopg [5] L (fun g s5 wr => ∃ i : Nat, i ≤ L ∧ g = L - i ∧ s5 = .int .i64 i ∧ w = wr ∧ Aside (z ∈ l ↔ z ∈ l.drop i))
  case atStart => exact ⟨0, Nat.zero_le _, rfl, rfl, rfl, Iff.rfl⟩
  case round =>
    obtain ⟨i, hi, rfl, rfl, rfl, hA⟩ := hrel
    by_cases hiL : i < L
    · have hiz : (i : Int) < (L : Int) := by omega
      obtain ⟨y, hy⟩ := at_some (l := l) (i := i) (by rw [← HL.out]; exact hiL)
      have HS : Aside (z ∈ l.drop i ↔ z = y ∨ z ∈ l.drop (i + 1)) := by
        obtain ⟨hlt, rfl⟩ := List.getElem?_eq_some_iff.1 hy
        show z ∈ l.drop i ↔ _
        rw [List.drop_eq_getElem_cons hlt, List.mem_cons]
      obtain ⟨b, o, rfl, c1⟩ := h i _ hy
      clear hy
      by_cases he : y = z
      · subst he
        have HY : Aside (y ∈ l) := hA.out.2 (HS.out.2 (Or.inl rfl))
        clear hA HS
        go_wp2
        go_ret
        refine ⟨ret_bool ?_, rfl⟩
        have := HY.out
        simp [this]
      · have heb : (y == z) = false := by simp [he]
        have HN : Aside (z ∈ l ↔ z ∈ l.drop (i + 1)) := by
          show z ∈ l ↔ _
          rw [hA.out, HS.out]
          exact ⟨fun h => h.resolve_left (fun e => he e.symm), Or.inr⟩
        clear hA HS he
        go_wp2
        go_roundg (L - (i + 1))
        case measure => go_light; omega
        case rel => go_light; exact ⟨i + 1, by omega, rfl, by go_num, rfl, HN⟩
    · have HN : Aside (z ∉ l) := by
        show z ∉ l
        rw [hA.out, List.drop_eq_nil_of_le (by rw [← HL.out]; omega)]
        simp
      go_wp2
      go_ret
      refine ⟨ret_bool ?_, rfl⟩
      have := HN.out
      simp [this]

/-- Blocks below N, and rows of values, are as they were. -/
structure KeepV (N : Nat) (w w' : World) : Prop where
  size : w.heap.size ≤ w'.heap.size
  block : ∀ k c t fr, w.heap[k]? = some (.cells c t fr) → (k < N ∨ t = 34) → w'.heap[k]? = w.heap[k]?

theorem KeepV.refl (N : Nat) (w : World) : KeepV N w w := ⟨Nat.le_refl _, fun _ _ _ _ _ _ => rfl⟩
theorem KeepV.trans {N : Nat} {a b c : World} (h : KeepV N a b) (k : KeepV N b c) : KeepV N a c :=
  ⟨Nat.le_trans h.size k.size, fun j x t fr hj ho => by
    have h1 := h.block j x t fr hj ho
    rw [hj] at h1
    exact (k.block j x t fr h1 ho).trans (h1.trans hj.symm)⟩
theorem KeepV.below {N : Nat} {a b : World} (h : Below a.heap.size a b) : KeepV N a b := ⟨h.size, fun k _ _ _ hk _ => h.block k (Array.getElem?_eq_some_iff.1 hk).1⟩

theorem KeepV.growInt {N : Nat} {w w' : World} {v : Value} {l : List Int} (hI : IntsOwn w N v l) (hg : w.grownBy w' v.ownBlock) : KeepV N w w' :=
  ⟨hg.size, fun k c t fr hk ho => hg.block k (Array.getElem?_eq_some_iff.1 hk).1 (fun e => by
    have hlt := World.ownsRow.lt hI k e.symm
    rcases ho with ho | ho
    · omega
    · rcases hI.2 with ⟨rfl, _⟩ | ⟨g, cap, cur, rfl, _, hgg, _⟩
      · simp [Value.ownBlock] at e
      · simp only [Value.ownBlock, Option.some.injEq] at e
        subst e
        rw [hk] at hgg
        simp only [Option.some.injEq, Obj.cells.injEq] at hgg
        exact absurd (ho.symm.trans hgg.2.1) (by decide))⟩

theorem KeepV.growNew {N : Nat} {w0 w w' : World} {v : Value} {l : List Vl} (h : KeepV N w0 w) (hI : ValsOwn w w0.heap.size v l) (hg : w.grownBy w' v.ownBlock) : KeepV N w0 w' :=
  ⟨Nat.le_trans h.size hg.size, fun k c t fr hk ho => by
    have hk0 := (Array.getElem?_eq_some_iff.1 hk).1
    refine (hg.block k (Nat.lt_of_lt_of_le hk0 h.size) (fun e => ?_)).trans (h.block k c t fr hk ho)
    have hlt := World.ownsRow.lt hI k e.symm
    omega⟩

/-- The values lie below N, or in a row of values. -/
def VLow (w : World) (N : Nat) (ra : Option Addr) (row : List Vl) : Prop :=
  ∀ (i : Nat) v, row[i]? = some v → ∃ b o c t fr, ra = some ⟨b, o, none⟩ ∧ w.heap[b]? = some (.cells c t fr) ∧ (b < N ∨ t = 34)

theorem ValsAt.keepV {w w' : World} {N : Nat} {ra : Option Addr} {row : List Vl} (h : ValsAt w ra row) (hl : VLow w N ra row) (k : KeepV N w w') : ValsAt w' ra row := fun i v hi => by
  obtain ⟨b, o, e, h1, h2⟩ := h i v hi
  obtain ⟨b', o', c, t, fr, e', hb, ho⟩ := hl i v hi
  rw [e] at e'
  simp only [Option.some.injEq, Addr.mk.injEq, and_true] at e'
  obtain ⟨rfl, rfl⟩ := e'
  have hk := k.block b c t fr hb ho
  exact ⟨b, o, e, (World.cell?_of_block (w := w) hk).trans h1, (World.cell?_of_block (w := w) hk).trans h2⟩

theorem VLow.keepV {w w' : World} {N : Nat} {ra : Option Addr} {row : List Vl} (hl : VLow w N ra row) (k : KeepV N w w') : VLow w' N ra row := fun i v hi => by
  obtain ⟨b, o, c, t, fr, e, hb, ho⟩ := hl i v hi
  exact ⟨b, o, c, t, fr, e, (k.block b c t fr hb ho).trans hb, ho⟩

theorem ValsOwn.vlow {w : World} {base N : Nat} {ra : Option Addr} {n c : Nat} {row : List Vl} (h : ValsOwn w base (.slice ra n c) row) : VLow w N ra row := fun i v hi => by
  rcases h.2 with ⟨_, hn⟩ | ⟨g, cap, cur, e, _, hg, _⟩
  · have : row = [] := List.eq_nil_of_length_eq_zero hn
    subst this
    simp at hi
  · simp only [Value.slice.injEq] at e
    exact ⟨g, 0, cur, _, _, e.1, hg, Or.inr rfl⟩

theorem fields_four {M : Int} {l : List Ob} {r : List Vl} (h : hMay M l r = true) (p : Int) : (fieldsOf l p).length ≤ 4 := by
  unfold fieldsOf
  split
  · simp
  · rename_i o ho
    simp only [hMay, Bool.and_eq_true] at h
    have := List.all_eq_true.1 h.1.2 o (List.mem_of_getElem? ho)
    unfold oMay at this
    split at this
    · simp at this; simp [this]
    · simp only [Bool.and_eq_true, decide_eq_true_eq] at this
      exact this.1.2

theorem flat_four {M : Int} {l : List Ob} {r : List Vl} (h : hMay M l r = true) : ∀ ps : List Int, (ps.flatMap (fieldsOf l)).length ≤ 4 * ps.length
  | [] => by simp
  | p :: ps => by
    have h1 := fields_four h p
    have h2 := flat_four h ps
    rw [List.flatMap_cons, List.length_append, List.length_cons]
    omega

theorem flat_may {M : Int} {l : List Ob} {r : List Vl} (h : hMay M l r = true) : ∀ ps : List Int, (ps.flatMap (fieldsOf l)).all (vMay l.length) = true
  | [] => rfl
  | p :: ps => by
    rw [List.flatMap_cons, List.all_append, fields_may h p, flat_may h ps]
    rfl

/-- What is new behind a row that has been gone through so far. -/
def newRow (l : List Ob) (out : List Int) (vs : List Vl) : List Vl := ((visits out vs).drop out.length).flatMap (fieldsOf l)

theorem newRow_step (l : List Ob) (out : List Int) (vs : List Vl) (v : Vl) :
    newRow l out (vs ++ [v]) = if v.k = 2 ∧ v.n ∉ visits out vs then newRow l out vs ++ fieldsOf l v.n else newRow l out vs := by
  unfold newRow
  rw [visits_snoc]
  have hle := visits_len out vs
  unfold visit
  by_cases hk : v.k = 2
  · by_cases hm : v.n ∈ visits out vs
    · simp [hk, hm]
    · rw [if_pos hk, if_neg hm, if_pos ⟨hk, hm⟩, List.drop_append_of_le_length hle, List.flatMap_append]
      simp
  · simp [hk]

set_option maxHeartbeats 1000000 in
theorem ledTo_any (M : Int) (ao : Option Addr) (cap : Nat) (l : List Ob) (ra : Option Addr) (rc : Nat) (roots : List Vl) (w : World) (h : ObsAt w ao l) (hr : ValsAt w ra roots) (hrl : 16 * roots.length ≤ 140737488351232) (hmay : hMay M l roots = true) :
    Calls Try.prog 36 #[.agg #[.int .i64 M, .slice ao l.length cap], .slice ra roots.length rc] w fun e w' => ∃ ov oc, e = .returned (.slice ov (reach l roots).length oc) ∧ Below w.heap.size w w' ∧ IntsOwn w' w.heap.size (.slice ov (reach l roots).length oc) (reach l roots) := by
  have hl60 := hMay_bound hmay
  have hrv : roots.all (vMay l.length) = true := by simp only [hMay, Bool.and_eq_true] at hmay; exact hmay.2
  have HM : Aside (hMay M l roots = true) := hmay
  clear hmay
  obtain ⟨L, hL⟩ : ∃ L, L = l.length := ⟨_, rfl⟩
  have HL : Aside (L = l.length) := hL
  rw [← hL] at hl60 hrv ⊢
  clear hL
  obtain ⟨rr, hrr⟩ : ∃ rr, rr = reach l roots := ⟨_, rfl⟩
  have HR : Aside (rr = reach l roots) := hrr
  rw [← hrr]
  clear hrr
  go_enter Try.func36, Try.ntmps36
  go_wp2
  have HB := boxes1 w (Obj.cells #[.int .i64 M, .slice ao L cap] 24)
  generalize w.alloc (Obj.cells #[.int .i64 M, .slice ao L cap] 24) = W at *
  obtain ⟨N0, k1, b1, hs⟩ := HB
  have hvl0 : Aside (VLow W (w.heap.size + 1) ra roots) := fun i v hi => by
    obtain ⟨b, o, e, h1, _⟩ := (hr.keeps k1) i v hi
    obtain ⟨b', o', e', hb'⟩ := hr.low i v hi
    rw [e] at e'
    simp only [Option.some.injEq, Addr.mk.injEq, and_true] at e'
    obtain ⟨rfl, rfl⟩ := e'
    cases hc : W.heap[b]? with
    | none => simp [World.cell?, hc] at h1
    | some ob =>
      cases ob with
      | cells c t fr => exact ⟨b, o, c, t, fr, e, hc, Or.inl (by omega)⟩
      | _ => simp [World.cell?, hc] at h1
  have hg0 : Aside (Ok L [] ∧ roots.all (vMay L) = true ∧ rr = bfs l (L + 1 - ([] : List Int).length) ([] : List Int).length (visits [] roots)) := ⟨Ok.nil _, hrv, by rw [HR.out, HL.out]; rfl⟩
  have hv0 := hr.keeps k1
  have NW : Aside (W.heap[w.heap.size]? = some (.cells #[.int .i64 M, .slice ao L cap] 24 (0, 0))) := N0
  clear N0 hrv
  go_loopg [5, 6, 7, 8] (2 * L + 1) (fun g s5 s6 s7 s8 wr => ∃ (out : List Int) (row : List Vl) (oa : Option Addr) (oc : Nat) (xa : Option Addr) (xc : Nat), s5 = .slice oa out.length oc ∧ s6 = .slice xa row.length xc ∧ Aside (2 * (L - out.length) + (if row.length = 0 then 0 else 1) ≤ g) ∧
    IntsOwn wr (w.heap.size + 1) (.slice oa out.length oc) out ∧ ValsAt wr xa row ∧ VLow wr (w.heap.size + 1) xa row ∧ Below (w.heap.size + 1) W wr ∧ 16 * row.length ≤ 140737488351232 ∧ Aside (Ok L out ∧ row.all (vMay L) = true ∧ rr = bfs l (L + 1 - out.length) out.length (visits out row)))
  case atStart => exact ⟨[], roots, none, 0, ra, rc, rfl, rfl, (by show 2 * (L - 0) + _ ≤ 2 * L + 1; split <;> omega), World.ownsRow_nil _ _ _ _, hv0, hvl0.out, Below.refl _ _, hrl, hg0.out⟩
  case round =>
    obtain ⟨out, row, oa, oc, xa, xc, rfl, rfl, hmea, hI, hX, hXL, hb, hrow, hA⟩ := hrel
    clear hvl0 hg0 hv0
    have hoL := hA.out.1.len
    have hlw : w.heap.size + 1 ≤ wr.heap.size := by have := hb.size; omega
    obtain ⟨V, hV⟩ : ∃ V, V = row.length := ⟨_, rfl⟩
    have HV : Aside (V = row.length) := hV
    rw [← hV] at hmea hrow ⊢
    clear hV
    by_cases hV0 : V = 0
    · subst hV0
      have HN : Aside (rr = out) := by
        have : row = [] := List.eq_nil_of_length_eq_zero HV.out.symm
        have h2 := hA.out.2.2
        rw [this] at h2
        show rr = out
        rw [h2]
        exact bfs_end _ _ _
      have hbW : Below w.heap.size w wr := b1.trans (hb.mono (by omega))
      clear hA hmea
      go_wp2
      go_ret
      exact ⟨oa, oc, by rw [HN.out]; rfl, hbW, by rw [HN.out]; exact ownsRow_le hI (by omega)⟩
    · have hVp : 0 < V := by omega
      go_wp2
      go_loopg [5, 7, 8] V (fun g s5 s7 s8 wi => ∃ (i : Nat) (oi : List Int) (ni : List Vl) (pa : Option Addr) (pc : Nat) (na : Option Addr) (nc : Nat), i ≤ V ∧ g = V - i ∧ s8 = .int .i64 i ∧ s5 = .slice pa oi.length pc ∧ s7 = .slice na ni.length nc ∧
        IntsOwn wi (w.heap.size + 1) (.slice pa oi.length pc) oi ∧ ValsOwn wi wr.heap.size (.slice na ni.length nc) ni ∧ KeepV (w.heap.size + 1) wr wi ∧ Below (w.heap.size + 1) W wi ∧ Aside (oi = visits out (row.take i) ∧ ni = newRow l out (row.take i)))
      case atStart => exact ⟨0, out, [], oa, oc, none, 0, Nat.zero_le _, rfl, rfl, rfl, rfl, hI, World.ownsRow_nil _ _ _ _, KeepV.refl _ _, hb, by simp [visits], by simp [newRow, visits]⟩
      case round =>
        obtain ⟨i, oi, ni, pa, pc, na, nc, hi, rfl, rfl, rfl, rfl, hI2, hN2, hK2, hb2, hE⟩ := hrel
        have hok2 : Aside (Ok L oi) := by
          show Ok L oi
          rw [hE.out.1]
          exact hA.out.1.visits (List.all_eq_true.2 fun x hx => List.all_eq_true.1 hA.out.2.1 x (List.mem_of_mem_take hx))
        have hoi60 : oi.length ≤ 60 := Nat.le_trans hok2.out.len hl60
        have hni : ni.length ≤ 240 := by
          rw [hE.out.2]
          refine Nat.le_trans (flat_four HM.out _) ?_
          rw [List.length_drop, ← hE.out.1]
          omega
        have hlw2 : w.heap.size + 1 ≤ wr.heap.size := Nat.le_trans hlw hK2.size
        by_cases hiV : i < V
        · have hiz : (i : Int) < (V : Int) := by omega
          obtain ⟨⟨k, n⟩, hx⟩ := at_some (l := row) (i := i) (by rw [← HV.out]; exact hiV)
          have hvm : vMay L ⟨k, n⟩ = true := List.all_eq_true.1 hA.out.2.1 _ (List.mem_of_getElem? hx)
          have HT : Aside (visits out (row.take (i + 1)) = visit oi ⟨k, n⟩ ∧ newRow l out (row.take (i + 1)) = if k = 2 ∧ n ∉ oi then ni ++ fieldsOf l n else ni) := by
            have e1 : row.take (i + 1) = row.take i ++ [⟨k, n⟩] := by rw [List.take_add_one, hx]; rfl
            rw [e1, hE.out.1, hE.out.2]
            exact ⟨visits_snoc _ _ _, newRow_step _ _ _ _⟩
          obtain ⟨b, o, rfl, c1, c2⟩ := (hX.keepV hXL hK2) i _ hx
          obtain ⟨b', o', cc, tt, ff, e', hblk, hor⟩ := (hXL.keepV hK2) i _ hx
          simp only [Option.some.injEq, Addr.mk.injEq, and_true] at e'
          obtain ⟨rfl, rfl⟩ := e'
          have HBK : Aside (wr.heap[b]? = some (.cells cc tt ff) ∧ (b < w.heap.size + 1 ∨ tt = 34)) := ⟨hblk, hor⟩
          clear hblk hor
          simp only at c1 c2
          clear hx hE
          by_cases hk : k = 2
          · subst hk
            have hnb := vMay_ref hvm rfl
            simp only at hnb
            by_cases hin : n ∈ oi
            · have hd : decide (n ∈ oi) = true := by simp [hin]
              have HT2 : Aside (oi = visits out (row.take (i + 1)) ∧ ni = newRow l out (row.take (i + 1))) := by
                show (_ = _ ∧ _ = _)
                rw [HT.out.1, HT.out.2]
                simp [visit, hin]
              clear HT hin
              go_wp2_with (go_at_call 37; refine (has_any pa pc oi n _ hI2.at (by omega)).mono ?_; rintro e w' ⟨rfl, rfl⟩; rw [hd])
              go_roundg (V - (i + 1))
              case measure => go_light; omega
              case rel => go_light; exact ⟨i + 1, oi, ni, pa, pc, na, nc, by omega, rfl, by go_num, rfl, rfl, hI2, hN2, hK2, hb2, HT2⟩
            · have hd : decide (n ∈ oi) = false := by simp [hin]
              obtain ⟨q, rfl⟩ := Int.eq_ofNat_of_zero_le hnb.1
              have hq : q < L := by omega
              have hqz : (q : Int) < (L : Int) := by omega
              obtain ⟨⟨fs, dead⟩, hob⟩ := at_some (l := l) (i := q) (by rw [← HL.out]; exact hq)
              have HF : Aside (fieldsOf l (q : Int) = fs) := by show fieldsOf l (q : Int) = fs; simp [fieldsOf, hob]
              have HT2 : Aside (oi ++ [(q : Int)] = visits out (row.take (i + 1)) ∧ ni ++ fs = newRow l out (row.take (i + 1))) := by
                show (_ = _ ∧ _ = _)
                rw [HT.out.1, HT.out.2, ← HF.out]
                simp [visit, hin]
              obtain ⟨hbk, hok, fa, fc, rfl, x1, x2, hfs, hfl⟩ := h.cell q _ hob
              simp only at x1 x2 hfs hfl
              have hblt := World.block_lt_of_cell? _ _ x1
              simp only at hblt
              have hf4 : fs.length ≤ 4 := by rw [← HF.out]; exact fields_four HM.out _
              have hlowf : ∀ (i : Nat) v, fs[i]? = some v → ∃ b o, fa = some ⟨b, o, none⟩ ∧ b < w.heap.size + 1 := fun i v hi => by
                obtain ⟨b, o, e, hb⟩ := hfs.low i v hi
                exact ⟨b, o, e, by omega⟩
              have HFS : Aside (∀ w', Below (w.heap.size + 1) W w' → ValsAt w' fa fs) := fun w' hb' => (hfs.keeps k1).keepLow hlowf hb'
              have HX1 : Aside (∀ w', Below (w.heap.size + 1) W w' → w'.cell? ⟨hbk, hok + q * 2, none⟩ = some (.slice fa fs.length fc)) := fun w' hb' => (hb'.cell (p := ⟨hbk, hok + q * 2, none⟩) (by show hbk < _; omega)).trans (k1 _ _ x1)
              have HBX : Aside (∀ w', Below (w.heap.size + 1) W w' → w'.cell? ⟨w.heap.size, 1, none⟩ = some (.slice (some ⟨hbk, hok, none⟩) L cap)) := fun w' hb' => by
                have := (hb'.block w.heap.size (by omega)).trans NW.out
                simp [World.cell?, this]
              clear HT hin hob x1 x2 hfs hlowf
              go_wp2_with (first
                | (go_at_call 37; refine (has_any pa pc oi q _ hI2.at (by omega)).mono ?_; rintro e w' ⟨rfl, rfl⟩; rw [hd])
                | (at_builtin; refine wpList_pushInt rfl _ _ (by rfl) (v := .slice pa oi.length pc) (by rfl) hI2 hlw2 q (by rfl) ?z1 ?_; (case z1 => omega); intro g gc w1 hI3 hg1 hb3; have kV1 := (KeepV.below (N := w.heap.size + 1) (below_box wr (.cells #[.int .i64 q] 3))).trans (KeepV.growInt (World.ownsRow.alloc hI2 _) hg1); have c2' := (World.cell?_of_block (a := ⟨b, o + i * 2 + 1, none⟩) (kV1.block b cc tt ff HBK.out.1 HBK.out.2)).trans c2; have hb4 := hb2.trans hb3; have y1 := HX1.out _ hb4; have y2 := HBX.out _ hb4; have hN3 := World.ownsRow.kept (World.ownsRow.alloc hN2 (.cells #[.int .i64 q] 3)) hg1 (owns_other (World.ownsRow.alloc hN2 (.cells #[.int .i64 q] 3)) (World.ownsRow.alloc hI2 (.cells #[.int .i64 q] 3)) (by decide)))
                | fail)
              have hK3 := hK2.trans kV1
              clear c1 c2 hI2 hN2 hg1 hb3 hb2 kV1 hK2
              refine wp_region_need (fun j => j != 11 && j != 12) (fun w' => w'.cell? ⟨w.heap.size, 1, none⟩ = some (.slice (some ⟨hbk, hok, none⟩) L cap) ∧ w'.cell? ⟨b, o + i * 2 + 1, none⟩ = some (.int .i64 q) ∧ w'.cell? ⟨hbk, hok + q * 2, none⟩ = some (.slice fa fs.length fc)) (by kernel_rfl) ⟨y2, c2', y1⟩ (fun hS => ?_)
              refine wpAnyN_take (i := 0) (v := ?v1) rfl (by kernel_rfl) (by kernel_rfl) (by kernel_rfl) (by kernel_rfl) (fun _ _ _ h => h) (by rfl) ?hy1 hS ?rest1
              case hy1 => (intro wy hSy; (try dsimp only at hSy); go_simp; try (with_reducible rfl))
              simp only [Act.put, List.getElem_toArray, List.getElem_cons_zero, List.setIfInBounds_toArray, List.set_cons_zero, List.set_cons_succ]
              refine wpAnyN_take (i := 1) (v := ?v2) rfl (by kernel_rfl) (by kernel_rfl) (by kernel_rfl) (by kernel_rfl) (fun _ _ _ h => h) (by rfl) ?hy2 hS ?rest2
              case hy2 => (intro wy hSy; (try dsimp only at hSy); go_simp; try (with_reducible rfl))
              simp only [Act.put, List.getElem_toArray, List.getElem_cons_zero, List.getElem_cons_succ, List.setIfInBounds_toArray, List.set_cons_zero, List.set_cons_succ]
              refine wpAnyN_take (i := 2) (v := ?v3) rfl (by kernel_rfl) (by kernel_rfl) (by kernel_rfl) (by kernel_rfl) (fun _ _ _ h => h) (by rfl) ?hy3 hS ?rest3
              case hy3 => (intro wy hSy; (try dsimp only at hSy); go_simp; try (with_reducible rfl))
              simp only [Act.put, List.getElem_toArray, List.getElem_cons_zero, List.getElem_cons_succ, List.setIfInBounds_toArray, List.set_cons_zero, List.set_cons_succ]
              refine wpAnyN_take (i := 3) (v := ?v4) rfl (by kernel_rfl) (by kernel_rfl) (by kernel_rfl) (by kernel_rfl) (fun _ _ _ h => h) (by rfl) ?hy4 hS ?rest4
              case hy4 => (intro wy hSy; (try dsimp only at hSy); go_simp; try (with_reducible rfl))
              simp only [Act.put, List.getElem_toArray, List.getElem_cons_zero, List.getElem_cons_succ, List.setIfInBounds_toArray, List.set_cons_zero, List.set_cons_succ]
              refine wpAnyN_take (i := 4) (v := ?v5) rfl (by kernel_rfl) (by kernel_rfl) (by kernel_rfl) (by kernel_rfl) (fun _ _ _ h => h) (by rfl) ?hy5 hS ?rest5
              case hy5 => (intro wy hSy; (try dsimp only at hSy); go_simp; try (with_reducible rfl))
              simp only [Act.put, List.getElem_toArray, List.getElem_cons_zero, List.getElem_cons_succ, List.setIfInBounds_toArray, List.set_cons_zero, List.set_cons_succ]
              refine wpAnyN_take (i := 5) (v := ?v6) rfl (by kernel_rfl) (by kernel_rfl) (by kernel_rfl) (by kernel_rfl) (fun _ _ _ h => h) (by rfl) ?hy6 hS ?rest6
              case hy6 => (intro wy hSy; (try dsimp only at hSy); go_simp; try (with_reducible rfl))
              simp only [Act.put, List.getElem_toArray, List.getElem_cons_zero, List.getElem_cons_succ, List.setIfInBounds_toArray, List.set_cons_zero, List.set_cons_succ]
              refine wpAnyN_take (i := 6) (v := ?v7) rfl (by kernel_rfl) (by kernel_rfl) (by kernel_rfl) (by kernel_rfl) (fun _ _ _ h => h) (by rfl) ?hy7 hS ?rest7
              case hy7 => (intro wy hSy; (try dsimp only at hSy); go_simp; try (with_reducible rfl))
              simp only [Act.put, List.getElem_toArray, List.getElem_cons_zero, List.getElem_cons_succ, List.setIfInBounds_toArray, List.set_cons_zero, List.set_cons_succ]
              refine wpAnyN_take (i := 7) (v := ?v8) rfl (by kernel_rfl) (by kernel_rfl) (by kernel_rfl) (by kernel_rfl) (fun _ _ _ h => h) (by rfl) ?hy8 hS ?rest8
              case hy8 => (intro wy hSy; (try dsimp only at hSy); go_simp; try (with_reducible rfl))
              simp only [Act.put, List.getElem_toArray, List.getElem_cons_zero, List.getElem_cons_succ, List.setIfInBounds_toArray, List.set_cons_zero, List.set_cons_succ]
              refine wpAnyN_take (i := 8) (v := ?v9) rfl (by kernel_rfl) (by kernel_rfl) (by kernel_rfl) (by kernel_rfl) (fun _ _ _ h => h) (by rfl) ?hy9 hS ?rest9
              case hy9 => (intro wy hSy; (try dsimp only at hSy); go_simp; try (with_reducible rfl))
              simp only [Act.put, List.getElem_toArray, List.getElem_cons_zero, List.getElem_cons_succ, List.setIfInBounds_toArray, List.set_cons_zero, List.set_cons_succ]
              refine wpAnyN_take (i := 9) (v := ?v10) rfl (by kernel_rfl) (by kernel_rfl) (by kernel_rfl) (by kernel_rfl) (fun _ _ _ h => h) (by rfl) ?hy10 hS ?rest10
              case hy10 => (intro wy hSy; (try dsimp only at hSy); go_simp; try (with_reducible rfl))
              simp only [Act.put, List.getElem_toArray, List.getElem_cons_zero, List.getElem_cons_succ, List.setIfInBounds_toArray, List.set_cons_zero, List.set_cons_succ]
              refine wpAnyN_take (i := 10) (v := ?v11) rfl (by kernel_rfl) (by kernel_rfl) (by kernel_rfl) (by kernel_rfl) (fun _ _ _ h => h) (by rfl) ?hy11 hS ?rest11
              case hy11 => (intro wy hSy; (try dsimp only at hSy); go_simp; try (with_reducible rfl))
              simp only [Act.put, List.getElem_toArray, List.getElem_cons_zero, List.getElem_cons_succ, List.setIfInBounds_toArray, List.set_cons_zero, List.set_cons_succ]
              refine wpAnyN_one (i := 11) (by kernel_rfl) rfl (fun K hK => ?_)
              by_cases hf0 : fs.length = 0
              · obtain ⟨iv, hiv, _⟩ := Option.map_eq_some_iff.1 Try.infoV
                have hfnil : fs = [] := List.eq_nil_of_length_eq_zero hf0
                refine step_append_zero (w := w1.drew) (by rfl) _ _ (by rfl) Try.underlying25 hiv (by rfl) (ownsRow_below hN3 (Below.refl _ _).drew) fa fc (by rw [← hf0]; rfl) ?_
                refine hK.out _ _ (fun h => absurd h (by decide)) ?_
                clear hK
                refine wpAnyN_one (i := 12) (by kernel_rfl) rfl (fun K2 hK2 => ?_)
                simp only [Act.put, List.getElem_toArray, List.getElem_cons_zero, List.getElem_cons_succ, List.setIfInBounds_toArray, List.set_cons_zero, List.set_cons_succ]
                go_simp
                refine hK2.out _ _ (fun h => absurd h (by decide)) ?_
                clear hK2
                refine wpAnyN_done (by kernel_rfl) ?_ _
                refine NoPanic.normal ?_
                have hn3 : Aside (ni ++ fs = ni) := by show ni ++ fs = ni; rw [hfnil]; simp
                have hI4 : IntsOwn w1.drew (w.heap.size + 1) (.slice (some ⟨g, 0, none⟩) (oi.length + 1) gc) (oi ++ [(q : Int)]) := ownsRow_below hI3 (Below.refl _ _).drew
                have hN4 := ownsRow_below hN3 (Below.refl _ _).drew
                have hb5 := hb4.trans ((Below.refl _ _).drew)
                have hK5 := hK3.trans (KeepV.below (N := w.heap.size + 1) ((Below.refl w1.heap.size w1).drew))
                clear hS y1 y2 c2' hI3 hN3 hb4 hK3
                generalize w1.drew = w2 at *
                go_wp2
                go_roundg (V - (i + 1))
                case measure => go_light; omega
                case rel =>
                  go_light
                  exact ⟨i + 1, oi ++ [(q : Int)], ni, some ⟨g, 0, none⟩, gc, na, nc, by omega, rfl, by go_num, by simp, rfl, by simpa using hI4, hN4, hK5, hb5, by rw [← hn3.out]; exact HT2.out⟩
              · refine step_pushVals (w := w1.drew) (by rfl) _ _ (by rfl) (by rfl) (ownsRow_below hN3 (Below.refl _ _).drew) (Nat.le_trans hK3.size (Nat.le_refl _)) fs fa fc (by rfl) (HFS.out _ (hb4.trans ((Below.refl _ _).drew))) (by omega) (by omega) ?_
                intro ng ngc w2 hN4 hg4 hb6
                refine hK.out _ _ (fun h => absurd h (by decide)) ?_
                clear hK
                refine wpAnyN_one (i := 12) (by kernel_rfl) rfl (fun K2 hK2 => ?_)
                simp only [Act.put, List.getElem_toArray, List.getElem_cons_zero, List.getElem_cons_succ, List.setIfInBounds_toArray, List.set_cons_zero, List.set_cons_succ]
                go_simp
                refine hK2.out _ _ (fun h => absurd h (by decide)) ?_
                clear hK2
                refine wpAnyN_done (by kernel_rfl) ?_ _
                refine NoPanic.normal ?_
                have hNd : ValsOwn w1.drew _ (.slice na ni.length nc) ni := ownsRow_below hN3 (Below.refl _ _).drew
                have hI4 : IntsOwn w2 (w.heap.size + 1) (.slice (some ⟨g, 0, none⟩) (oi.length + 1) gc) (oi ++ [(q : Int)]) := World.ownsRow.kept (ownsRow_below hI3 (Below.refl _ _).drew) hg4 (owns_other (ownsRow_below hI3 (Below.refl _ _).drew) hNd (by decide))
                have hK5 := (hK3.trans (KeepV.below (N := w.heap.size + 1) ((Below.refl w1.heap.size w1).drew))).growNew hNd hg4
                have hb5 : Below (w.heap.size + 1) W w2 := (hb4.trans ((Below.refl _ _).drew)).trans (hb6.mono hlw)
                clear hS y1 y2 c2' hI3 hN3 hb4 hK3 hg4 hb6 hNd
                go_wp2
                go_roundg (V - (i + 1))
                case measure => go_light; omega
                case rel =>
                  go_light
                  exact ⟨i + 1, oi ++ [(q : Int)], ni ++ fs, some ⟨g, 0, none⟩, gc, some ⟨ng, 0, none⟩, ngc, by omega, rfl, by go_num, by simp, by simp, by simpa using hI4, by simpa using hN4, hK5, hb5, HT2.out⟩
          · have hkb : (k == 2) = false := by simp [hk]
            have HT2 : Aside (oi = visits out (row.take (i + 1)) ∧ ni = newRow l out (row.take (i + 1))) := by
              show (_ = _ ∧ _ = _)
              rw [HT.out.1, HT.out.2]
              simp [visit, hk]
            clear HT hk
            go_wp2
            go_roundg (V - (i + 1))
            case measure => go_light; omega
            case rel => go_light; exact ⟨i + 1, oi, ni, pa, pc, na, nc, by omega, rfl, by go_num, rfl, rfl, hI2, hN2, hK2, hb2, HT2⟩
        · have HT : Aside (row.take i = row) := by show row.take i = row; rw [List.take_of_length_le]; rw [← HV.out]; omega
          have hEo : Aside (oi = visits out row ∧ ni = newRow l out row) := by
            have h1 := hE.out
            rw [HT.out] at h1
            exact h1
          have hokL := hok2.out.len
          have HA2 : Aside (Ok L oi ∧ ni.all (vMay L) = true ∧ rr = bfs l (L + 1 - oi.length) oi.length (visits oi ni)) := by
            refine ⟨hok2.out, ?_, ?_⟩
            · rw [hEo.out.2, HL.out]; exact flat_may HM.out _
            · rw [hA.out.2.2, hEo.out.1, hEo.out.2]
              exact rows_next l L out row (by rw [← hEo.out.1]; exact hokL)
          have hgr : Aside (ni.length = 0 ∨ out.length < oi.length) := by
            by_cases h0 : out.length < oi.length
            · exact Or.inr h0
            · refine Or.inl ?_
              rw [hEo.out.2, newRow, ← hEo.out.1, List.drop_eq_nil_of_le (by omega)]
              rfl
          clear hE hA
          go_wp2
          go_roundg (2 * (L - oi.length) + (if ni.length = 0 then 0 else 1))
          case measure =>
            have h1 := hmea.out
            have h2 := hgr.out
            have h3 := visits_len out row
            have h4 := hEo.out.1
            rw [← h4] at h3
            go_light
            rw [if_neg hV0] at h1
            split <;> omega
          case rel =>
            go_light
            exact ⟨oi, ni, pa, pc, na, nc, rfl, rfl, Nat.le_refl _, hI2, hN2.vals.2, hN2.vlow, hb2, by omega, HA2⟩

end Go.Proofs.Ytbifdcchdoflpac
