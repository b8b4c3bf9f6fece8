/- What went to another heap: it is the same there; what was there stays; what was moved is dead here. -/
import Derived.Test.YtbifdcchdoflpadHTransfer
import Derived.Test.YtbifdcchdoflpadHGoodP
import Derived.Test.YtbifdcchdoflpadHPureS
import Derived.Test.YtbifdcchdoflpadHGot
namespace Go.Proofs.Ytbifdcchdoflpad

theorem buryL_at (l : List Ob) : ∀ (ps : List Int), (∀ p ∈ ps, 0 ≤ p) → ∀ i : Nat, (buryL l ps)[i]? = if (i : Int) ∈ ps ∧ i < l.length then some ⟨[], true⟩ else l[i]? := by
  intro ps
  induction ps generalizing l with
  | nil => intro _ i; simp [buryL]
  | cons p r ih =>
    intro hp i
    have h0 := hp p (by simp)
    show (buryL (l.set p.toNat ⟨[], true⟩) r)[i]? = _
    rw [ih _ (fun q hq => hp q (by simp [hq])) i, List.length_set]
    by_cases hr : (i : Int) ∈ r ∧ i < l.length
    · rw [if_pos hr, if_pos ⟨by simp [hr.1], hr.2⟩]
    · rw [if_neg hr, List.getElem?_set]
      by_cases he : p.toNat = i
      · have hpi : (i : Int) = p := by omega
        rw [if_pos he]
        by_cases hl : i < l.length
        · rw [if_pos (by omega), if_pos ⟨by simp [hpi], hl⟩]
        · rw [if_neg (by omega), if_neg (fun x => hl x.2), List.getElem?_eq_none (by omega)]
      · have hpi : (i : Int) ≠ p := by omega
        rw [if_neg he, if_neg]
        intro x
        exact hr ⟨by simpa [hpi] using x.1, x.2⟩

theorem bury_may {M : Int} {l : List Ob} {ps : List Int} {roots : List Vl} (h : hMay M l roots = true) (hp : ∀ p ∈ ps, 0 ≤ p) : hMay M (buryL l ps) roots = true := by
  simp only [hMay, Bool.and_eq_true] at h ⊢
  rw [buryL_length]
  refine ⟨⟨h.1.1, List.all_eq_true.2 fun o ho => ?_⟩, h.2⟩
  obtain ⟨i, hi⟩ := List.getElem?_of_mem ho
  rw [buryL_at l ps hp i] at hi
  split at hi
  · cases hi
    rfl
  · exact List.all_eq_true.1 h.1.2 o (List.mem_of_getElem? hi)

/-- What was there stays where it was. -/
theorem pre_sim (pre more : List Ob) (hcl : ∀ p : Int, 0 ≤ p ∧ p < (pre.length : Int) → ∀ v ∈ fieldsOf pre p, v.k = 2 → 0 ≤ v.n ∧ v.n < (pre.length : Int)) : Sim pre (pre ++ more) id (fun p => 0 ≤ p ∧ p < (pre.length : Int)) where
  inj := fun p q _ _ e => e
  fields := fun p hp => by
    have e : ren id = id := by
      funext v
      unfold ren
      by_cases hk : v.k = 2
      · rw [if_pos hk]
        obtain ⟨k, n⟩ := v
        simp at hk
        subst hk
        rfl
      · rw [if_neg hk]; rfl
    rw [e, List.map_id]
    unfold fieldsOf
    show (match (pre ++ more)[p.toNat]? with | none => [] | some o => o.fs) = _
    rw [List.getElem?_append_left (by omega)]
    rfl
  closed := hcl

theorem ren_id_map (vs : List Vl) : vs.map (ren id) = vs := by
  have e : ren id = id := by
    funext v
    unfold ren
    by_cases hk : v.k = 2
    · rw [if_pos hk]
      obtain ⟨k, n⟩ := v
      simp at hk
      subst hk
      rfl
    · rw [if_neg hk]; rfl
  rw [e, List.map_id]

structure TSame (l l' : List Ob) (v : Vl) (move : Bool) (x y : List Ob) (u : Vl) : Prop where
  first : transferS 25 l v 30 l' move = ⟨25, x, 30, y, u, 0⟩
  frm : form y [u] = form l [v]
  len : y.length = l'.length + (reach l [v]).length
  there : form y (allVals l'.length) = form l' (allVals l'.length)
  mayU : hMay 30 y [u] = true
  mayT : hMay 30 y (allVals l'.length) = true
  xlen : x.length = l.length
  dead : ∀ (i : Nat) o, x[i]? = some o → o.dead = (move && decide ((i : Int) ∈ reach l [v]))
  get : (getS 25 x v 0).2 = if move then 10 else 0
  again : (transferS 25 x v 30 l' move).e = if move then 10 else 0

theorem allVals_may {n m : Nat} (h : n ≤ m) : ∀ v ∈ allVals n, vMay m v = true := fun v hv => by
  simp only [allVals, List.mem_map, List.mem_range] at hv
  obtain ⟨i, hi, rfl⟩ := hv
  simp [vMay]
  omega

theorem tr_room {l l' : List Ob} (hg : Good 25 l) (hg' : Good 30 l') {j : Nat} (hj : j < l.length) (move : Bool) (h : 30 < l'.length + (reach l [⟨2, (j : Int)⟩]).length) : (transferS 25 l ⟨2, (j : Int)⟩ 30 l' move).e = 7 := by
  have hA : hMay 25 l [⟨2, (j : Int)⟩] = true := hMay_parts.2 ⟨(hMay_parts.1 hg.1).1, (hMay_parts.1 hg.1).2.1, fun u hu => by simp at hu; subst hu; simp [vMay]; omega⟩
  have hok := reach_ok hA [⟨2, (j : Int)⟩] (hMay_roots' hA)
  have hnd : (reach l [⟨2, (j : Int)⟩]).any (fun p => (obAt l p).dead) = false := by
    rw [List.any_eq_false]
    intro p hp
    have hb := hok.2 p hp
    have : (obAt l p).dead = false := by
      unfold obAt
      rw [List.getElem?_eq_getElem (by omega : p.toNat < l.length)]
      exact hg.2 _ (List.getElem_mem _)
    simp [this]
  have e : trS 25 l ⟨2, (j : Int)⟩ 30 l' = ([], 7) := by
    unfold trS
    rw [hA, hg'.1, hnd]
    simp
    omega
  rw [transferS, e]
  simp

theorem tsame_of {l l' : List Ob} (hg : Good 25 l) (hg' : Good 30 l') {j : Nat} (hj : j < l.length) (move : Bool) (hroom : l'.length + (reach l [⟨2, (j : Int)⟩]).length ≤ 30) : ∃ x y u, TSame l l' ⟨2, (j : Int)⟩ move x y u := by
  have hA : hMay 25 l [⟨2, (j : Int)⟩] = true := hMay_parts.2 ⟨(hMay_parts.1 hg.1).1, (hMay_parts.1 hg.1).2.1, fun u hu => by simp at hu; subst hu; simp [vMay]; omega⟩
  have hok := reach_ok hA [⟨2, (j : Int)⟩] (hMay_roots' hA)
  have hdeadOf : ∀ p : Int, 0 ≤ p ∧ p < (l.length : Int) → (obAt l p).dead = false := fun p hb => by
    unfold obAt
    rw [List.getElem?_eq_getElem (by omega : p.toNat < l.length)]
    exact hg.2 _ (List.getElem_mem _)
  have hnd : (reach l [⟨2, (j : Int)⟩]).any (fun p => (obAt l p).dead) = false := by
    rw [List.any_eq_false]
    intro p hp
    simp [hdeadOf p (hok.2 p hp)]
  have e : trS 25 l ⟨2, (j : Int)⟩ 30 l' = (reach l [⟨2, (j : Int)⟩], 0) := by
    unfold trS
    rw [hA, hg'.1, hnd]
    simp
    omega
  obtain ⟨r, hr⟩ : ∃ r, r = reach l [⟨2, (j : Int)⟩] := ⟨_, rfl⟩
  have hjr : (j : Int) ∈ r := by rw [hr]; exact reach_root (v := ⟨2, (j : Int)⟩) (by simp) rfl
  have hfirst : transferS 25 l ⟨2, (j : Int)⟩ 30 l' move = ⟨25, if move then buryL l r else l, 30, l' ++ mvObs l r l'.length r, mvV r l'.length ⟨2, (j : Int)⟩, 0⟩ := by
    rw [transferS, e, ← hr]
    simp
  have hmem : ∀ p, p ∈ r ↔ p ∈ reach l [⟨2, (j : Int)⟩] := fun p => by rw [hr]
  have hlead : Leads r [⟨2, (j : Int)⟩] := by rw [hr]; exact leads_roots
  have hmv : (mvV r (l'.length : Int)) = ren (fun p => (l'.length : Int) + (r.idxOf p : Nat)) := rfl
  have hsim := mv_sim (pre := l') hA hmem
  have hmayU := mv_may (pre := l') (vs := [⟨2, (j : Int)⟩]) hA hmem hg'.1 (by rw [hr]; omega) (hMay_roots' hA) hlead
  have hmayT0 := mv_may (pre := l') (vs := []) hA hmem hg'.1 (by rw [hr]; omega) (by simp) (fun v hv => by simp at hv)
  have hlen : (l' ++ mvObs l r (l'.length : Int) r).length = l'.length + r.length := by rw [List.length_append, mvObs_length']
  have hmayT : hMay 30 (l' ++ mvObs l r (l'.length : Int) r) (allVals l'.length) = true := by
    have := hMay_parts.1 hmayT0
    refine hMay_parts.2 ⟨this.1, this.2.1, ?_⟩
    rw [hlen]
    exact allVals_may (by omega)
  have hmayG : hMay 30 l' (allVals l'.length) = true := by
    have := hMay_parts.1 hg'.1
    exact hMay_parts.2 ⟨this.1, this.2.1, allVals_may (Nat.le_refl _)⟩
  have hform := form_ren hsim hA (by rw [← hmv]; exact hmayU) hlead
  rw [← hmv] at hform
  have hpre := pre_sim l' (mvObs l r (l'.length : Int) r) (fun p hp v hv hk => vMay_ref (List.all_eq_true.1 (fields_may hg'.1 p) v hv) hk)
  have hthere := form_ren hpre hmayG (by rw [ren_id_map]; exact hmayT) (fun v hv hk => vMay_ref (allVals_may (Nat.le_refl l'.length) v hv) hk)
  rw [ren_id_map] at hthere
  refine ⟨_, _, _, hfirst, hform, by rw [hlen, hr], hthere, hmayU, hmayT, ?_, ?_, ?_, ?_⟩
  · cases move
    · rfl
    · exact buryL_length _ _
  · intro i o ho
    cases move with
    | false =>
      simp only [Bool.false_eq_true, if_false] at ho
      simpa using hg.2 o (List.mem_of_getElem? ho)
    | true =>
      simp only [if_true] at ho
      rw [buryL_at l r (fun p hp => (hok.2 p (by rw [← hr]; exact hp)).1) i] at ho
      rw [← hr]
      by_cases hi : (i : Int) ∈ r
      · have hil : i < l.length := by have := (hok.2 _ (by rw [← hr]; exact hi)).2; omega
        rw [if_pos ⟨hi, hil⟩] at ho
        cases ho
        simp [hi]
      · rw [if_neg (fun x => hi x.1)] at ho
        simpa [hi] using hg.2 o (List.mem_of_getElem? ho)
  · cases move with
    | false =>
      simp only [Bool.false_eq_true, if_false]
      have hob := hg.2 l[j] (List.getElem_mem hj)
      have hmay1 := (hMay_parts.1 hg.1).2.1 l[j] (List.getElem_mem hj)
      unfold oMay at hmay1
      rw [hob] at hmay1
      simp at hmay1
      have hne : l[j].fs ≠ [] := fun e => by
        rw [e] at hmay1
        simp at hmay1
      have hfe : fieldErr l ⟨2, (j : Int)⟩ 0 = 0 := by
        simp [fieldErr, hj, hob, hne]
      unfold getS
      rw [hA, hfe]
      simp [hj]
      split <;> rfl
    | true =>
      simp only [if_true]
      have hm := bury_may (ps := r) hA (fun p hp => (hok.2 p (by rw [← hr]; exact hp)).1)
      have hat := buryL_at l r (fun p hp => (hok.2 p (by rw [← hr]; exact hp)).1) j
      rw [if_pos ⟨hjr, hj⟩] at hat
      have hfe : fieldErr (buryL l r) ⟨2, (j : Int)⟩ 0 = 10 := by simp [fieldErr, hat]
      unfold getS
      rw [hm, hfe]
      simp
  · cases move with
    | false =>
      simp only [Bool.false_eq_true, if_false] at hfirst ⊢
      rw [hfirst]
    | true =>
      simp only [if_true]
      have hm := bury_may (ps := r) hA (fun p hp => (hok.2 p (by rw [← hr]; exact hp)).1)
      have hat := buryL_at l r (fun p hp => (hok.2 p (by rw [← hr]; exact hp)).1) j
      rw [if_pos ⟨hjr, hj⟩] at hat
      have hin : (j : Int) ∈ reach (buryL l r) [⟨2, (j : Int)⟩] := reach_root (v := ⟨2, (j : Int)⟩) (by simp) rfl
      have hany : (reach (buryL l r) [⟨2, (j : Int)⟩]).any (fun p => (obAt (buryL l r) p).dead) = true := List.any_eq_true.2 ⟨_, hin, by simp [obAt, hat]⟩
      have e2 : trS 25 (buryL l r) ⟨2, (j : Int)⟩ 30 l' = ([], 10) := by
        unfold trS
        rw [hm, hg'.1, hany]
        simp
      rw [transferS, e2]
      simp

end Go.Proofs.Ytbifdcchdoflpad
