/- What values lead to: one by one, behind each other; and row by row: the same. -/
import Derived.Test.YtbifdcchdoflpadHViews
namespace Go.Proofs.Ytbifdcchdoflpad

/-- A place that is come to stands behind all that were. -/
def visit (order : List Int) (v : Vl) : List Int := if v.k = 2 then (if v.n ∈ order then order else order ++ [v.n]) else order

def visits (order : List Int) (vs : List Vl) : List Int := vs.foldl visit order

def fieldsOf (l : List Ob) (p : Int) : List Vl := match l[p.toNat]? with
  | none => []
  | some o => o.fs

def bfs (l : List Ob) : Nat → Nat → List Int → List Int
  | 0, _, o => o
  | f + 1, i, o => match o[i]? with
    | none => o
    | some p => bfs l f (i + 1) (visits o (fieldsOf l p))

def reach (l : List Ob) (roots : List Vl) : List Int := bfs l (l.length + 1) 0 (visits [] roots)

/-- Places of a heap of so many objects, none twice. -/
def Ok (L : Nat) (o : List Int) : Prop := o.Nodup ∧ ∀ p ∈ o, 0 ≤ p ∧ p < (L : Int)

theorem Ok.nil (L : Nat) : Ok L [] := ⟨List.nodup_nil, fun p hp => by cases hp⟩

theorem Ok.len {L : Nat} {o : List Int} (h : Ok L o) : o.length ≤ L := by
  have hs : o ⊆ (List.range L).map Int.ofNat := fun p hp => by
    obtain ⟨h1, h2⟩ := h.2 p hp
    refine List.mem_map.2 ⟨p.toNat, List.mem_range.2 (by omega), ?_⟩
    show ((p.toNat : Nat) : Int) = p
    omega
  have := List.Nodup.length_le_of_subset h.1 hs
  simpa using this

theorem vMay_ref {L : Int} {v : Vl} (h : vMay L v = true) (hk : v.k = 2) : 0 ≤ v.n ∧ v.n < L := by
  simp [vMay, hk] at h
  exact h

theorem Ok.visit {L : Nat} {o : List Int} (h : Ok L o) {v : Vl} (hv : vMay L v = true) : Ok L (visit o v) := by
  unfold Go.Proofs.Ytbifdcchdoflpad.visit
  by_cases hk : v.k = 2
  · rw [if_pos hk]
    by_cases hm : v.n ∈ o
    · rw [if_pos hm]; exact h
    · rw [if_neg hm]
      refine ⟨?_, fun p hp => ?_⟩
      · rw [List.nodup_append]
        refine ⟨h.1, by simp, fun a ha b hb => ?_⟩
        simp at hb
        subst hb
        intro e
        subst e
        exact hm ha
      · rcases List.mem_append.1 hp with hp | hp
        · exact h.2 p hp
        · simp at hp
          subst hp
          exact vMay_ref hv hk
  · rw [if_neg hk]; exact h

theorem Ok.visits {L : Nat} {vs : List Vl} : ∀ {o : List Int}, Ok L o → vs.all (vMay L) = true → Ok L (visits o vs) := by
  induction vs with
  | nil => intro o h _; exact h
  | cons v r ih =>
    intro o h hv
    simp only [List.all_cons, Bool.and_eq_true] at hv
    exact ih (h.visit hv.1) hv.2

theorem visit_ext (o : List Int) (v : Vl) : ∃ t, visit o v = o ++ t := by
  unfold visit
  split
  · split
    · exact ⟨[], by simp⟩
    · exact ⟨_, rfl⟩
  · exact ⟨[], by simp⟩

theorem visits_ext (vs : List Vl) : ∀ o : List Int, ∃ t, visits o vs = o ++ t := by
  induction vs with
  | nil => intro o; exact ⟨[], by simp [visits]⟩
  | cons v r ih =>
    intro o
    obtain ⟨t, ht⟩ := visit_ext o v
    obtain ⟨t', ht'⟩ := ih (visit o v)
    exact ⟨t ++ t', by show visits (visit o v) r = _; rw [ht', ht, List.append_assoc]⟩

theorem visits_append (o : List Int) (a b : List Vl) : visits o (a ++ b) = visits (visits o a) b := by simp [visits, List.foldl_append]
theorem visits_snoc (o : List Int) (a : List Vl) (v : Vl) : visits o (a ++ [v]) = visit (visits o a) v := by simp [visits, List.foldl_append]

theorem visits_len (o : List Int) (vs : List Vl) : o.length ≤ (visits o vs).length := by
  obtain ⟨t, ht⟩ := visits_ext vs o
  rw [ht, List.length_append]
  omega

theorem bfs_many (l : List Ob) : ∀ (ps : List Int) (F i : Nat) (o : List Int), (o.drop i).take ps.length = ps → ps.length ≤ F → bfs l F i o = bfs l (F - ps.length) (i + ps.length) (visits o (ps.flatMap (fieldsOf l)))
  | [], F, i, o, _, _ => by simp [visits]
  | p :: ps, F, i, o, h, hF => by
    obtain ⟨f, rfl⟩ : ∃ f, F = f + 1 := ⟨F - 1, by simp at hF; omega⟩
    have hi : o[i]? = some p := by
      have h0 := congrArg (·[0]?) h
      simp only [List.length_cons, List.getElem?_take, List.getElem?_drop, List.getElem?_cons_zero] at h0
      simpa using h0
    have hilt : i < o.length := (List.getElem?_eq_some_iff.1 hi).1
    have hlen : i + 1 + ps.length ≤ o.length := by
      have := congrArg List.length h
      simp only [List.length_take, List.length_drop, List.length_cons] at this
      omega
    obtain ⟨t, ht⟩ := visits_ext (fieldsOf l p) o
    have hnext : ((visits o (fieldsOf l p)).drop (i + 1)).take ps.length = ps := by
      rw [ht, List.drop_append_of_le_length (by omega), List.take_append_of_le_length (by rw [List.length_drop]; omega)]
      have h1 := congrArg List.tail h
      rw [List.drop_eq_getElem_cons hilt, List.length_cons, List.take_succ_cons, List.tail_cons, List.tail_cons] at h1
      exact h1
    rw [bfs, hi]
    simp only
    rw [bfs_many l ps f (i + 1) _ hnext (by simp at hF; omega), List.flatMap_cons, visits_append, List.length_cons]
    congr 1 <;> omega

/-- One row more. -/
theorem rows_next (l : List Ob) (L : Nat) (out : List Int) (row : List Vl) (hL : (visits out row).length ≤ L) :
    bfs l (L + 1 - out.length) out.length (visits out row) = bfs l (L + 1 - (visits out row).length) (visits out row).length (visits (visits out row) (((visits out row).drop out.length).flatMap (fieldsOf l))) := by
  have hle := visits_len out row
  have := bfs_many l ((visits out row).drop out.length) (L + 1 - out.length) out.length (visits out row) (List.take_length) (by rw [List.length_drop]; omega)
  rw [this, List.length_drop]
  congr 1 <;> omega

theorem bfs_end (l : List Ob) (F : Nat) (o : List Int) : bfs l F o.length o = o := by
  cases F with
  | zero => rfl
  | succ f => rw [bfs, List.getElem?_eq_none (Nat.le_refl _)]

theorem bfs_step (l : List Ob) {F i : Nat} {o : List Int} {p : Int} (h : o[i]? = some p) (hF : 0 < F) : bfs l F i o = bfs l (F - 1) (i + 1) (visits o (fieldsOf l p)) := by
  obtain ⟨f, rfl⟩ : ∃ f, F = f + 1 := ⟨F - 1, by omega⟩
  rw [bfs, h]
  rfl

/-- Fields of a heap that may be are values of it. -/
theorem fields_may {M : Int} {l : List Ob} {r : List Vl} (h : hMay M l r = true) (p : Int) : (fieldsOf l p).all (vMay l.length) = true := by
  unfold fieldsOf
  split
  · rfl
  · rename_i o ho
    simp only [hMay, Bool.and_eq_true] at h
    have := List.all_eq_true.1 h.1.2 o (List.mem_of_getElem? ho)
    unfold oMay at this
    split at this
    · have h0 : o.fs = [] := List.eq_nil_of_length_eq_zero (by simpa using this)
      rw [h0]; rfl
    · simp only [Bool.and_eq_true] at this
      exact this.2

theorem bfs_ok {M : Int} {l : List Ob} {r : List Vl} (h : hMay M l r = true) : ∀ (F i : Nat) (o : List Int), Ok l.length o → Ok l.length (bfs l F i o)
  | 0, _, _, ho => ho
  | F + 1, i, o, ho => by
    rw [bfs]
    split
    · exact ho
    · exact bfs_ok h F (i + 1) _ (ho.visits (fields_may h _))

theorem reach_ok {M : Int} {l : List Ob} {r : List Vl} (h : hMay M l r = true) (roots : List Vl) (hr : roots.all (vMay l.length) = true) : Ok l.length (reach l roots) :=
  bfs_ok h _ _ _ ((Ok.nil _).visits hr)

end Go.Proofs.Ytbifdcchdoflpad
