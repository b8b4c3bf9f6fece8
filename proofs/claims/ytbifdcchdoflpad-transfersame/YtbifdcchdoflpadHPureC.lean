/- What is led to is closed: fields of it lead nowhere else. -/
import Derived.Test.YtbifdcchdoflpadHPure
namespace Go.Proofs.Ytbifdcchdoflpad

theorem visit_mem {o : List Int} {v : Vl} (hk : v.k = 2) : v.n ∈ visit o v := by
  unfold visit
  rw [if_pos hk]
  by_cases hm : v.n ∈ o
  · rw [if_pos hm]; exact hm
  · rw [if_neg hm]; simp

theorem visits_sub {o : List Int} (vs : List Vl) {p : Int} (hp : p ∈ o) : p ∈ visits o vs := by
  obtain ⟨t, ht⟩ := visits_ext vs o
  rw [ht]
  exact List.mem_append_left _ hp

theorem visits_mem {vs : List Vl} : ∀ {o : List Int} {v : Vl}, v ∈ vs → v.k = 2 → v.n ∈ visits o vs := by
  induction vs with
  | nil => intro o v hv; cases hv
  | cons u r ih =>
    intro o v hv hk
    rcases List.mem_cons.1 hv with rfl | h
    · exact visits_sub r (visit_mem hk)
    · exact ih (o := visit o u) h hk

theorem visits_at {o : List Int} (vs : List Vl) {i : Nat} {p : Int} (hp : o[i]? = some p) : (visits o vs)[i]? = some p := by
  obtain ⟨t, ht⟩ := visits_ext vs o
  rw [ht, List.getElem?_append_left (List.getElem?_eq_some_iff.1 hp).1]
  exact hp

theorem bfs_at (l : List Ob) : ∀ (F i : Nat) (o : List Int) {j : Nat} {p : Int}, o[j]? = some p → (bfs l F i o)[j]? = some p
  | 0, _, _, _, _, h => h
  | F + 1, i, o, j, p, h => by
    rw [bfs]
    split
    · exact h
    · exact bfs_at l F (i + 1) _ (visits_at _ h)

theorem bfs_sub (l : List Ob) (F i : Nat) {o : List Int} {p : Int} (h : p ∈ o) : p ∈ bfs l F i o := by
  obtain ⟨j, hj⟩ := List.getElem?_of_mem h
  exact List.mem_of_getElem? (bfs_at l F i o hj)

/-- What lies ahead of i has been looked at. -/
def Seen (l : List Ob) (i : Nat) (o : List Int) : Prop := ∀ (j : Nat) p, j < i → o[j]? = some p → ∀ v ∈ fieldsOf l p, v.k = 2 → v.n ∈ o

theorem bfs_seen {M : Int} {l : List Ob} {r : List Vl} (h : hMay M l r = true) : ∀ (F i : Nat) (o : List Int), Ok l.length o → l.length ≤ F + i → Seen l i o → ∀ p ∈ bfs l F i o, ∀ v ∈ fieldsOf l p, v.k = 2 → v.n ∈ bfs l F i o
  | 0, i, o, ho, hF, hs => fun p hp v hv hk => by
    obtain ⟨j, hj⟩ := List.getElem?_of_mem hp
    have h1 := (List.getElem?_eq_some_iff.1 hj).1
    have h2 : o.length ≤ l.length := ho.len
    simp only [bfs] at h1 hj ⊢
    exact hs j p (by omega) hj v hv hk
  | F + 1, i, o, ho, hF, hs => fun p hp v hv hk => by
    rw [bfs] at hp ⊢
    cases hi : o[i]? with
    | none =>
      rw [hi] at hp
      simp only at hp ⊢
      obtain ⟨j, hj⟩ := List.getElem?_of_mem hp
      have h1 := (List.getElem?_eq_some_iff.1 hj).1
      have h2 := List.getElem?_eq_none_iff.1 hi
      exact hs j p (by omega) hj v hv hk
    | some q =>
      rw [hi] at hp
      simp only at hp ⊢
      refine bfs_seen h F (i + 1) _ (ho.visits (fields_may h _)) (by omega) ?_ p hp v hv hk
      intro j p' hj hp' v' hv' hk'
      by_cases hji : j = i
      · subst hji
        have h3 := visits_at (fieldsOf l q) hi
        rw [h3] at hp'
        cases hp'
        exact visits_mem hv' hk'
      · have hlt := (List.getElem?_eq_some_iff.1 hi).1
        have hjo : o[j]? = some p' := by
          obtain ⟨t, ht⟩ := visits_ext (fieldsOf l q) o
          rw [ht, List.getElem?_append_left (by omega)] at hp'
          exact hp'
        exact visits_sub _ (hs j p' (by omega) hjo v' hv' hk')

/-- Fields of what is led to lead nowhere else. -/
theorem reach_closed {M : Int} {l : List Ob} {r : List Vl} (h : hMay M l r = true) {roots : List Vl} (hr : roots.all (vMay l.length) = true) {p : Int} (hp : p ∈ reach l roots) {v : Vl} (hv : v ∈ fieldsOf l p) (hk : v.k = 2) : v.n ∈ reach l roots :=
  bfs_seen h _ _ _ ((Ok.nil _).visits hr) (by omega) (fun j p hj => by omega) p hp v hv hk

theorem reach_root {l : List Ob} {roots : List Vl} {v : Vl} (hv : v ∈ roots) (hk : v.k = 2) : v.n ∈ reach l roots :=
  bfs_sub l _ _ (visits_mem hv hk)

theorem reach_first {l : List Ob} {v : Vl} {rest : List Vl} (hk : v.k = 2) : (reach l (v :: rest))[0]? = some v.n := by
  refine bfs_at l _ _ _ ?_
  show (visits (visit [] v) rest)[0]? = some v.n
  refine visits_at rest ?_
  simp [visit, hk]

end Go.Proofs.Ytbifdcchdoflpad
