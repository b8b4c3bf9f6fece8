/- Heaps that are the same but for places: what values lead to is told alike. -/
import Derived.Test.YtbifdcchdoflpadHPureM
namespace Go.Proofs.Ytbifdcchdoflpad

def ren (f : Int → Int) (v : Vl) : Vl := if v.k = 2 then ⟨2, f v.n⟩ else v

theorem mvV_ren (order : List Int) (b : Int) : mvV order b = ren (fun p => b + (order.idxOf p : Nat)) := rfl

/-- What S has of l stands in l' at f. -/
structure Sim (l l' : List Ob) (f : Int → Int) (S : Int → Prop) : Prop where
  inj : ∀ p q, S p → S q → f p = f q → p = q
  fields : ∀ p, S p → fieldsOf l' (f p) = (fieldsOf l p).map (ren f)
  closed : ∀ p, S p → ∀ v ∈ fieldsOf l p, v.k = 2 → S v.n

section
variable {l l' : List Ob} {f : Int → Int} {S : Int → Prop}

theorem mem_ren (h : Sim l l' f S) {o : List Int} (ho : ∀ p ∈ o, S p) {q : Int} (hq : S q) : f q ∈ o.map f ↔ q ∈ o := by
  constructor
  · intro hm
    obtain ⟨p, hp, e⟩ := List.mem_map.1 hm
    have := h.inj p q (ho p hp) hq e
    rw [← this]
    exact hp
  · exact fun hm => List.mem_map_of_mem hm

theorem visit_ren (h : Sim l l' f S) {o : List Int} (ho : ∀ p ∈ o, S p) {v : Vl} (hv : v.k = 2 → S v.n) : visit (o.map f) (ren f v) = (visit o v).map f := by
  unfold visit ren
  by_cases hk : v.k = 2
  · simp only [hk, if_true]
    have hm := mem_ren h ho (hv hk)
    by_cases hin : v.n ∈ o
    · rw [if_pos hin, if_pos (hm.2 hin)]
    · rw [if_neg hin, if_neg (fun x => hin (hm.1 x))]
      simp
  · simp only [hk, if_false]

theorem visit_all {o : List Int} (ho : ∀ p ∈ o, S p) {v : Vl} (hv : v.k = 2 → S v.n) : ∀ p ∈ visit o v, S p := by
  unfold visit
  by_cases hk : v.k = 2
  · rw [if_pos hk]
    by_cases hin : v.n ∈ o
    · rw [if_pos hin]; exact ho
    · rw [if_neg hin]
      intro p hp
      rcases List.mem_append.1 hp with hp | hp
      · exact ho p hp
      · simp at hp; subst hp; exact hv hk
  · rw [if_neg hk]; exact ho

theorem visits_all : ∀ {vs : List Vl} {o : List Int}, (∀ p ∈ o, S p) → (∀ v ∈ vs, v.k = 2 → S v.n) → ∀ p ∈ visits o vs, S p
  | [], _, ho, _ => ho
  | v :: r, o, ho, hv => visits_all (vs := r) (o := visit o v) (visit_all ho (hv v (by simp))) (fun u hu => hv u (by simp [hu]))

theorem visits_ren (h : Sim l l' f S) : ∀ {vs : List Vl} {o : List Int}, (∀ p ∈ o, S p) → (∀ v ∈ vs, v.k = 2 → S v.n) → visits (o.map f) (vs.map (ren f)) = (visits o vs).map f
  | [], _, _, _ => rfl
  | v :: r, o, ho, hv => by
    show visits (visit (o.map f) (ren f v)) (r.map (ren f)) = (visits (visit o v) r).map f
    rw [visit_ren h ho (hv v (by simp))]
    exact visits_ren h (visit_all ho (hv v (by simp))) (fun u hu => hv u (by simp [hu]))

theorem bfs_ren (h : Sim l l' f S) : ∀ (F i : Nat) (o : List Int), (∀ p ∈ o, S p) → bfs l' F i (o.map f) = (bfs l F i o).map f
  | 0, _, _, _ => rfl
  | F + 1, i, o, ho => by
    rw [bfs, bfs, List.getElem?_map]
    cases hi : o[i]? with
    | none => rfl
    | some p =>
      have hp := ho p (List.mem_of_getElem? hi)
      simp only [Option.map_some]
      rw [h.fields p hp, visits_ren h ho (h.closed p hp)]
      exact bfs_ren h F (i + 1) _ (visits_all ho (h.closed p hp))

theorem bfs_all (h : Sim l l' f S) : ∀ (F i : Nat) (o : List Int), (∀ p ∈ o, S p) → ∀ p ∈ bfs l F i o, S p
  | 0, _, _, ho => ho
  | F + 1, i, o, ho => by
    rw [bfs]
    cases hi : o[i]? with
    | none => exact ho
    | some p => exact bfs_all h F (i + 1) _ (visits_all ho (h.closed p (ho p (List.mem_of_getElem? hi))))

end

theorem bfs_fuel {M : Int} {l : List Ob} {r : List Vl} (h : hMay M l r = true) : ∀ (F F' i : Nat) (o : List Int), Ok l.length o → l.length ≤ F + i → F ≤ F' → bfs l F' i o = bfs l F i o
  | 0, F', i, o, ho, hF, _ => by
    have := ho.len
    cases F' with
    | zero => rfl
    | succ F' =>
      have hn : o[i]? = none := List.getElem?_eq_none (by omega)
      show (match o[i]? with | none => o | some p => bfs l F' (i + 1) (visits o (fieldsOf l p))) = o
      rw [hn]
  | F + 1, F', i, o, ho, hF, hle => by
    obtain ⟨G, rfl⟩ : ∃ G, F' = G + 1 := ⟨F' - 1, by omega⟩
    rw [bfs, bfs]
    cases hi : o[i]? with
    | none => rfl
    | some p => exact bfs_fuel h F G (i + 1) _ (ho.visits (fields_may h p)) (by omega) (by omega)

theorem hMay_roots {M : Int} {l : List Ob} {r : List Vl} (h : hMay M l r = true) : r.all (vMay l.length) = true := by
  simp only [hMay, Bool.and_eq_true] at h; exact h.2

theorem reach_ren {l l' : List Ob} {f : Int → Int} {S : Int → Prop} {M M' : Int} {roots : List Vl} (h : Sim l l' f S) (hm : hMay M l roots = true) (hm' : hMay M' l' (roots.map (ren f)) = true) (hr : ∀ v ∈ roots, v.k = 2 → S v.n) : reach l' (roots.map (ren f)) = (reach l roots).map f := by
  have e0 : visits [] (roots.map (ren f)) = (visits [] roots).map f := visits_ren h (o := []) (fun p hp => by cases hp) hr
  have ok : Ok l.length (visits [] roots) := (Ok.nil _).visits (hMay_roots hm)
  have ok' : Ok l'.length (visits [] (roots.map (ren f))) := (Ok.nil _).visits (hMay_roots hm')
  unfold reach
  rw [← bfs_fuel hm' (l'.length + 1) (l.length + 1 + (l'.length + 1)) 0 _ ok' (by omega) (by omega), ← bfs_fuel hm (l.length + 1) (l.length + 1 + (l'.length + 1)) 0 _ ok (by omega) (by omega), e0]
  exact bfs_ren h _ _ _ (visits_all (fun p hp => by cases hp) hr)

theorem reach_all {l l' : List Ob} {f : Int → Int} {S : Int → Prop} {roots : List Vl} (h : Sim l l' f S) (hr : ∀ v ∈ roots, v.k = 2 → S v.n) : ∀ p ∈ reach l roots, S p :=
  bfs_all h _ _ _ (visits_all (fun p hp => by cases hp) hr)

theorem idxOf_map_inj {f : Int → Int} : ∀ {R : List Int} {q : Int}, (∀ p ∈ R, f p = f q → p = q) → (R.map f).idxOf (f q) = R.idxOf q
  | [], _, _ => rfl
  | p :: R, q, h => by
    rw [List.map_cons, List.idxOf_cons, List.idxOf_cons]
    by_cases e : p = q
    · subst e; simp
    · have e' : f p ≠ f q := fun x => e (h p (by simp) x)
      have e1 : (p == q) = false := by simp [e]
      have e2 : (f p == f q) = false := by simp [e']
      rw [e1, e2, idxOf_map_inj (fun r hr => h r (by simp [hr]))]

/-- How a value is told. -/
def tell (R : List Int) (v : Vl) : List Int := if v.k = 2 then [2, (R.idxOf v.n : Nat)] else [v.k, v.n]

def tellOb (R : List Int) (fs : List Vl) : List Int := [-1, (fs.length : Int)] ++ fs.flatMap (tell R)

/-- The form of what values lead to. -/
def form (l : List Ob) (roots : List Vl) : List Int := roots.flatMap (tell (reach l roots)) ++ (reach l roots).flatMap (fun p => tellOb (reach l roots) (fieldsOf l p))

theorem tell_ren {l l' : List Ob} {f : Int → Int} {S : Int → Prop} (h : Sim l l' f S) {R : List Int} (hR : ∀ p ∈ R, S p) {v : Vl} (hv : v.k = 2 → S v.n) : tell (R.map f) (ren f v) = tell R v := by
  unfold tell ren
  by_cases hk : v.k = 2
  · simp only [hk, if_true]
    rw [idxOf_map_inj (fun p hp e => h.inj p v.n (hR p hp) (hv hk) e)]
  · simp only [hk, if_false]

theorem flatMap_congr' {α β : Type} {f g : α → List β} : ∀ {l : List α}, (∀ x ∈ l, f x = g x) → l.flatMap f = l.flatMap g
  | [], _ => rfl
  | x :: r, h => by rw [List.flatMap_cons, List.flatMap_cons, h x (by simp), flatMap_congr' (fun y hy => h y (by simp [hy]))]

theorem form_ren {l l' : List Ob} {f : Int → Int} {S : Int → Prop} {M M' : Int} {roots : List Vl} (h : Sim l l' f S) (hm : hMay M l roots = true) (hm' : hMay M' l' (roots.map (ren f)) = true) (hr : ∀ v ∈ roots, v.k = 2 → S v.n) : form l' (roots.map (ren f)) = form l roots := by
  have hR := reach_all h hr
  unfold form
  rw [reach_ren h hm hm' hr, List.flatMap_map, List.flatMap_map]
  congr 1
  · exact flatMap_congr' (fun v hv => tell_ren h hR (hr v hv))
  · refine flatMap_congr' (fun p hp => ?_)
    rw [h.fields p (hR p hp)]
    unfold tellOb
    rw [List.length_map, List.flatMap_map]
    congr 1
    exact flatMap_congr' (fun v hv => tell_ren h hR (h.closed p (hR p hp) v hv))

/-- What is cleared up is the same. -/
theorem mv_sim {M : Int} {l pre : List Ob} {roots : List Vl} {order : List Int} (h : hMay M l roots = true) (hmem : ∀ p, p ∈ order ↔ p ∈ reach l roots) :
    Sim l (pre ++ mvObs l order (pre.length : Int) order) (fun p => (pre.length : Int) + (order.idxOf p : Nat)) (fun p => p ∈ order) where
  inj := fun p q hp hq e => by
    have e1 : order.idxOf p = order.idxOf q := by omega
    have a := idx_at hp
    have b := idx_at hq
    rw [e1, b] at a
    simpa using a.symm
  fields := fun p hp => by
    have a := idx_at hp
    have e : ((pre.length : Int) + (order.idxOf p : Nat)).toNat = pre.length + order.idxOf p := by omega
    rw [fieldsOf_obAt l p]
    unfold fieldsOf
    simp only [e]
    rw [List.getElem?_append_right (by omega), Nat.add_sub_cancel_left, mvObs, List.getElem?_map, a]
    rfl
  closed := fun p hp v hv hk => (hmem _).2 (reach_closed h (hMay_roots h) ((hmem p).1 hp) hv hk)

theorem vMay_mv {n : Nat} {order : List Int} {b : Nat} {v : Vl} (m : Nat) (hm : b + order.length ≤ m) (hv : vMay n v = true) (hk : v.k = 2 → v.n ∈ order) : vMay m (mvV order b v) = true := by
  unfold mvV
  by_cases h2 : v.k = 2
  · have := List.idxOf_lt_length_iff.2 (hk h2)
    simp [h2, vMay]
    omega
  · rw [if_neg h2]
    unfold vMay at hv ⊢
    simp only [h2, if_false] at hv ⊢
    exact hv

theorem oMay_mv {n : Nat} {order : List Int} {b : Nat} {o : Ob} (m : Nat) (hm : b + order.length ≤ m) (ho : oMay n o = true) (hk : Leads order o.fs) : oMay m (mvO order b o) = true := by
  unfold oMay mvO at *
  by_cases hd : o.dead = true
  · simp only [hd, if_true, List.length_map] at ho ⊢
    exact ho
  · simp only [hd, List.length_map] at ho ⊢
    simp only [Bool.false_eq_true, if_false, Bool.and_eq_true] at ho ⊢
    refine ⟨ho.1, List.all_eq_true.2 fun u hu => ?_⟩
    obtain ⟨v, hv, rfl⟩ := List.mem_map.1 hu
    exact vMay_mv m hm (List.all_eq_true.1 ho.2 v hv) (hk v hv)

theorem oMay_obAt {M : Int} {l : List Ob} {roots : List Vl} (h : hMay M l roots = true) {p : Int} (hp : 0 ≤ p ∧ p < (l.length : Int)) : oMay l.length (obAt l p) = true := by
  simp only [hMay, Bool.and_eq_true] at h
  unfold obAt
  have hlt : p.toNat < l.length := by omega
  rw [List.getElem?_eq_getElem hlt]
  exact List.all_eq_true.1 h.1.2 _ (List.getElem_mem hlt)

theorem mvObs_length (l : List Ob) (order : List Int) (b : Int) (ps : List Int) : (mvObs l order b ps).length = ps.length := by simp [mvObs]

/-- A heap with what goes to it may be. -/
theorem mv_may {M M' : Int} {l pre : List Ob} {roots vs : List Vl} {order : List Int} (h : hMay M l roots = true) (hmem : ∀ p, p ∈ order ↔ p ∈ reach l roots) (hpre : hMay M' pre [] = true) (hfit : ((pre.length + order.length : Nat) : Int) ≤ M') (hvs : vs.all (vMay l.length) = true) (hl : Leads order vs) :
    hMay M' (pre ++ mvObs l order (pre.length : Int) order) (vs.map (mvV order (pre.length : Int))) = true := by
  have hlen : (pre ++ mvObs l order (pre.length : Int) order).length = pre.length + order.length := by rw [List.length_append, mvObs_length]
  have hok := reach_ok h roots (hMay_roots h)
  simp only [hMay, Bool.and_eq_true] at hpre
  simp only [hMay, Bool.and_eq_true]
  rw [hlen]
  refine ⟨⟨?_, List.all_eq_true.2 fun o ho => ?_⟩, List.all_eq_true.2 fun u hu => ?_⟩
  · have := hpre.1.1
    simp only [mMay, Bool.and_eq_true, decide_eq_true_eq] at this ⊢
    exact ⟨this.1, hfit⟩
  · rcases List.mem_append.1 ho with ho | ho
    · have := List.all_eq_true.1 hpre.1.2 o ho
      unfold oMay at this ⊢
      split at this
      · rename_i hd; rw [if_pos hd]; exact this
      · rename_i hd
        rw [if_neg hd]
        simp only [Bool.and_eq_true] at this ⊢
        refine ⟨this.1, List.all_eq_true.2 fun v hv => ?_⟩
        have h1 := List.all_eq_true.1 this.2 v hv
        unfold vMay at h1 ⊢
        split
        · rename_i h0; rw [if_pos h0] at h1; exact h1
        · rename_i h0
          rw [if_neg h0] at h1
          split
          · rename_i h2; rw [if_pos h2] at h1; exact h1
          · rename_i h2
            rw [if_neg h2] at h1
            split
            · rename_i h3; rw [if_pos h3] at h1; simp only [Bool.and_eq_true, decide_eq_true_eq] at h1 ⊢; omega
            · rename_i h3; rw [if_neg h3] at h1; exact h1
    · obtain ⟨p, hp, rfl⟩ := List.mem_map.1 ho
      have hp' := (hmem p).1 hp
      exact oMay_mv _ (Nat.le_refl _) (oMay_obAt h (hok.2 p hp')) (fun v hv hk => (hmem _).2 (leads_fields h hp' v hv hk))
  · obtain ⟨v, hv, rfl⟩ := List.mem_map.1 hu
    exact vMay_mv _ (Nat.le_refl _) (List.all_eq_true.1 hvs v hv) (hl v hv)

end Go.Proofs.Ytbifdcchdoflpad
