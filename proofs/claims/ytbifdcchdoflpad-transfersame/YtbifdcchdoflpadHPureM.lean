/- What is cleared up, and what goes to another heap, as lists: places in the heap's order; values and objects at their new places. -/
import Derived.Test.YtbifdcchdoflpadHPureC
namespace Go.Proofs.Ytbifdcchdoflpad

/-- All places of a heap. -/
def spots (n : Nat) : List Int := (List.range n).map Int.ofNat

theorem mem_spots {n : Nat} {p : Int} : p ∈ spots n ↔ 0 ≤ p ∧ p < (n : Int) := by
  simp only [spots, List.mem_map, List.mem_range]
  constructor
  · rintro ⟨a, ha, rfl⟩
    exact ⟨Int.natCast_nonneg a, by show (a : Int) < n; omega⟩
  · rintro ⟨h0, h1⟩
    exact ⟨p.toNat, by omega, by show ((p.toNat : Nat) : Int) = p; omega⟩

theorem spots_succ (n : Nat) : spots (n + 1) = spots n ++ [(n : Int)] := by simp [spots, List.range_succ]

theorem spots_sorted (n : Nat) : (spots n).Pairwise (fun a b => a < b) := by
  induction n with
  | zero => simp [spots]
  | succ n ih =>
    rw [spots_succ, List.pairwise_append]
    refine ⟨ih, by simp, fun a ha b hb => ?_⟩
    simp at hb
    subst hb
    exact (mem_spots.1 ha).2

/-- Those of a list, in the heap's order. -/
def keptOf (order : List Int) (n : Nat) : List Int := (spots n).filter (fun p => decide (p ∈ order))

theorem mem_keptOf {order : List Int} {n : Nat} {p : Int} : p ∈ keptOf order n ↔ (0 ≤ p ∧ p < (n : Int)) ∧ p ∈ order := by
  simp [keptOf, mem_spots]

theorem keptOf_sorted (order : List Int) (n : Nat) : (keptOf order n).Pairwise (fun a b => a < b) := (spots_sorted n).filter _

theorem keptOf_nodup (order : List Int) (n : Nat) : (keptOf order n).Nodup := (keptOf_sorted order n).imp (fun h => by omega)

theorem keptOf_succ (order : List Int) (n : Nat) : keptOf order (n + 1) = if (n : Int) ∈ order then keptOf order n ++ [(n : Int)] else keptOf order n := by
  unfold keptOf
  rw [spots_succ, List.filter_append]
  by_cases h : (n : Int) ∈ order <;> simp [h]

theorem keptOf_perm {order : List Int} {n : Nat} (h : Ok n order) : order.Perm (keptOf order n) :=
  (List.perm_ext_iff_of_nodup h.1 (keptOf_nodup order n)).2 fun p => ⟨fun hp => mem_keptOf.2 ⟨h.2 p hp, hp⟩, fun hp => (mem_keptOf.1 hp).2⟩

theorem keptOf_length {order : List Int} {n : Nat} (h : Ok n order) : (keptOf order n).length = order.length := (keptOf_perm h).length_eq.symm

theorem sort_kept {order : List Int} {n : Nat} (h : Ok n order) : order.mergeSort (fun x y => decide (x ≤ y)) = keptOf order n := by
  refine List.Perm.eq_of_pairwise (le := fun a b : Int => a ≤ b) (fun a b _ _ h1 h2 => by omega) ?_ ((keptOf_sorted order n).imp (fun h => by omega)) ((List.mergeSort_perm _ _).trans (keptOf_perm h))
  have := List.pairwise_mergeSort (le := fun x y : Int => decide (x ≤ y)) (fun a b c h1 h2 => by simp at *; omega) (fun a b => by simp; omega) order
  exact this.imp (fun h => by simpa using h)

theorem keptOf_ok {order : List Int} {n : Nat} : Ok n (keptOf order n) := ⟨keptOf_nodup _ _, fun _ hp => (mem_keptOf.1 hp).1⟩

theorem idx_of {order : List Int} (h : order.Nodup) {i : Nat} {p : Int} (hi : order[i]? = some p) : order.idxOf p = i := by
  obtain ⟨hlt, rfl⟩ := List.getElem?_eq_some_iff.1 hi
  exact List.Nodup.idxOf_getElem h i hlt

theorem idx_at {order : List Int} {p : Int} (h : p ∈ order) : order[order.idxOf p]? = some p := by
  have hlt := List.idxOf_lt_length_iff.2 h
  rw [List.getElem?_eq_getElem hlt, List.getElem_idxOf]

theorem Ok.mono {n m : Nat} {o : List Int} (h : Ok n o) (hm : n ≤ m) : Ok m o := ⟨h.1, fun p hp => ⟨(h.2 p hp).1, by have := (h.2 p hp).2; omega⟩⟩

/-- A value at its new place. -/
def mvV (order : List Int) (b : Int) (v : Vl) : Vl := if v.k = 2 then ⟨2, b + (order.idxOf v.n : Nat)⟩ else v

def mvO (order : List Int) (b : Int) (o : Ob) : Ob := ⟨o.fs.map (mvV order b), o.dead⟩

def obAt (l : List Ob) (p : Int) : Ob := (l[p.toNat]?).getD ⟨[], false⟩

/-- Objects, one behind the other, at their new places. -/
def mvObs (l : List Ob) (order : List Int) (b : Int) (ps : List Int) : List Ob := ps.map fun p => mvO order b (obAt l p)

theorem mvObs_length' (l : List Ob) (order : List Int) (b : Int) (ps : List Int) : (mvObs l order b ps).length = ps.length := by simp [mvObs]

theorem fieldsOf_obAt (l : List Ob) (p : Int) : fieldsOf l p = (obAt l p).fs := by
  unfold fieldsOf obAt
  cases l[p.toNat]? <;> rfl

theorem hMay_roots' {M : Int} {l : List Ob} {r : List Vl} (h : hMay M l r = true) : r.all (vMay l.length) = true := by
  simp only [hMay, Bool.and_eq_true] at h; exact h.2

/-- What Collect answers: Most, the objects, the values, the error. -/
def collectS (M : Int) (l : List Ob) (roots : List Vl) : (Int × List Ob) × List Vl × Int :=
  if hMay M l roots = true then ((M, mvObs l (keptOf (reach l roots) l.length) 0 (keptOf (reach l roots) l.length)), roots.map (mvV (keptOf (reach l roots) l.length) 0), 0) else ((0, []), [], 8)

/-- All that values lead to is known. -/
def Leads (order : List Int) (vs : List Vl) : Prop := ∀ v ∈ vs, v.k = 2 → v.n ∈ order

theorem leads_roots {l : List Ob} {roots : List Vl} : Leads (reach l roots) roots := fun _ hv hk => reach_root hv hk

theorem leads_fields {M : Int} {l : List Ob} {roots : List Vl} (h : hMay M l roots = true) {p : Int} (hp : p ∈ reach l roots) : Leads (reach l roots) (obAt l p).fs := fun v hv hk => by
  have hr : roots.all (vMay l.length) = true := by simp only [hMay, Bool.and_eq_true] at h; exact h.2
  refine reach_closed h hr hp ?_ hk
  rw [fieldsOf_obAt]
  exact hv

theorem Leads.kept {order : List Int} {n : Nat} (ho : Ok n order) {vs : List Vl} (h : Leads order vs) : Leads (keptOf order n) vs := fun v hv hk => mem_keptOf.2 ⟨ho.2 _ (h v hv hk), h v hv hk⟩

end Go.Proofs.Ytbifdcchdoflpad
