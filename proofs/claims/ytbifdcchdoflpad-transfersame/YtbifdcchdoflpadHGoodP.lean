/- Heaps that are made step by step stay heaps that may be, and nothing in them is dead. -/
import Derived.Test.YtbifdcchdoflpadHAlloc
import Derived.Test.YtbifdcchdoflpadHSet
namespace Go.Proofs.Ytbifdcchdoflpad

/-- References to all of so many objects. -/
def allVals (n : Nat) : List Vl := (List.range n).map fun (i : Nat) => (⟨2, (i : Int)⟩ : Vl)

theorem allVals_length (n : Nat) : (allVals n).length = n := by simp [allVals]
theorem allVals_get {n i : Nat} (h : i < n) : (allVals n)[i]? = some ⟨2, (i : Int)⟩ := by simp [allVals, h]
theorem allVals_succ (n : Nat) : allVals (n + 1) = allVals n ++ [⟨2, (n : Int)⟩] := by simp [allVals, List.range_succ]

/-- A heap that may be, without dead objects. -/
def Good (M : Int) (l : List Ob) : Prop := hMay M l [] = true ∧ ∀ o ∈ l, o.dead = false

theorem vMay_mono {m m' : Int} {v : Vl} (h : vMay m v = true) (hm : m ≤ m') : vMay m' v = true := by
  unfold vMay at h ⊢
  split
  · rename_i h0; simpa [h0] using h
  · rename_i h0
    split
    · rename_i h1; simpa [h0, h1] using h
    · rename_i h1
      split
      · rename_i h2
        simp [h2] at h ⊢
        omega
      · rename_i h2
        simp [h0, h1, h2] at h

theorem oMay_mono {m m' : Int} {o : Ob} (h : oMay m o = true) (hm : m ≤ m') : oMay m' o = true := by
  unfold oMay at h ⊢
  split
  · rename_i hd; simpa [hd] using h
  · rename_i hd
    simp only [hd, if_false, Bool.and_eq_true, Bool.false_eq_true] at h ⊢
    exact ⟨h.1, List.all_eq_true.2 fun x hx => vMay_mono (List.all_eq_true.1 h.2 x hx) hm⟩

theorem hMay_parts {M : Int} {l : List Ob} {r : List Vl} : hMay M l r = true ↔ (0 ≤ M ∧ M ≤ 60 ∧ (l.length : Int) ≤ M) ∧ (∀ o ∈ l, oMay l.length o = true) ∧ ∀ v ∈ r, vMay l.length v = true := by
  simp only [hMay, mMay, Bool.and_eq_true, decide_eq_true_eq, List.all_eq_true]
  exact ⟨fun h => ⟨⟨h.1.1.1.1, h.1.1.1.2, h.1.1.2⟩, h.1.2, h.2⟩, fun h => ⟨⟨⟨⟨h.1.1, h.1.2.1⟩, h.1.2.2⟩, h.2.1⟩, h.2.2⟩⟩

theorem hMay_all {M : Int} {l : List Ob} (h : hMay M l [] = true) : hMay M l (allVals l.length) = true := by
  rw [hMay_parts] at h ⊢
  refine ⟨h.1, h.2.1, fun v hv => ?_⟩
  simp only [allVals, List.mem_map, List.mem_range] at hv
  obtain ⟨i, hi, rfl⟩ := hv
  simp [vMay]
  omega

theorem good_empty {M : Int} (h0 : 0 ≤ M) (h1 : M ≤ 60) : Good M [] := ⟨by rw [hMay_parts]; exact ⟨⟨h0, h1, by simpa using h0⟩, by simp, by simp⟩, by simp⟩

theorem good_alloc {M : Int} {l : List Ob} (h : Good M l) {n : Int} (he : (allocS M l n).e = 0) : (allocS M l n).M = M ∧ (allocS M l n).obs.length = l.length + 1 ∧ (allocS M l n).k = 2 ∧ (allocS M l n).n = l.length ∧ Good M (allocS M l n).obs := by
  unfold allocS at he ⊢
  rw [if_neg (by simp [h.1])] at he ⊢
  split at he
  · simp at he
  · rename_i hn
    rw [if_neg hn]
    split at he
    · simp at he
    · rename_i hL
      rw [if_neg hL]
      refine ⟨rfl, by simp, rfl, rfl, ?_, ?_⟩
      · have hp := hMay_parts.1 h.1
        have hn' : 1 ≤ n ∧ n ≤ 4 := by simpa using hn
        rw [hMay_parts]
        refine ⟨⟨hp.1.1, hp.1.2.1, by simp; omega⟩, fun o ho => ?_, by simp⟩
        rcases List.mem_append.1 ho with ho | ho
        · exact oMay_mono (hp.2.1 o ho) (by simp; omega)
        · simp at ho
          subst ho
          simp only [oMay, Bool.false_eq_true, if_false, Bool.and_eq_true, decide_eq_true_eq, List.all_eq_true]
          refine ⟨by simp [zeroVals]; omega, fun x hx => ?_⟩
          simp only [zeroVals, List.mem_replicate] at hx
          rw [hx.2]
          simp [vMay]
      · intro o ho
        rcases List.mem_append.1 ho with ho | ho
        · exact h.2 o ho
        · simp at ho
          subst ho
          rfl

theorem good_set {M : Int} {l : List Ob} (h : Good M l) {v x : Vl} {f : Int} (he : (setS M l v f x).2.2 = 0) : (setS M l v f x).1 = M ∧ (setS M l v f x).2.1.length = l.length ∧ Good M (setS M l v f x).2.1 := by
  unfold setS at he ⊢
  split at he
  · simp at he
  · rename_i hq
    rw [if_neg hq]
    split at he
    · rename_i hf
      exact absurd he hf
    · rename_i hf
      rw [if_neg hf]
      have hx : vMay l.length x = true := hMay_vMay (by simpa using hq) (v := x) (by simp)
      refine ⟨rfl, setObs_length _ _ _ _, ?_, ?_⟩
      · have hp := hMay_parts.1 h.1
        rw [hMay_parts, setObs_length]
        refine ⟨hp.1, fun o ho => ?_, by simp⟩
        unfold setObs at ho
        split at ho
        · exact hp.2.1 o ho
        · rename_i o0 ho0
          rcases List.mem_or_eq_of_mem_set ho with ho | rfl
          · exact hp.2.1 o ho
          · have h0 := hp.2.1 o0 (List.mem_of_getElem? ho0)
            have hd := h.2 o0 (List.mem_of_getElem? ho0)
            simp only [oMay, hd, Bool.false_eq_true, if_false, Bool.and_eq_true, decide_eq_true_eq, List.all_eq_true, List.length_set] at h0 ⊢
            refine ⟨h0.1, fun y hy => ?_⟩
            rcases List.mem_or_eq_of_mem_set hy with hy | rfl
            · exact h0.2 y hy
            · exact hx
      · intro o ho
        unfold setObs at ho
        split at ho
        · exact h.2 o ho
        · rename_i o0 ho0
          rcases List.mem_or_eq_of_mem_set ho with ho | rfl
          · exact h.2 o ho
          · exact h.2 o0 (List.mem_of_getElem? ho0)

end Go.Proofs.Ytbifdcchdoflpad
