/- The reference's questions of an instruction, as a plain function, come to the same fault. -/
import Derived.Test.YtcgdabmmhjnidaaDoorSpec
namespace Go.Proofs.YtcgdabmmhjnidaaDoor

/-- The same, as the reference asks it. -/
def special (op : Int) : Bool := op == 5 || op == 6 || op == 17
def farN (op n : Int) : Int := if special op then 0 else n
def farBad (op n : Int) : Bool := special op && (!(decide (-60 ≤ n) && decide (n ≤ 60)) || (op == 17 && !(decide (0 ≤ n) && decide (n ≤ 5))))
def formBad (op a b : Int) : Bool := (!aOf op && a != 0) || (!bOf op && b != 0)
def lastBad (op place many : Int) : Bool := place + 1 == many && op != 0 && op != 19 && op != 6
def refIns (kinds many place op a b n : Int) : Int :=
  if okOp op = false then 3
  else if farBad op n = true then 2
  else if okReg a = false ∨ okReg b = false ∨ nMay op (farN op n) 0 1 1 = false then 2
  else if formBad op a b = true then 4
  else if nMay op n place many kinds = false then 2
  else if lastBad op place many = true then 5
  else 0

theorem far_may (op n : Int) (h : okOp op = true) (hf : farBad op n = false) : nMay op (farN op n) 0 1 1 = (decide (loOf op ≤ n) && decide (n ≤ hiOf op)) := by
  simp only [okOp, Bool.and_eq_true, decide_eq_true_eq] at h
  by_cases o5 : op = 5
  · subst o5; simp [farBad, special, nMay, farN, loOf, hiOf] at hf ⊢; omega
  by_cases o6 : op = 6
  · subst o6; simp [farBad, special, nMay, farN, loOf, hiOf] at hf ⊢; omega
  by_cases o17 : op = 17
  · subst o17; simp [farBad, special, nMay, farN, loOf, hiOf] at hf ⊢; omega
  have hs : special op = false := by simp [special, o5, o6, o17]
  simp only [farN, hs, nMay, loOf, hiOf]
  by_cases o1 : op = 1
  · simp [o1]
  by_cases o7 : op = 7
  · simp [o7]
  by_cases o8 : 8 ≤ op ∧ op ≤ 11
  · simp [o1, o5, o6, o7, o8]
  · simp [o1, o5, o6, o7, o8, o17]
    rw [Bool.eq_iff_iff]
    simp
    omega

theorem far_bad (op n : Int) (hf : farBad op n = true) : n < loOf op ∨ hiOf op < n := by
  by_cases o5 : op = 5
  · subst o5; simp [farBad, special, loOf, hiOf] at hf ⊢; omega
  by_cases o6 : op = 6
  · subst o6; simp [farBad, special, loOf, hiOf] at hf ⊢; omega
  by_cases o17 : op = 17
  · subst o17; simp [farBad, special, loOf, hiOf] at hf ⊢; omega
  simp [farBad, special, o5, o6, o17] at hf

theorem may_rest (op n place many kinds : Int) (hl : ¬ n < loOf op) (hh : ¬ hiOf op < n) : nMay op n place many kinds = false ↔ (beside op n place many = true ∨ (op = 17 ∧ kinds ≤ n)) := by
  by_cases o5 : op = 5
  · subst o5; simp [nMay, beside, loOf, hiOf] at hl hh ⊢; omega
  by_cases o6 : op = 6
  · subst o6; simp [nMay, beside, loOf, hiOf] at hl hh ⊢; omega
  by_cases o17 : op = 17
  · subst o17; simp [nMay, beside, loOf, hiOf] at hl hh ⊢; omega
  by_cases o1 : op = 1
  · subst o1; simp [nMay, beside, loOf, hiOf] at hl hh ⊢; omega
  by_cases o7 : op = 7
  · subst o7; simp [nMay, beside, loOf, hiOf] at hl hh ⊢; omega
  by_cases o8 : 8 ≤ op ∧ op ≤ 11
  · simp [nMay, beside, loOf, hiOf, o1, o5, o6, o7, o8, o17] at hl hh ⊢; omega
  · simp [nMay, beside, loOf, hiOf, o1, o5, o6, o7, o8, o17] at hl hh ⊢; omega

theorem refIns_eq (kinds many place op a b n : Int) : refIns kinds many place op a b n = insFault kinds many place op a b n := by
  unfold refIns
  by_cases h1 : okOp op = false
  · rw [if_pos h1, ins_parts] <;> simp [partsFault, h1]
  have h1' : okOp op = true := by simpa using h1
  rw [if_neg h1]
  by_cases h2 : farBad op n = true
  · have := far_bad op n h2
    have hp : partsFault op a b n = 2 := by rw [partsFault, if_neg h1, if_pos (by omega)]
    rw [if_pos h2, ins_parts (by rw [hp]; decide), hp]
  have h2' : farBad op n = false := by simpa using h2
  rw [if_neg h2, far_may op n h1' h2']
  by_cases h3 : okReg a = false ∨ okReg b = false ∨ (decide (loOf op ≤ n) && decide (n ≤ hiOf op)) = false
  · have hp : partsFault op a b n = 2 := by
      rw [partsFault, if_neg h1, if_pos]
      rcases h3 with h | h | h
      · exact Or.inl h
      · exact Or.inr (Or.inl h)
      · simp at h; omega
    rw [if_pos h3, ins_parts (by rw [hp]; decide), hp]
  rw [if_neg h3]
  have h3' : ¬ (okReg a = false ∨ okReg b = false ∨ n < loOf op ∨ hiOf op < n) := by
    intro h
    apply h3
    rcases h with h | h | h | h
    · exact Or.inl h
    · exact Or.inr (Or.inl h)
    · exact Or.inr (Or.inr (by simp; omega))
    · exact Or.inr (Or.inr (by simp; omega))
  have hl : ¬ n < loOf op := fun h => h3' (Or.inr (Or.inr (Or.inl h)))
  have hh : ¬ hiOf op < n := fun h => h3' (Or.inr (Or.inr (Or.inr h)))
  by_cases h4 : formBad op a b = true
  · have hp : partsFault op a b n = 4 := by
      rw [partsFault, if_neg h1, if_neg h3', if_pos]
      simp [formBad] at h4
      rcases h4 with h | h
      · exact Or.inl ⟨h.2, h.1⟩
      · exact Or.inr ⟨h.2, h.1⟩
    rw [if_pos h4, ins_parts (by rw [hp]; decide), hp]
  rw [if_neg h4]
  have hp : partsFault op a b n = 0 := by
    rw [partsFault, if_neg h1, if_neg h3', if_neg]
    intro h
    apply h4
    simp [formBad]
    rcases h with h | h
    · exact Or.inl ⟨h.2, h.1⟩
    · exact Or.inr ⟨h.2, h.1⟩
  have e : insFault kinds many place op a b n = if beside op n place many = true ∨ (op = 17 ∧ kinds ≤ n) then 2 else if place = many - 1 ∧ op ≠ 0 ∧ op ≠ 19 ∧ op ≠ 6 then 5 else 0 := by
    rw [insFault, if_neg (by simp [hp])]
  rw [e]
  by_cases h5 : nMay op n place many kinds = false
  · rw [if_pos h5, if_pos ((may_rest op n place many kinds hl hh).1 h5)]
  · rw [if_neg h5, if_neg (fun h => h5 ((may_rest op n place many kinds hl hh).2 h))]
    by_cases h6 : lastBad op place many = true
    · rw [if_pos h6, if_pos]
      simp [lastBad] at h6
      omega
    · rw [if_neg h6, if_neg]
      intro h
      apply h6
      simp [lastBad]
      omega

end Go.Proofs.YtcgdabmmhjnidaaDoor
