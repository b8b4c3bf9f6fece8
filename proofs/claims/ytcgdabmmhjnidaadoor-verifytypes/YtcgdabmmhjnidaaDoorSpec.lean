/- What an instruction, a behavior and a program are refused for, as plain functions of numbers. -/
namespace Go.Proofs.YtcgdabmmhjnidaaDoor

def okOp (op : Int) : Bool := decide (0 ≤ op) && decide (op ≤ 19)
def okReg (r : Int) : Bool := decide (0 ≤ r) && decide (r ≤ 7)
def aOf (op : Int) : Bool := op != 0 && op != 6 && op != 19
def bOf (op : Int) : Bool := (decide (2 ≤ op) && decide (op ≤ 4)) || (decide (8 ≤ op) && decide (op ≤ 14)) || op == 17
def nOf (op : Int) : Bool := op == 1 || (decide (5 ≤ op) && decide (op ≤ 11)) || op == 17
def loOf (op : Int) : Int := if op = 1 then -1099511627776 else if op = 5 ∨ op = 6 then -60 else if op = 7 then 1 else 0
def hiOf (op : Int) : Int := if op = 1 then 1099511627776 else if op = 5 ∨ op = 6 then 60 else if op = 7 then 4 else if 8 ≤ op ∧ op ≤ 11 then 3 else if op = 17 then 5 else 0

/-- The parts of an instruction, wherever it stands. -/
def partsFault (op a b n : Int) : Int :=
  if okOp op = false then 3
  else if okReg a = false ∨ okReg b = false ∨ n < loOf op ∨ hiOf op < n then 2
  else if (a ≠ 0 ∧ aOf op = false) ∨ (b ≠ 0 ∧ bOf op = false) then 4
  else 0

def beside (op n place many : Int) : Bool := (op == 5 || op == 6) && (decide (place + n < 0) || decide (many ≤ place + n))

/-- May N be so, at a place of a behavior of so many, of a program of so many? (the reference's question) -/
def nMay (op n place many kinds : Int) : Bool :=
  if op = 1 then decide (-1099511627776 ≤ n) && decide (n ≤ 1099511627776)
  else if op = 5 ∨ op = 6 then (decide (-60 ≤ n) && decide (n ≤ 60)) && (decide (0 ≤ place + n) && decide (place + n ≤ many - 1))
  else if op = 7 then decide (1 ≤ n) && decide (n ≤ 4)
  else if 8 ≤ op ∧ op ≤ 11 then decide (0 ≤ n) && decide (n ≤ 3)
  else if op = 17 then decide (0 ≤ n) && decide (n ≤ kinds - 1)
  else n == 0

/-- An instruction at a place of a behavior of so many, of a program of so many behaviors. -/
def insFault (kinds many place op a b n : Int) : Int :=
  if partsFault op a b n ≠ 0 then partsFault op a b n
  else if beside op n place many = true ∨ (op = 17 ∧ kinds ≤ n) then 2
  else if place = many - 1 ∧ op ≠ 0 ∧ op ≠ 19 ∧ op ≠ 6 then 5
  else 0

section
variable {kinds many place op a b n : Int}
theorem ins_parts (h : partsFault op a b n ≠ 0) : insFault kinds many place op a b n = partsFault op a b n := by rw [insFault, if_pos h]
theorem ins_beside (hp : partsFault op a b n = 0) (h : beside op n place many = true) : insFault kinds many place op a b n = 2 := by
  rw [insFault, if_neg (by simp [hp]), if_pos (Or.inl h)]
theorem ins_spawn (hp : partsFault op a b n = 0) (h : op = 17) (h' : kinds ≤ n) : insFault kinds many place op a b n = 2 := by
  rw [insFault, if_neg (by simp [hp]), if_pos (Or.inr ⟨h, h'⟩)]
theorem ins_rest (hp : partsFault op a b n = 0) (h : beside op n place many = false) (h' : ¬ (op = 17 ∧ kinds ≤ n)) :
    insFault kinds many place op a b n = if place = many - 1 ∧ op ≠ 0 ∧ op ≠ 19 ∧ op ≠ 6 then 5 else 0 := by
  rw [insFault, if_neg (by simp [hp]), if_neg (by simp [h]; omega)]
theorem ins_short (hp : partsFault op a b n = 0) (h : beside op n place many = false) (h' : ¬ (op = 17 ∧ kinds ≤ n)) (hl : place = many - 1) (hg : (op != 0 && op != 19 && op != 6) = true) : insFault kinds many place op a b n = 5 := by
  rw [ins_rest hp h h', if_pos]
  simp at hg
  exact ⟨hl, hg.1.1, hg.1.2, hg.2⟩
theorem ins_last (hp : partsFault op a b n = 0) (h : beside op n place many = false) (h' : ¬ (op = 17 ∧ kinds ≤ n)) (hg : (op != 0 && op != 19 && op != 6) = false) : insFault kinds many place op a b n = 0 := by
  rw [ins_rest hp h h', if_neg]
  simp at hg
  omega
theorem ins_inner (hp : partsFault op a b n = 0) (h : beside op n place many = false) (h' : ¬ (op = 17 ∧ kinds ≤ n)) (hl : place ≠ many - 1) : insFault kinds many place op a b n = 0 := by
  rw [ins_rest hp h h', if_neg (fun c => hl c.1)]
end

/-- The first fault from place i on, of n more. -/
def first (f : Nat → Int) : Nat → Nat → Int
  | 0, _ => 0
  | n + 1, i => if f i ≠ 0 then f i else first f n (i + 1)

theorem first_hit (f : Nat → Int) (n i : Nat) (h : i < n) (hf : f i ≠ 0) : first f (n - i) i = f i := by
  obtain ⟨k, hk⟩ : ∃ k, n - i = k + 1 := ⟨n - i - 1, by omega⟩
  rw [hk, first, if_pos hf]

theorem first_pass (f : Nat → Int) (n i : Nat) (h : i < n) (hf : f i = 0) : first f (n - i) i = first f (n - (i + 1)) (i + 1) := by
  obtain ⟨k, hk⟩ : ∃ k, n - i = k + 1 := ⟨n - i - 1, by omega⟩
  rw [hk, first, if_neg (by simp [hf]), show n - (i + 1) = k by omega]

def rowFault (kinds many : Nat) (x : Nat → Nat → Int) : Int :=
  if many < 1 ∨ 60 < many then 1 else first (fun i => insFault kinds many i (x i 0) (x i 1) (x i 2) (x i 3)) many 0

def progFault (G : Nat) (L : Nat → Nat) (X : Nat → Nat → Nat → Int) : Int :=
  if G = 0 then 6 else if 6 < G then 1 else first (fun r => rowFault G (L r) (X r)) G 0

end Go.Proofs.YtcgdabmmhjnidaaDoor
