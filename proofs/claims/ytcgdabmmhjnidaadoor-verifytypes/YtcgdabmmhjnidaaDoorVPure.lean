/- What is known of registers, round by round, as lists: plain functions, and that the rounds end. -/
namespace Go.Proofs.YtcgdabmmhjnidaaDoor

def vObj (t : Int) : Bool := decide (2 ≤ t) && decide (t ≤ 3)
def vJoin (a b : Int) : Int := if a = b then a else if vObj a = true ∧ vObj b = true then 2 else 0
def vAt (k : List Int) (r : Int) : Int := (k[r.toNat]?).getD 0
def vPut (k : List Int) (r x : Int) : List Int := k.set r.toNat x

/-- What is known behind an instruction. -/
def vBehind (op a b : Int) (k : List Int) : List Int :=
  if op = 1 ∨ op = 2 ∨ op = 3 ∨ op = 4 ∨ op = 8 ∨ op = 16 then vPut k a 1
  else if op = 7 then vPut k a 3
  else if op = 10 then vPut (vPut k a 2) b 2
  else if op = 11 then (if a = b ∨ vAt k b = 2 then vPut k a 2 else vPut k b 0)
  else if op = 12 then vPut (if vAt k b = 3 then vPut k b 0 else k) a (vAt k b)
  else if op = 13 ∨ op = 18 then vPut k a 0
  else if op = 17 then vPut (vPut k b 0) a 1
  else k

/-- Where an instruction may go on. -/
def vGoes (op n place : Int) : List Int :=
  if op = 0 ∨ op = 19 then [] else if op = 6 then [place + n] else if op = 5 then [place + 1, place + n] else [place + 1]

/-- May it be done? -/
def vMayDo (op a b : Int) (k : List Int) : Bool :=
  if op = 0 then vObj (vAt k 0)
  else if op = 2 ∨ op = 3 ∨ op = 4 then decide (vAt k a = 1) && decide (vAt k b = 1)
  else if op = 5 ∨ op = 15 then decide (vAt k a = 1)
  else if op = 8 ∨ op = 10 then vObj (vAt k b)
  else if op = 9 ∨ op = 14 then vObj (vAt k a) && decide (vAt k b = 1)
  else if op = 11 then vObj (vAt k a) && vObj (vAt k b)
  else if op = 12 then decide (vAt k b ≠ 0)
  else if op = 13 then decide (vAt k a = 3) && decide (vAt k b = 1)
  else if op = 17 then decide (vAt k b = 3)
  else true

abbrev Pt := Option (List Int)

def vCome (p : Pt) (on : List Int) : Pt := match p with
  | none => some on
  | some k => some (List.zipWith vJoin k on)

def vPt (st : List Pt) (i : Nat) : Pt := (st[i]?).getD none

def vTo (on : List Int) (st : List Pt) (to : Int) : List Pt := st.set to.toNat (vCome (vPt st to.toNat) on)

/-- One instruction's turn. -/
def vTurn (x : Nat → Nat → Int) (st : List Pt) (i : Nat) : List Pt := match vPt st i with
  | none => st
  | some k => (vGoes (x i 0) (x i 3) i).foldl (vTo (vBehind (x i 0) (x i 1) (x i 2) k)) st

/-- The first i instructions of a round. -/
def vTurns (x : Nat → Nat → Int) (st : List Pt) (i : Nat) : List Pt := (List.range i).foldl (vTurn x) st

def vRound (x : Nat → Nat → Int) (L : Nat) (st : List Pt) : List Pt := vTurns x st L

def vStart (L : Nat) : List Pt := (List.replicate L none).set 0 (some [3, 3, 0, 0, 0, 0, 0, 0])

def vIter (x : Nat → Nat → Int) (L : Nat) : Nat → List Pt → List Pt
  | 0, st => st
  | n + 1, st => vIter x L n (vRound x L st)

/-- The rounds from the start on come to st, and stay there. -/
def IsFlow (x : Nat → Nat → Int) (L : Nat) (st : List Pt) : Prop := (∃ n, st = vIter x L n (vStart L)) ∧ vRound x L st = st

theorem vIter_fix {x : Nat → Nat → Int} {L : Nat} {st : List Pt} (h : vRound x L st = st) : ∀ n, vIter x L n st = st
  | 0 => rfl
  | n + 1 => by rw [vIter, h]; exact vIter_fix h n

theorem vIter_add (x : Nat → Nat → Int) (L : Nat) : ∀ (n m : Nat) (st : List Pt), vIter x L (n + m) st = vIter x L m (vIter x L n st)
  | 0, m, st => by rw [Nat.zero_add]; rfl
  | n + 1, m, st => by rw [Nat.succ_add, vIter, vIter]; exact vIter_add x L n m _

theorem vIter_succ (x : Nat → Nat → Int) (L n : Nat) (st : List Pt) : vIter x L (n + 1) st = vRound x L (vIter x L n st) := vIter_add x L n 1 st

theorem IsFlow.one {x : Nat → Nat → Int} {L : Nat} {a b : List Pt} (ha : IsFlow x L a) (hb : IsFlow x L b) : a = b := by
  obtain ⟨⟨n, rfl⟩, fa⟩ := ha
  obtain ⟨⟨m, rfl⟩, fb⟩ := hb
  rcases Nat.le_total n m with h | h
  · obtain ⟨d, rfl⟩ := Nat.exists_eq_add_of_le h
    rw [vIter_add, vIter_fix fa]
  · obtain ⟨d, rfl⟩ := Nat.exists_eq_add_of_le h
    rw [vIter_add, vIter_fix fb]

theorem vTurns_succ (x : Nat → Nat → Int) (st : List Pt) (i : Nat) : vTurns x st (i + 1) = vTurn x (vTurns x st i) i := by simp [vTurns, List.range_succ]

/-- L points, eight registers each. -/
def VGood (L : Nat) (st : List Pt) : Prop := st.length = L ∧ ∀ k, some k ∈ st → k.length = 8

theorem vPut_length (k : List Int) (r x : Int) : (vPut k r x).length = k.length := by simp [vPut]

theorem vBehind_length (op a b : Int) (k : List Int) : (vBehind op a b k).length = k.length := by
  unfold vBehind
  repeat' split
  all_goals simp [vPut_length]

theorem VGood.pt {L : Nat} {st : List Pt} (h : VGood L st) {i : Nat} {k : List Int} (hk : vPt st i = some k) : k.length = 8 := by
  unfold vPt at hk
  cases hi : st[i]? with
  | none => simp [hi] at hk
  | some p =>
    simp [hi] at hk
    subst hk
    exact h.2 k (List.mem_of_getElem? hi)

theorem VGood.set {L : Nat} {st : List Pt} (h : VGood L st) (i : Nat) {p : Pt} (hp : ∀ k, p = some k → k.length = 8) : VGood L (st.set i p) := by
  refine ⟨by simp [h.1], fun k hk => ?_⟩
  rcases List.mem_or_eq_of_mem_set hk with hk | hk
  · exact h.2 k hk
  · exact hp k hk.symm

theorem vCome_length {p : Pt} {on : List Int} (hp : ∀ k, p = some k → k.length = 8) (ho : on.length = 8) : ∀ k, vCome p on = some k → k.length = 8 := by
  intro k hk
  cases p with
  | none => simp [vCome] at hk; subst hk; exact ho
  | some q => simp [vCome] at hk; subst hk; simp [hp q rfl, ho]

theorem VGood.to {L : Nat} {st : List Pt} (h : VGood L st) {on : List Int} (ho : on.length = 8) (to : Int) : VGood L (vTo on st to) :=
  h.set _ (vCome_length (fun _ hk => h.pt hk) ho)

theorem VGood.tos {L : Nat} {on : List Int} (ho : on.length = 8) : ∀ (tos : List Int) {st : List Pt}, VGood L st → VGood L (tos.foldl (vTo on) st)
  | [], _, h => h
  | t :: r, _, h => VGood.tos ho r (h.to ho t)

theorem VGood.turn {L : Nat} {st : List Pt} (h : VGood L st) (x : Nat → Nat → Int) (i : Nat) : VGood L (vTurn x st i) := by
  unfold vTurn
  cases hi : vPt st i with
  | none => exact h
  | some k => exact VGood.tos (by rw [vBehind_length]; exact h.pt hi) _ h

theorem VGood.turns {L : Nat} {st : List Pt} (h : VGood L st) (x : Nat → Nat → Int) : ∀ i, VGood L (vTurns x st i)
  | 0 => h
  | i + 1 => by rw [vTurns_succ]; exact (VGood.turns h x i).turn x i

theorem vgood_start (L : Nat) : VGood L (vStart L) := by
  refine VGood.set ⟨by simp, fun k hk => ?_⟩ 0 (fun k hk => by simp at hk; subst hk; rfl)
  simp at hk

/-- How much more can be forgotten. -/
def vHt (x : Int) : Nat := if x = 0 then 0 else if x = 3 then 2 else 1
def vHts (k : List Int) : Nat := (k.map vHt).sum
def vHp (p : Pt) : Nat := match p with
  | none => 17
  | some k => vHts k
def vMu (st : List Pt) : Nat := (st.map vHp).sum

theorem vHt_le (x : Int) : vHt x ≤ 2 := by unfold vHt; split <;> (try split) <;> omega

theorem vHts_le : ∀ k : List Int, vHts k ≤ 2 * k.length
  | [] => Nat.le_refl _
  | x :: r => by
    have h1 := vHt_le x
    have h2 := vHts_le r
    simp only [vHts, List.map_cons, List.sum_cons, List.length_cons] at *
    omega

theorem vJoin_ht (a b : Int) : vHt (vJoin a b) ≤ vHt a ∧ (vJoin a b ≠ a → vHt (vJoin a b) < vHt a) := by
  unfold vJoin
  by_cases h : a = b
  · simp [h]
  · rw [if_neg h]
    by_cases ho : vObj a = true ∧ vObj b = true
    · rw [if_pos ho]
      simp only [vObj, Bool.and_eq_true, decide_eq_true_eq] at ho
      by_cases h3 : a = 3
      · subst h3; simp [vHt]
      · have : a = 2 := by omega
        subst this; simp
    · rw [if_neg ho]
      by_cases h0 : a = 0
      · subst h0; simp
      · have h1 : vHt 0 = 0 := rfl
        have h2 : 0 < vHt a := by unfold vHt; rw [if_neg h0]; split <;> omega
        omega

theorem vJoins_ht : ∀ (k on : List Int), k.length = on.length → vHts (List.zipWith vJoin k on) ≤ vHts k ∧ (List.zipWith vJoin k on ≠ k → vHts (List.zipWith vJoin k on) < vHts k)
  | [], [], _ => by simp [vHts]
  | a :: k, b :: on, h => by
    have ih := vJoins_ht k on (by simpa using h)
    have hj := vJoin_ht a b
    have e1 : vHts (vJoin a b :: List.zipWith vJoin k on) = vHt (vJoin a b) + vHts (List.zipWith vJoin k on) := by simp [vHts]
    have e2 : vHts (a :: k) = vHt a + vHts k := by simp [vHts]
    simp only [List.zipWith_cons_cons]
    rw [e1, e2]
    refine ⟨by omega, fun hne => ?_⟩
    by_cases ha : vJoin a b = a
    · have : List.zipWith vJoin k on ≠ k := fun e => hne (by rw [ha, e])
      have := ih.2 this
      omega
    · have := hj.2 ha
      omega

theorem vCome_ht {p : Pt} {on : List Int} (hp : ∀ k, p = some k → k.length = 8) (ho : on.length = 8) : vHp (vCome p on) ≤ vHp p ∧ (vCome p on ≠ p → vHp (vCome p on) < vHp p) := by
  cases p with
  | none =>
    have := vHts_le on
    simp only [vCome, vHp]
    omega
  | some k =>
    have := vJoins_ht k on (by rw [hp k rfl, ho])
    simp only [vCome, vHp]
    exact ⟨this.1, fun h => this.2 (fun e => h (by rw [e]))⟩

theorem sum_set : ∀ (l : List Nat) (i y : Nat) (hi : i < l.length), (l.set i y).sum + l[i] = l.sum + y
  | a :: r, 0, y, _ => by simp; omega
  | a :: r, i + 1, y, hi => by
    have := sum_set r i y (by simpa using hi)
    simp only [List.set_cons_succ, List.sum_cons, List.getElem_cons_succ]
    omega

theorem vTo_mu {L : Nat} {st : List Pt} (h : VGood L st) {on : List Int} (ho : on.length = 8) (to : Int) : vMu (vTo on st to) ≤ vMu st ∧ (vTo on st to ≠ st → vMu (vTo on st to) < vMu st) := by
  unfold vTo
  by_cases hi : to.toNat < st.length
  · have hp : vPt st to.toNat = st[to.toNat] := by simp [vPt, hi]
    have hc := vCome_ht (p := vPt st to.toNat) (on := on) (fun _ hk => h.pt hk) ho
    have hs := sum_set (st.map vHp) to.toNat (vHp (vCome (vPt st to.toNat) on)) (by simpa using hi)
    rw [← List.map_set] at hs
    simp only [List.getElem_map, ← hp] at hs
    unfold vMu
    refine ⟨by omega, fun hne => ?_⟩
    have := hc.2 (fun e => hne (by rw [e, hp]; simp))
    omega
  · rw [List.set_eq_of_length_le (by omega)]
    exact ⟨Nat.le_refl _, fun h => absurd rfl h⟩

theorem vTos_mu {L : Nat} {on : List Int} (ho : on.length = 8) : ∀ (tos : List Int) {st : List Pt}, VGood L st → vMu (tos.foldl (vTo on) st) ≤ vMu st ∧ (tos.foldl (vTo on) st ≠ st → vMu (tos.foldl (vTo on) st) < vMu st)
  | [], st, h => ⟨Nat.le_refl _, fun e => absurd rfl e⟩
  | t :: r, st, h => by
    have h1 := vTo_mu h ho t
    have h2 := vTos_mu ho r (h.to ho t)
    simp only [List.foldl_cons]
    refine ⟨Nat.le_trans h2.1 h1.1, fun hne => ?_⟩
    by_cases e : vTo on st t = st
    · rw [e] at h2 hne ⊢
      exact h2.2 hne
    · exact Nat.lt_of_le_of_lt h2.1 (h1.2 e)

theorem vTurn_mu {L : Nat} {st : List Pt} (h : VGood L st) (x : Nat → Nat → Int) (i : Nat) : vMu (vTurn x st i) ≤ vMu st ∧ (vTurn x st i ≠ st → vMu (vTurn x st i) < vMu st) := by
  unfold vTurn
  cases hi : vPt st i with
  | none => exact ⟨Nat.le_refl _, fun e => absurd rfl e⟩
  | some k => exact vTos_mu (by rw [vBehind_length]; exact h.pt hi) _ h

theorem vTurns_mu {L : Nat} {st : List Pt} (h : VGood L st) (x : Nat → Nat → Int) : ∀ i, vMu (vTurns x st i) ≤ vMu st ∧ (vTurns x st i ≠ st → vMu (vTurns x st i) < vMu st)
  | 0 => ⟨Nat.le_refl _, fun e => absurd rfl e⟩
  | i + 1 => by
    have h1 := vTurns_mu h x i
    have h2 := vTurn_mu (VGood.turns h x i) x i
    rw [vTurns_succ]
    refine ⟨Nat.le_trans h2.1 h1.1, fun hne => ?_⟩
    by_cases e : vTurns x st i = st
    · rw [e] at h2 hne ⊢
      exact h2.2 hne
    · exact Nat.lt_of_le_of_lt h2.1 (h1.2 e)

theorem vMu_le {L : Nat} {st : List Pt} (h : VGood L st) : vMu st ≤ 17 * L := by
  obtain ⟨rfl, h8⟩ := h
  induction st with
  | nil => simp [vMu]
  | cons p r ih =>
    have ih' := ih (fun k hk => h8 k (by simp [hk]))
    have hp : vHp p ≤ 17 := by
      cases p with
      | none => exact Nat.le_refl _
      | some k =>
        have h1 := vHts_le k
        have h2 := h8 k (by simp)
        simp only [vHp]
        omega
    simp only [vMu, List.map_cons, List.sum_cons, List.length_cons] at ih' ⊢
    omega

end Go.Proofs.YtcgdabmmhjnidaaDoor
