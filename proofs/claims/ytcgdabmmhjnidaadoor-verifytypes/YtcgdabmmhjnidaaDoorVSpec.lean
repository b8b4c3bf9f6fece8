/- What a verifier says of a program, as plain functions: the flow of each behavior, the first instruction that may not be done. -/
import Derived.Test.YtcgdabmmhjnidaaDoorRdSpec
import Derived.Test.YtcgdabmmhjnidaaDoorVPure
namespace Go.Proofs.YtcgdabmmhjnidaaDoor

/-- What an instruction is like that may be. -/
structure InsOk (G many place : Int) (i : Ins) : Prop where
  op : 0 ≤ i.op ∧ i.op ≤ 19
  a : 0 ≤ i.a ∧ i.a ≤ 7
  b : 0 ≤ i.b ∧ i.b ≤ 7
  n : loOf i.op ≤ i.n ∧ i.n ≤ hiOf i.op
  jump : i.op = 5 ∨ i.op = 6 → 0 ≤ place + i.n ∧ place + i.n < many
  spawn : i.op = 17 → i.n < G
  last : place = many - 1 → i.op = 0 ∨ i.op = 19 ∨ i.op = 6

theorem insOk_of {G many place op a b n : Int} (h : insFault G many place op a b n = 0) : InsOk G many place ⟨op, a, b, n⟩ := by
  have hp : partsFault op a b n = 0 := by
    by_cases hp : partsFault op a b n = 0
    · exact hp
    · rw [ins_parts hp] at h; exact h
  have hb : beside op n place many = false := by
    cases hb : beside op n place many with
    | false => rfl
    | true => rw [ins_beside hp hb] at h; omega
  have hs : ¬ (op = 17 ∧ G ≤ n) := fun hs => by rw [ins_spawn hp hs.1 hs.2] at h; omega
  rw [ins_rest hp hb hs] at h
  have hl : ¬ (place = many - 1 ∧ op ≠ 0 ∧ op ≠ 19 ∧ op ≠ 6) := fun hl => by rw [if_pos hl] at h; omega
  unfold partsFault at hp
  by_cases h1 : okOp op = false
  · rw [if_pos h1] at hp; omega
  rw [if_neg h1] at hp
  by_cases h2 : okReg a = false ∨ okReg b = false ∨ n < loOf op ∨ hiOf op < n
  · rw [if_pos h2] at hp; omega
  simp only [okOp, Bool.and_eq_false_iff, decide_eq_false_iff_not] at h1
  simp only [okReg, Bool.and_eq_false_iff, decide_eq_false_iff_not] at h2
  refine ⟨by show 0 ≤ op ∧ op ≤ 19; omega, by show 0 ≤ a ∧ a ≤ 7; omega, by show 0 ≤ b ∧ b ≤ 7; omega, by show loOf op ≤ n ∧ n ≤ hiOf op; omega, fun hj => ?_, fun hj => ?_, fun hj => ?_⟩
  · unfold beside at hb
    have hj' : op = 5 ∨ op = 6 := hj
    have e : (op == 5 || op == 6) = true := by simpa using hj'
    rw [e] at hb
    simp at hb
    show 0 ≤ place + n ∧ place + n < many
    omega
  · have hj' : op = 17 := hj
    show n < G
    omega
  · show op = 0 ∨ op = 19 ∨ op = 6
    omega

/-- A program that is verified; S: what is known in each of its behaviors. -/
structure Ver (G : Nat) (L : Nat → Nat) (X : Nat → Nat → Nat → Int) (S : Nat → List Pt) : Prop where
  rows : ∀ k, k < G → 1 ≤ L k ∧ L k ≤ 60
  ins : ∀ k i, k < G → i < L k → insFault G (L k) i (X k i 0) (X k i 1) (X k i 2) (X k i 3) = 0
  flow : ∀ k, k < G → IsFlow (X k) (L k) (S k)
  may : ∀ k i kk, k < G → i < L k → vPt (S k) i = some kk → vMayDo (X k i 0) (X k i 1) (X k i 2) kk = true

/-- What is known in a behavior, when the rounds have ended. -/
def flowS (x : Nat → Nat → Int) (L : Nat) : List Pt := vIter x L (17 * L + 1) (vStart L)

theorem good_iterS {x : Nat → Nat → Int} {L : Nat} : ∀ (n : Nat) {st : List Pt}, VGood L st → VGood L (vIter x L n st)
  | 0, _, h => h
  | n + 1, _, h => good_iterS n (VGood.turns h x L)

theorem iter_mu {x : Nat → Nat → Int} {L : Nat} : ∀ (n : Nat) {st : List Pt}, VGood L st → vRound x L (vIter x L n st) = vIter x L n st ∨ vMu (vIter x L n st) + n ≤ vMu st
  | 0, st, _ => Or.inr (by show vMu st + 0 ≤ vMu st; omega)
  | n + 1, st, h => by
    rw [vIter_succ]
    have hg := good_iterS (x := x) n h
    by_cases e : vRound x L (vIter x L n st) = vIter x L n st
    · rw [e]; exact Or.inl e
    · have h1 := (vTurns_mu hg x L).2 e
      rcases iter_mu (x := x) n h with h2 | h2
      · exact absurd h2 e
      · refine Or.inr ?_
        have h1' : vMu (vRound x L (vIter x L n st)) < vMu (vIter x L n st) := h1
        omega

theorem flowS_is (x : Nat → Nat → Int) (L : Nat) : IsFlow x L (flowS x L) := by
  refine ⟨⟨_, rfl⟩, ?_⟩
  rcases iter_mu (x := x) (17 * L + 1) (vgood_start L) with h | h
  · exact h
  · have := vMu_le (vgood_start L)
    omega

theorem IsFlow.eq {x : Nat → Nat → Int} {L : Nat} {st : List Pt} (h : IsFlow x L st) : st = flowS x L := h.one (flowS_is x L)

theorem flowS_good (x : Nat → Nat → Int) (L : Nat) : VGood L (flowS x L) := good_iterS _ (vgood_start L)

/-- A behavior that may be. -/
structure RowOk (L : Nat) (x : Nat → Nat → Int) : Prop where
  len : 1 ≤ L ∧ L ≤ 60
  op : ∀ i, i < L → 0 ≤ x i 0 ∧ x i 0 ≤ 19
  a : ∀ i, i < L → 0 ≤ x i 1 ∧ x i 1 ≤ 7
  b : ∀ i, i < L → 0 ≤ x i 2 ∧ x i 2 ≤ 7
  n : ∀ i, i < L → x i 0 = 5 ∨ x i 0 = 6 → -60 ≤ x i 3 ∧ x i 3 ≤ 60
  goes : ∀ i, i < L → ∀ j ∈ vGoes (x i 0) (x i 3) i, 0 ≤ j ∧ j < (L : Int)

theorem first_nought {f : Nat → Int} : ∀ (n i : Nat), first f n i = 0 → ∀ j, i ≤ j → j < i + n → f j = 0
  | 0, i, _, j, h1, h2 => by omega
  | n + 1, i, h, j, h1, h2 => by
    rw [first] at h
    by_cases e : f i ≠ 0
    · rw [if_pos e] at h; exact absurd h e
    · rw [if_neg e] at h
      by_cases hj : j = i
      · subst hj; exact Classical.byContradiction e
      · exact first_nought n (i + 1) h j (by omega) (by omega)

theorem progV_ok {G : Nat} {L : Nat → Nat} {X : Nat → Nat → Nat → Int} (h : progFault G L X = 0) : (1 ≤ G ∧ G ≤ 6) ∧ (∀ r, r < G → 1 ≤ L r ∧ L r ≤ 60) ∧ ∀ r i, r < G → i < L r → insFault G (L r) i (X r i 0) (X r i 1) (X r i 2) (X r i 3) = 0 := by
  unfold progFault at h
  by_cases h0 : G = 0
  · rw [if_pos h0] at h; omega
  rw [if_neg h0] at h
  by_cases h6 : 6 < G
  · rw [if_pos h6] at h; omega
  rw [if_neg h6] at h
  have hr := first_nought G 0 h
  refine ⟨by omega, fun r hrG => ?_, fun r i hrG hi => ?_⟩
  · have := hr r (by omega) (by omega)
    unfold rowFault at this
    by_cases hl : L r < 1 ∨ 60 < L r
    · rw [if_pos hl] at this; omega
    · omega
  · have := hr r (by omega) (by omega)
    unfold rowFault at this
    by_cases hl : L r < 1 ∨ 60 < L r
    · rw [if_pos hl] at this; omega
    · rw [if_neg hl] at this
      exact first_nought (L r) 0 this i (by omega) (by omega)

theorem rowV_ok {G : Nat} {L : Nat → Nat} {X : Nat → Nat → Nat → Int} (h : progFault G L X = 0) {r : Nat} (hr : r < G) : RowOk (L r) (X r) := by
  obtain ⟨_, hl, hi⟩ := progV_ok h
  have I := fun i hi' => insOk_of (hi r i hr hi')
  refine ⟨hl r hr, fun i hi' => (I i hi').op, fun i hi' => (I i hi').a, fun i hi' => (I i hi').b, fun i hi' ho => ?_, fun i hi' j hj => ?_⟩
  · have := (I i hi').n
    have ho' : X r i 0 = 5 ∨ X r i 0 = 6 := ho
    simp only [loOf, hiOf] at this
    rw [if_neg (by omega), if_pos ho'] at this
    rw [if_neg (by omega), if_pos ho'] at this
    exact this
  · unfold vGoes at hj
    by_cases h0 : X r i 0 = 0 ∨ X r i 0 = 19
    · rw [if_pos h0] at hj; cases hj
    rw [if_neg h0] at hj
    by_cases h6 : X r i 0 = 6
    · rw [if_pos h6] at hj
      simp at hj
      subst hj
      exact (I i hi').jump (Or.inr h6)
    rw [if_neg h6] at hj
    have hnl : (i : Int) ≠ (L r : Int) - 1 := fun e => by have := (I i hi').last e; simp only at this; omega
    by_cases h5 : X r i 0 = 5
    · rw [if_pos h5] at hj
      simp at hj
      rcases hj with rfl | rfl
      · omega
      · exact (I i hi').jump (Or.inl h5)
    · rw [if_neg h5] at hj
      simp at hj
      subst hj
      omega

/-- An instruction that may not be done with what is known. -/
def badAt (x : Nat → Nat → Int) (st : List Pt) (i : Nat) : Bool := match vPt st i with
  | none => false
  | some k => !vMayDo (x i 0) (x i 1) (x i 2) k

def firstBad (f : Nat → Bool) : Nat → Nat → Option Nat
  | 0, _ => none
  | n + 1, i => if f i = true then some i else firstBad f n (i + 1)

theorem firstBad_hit (f : Nat → Bool) (n i : Nat) (h : i < n) (hf : f i = true) : firstBad f (n - i) i = some i := by
  obtain ⟨k, hk⟩ : ∃ k, n - i = k + 1 := ⟨n - i - 1, by omega⟩
  rw [hk, firstBad, if_pos hf]

theorem firstBad_pass (f : Nat → Bool) (n i : Nat) (h : i < n) (hf : f i = false) : firstBad f (n - i) i = firstBad f (n - (i + 1)) (i + 1) := by
  obtain ⟨k, hk⟩ : ∃ k, n - i = k + 1 := ⟨n - i - 1, by omega⟩
  rw [hk, firstBad, if_neg (by simp [hf]), show n - (i + 1) = k by omega]

theorem firstBad_none {f : Nat → Bool} : ∀ (n i : Nat), firstBad f n i = none → ∀ j, i ≤ j → j < i + n → f j = false
  | 0, i, _, j, h1, h2 => by omega
  | n + 1, i, h, j, h1, h2 => by
    rw [firstBad] at h
    by_cases e : f i = true
    · rw [if_pos e] at h; cases h
    · rw [if_neg e] at h
      by_cases hj : j = i
      · subst hj; simpa using e
      · exact firstBad_none n (i + 1) h j (by omega) (by omega)

def rowBad (x : Nat → Nat → Int) (L : Nat) : Option Nat := firstBad (badAt x (flowS x L)) L 0

def verRows (L : Nat → Nat) (X : Nat → Nat → Nat → Int) : Nat → Nat → Int × Int × Int
  | 0, _ => (0, 0, 0)
  | n + 1, r => match rowBad (X r) (L r) with
    | some i => ((r : Int), (i : Int), 9)
    | none => verRows L X n (r + 1)

theorem verRows_hit {L : Nat → Nat} {X : Nat → Nat → Nat → Int} {G r i : Nat} (h : r < G) (hb : rowBad (X r) (L r) = some i) : verRows L X (G - r) r = ((r : Int), (i : Int), 9) := by
  obtain ⟨k, hk⟩ : ∃ k, G - r = k + 1 := ⟨G - r - 1, by omega⟩
  rw [hk, verRows, hb]

theorem verRows_pass {L : Nat → Nat} {X : Nat → Nat → Nat → Int} {G r : Nat} (h : r < G) (hb : rowBad (X r) (L r) = none) : verRows L X (G - r) r = verRows L X (G - (r + 1)) (r + 1) := by
  obtain ⟨k, hk⟩ : ∃ k, G - r = k + 1 := ⟨G - r - 1, by omega⟩
  rw [hk, verRows, hb, show G - (r + 1) = k by omega]

theorem verRows_ok {L : Nat → Nat} {X : Nat → Nat → Nat → Int} : ∀ (n r : Nat), (verRows L X n r).2.2 = 0 → ∀ k, r ≤ k → k < r + n → rowBad (X k) (L k) = none
  | 0, r, _, k, h1, h2 => by omega
  | n + 1, r, h, k, h1, h2 => by
    rw [verRows] at h
    cases hb : rowBad (X r) (L r) with
    | some i => rw [hb] at h; simp at h
    | none =>
      rw [hb] at h
      by_cases hk : k = r
      · subst hk; exact hb
      · exact verRows_ok n (r + 1) h k (by omega) (by omega)

/-- What Check answers: the behavior, the instruction, the error. -/
def ckS (G : Nat) (L : Nat → Nat) (X : Nat → Nat → Nat → Int) : Int × Int × Int := if progFault G L X ≠ 0 then (0, 0, progFault G L X) else verRows L X G 0

theorem ver_of {G : Nat} {L : Nat → Nat} {X : Nat → Nat → Nat → Int} (h : (ckS G L X).2.2 = 0) : progFault G L X = 0 ∧ Ver G L X (fun r => flowS (X r) (L r)) := by
  unfold ckS at h
  by_cases hp : progFault G L X ≠ 0
  · rw [if_pos hp] at h; exact absurd h hp
  rw [if_neg hp] at h
  have hp0 : progFault G L X = 0 := Classical.byContradiction hp
  obtain ⟨_, hl, hi⟩ := progV_ok hp0
  refine ⟨hp0, hl, fun k i hk hi' => hi k i hk hi', fun k _ => flowS_is _ _, fun k i kk hk hi' hkk => ?_⟩
  have := verRows_ok G 0 h k (by omega) (by omega)
  have := firstBad_none _ _ this i (by omega) (by omega)
  unfold badAt at this
  have hkk' : vPt (flowS (X k) (L k)) i = some kk := hkk
  rw [hkk'] at this
  simpa using this

end Go.Proofs.YtcgdabmmhjnidaaDoor
