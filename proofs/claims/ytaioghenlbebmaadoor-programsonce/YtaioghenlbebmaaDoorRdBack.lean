/- What is read without a fault has just the bytes that it was read from; and it lies within bounds. -/
import Derived.Test.YtaioghenlbebmaaDoorRdSpec
import Derived.Deep.Slices
namespace Go.Proofs.YtaioghenlbebmaaDoor

theorem drop_step (bs : List Int) (k : Nat) (h : k < bs.length) : bs.drop k = [bs.getD k 0] ++ bs.drop (k + 1) := by
  rw [List.drop_eq_getElem_cons h]
  simp [h]

theorem next_back {bs : List Int} {k k' : Nat} {c : Int} (h : rdNext bs k = (c, 0, k')) : bs.drop k = [c] ++ bs.drop k' ∧ k' ≤ bs.length := by
  unfold rdNext at h
  split at h
  · rename_i hk
    simp only [Prod.mk.injEq] at h
    obtain ⟨rfl, _, rfl⟩ := h
    exact ⟨drop_step bs k hk, hk⟩
  · simp at h

theorem next_bytes {bs : List Int} (hf : ∀ i, 0 ≤ bs.getD i 0 ∧ bs.getD i 0 ≤ 255) (k : Nat) : 0 ≤ (rdNext bs k).1 ∧ (rdNext bs k).1 ≤ 255 := by
  unfold rdNext
  split
  · exact hf k
  · simp

theorem regs_back {bs : List Int} (hf : ∀ i, 0 ≤ bs.getD i 0 ∧ bs.getD i 0 ≤ 255) {k k' : Nat} {a b : Int} (h : rdRegs bs k = (a, b, 0, k')) : bs.drop k = [a + 8 * b] ++ bs.drop k' ∧ k' ≤ bs.length ∧ 0 ≤ a ∧ a ≤ 7 ∧ 0 ≤ b ∧ b ≤ 7 := by
  have hb := next_bytes hf k
  unfold rdRegs at h
  split at h
  · rename_i he
    simp only [Prod.mk.injEq] at h
    exact absurd h.2.2.1 he
  · rename_i he
    split at h
    · simp at h
    · rename_i h64
      simp only [Prod.mk.injEq] at h
      obtain ⟨rfl, rfl, _, rfl⟩ := h
      obtain ⟨hd, hl⟩ := next_back (bs := bs) (k := k) (c := (rdNext bs k).1) (k' := (rdNext bs k).2.2) (Prod.ext rfl (Prod.ext (by simpa using he) rfl))
      refine ⟨?_, hl, by omega, by omega, by omega, by omega⟩
      rw [hd]
      congr 2
      omega

theorem sev_more (k : Nat) : ∀ n : Int, n < 128 ^ (k + 1) → sev (k + 1) n = sev (k + 2) n := by
  induction k with
  | zero =>
    intro n h
    have : n < 128 := by simpa using h
    simp [sev, this]
  | succ k ih =>
    intro n h
    by_cases hn : n < 128
    · rw [sev_small _ n hn, sev_small _ n hn]
    · rw [sev_big (k + 1) n hn, sev_big (k + 2) n hn, ih (n / 128)]
      have e : (128 : Int) ^ (k + 1 + 1) = 128 ^ (k + 1) * 128 := Int.pow_succ ..
      rw [e] at h
      exact Int.ediv_lt_of_lt_mul (by omega) h

theorem num_back {bs : List Int} (hf : ∀ i, 0 ≤ bs.getD i 0 ∧ bs.getD i 0 ≤ 255) : ∀ (f i : Nat) (s p : Int) (k k' : Nat) (n : Int), rdNum bs f i s p k = (n, 0, k') →
    ∃ m : Int, 0 ≤ m ∧ m < 128 ^ f ∧ (0 < i → 0 < m) ∧ n = unzig (s + m * p) ∧ bs.drop k = sev f m ++ bs.drop k' ∧ k' ≤ bs.length := by
  intro f
  induction f with
  | zero => intro i s p k k' n h; simp [rdNum] at h
  | succ f ih =>
    intro i s p k k' n h
    have hb := next_bytes hf k
    unfold rdNum at h
    split at h
    · rename_i he
      simp only [Prod.mk.injEq] at h
      exact absurd h.2.1 he
    · rename_i he
      obtain ⟨hd, hl⟩ := next_back (bs := bs) (k := k) (c := (rdNext bs k).1) (k' := (rdNext bs k).2.2) (Prod.ext rfl (Prod.ext (by simpa using he) rfl))
      split at h
      · rename_i h128
        obtain ⟨m, m0, m1, mi, hn, hdr, hk⟩ := ih _ _ _ _ _ _ h
        have mpos := mi (by omega)
        have e : (128 : Int) ^ (f + 1) = 128 ^ f * 128 := Int.pow_succ ..
        refine ⟨(rdNext bs k).1 % 128 + 128 * m, by omega, by rw [e]; omega, fun _ => by omega, ?_, ?_, hk⟩
        · rw [hn]
          congr 1
          rw [Int.add_mul, Int.add_assoc]
          congr 2
          rw [Int.mul_comm p 128, ← Int.mul_assoc, Int.mul_comm m 128]
        · rw [hd, hdr, sev_big f _ (by omega)]
          rw [show ((rdNext bs k).1 % 128 + 128 * m) % 128 + 128 = (rdNext bs k).1 by omega, show ((rdNext bs k).1 % 128 + 128 * m) / 128 = m by omega]
          simp
      · rename_i h128
        split at h
        · simp at h
        · rename_i hz
          simp only [Prod.mk.injEq] at h
          obtain ⟨rfl, _, rfl⟩ := h
          refine ⟨(rdNext bs k).1, hb.1, ?_, fun hi => ?_, ?_, ?_, hl⟩
          · have e : (128 : Int) ^ (f + 1) = 128 ^ f * 128 := Int.pow_succ ..
            have : (0 : Int) < 128 ^ f := Int.pow_pos (by omega)
            rw [e]; omega
          · rcases Int.lt_or_le 0 (rdNext bs k).1 with h' | h'
            · exact h'
            · exact absurd ⟨by omega, hi⟩ hz
          · rw [show (rdNext bs k).1 % 128 = (rdNext bs k).1 by omega]
          · rw [hd, sev_small f _ (by omega)]

theorem zig_unzig (t : Int) (h : 0 ≤ t) : zig (unzig t) = t := by
  unfold unzig
  split
  · rename_i h1
    unfold zig
    rw [if_pos (by omega)]
    omega
  · unfold zig
    rw [if_neg (by omega)]
    omega

theorem ab_back {bs : List Int} (hf : ∀ i, 0 ≤ bs.getD i 0 ∧ bs.getD i 0 ≤ 255) {op : Int} {k k' : Nat} {a b : Int} (hk : k ≤ bs.length) (h : rdAB bs op k = (a, b, 0, k')) : bs.drop k = (if aOf op then [a + 8 * b] else []) ++ bs.drop k' ∧ k' ≤ bs.length ∧ 0 ≤ a ∧ a ≤ 7 ∧ 0 ≤ b ∧ b ≤ 7 := by
  unfold rdAB at h
  split at h
  · rename_i ha
    simpa [ha] using regs_back hf h
  · rename_i ha
    simp only [Prod.mk.injEq] at h
    obtain ⟨rfl, rfl, _, rfl⟩ := h
    simp [ha, hk]

theorem n_back {bs : List Int} (hf : ∀ i, 0 ≤ bs.getD i 0 ∧ bs.getD i 0 ≤ 255) {op : Int} {k k' : Nat} {n : Int} (hk : k ≤ bs.length) (h : rdN bs op k = (n, 0, k')) : bs.drop k = (if nOf op then sev 7 (zig n) else []) ++ bs.drop k' ∧ k' ≤ bs.length ∧ -4398046511104 ≤ n ∧ n ≤ 4398046511104 := by
  unfold rdN at h
  split at h
  · rename_i ha
    obtain ⟨m, m0, m1, _, hn, hd, hl⟩ := num_back hf 6 0 0 1 k k' n h
    have e : n = unzig m := by rw [hn]; congr 1; omega
    have hm : m < 4398046511104 := by simpa using m1
    have hz : zig n = m := by rw [e]; exact zig_unzig m m0
    refine ⟨?_, hl, ?_, ?_⟩
    · rw [if_pos ha, hz, hd, sev_more 5 m m1]
    · rw [e]; unfold unzig; split <;> omega
    · rw [e]; unfold unzig; split <;> omega
  · rename_i ha
    simp only [Prod.mk.injEq] at h
    obtain ⟨rfl, _, rfl⟩ := h
    simp [ha, hk]

/-- An instruction within bounds. -/
def insBd (x : Ins) : Prop := 0 ≤ x.op ∧ x.op ≤ 255 ∧ 0 ≤ x.a ∧ x.a ≤ 7 ∧ 0 ≤ x.b ∧ x.b ≤ 7 ∧ -4398046511104 ≤ x.n ∧ x.n ≤ 4398046511104

def insB (x : Ins) : List Int := insBytes x.op x.a x.b x.n

theorem ins_back {bs : List Int} (hf : ∀ i, 0 ≤ bs.getD i 0 ∧ bs.getD i 0 ≤ 255) {k k' : Nat} {x : Ins} (h : rdIns bs k = (x, 0, k')) : bs.drop k = insB x ++ bs.drop k' ∧ k' ≤ bs.length ∧ insBd x := by
  have hb := next_bytes hf k
  unfold rdIns at h
  split at h
  · rename_i he; simp only [Prod.mk.injEq] at h; exact absurd h.2.1 he
  · rename_i he
    obtain ⟨hd, hl⟩ := next_back (bs := bs) (k := k) (c := (rdNext bs k).1) (k' := (rdNext bs k).2.2) (Prod.ext rfl (Prod.ext (by simpa using he) rfl))
    split at h
    · simp at h
    · split at h
      · rename_i he2; simp only [Prod.mk.injEq] at h; exact absurd h.2.1 he2
      · rename_i he2
        obtain ⟨ha, hl2, a1, a2, b1, b2⟩ := ab_back hf (op := (rdNext bs k).1) (k' := (rdAB bs (rdNext bs k).1 (rdNext bs k).2.2).2.2.2) hl (Prod.ext rfl (Prod.ext rfl (Prod.ext (by simpa using he2) rfl)))
        split at h
        · rename_i he3; simp only [Prod.mk.injEq] at h; exact absurd h.2.1 he3
        · rename_i he3
          obtain ⟨hn, hl3, n1, n2⟩ := n_back hf (op := (rdNext bs k).1) (k' := (rdN bs (rdNext bs k).1 (rdAB bs (rdNext bs k).1 (rdNext bs k).2.2).2.2.2).2.2) hl2 (Prod.ext rfl (Prod.ext (by simpa using he3) rfl))
          simp only [Prod.mk.injEq] at h
          obtain ⟨rfl, _, rfl⟩ := h
          refine ⟨?_, hl3, hb.1, hb.2, a1, a2, b1, b2, n1, n2⟩
          rw [hd, ha, hn]
          simp [insB, insBytes]

theorem inss_back {bs : List Int} (hf : ∀ i, 0 ≤ bs.getD i 0 ∧ bs.getD i 0 ≤ 255) : ∀ (f : Nat) (l l' : List Ins) (k k' : Nat), k ≤ bs.length → rdInss bs f l k = (l', 0, k') →
    ∃ m, l' = l ++ m ∧ m.length = f ∧ bs.drop k = m.flatMap insB ++ bs.drop k' ∧ k' ≤ bs.length ∧ ∀ x, x ∈ m → insBd x := by
  intro f
  induction f with
  | zero =>
    intro l l' k k' hk h
    simp only [rdInss, Prod.mk.injEq] at h
    obtain ⟨rfl, _, rfl⟩ := h
    exact ⟨[], by simp, rfl, by simp, hk, fun x hx => by cases hx⟩
  | succ f ih =>
    intro l l' k k' hk h
    unfold rdInss at h
    split at h
    · rename_i he; simp only [Prod.mk.injEq] at h; exact absurd h.2.1 he
    · rename_i he
      obtain ⟨hd, hl, hbd⟩ := ins_back hf (x := (rdIns bs k).1) (k' := (rdIns bs k).2.2) (Prod.ext rfl (Prod.ext (by simpa using he) rfl))
      obtain ⟨m, e, hm, hd2, hl2, hbd2⟩ := ih _ _ _ _ hl h
      refine ⟨(rdIns bs k).1 :: m, by rw [e]; simp, by simp [hm], ?_, hl2, fun x hx => ?_⟩
      · rw [hd, hd2]; simp
      · rcases List.mem_cons.1 hx with rfl | hx
        · exact hbd
        · exact hbd2 x hx

def rowB (l : List Ins) : List Int := (l.length : Int) :: l.flatMap insB

theorem row_back {bs : List Int} (hf : ∀ i, 0 ≤ bs.getD i 0 ∧ bs.getD i 0 ≤ 255) {k k' : Nat} {l : List Ins} (h : rdRow bs k = (l, 0, k')) : bs.drop k = rowB l ++ bs.drop k' ∧ k' ≤ bs.length ∧ l.length ≤ 255 ∧ ∀ x, x ∈ l → insBd x := by
  have hb := next_bytes hf k
  unfold rdRow at h
  split at h
  · rename_i he; simp only [Prod.mk.injEq] at h; exact absurd h.2.1 he
  · rename_i he
    obtain ⟨hd, hl⟩ := next_back (bs := bs) (k := k) (c := (rdNext bs k).1) (k' := (rdNext bs k).2.2) (Prod.ext rfl (Prod.ext (by simpa using he) rfl))
    obtain ⟨m, e, hm, hd2, hl2, hbd⟩ := inss_back hf _ _ _ _ _ hl h
    simp only [List.nil_append] at e
    subst e
    refine ⟨?_, hl2, by omega, hbd⟩
    rw [hd, hd2]
    simp [rowB]
    omega

theorem rows_back {bs : List Int} (hf : ∀ i, 0 ≤ bs.getD i 0 ∧ bs.getD i 0 ≤ 255) : ∀ (f : Nat) (l l' : List (List Ins)) (k k' : Nat), k ≤ bs.length → rdRows bs f l k = (l', 0, k') →
    ∃ m, l' = l ++ m ∧ m.length = f ∧ bs.drop k = m.flatMap rowB ++ bs.drop k' ∧ k' ≤ bs.length ∧ ∀ r, r ∈ m → r.length ≤ 255 ∧ ∀ x, x ∈ r → insBd x := by
  intro f
  induction f with
  | zero =>
    intro l l' k k' hk h
    simp only [rdRows, Prod.mk.injEq] at h
    obtain ⟨rfl, _, rfl⟩ := h
    exact ⟨[], by simp, rfl, by simp, hk, fun x hx => by cases hx⟩
  | succ f ih =>
    intro l l' k k' hk h
    unfold rdRows at h
    split at h
    · rename_i he; simp only [Prod.mk.injEq] at h; exact absurd h.2.1 he
    · rename_i he
      obtain ⟨hd, hl, hlen, hbd⟩ := row_back hf (l := (rdRow bs k).1) (k' := (rdRow bs k).2.2) (Prod.ext rfl (Prod.ext (by simpa using he) rfl))
      obtain ⟨m, e, hm, hd2, hl2, hbd2⟩ := ih _ _ _ _ hl h
      refine ⟨(rdRow bs k).1 :: m, by rw [e]; simp, by simp [hm], ?_, hl2, fun r hr => ?_⟩
      · rw [hd, hd2]; simp
      · rcases List.mem_cons.1 hr with rfl | hr
        · exact ⟨hlen, hbd⟩
        · exact hbd2 r hr

theorem begin_back {bs : List Int} {k k' : Nat} (h : rdBegin bs k = (0, k')) : bs.drop k = [116, 119] ++ bs.drop k' ∧ k' ≤ bs.length := by
  unfold rdBegin at h
  split at h
  · rename_i he; simp only [Prod.mk.injEq] at h; exact absurd h.1 he
  · rename_i he
    obtain ⟨hd, hl⟩ := next_back (bs := bs) (k := k) (c := (rdNext bs k).1) (k' := (rdNext bs k).2.2) (Prod.ext rfl (Prod.ext (by simpa using he) rfl))
    split at h
    · simp at h
    · rename_i hc
      split at h
      · rename_i he2; simp only [Prod.mk.injEq] at h; exact absurd h.1 he2
      · rename_i he2
        obtain ⟨hd2, hl2⟩ := next_back (bs := bs) (k := (rdNext bs k).2.2) (c := (rdNext bs (rdNext bs k).2.2).1) (k' := (rdNext bs (rdNext bs k).2.2).2.2) (Prod.ext rfl (Prod.ext (by simpa using he2) rfl))
        split at h
        · simp at h
        · rename_i hc2
          simp only [Prod.mk.injEq, true_and] at h
          subst h
          refine ⟨?_, hl2⟩
          rw [hd, hd2]
          have e1 : (rdNext bs k).1 = 116 := by simpa using hc
          have e2 : (rdNext bs (rdNext bs k).2.2).1 = 119 := by simpa using hc2
          rw [e1, e2]
          rfl

/-- WHAT IS READ HAS JUST THESE BYTES. -/
theorem all_back {bs : List Int} (hf : ∀ i, 0 ≤ bs.getD i 0 ∧ bs.getD i 0 ≤ 255) {rows : List (List Ins)} (h : rdAll bs = (rows, 0)) :
    bs = [116, 119, (rows.length : Int)] ++ rows.flatMap rowB ∧ rows.length ≤ 255 ∧ ∀ r, r ∈ rows → r.length ≤ 255 ∧ ∀ x, x ∈ r → insBd x := by
  unfold rdAll at h
  split at h
  · rename_i he; simp only [Prod.mk.injEq] at h; exact absurd h.2 he
  · rename_i he
    obtain ⟨hd, hl⟩ := begin_back (bs := bs) (k := 0) (k' := (rdBegin bs 0).2) (Prod.ext (by simpa using he) rfl)
    split at h
    · rename_i he2; simp only [Prod.mk.injEq] at h; exact absurd h.2 he2
    · rename_i he2
      split at h
      · simp at h
      · rename_i hlt
        simp only [Prod.mk.injEq, and_true] at h
        generalize hk : (rdBegin bs 0).2 = k at *
        have hP : rdProg bs k = (rows, 0, (rdProg bs k).2.2) := Prod.ext h (Prod.ext (by simpa using he2) rfl)
        have hb := next_bytes hf k
        generalize (rdProg bs k).2.2 = k2 at hP hlt
        unfold rdProg at hP
        split at hP
        · rename_i he3; simp only [Prod.mk.injEq] at hP; exact absurd hP.2.1 he3
        · rename_i he3
          obtain ⟨hd2, hl2⟩ := next_back (bs := bs) (k := k) (c := (rdNext bs k).1) (k' := (rdNext bs k).2.2) (Prod.ext rfl (Prod.ext (by simpa using he3) rfl))
          obtain ⟨m, e, hm, hd3, hl3, hbd⟩ := rows_back hf _ _ _ _ _ hl2 hP
          simp only [List.nil_append] at e
          subst e
          refine ⟨?_, by omega, hbd⟩
          have hend : bs.drop k2 = [] := List.drop_eq_nil_of_le (by omega)
          rw [List.drop_zero] at hd
          rw [hd, hd2, hd3, hend]
          simp
          omega

end Go.Proofs.YtaioghenlbebmaaDoor
