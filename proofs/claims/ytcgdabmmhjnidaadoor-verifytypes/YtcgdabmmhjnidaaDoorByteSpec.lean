/- The bytes of a number, an instruction, a behavior, a program, as plain functions. -/
import Derived.Test.YtcgdabmmhjnidaaDoorSpec
namespace Go.Proofs.YtcgdabmmhjnidaaDoor

/-- A number that is not below 0, by seven bits, the lowest first (in at most k bytes). -/
def sev : Nat → Int → List Int
  | 0, _ => []
  | k + 1, n => if n < 128 then [n] else (n % 128 + 128) :: sev k (n / 128)

def zig (n : Int) : Int := if n < 0 then -2 * n - 1 else 2 * n

def insBytes (op a b n : Int) : List Int := [op] ++ ((if aOf op then [a + 8 * b] else []) ++ (if nOf op then sev 7 (zig n) else []))

def rowBytes (x : Nat → Nat → Int) (i : Nat) : List Int := (List.range i).flatMap fun j => insBytes (x j 0) (x j 1) (x j 2) (x j 3)

def kindBytes (L : Nat → Nat) (X : Nat → Nat → Nat → Int) (r : Nat) : List Int := (List.range r).flatMap fun k => (L k : Int) :: rowBytes (X k) (L k)

def progBytes (G : Nat) (L : Nat → Nat) (X : Nat → Nat → Nat → Int) (r : Nat) : List Int := [116, 119, (G : Int)] ++ kindBytes L X r

theorem rowBytes_succ (x : Nat → Nat → Int) (i : Nat) : rowBytes x (i + 1) = rowBytes x i ++ insBytes (x i 0) (x i 1) (x i 2) (x i 3) := by
  simp [rowBytes, List.range_succ, List.flatMap_append]

theorem progBytes_succ (G : Nat) (L : Nat → Nat) (X : Nat → Nat → Nat → Int) (r : Nat) : progBytes G L X (r + 1) = progBytes G L X r ++ ([(L r : Int)] ++ rowBytes (X r) (L r)) := by
  simp [progBytes, kindBytes, List.range_succ, List.flatMap_append]

theorem sev_length (k : Nat) (n : Int) : (sev k n).length ≤ k := by
  induction k generalizing n with
  | zero => simp [sev]
  | succ k ih =>
    unfold sev
    split
    · simp
    · have := ih (n / 128)
      simp
      omega

theorem insBytes_length (op a b n : Int) : (insBytes op a b n).length ≤ 9 := by
  have := sev_length 7 (zig n)
  unfold insBytes
  simp only [List.length_append]
  have h1 : (if aOf op then [a + 8 * b] else []).length ≤ 1 := by split <;> simp
  have h2 : (if nOf op then sev 7 (zig n) else []).length ≤ 7 := by
    split
    · omega
    · simp
  simp
  omega

theorem rowBytes_length (x : Nat → Nat → Int) (i : Nat) : (rowBytes x i).length ≤ 9 * i := by
  induction i with
  | zero => simp [rowBytes]
  | succ i ih =>
    rw [rowBytes_succ, List.length_append]
    have := insBytes_length (x i 0) (x i 1) (x i 2) (x i 3)
    omega

theorem progBytes_length (G : Nat) (L : Nat → Nat) (X : Nat → Nat → Nat → Int) (r : Nat) (h : ∀ k, k < r → L k ≤ 60) : (progBytes G L X r).length ≤ 3 + 541 * r := by
  induction r with
  | zero => simp [progBytes, kindBytes]
  | succ r ih =>
    rw [progBytes_succ]
    simp only [List.length_append]
    have h1 := ih (fun k hk => h k (by omega))
    have h2 := rowBytes_length (X r) (L r)
    have h3 := h r (by omega)
    simp
    omega

theorem first_zero (f : Nat → Int) (n i : Nat) (h : first f n i = 0) : ∀ j, j < n → f (i + j) = 0 := by
  induction n generalizing i with
  | zero => intro j hj; omega
  | succ n ih =>
    unfold first at h
    split at h
    · rename_i h1; exact absurd h h1
    · rename_i h1
      intro j hj
      cases j with
      | zero => simpa using h1
      | succ j =>
        have := ih (i + 1) h j (by omega)
        rwa [show i + 1 + j = i + (j + 1) by omega] at this

theorem row_ok {kinds many : Nat} {x : Nat → Nat → Int} (h : rowFault kinds many x = 0) : 1 ≤ many ∧ many ≤ 60 ∧ ∀ i, i < many → insFault kinds many i (x i 0) (x i 1) (x i 2) (x i 3) = 0 := by
  unfold rowFault at h
  split at h
  · omega
  · refine ⟨by omega, by omega, fun i hi => ?_⟩
    have := first_zero _ _ _ h i hi
    simpa using this

theorem prog_ok {G : Nat} {L : Nat → Nat} {X : Nat → Nat → Nat → Int} (h : progFault G L X = 0) : 1 ≤ G ∧ G ≤ 6 ∧ ∀ r, r < G → rowFault G (L r) (X r) = 0 := by
  unfold progFault at h
  split at h
  · omega
  · split at h
    · omega
    · refine ⟨by omega, by omega, fun r hr => ?_⟩
      have := first_zero _ _ _ h r hr
      simpa using this

theorem ins_ok {kinds many place op a b n : Int} (h : insFault kinds many place op a b n = 0) : 0 ≤ op ∧ op ≤ 19 ∧ 0 ≤ a ∧ a ≤ 7 ∧ 0 ≤ b ∧ b ≤ 7 ∧ -1099511627776 ≤ n ∧ n ≤ 1099511627776 := by
  unfold insFault at h
  split at h
  · rename_i h1; exact absurd h h1
  · rename_i h1
    have hp : partsFault op a b n = 0 := by simpa using h1
    clear h h1
    unfold partsFault at hp
    split at hp
    · omega
    · rename_i h1
      split at hp
      · omega
      · rename_i h2
        simp only [not_or] at h2
        obtain ⟨ha, hb, hl, hh⟩ := h2
        simp [okOp] at h1
        simp [okReg] at ha hb
        unfold loOf at hl
        unfold hiOf at hh
        refine ⟨h1.1, h1.2, ha.1, ha.2, hb.1, hb.2, ?_, ?_⟩
        · split at hl
          · omega
          · split at hl
            · omega
            · split at hl <;> omega
        · split at hh
          · omega
          · split at hh
            · omega
            · split at hh
              · omega
              · split at hh
                · omega
                · split at hh <;> omega

theorem zig_bd {n : Int} (h1 : -1099511627776 ≤ n) (h2 : n ≤ 1099511627776) : 0 ≤ zig n ∧ zig n ≤ 2199023255552 := by
  unfold zig; split <;> omega

theorem sev_small (k : Nat) (n : Int) (h : n < 128) : sev (k + 1) n = [n] := by simp [sev, h]
theorem sev_big (k : Nat) (n : Int) (h : ¬ n < 128) : sev (k + 1) n = (n % 128 + 128) :: sev k (n / 128) := by simp [sev, h]

end Go.Proofs.YtcgdabmmhjnidaaDoor
