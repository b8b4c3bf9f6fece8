/- Two lists of eight registers are compared as values. -/
import Derived.Test.YtahcgnmhhgcfmaaDoorCVCome
import Derived.ChangeKeysEq
namespace Go.Proofs.YtahcgnmhhgcfmaaDoor
open Go.RowKit

theorem Tryd.plainInt : Tryd.prog.plainKey 3 = true := by kernel_rfl
theorem Tryd.infoInt : ∃ i, Tryd.prog.info? 3 = some i := Option.isSome_iff_exists.1 (by kernel_rfl)
theorem Tryd.cellsInt : Tryd.prog.cellsOf 3 = 1 := by kernel_rfl

theorem eqItem (w : World) (d i : Nat) (xs ys : Array Value) (is : List Nat) (x y : Int) (hx : xs[i]? = some (.int .i64 x)) (hy : ys[i]? = some (.int .i64 y)) :
    (Op.eqItems (d + 1) 3 1 xs ys (i :: is)).run Tryd.prog w = if x = y then (Op.eqItems (d + 1) 3 1 xs ys is).run Tryd.prog w else .ok false w := by
  simp only [Op.eqItems, Sem.run_bind, Nat.mul_one, run_part_plain w Tryd.plainInt hx, run_part_plain w Tryd.plainInt hy, Result.andThen_ok, run_equalIn_int w d 3 .i64 .i64 x y Tryd.underlying3]
  by_cases h : x = y
  · simp [h]
  · simp [h]

/-- Are eight registers the same? -/
def sameRegs (a b : List Int) : Bool := decide (vAt a 0 = vAt b 0 ∧ vAt a 1 = vAt b 1 ∧ vAt a 2 = vAt b 2 ∧ vAt a 3 = vAt b 3 ∧ vAt a 4 = vAt b 4 ∧ vAt a 5 = vAt b 5 ∧ vAt a 6 = vAt b 6 ∧ vAt a 7 = vAt b 7)

theorem eqRegs (w : World) (d : Nat) (a b : List Int) : (Op.equalIn (d + 1 + 1) 73 (regV a) (regV b)).run Tryd.prog w = .ok (sameRegs a b) w := by
  obtain ⟨i, hi⟩ := Tryd.infoInt
  rw [run_equalIn_array w (d + 1) _ _ Tryd.underlying73 hi, Tryd.cellsInt]
  rw [show List.range 8 = [0, 1, 2, 3, 4, 5, 6, 7] from rfl]
  rw [eqItem w d 0 _ _ _ (vAt a 0) (vAt b 0) rfl rfl, eqItem w d 1 _ _ _ (vAt a 1) (vAt b 1) rfl rfl, eqItem w d 2 _ _ _ (vAt a 2) (vAt b 2) rfl rfl, eqItem w d 3 _ _ _ (vAt a 3) (vAt b 3) rfl rfl, eqItem w d 4 _ _ _ (vAt a 4) (vAt b 4) rfl rfl, eqItem w d 5 _ _ _ (vAt a 5) (vAt b 5) rfl rfl, eqItem w d 6 _ _ _ (vAt a 6) (vAt b 6) rfl rfl, eqItem w d 7 _ _ _ (vAt a 7) (vAt b 7) rfl rfl]
  simp only [Op.eqItems, Sem.run_pure, sameRegs]
  by_cases h0 : vAt a 0 = vAt b 0
  · by_cases h1 : vAt a 1 = vAt b 1
    · by_cases h2 : vAt a 2 = vAt b 2
      · by_cases h3 : vAt a 3 = vAt b 3
        · by_cases h4 : vAt a 4 = vAt b 4
          · by_cases h5 : vAt a 5 = vAt b 5
            · by_cases h6 : vAt a 6 = vAt b 6
              · by_cases h7 : vAt a 7 = vAt b 7
                · simp [h0, h1, h2, h3, h4, h5, h6, h7]
                · simp [h0, h1, h2, h3, h4, h5, h6, h7]
              · simp [h0, h1, h2, h3, h4, h5, h6]
            · simp [h0, h1, h2, h3, h4, h5]
          · simp [h0, h1, h2, h3, h4]
        · simp [h0, h1, h2, h3]
      · simp [h0, h1, h2]
    · simp [h0, h1]
  · simp [h0]

theorem eqRegs9 (w : World) (a b : List Int) : (Op.equalIn 9999 73 (regV a) (regV b)).run Tryd.prog w = .ok (sameRegs a b) w := eqRegs w 9997 a b

theorem sameRegs_iff {a b : List Int} (ha : a.length = 8) (hb : b.length = 8) : sameRegs a b = true ↔ a = b := by
  constructor
  · intro h
    simp only [sameRegs, decide_eq_true_eq] at h
    refine vAt_ext ha hb fun i hi => ?_
    match i, hi with
    | 0, _ => exact h.1
    | 1, _ => exact h.2.1
    | 2, _ => exact h.2.2.1
    | 3, _ => exact h.2.2.2.1
    | 4, _ => exact h.2.2.2.2.1
    | 5, _ => exact h.2.2.2.2.2.1
    | 6, _ => exact h.2.2.2.2.2.2.1
    | 7, _ => exact h.2.2.2.2.2.2.2
  · rintro rfl
    simp [sameRegs]

theorem pt_same {p q : Pt} (hp : ∀ k, p = some k → k.length = 8) (hq : ∀ k, q = some k → k.length = 8) : (decide (q.isSome = p.isSome) && sameRegs (q.getD []) (p.getD [])) = decide (q = p) := by
  cases p with
  | none => cases q with
    | none => rfl
    | some k => simp
  | some k => cases q with
    | none => simp
    | some k' =>
      have h := sameRegs_iff (hq k' rfl) (hp k rfl)
      cases hs : sameRegs k' k with
      | true =>
        obtain rfl := h.1 hs
        simp [hs]
      | false =>
        have : ¬ k' = k := fun e => by rw [h.2 e] at hs; cases hs
        simp [hs, this]

end Go.Proofs.YtahcgnmhhgcfmaaDoor
