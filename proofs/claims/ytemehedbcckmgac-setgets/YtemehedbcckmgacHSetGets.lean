/- What was set is there, and nothing else has changed. -/
import Derived.Test.YtemehedbcckmgacHGoodP
import Derived.Test.YtemehedbcckmgacHGot
namespace Go.Proofs.Ytemehedbcckmgac

theorem good_may {M : Int} {l : List Ob} (h : Good M l) {r : List Vl} (hr : ∀ v ∈ r, vMay l.length v = true) : hMay M l r = true := by
  have := hMay_parts.1 h.1
  exact hMay_parts.2 ⟨this.1, this.2.1, hr⟩

theorem vMay_ref {n j : Nat} (h : j < n) : vMay n ⟨2, (j : Int)⟩ = true := by
  simp [vMay]
  omega

theorem fieldErr_good {M : Int} {l : List Ob} (h : Good M l) {j : Nat} {o : Ob} (ho : l[j]? = some o) {f : Int} (hf : 0 ≤ f) : fieldErr l ⟨2, (j : Int)⟩ f = if f < (o.fs.length : Int) then 0 else 2 := by
  have hd := h.2 o (List.mem_of_getElem? ho)
  have e1 : ((⟨2, (j : Int)⟩ : Vl).n.toNat) = j := by simp
  unfold fieldErr
  rw [if_neg (by simp), e1, ho]
  simp only [hd, Bool.false_eq_true, if_false]
  by_cases hc : f < (o.fs.length : Int)
  · rw [if_pos hc, if_neg (by omega)]
  · rw [if_neg hc, if_pos (by omega)]

/-- What Set answers of a good heap. -/
theorem setS_good {M : Int} {l : List Ob} (h : Good M l) {j : Nat} {o : Ob} (ho : l[j]? = some o) {f : Int} (hf : 0 ≤ f) {x : Vl} (hx : vMay l.length x = true) :
    setS M l ⟨2, (j : Int)⟩ f x = if f < (o.fs.length : Int) then (M, setObs l j f.toNat x, 0) else (0, [], 2) := by
  have hj := (List.getElem?_eq_some_iff.1 ho).1
  unfold setS
  rw [if_neg (by rw [good_may h (r := [⟨2, (j : Int)⟩, x]) (by intro v hv; simp at hv; rcases hv with rfl | rfl; exact vMay_ref hj; exact hx)]; simp), fieldErr_good h ho hf]
  by_cases hc : f < (o.fs.length : Int)
  · rw [if_pos hc, if_pos hc]
    simp
  · rw [if_neg hc, if_neg hc]
    simp

/-- What Get answers of a good heap. -/
theorem getS_good {M : Int} {l : List Ob} (h : Good M l) {j : Nat} {o : Ob} (ho : l[j]? = some o) {f : Int} (hf : 0 ≤ f) :
    getS M l ⟨2, (j : Int)⟩ f = if f < (o.fs.length : Int) then (o.fs[f.toNat]?.getD ⟨0, 0⟩, 0) else (⟨0, 0⟩, 2) := by
  have hj := (List.getElem?_eq_some_iff.1 ho).1
  have e1 : ((⟨2, (j : Int)⟩ : Vl).n.toNat) = j := by simp
  unfold getS
  rw [if_neg (by rw [good_may h (r := [⟨2, (j : Int)⟩]) (by intro v hv; simp at hv; subst hv; exact vMay_ref hj)]; simp), fieldErr_good h ho hf, e1, ho]
  by_cases hc : f < (o.fs.length : Int)
  · rw [if_pos hc, if_pos hc]
    have hl : f.toNat < o.fs.length := by omega
    simp [List.getElem?_eq_getElem hl]
  · rw [if_neg hc, if_neg hc]
    simp

theorem set_get {M : Int} {l : List Ob} (h : Good M l) {jA jB : Nat} {oA oB : Ob} (hA : l[jA]? = some oA) (hB : l[jB]? = some oB) {f g : Int} (hf : 0 ≤ f) (hf' : f < (oA.fs.length : Int)) (hg : 0 ≤ g) {x : Vl} (hx : vMay l.length x = true) :
    getS M (setObs l jA f.toNat x) ⟨2, (jB : Int)⟩ g = if jA = jB ∧ f = g then (x, 0) else getS M l ⟨2, (jB : Int)⟩ g := by
  have hs := setS_good h hA hf hx
  rw [if_pos hf'] at hs
  have hG : Good M (setObs l jA f.toNat x) := by
    have := (good_set h (v := ⟨2, (jA : Int)⟩) (x := x) (f := f) (by rw [hs])).2.2
    rwa [hs] at this
  have hlA := (List.getElem?_eq_some_iff.1 hA).1
  have hso : setObs l jA f.toNat x = l.set jA ⟨oA.fs.set f.toNat x, oA.dead⟩ := by simp [setObs, hA]
  rw [hso] at hG ⊢
  rw [getS_good h hB hg]
  by_cases hj : jA = jB
  · subst hj
    rw [hA] at hB
    cases hB
    rw [getS_good hG (o := ⟨oA.fs.set f.toNat x, oA.dead⟩) (by simp [hlA]) hg]
    simp only [List.length_set, true_and]
    by_cases hfg : f = g
    · subst hfg
      rw [if_pos hf', if_pos rfl]
      have hl : f.toNat < oA.fs.length := by omega
      simp [hl]
    · rw [if_neg hfg]
      have hne : f.toNat ≠ g.toNat := by omega
      rw [List.getElem?_set_ne hne]
  · rw [if_neg (by simp [hj]), getS_good hG (o := oB) (by rw [List.getElem?_set_ne hj]; exact hB) hg]

end Go.Proofs.Ytemehedbcckmgac
