/- What is cleared up twice is cleared up once. -/
import Derived.Test.YtbifdcchdoflpacHPureS
import Derived.Test.YtbifdcchdoflpacHGoodP
namespace Go.Proofs.Ytbifdcchdoflpac

theorem idx_spots : ∀ {n i : Nat}, i < n → (spots n).idxOf (i : Int) = i
  | n + 1, i, h => by
    rw [spots_succ]
    by_cases e : i = n
    · subst e
      have hnot : (i : Int) ∉ spots i := fun hm => by have := (mem_spots.1 hm).2; omega
      rw [List.idxOf_append, if_neg hnot]
      simp [spots]
    · have hin : (i : Int) ∈ spots n := mem_spots.2 ⟨by omega, by omega⟩
      rw [List.idxOf_append, if_pos hin]
      exact idx_spots (by omega)

theorem spots_length (n : Nat) : (spots n).length = n := by simp [spots]

theorem mvV_spots {n : Nat} {v : Vl} (h : vMay n v = true) : mvV (spots n) 0 v = v := by
  unfold mvV
  by_cases hk : v.k = 2
  · have hb := vMay_ref h hk
    obtain ⟨i, hi⟩ := Int.eq_ofNat_of_zero_le hb.1
    rw [if_pos hk, hi, idx_spots (by omega)]
    obtain ⟨vk, vn⟩ := v
    simp at hk hi
    subst hk hi
    simp
  · rw [if_neg hk]

structure Again (M : Int) (l : List Ob) (roots : List Vl) (g : List Ob) (s : List Vl) : Prop where
  first : collectS M l roots = ((M, g), s, 0)
  second : ∃ g', collectS M g s = ((M, g'), s, 0) ∧ g'.length = (reach l roots).length
  len : g.length = (reach l roots).length
  may : hMay M g s = true
  form : form g s = form l roots
  slen : s.length = roots.length

theorem again_of {M : Int} {l : List Ob} {roots : List Vl} (h : hMay M l roots = true) : ∃ g s, Again M l roots g s := by
  have hok := reach_ok h roots (hMay_roots h)
  have hkl := keptOf_length hok
  obtain ⟨kp, hkp⟩ : ∃ kp, kp = keptOf (reach l roots) l.length := ⟨_, rfl⟩
  have hmem : ∀ p, p ∈ kp ↔ p ∈ reach l roots := fun p => by
    rw [hkp, mem_keptOf]
    exact ⟨fun x => x.2, fun x => ⟨hok.2 p x, x⟩⟩
  have hkok : Ok l.length kp := by rw [hkp]; exact keptOf_ok
  have hS : collectS M l roots = ((M, mvObs l kp 0 kp), roots.map (mvV kp 0), 0) := by rw [collectS, if_pos h, ← hkp]
  have hM := h
  simp only [hMay, Bool.and_eq_true, mMay, decide_eq_true_eq] at hM
  have h0 : hMay M [] [] = true := by
    simp only [hMay, Bool.and_eq_true, mMay, decide_eq_true_eq, List.length_nil, List.all_nil, and_true]
    omega
  have hsim := mv_sim (pre := []) h hmem
  have hmay := mv_may (pre := []) (vs := roots) h hmem h0 (by have := hkok.len; simp; omega) (hMay_roots h) (fun v hv hk => (hmem _).2 (leads_roots v hv hk))
  simp only [List.nil_append, List.length_nil, Int.natCast_zero] at hsim hmay
  have hmv : (mvV kp 0) = ren (fun p => (0 : Int) + (kp.idxOf p : Nat)) := rfl
  have hroots : ∀ v ∈ roots, v.k = 2 → v.n ∈ kp := fun v hv hk => (hmem _).2 (leads_roots v hv hk)
  have hform := form_ren hsim h (by rw [← hmv]; exact hmay) hroots
  have hreach := reach_ren hsim h (by rw [← hmv]; exact hmay) hroots
  rw [← hmv] at hform hreach
  have hglen : (mvObs l kp 0 kp).length = kp.length := mvObs_length' _ _ _ _
  have hklr : kp.length = (reach l roots).length := by rw [hkp]; exact hkl
  have hkept : keptOf (reach (mvObs l kp 0 kp) (roots.map (mvV kp 0))) (mvObs l kp 0 kp).length = spots kp.length := by
    rw [hglen, hreach]
    unfold keptOf
    refine List.filter_eq_self.2 fun p hp => ?_
    have hb := mem_spots.1 hp
    refine decide_eq_true (List.mem_map.2 ?_)
    obtain ⟨i, hi⟩ := Int.eq_ofNat_of_zero_le hb.1
    obtain ⟨q, hq⟩ := at_some (l := kp) (i := i) (by omega)
    refine ⟨q, (hmem q).1 (List.mem_of_getElem? hq), ?_⟩
    rw [idx_of hkok.1 hq, hi]
    simp
  refine ⟨mvObs l kp 0 kp, roots.map (mvV kp 0), hS, ⟨mvObs (mvObs l kp 0 kp) (spots kp.length) 0 (spots kp.length), ?_, ?_⟩, by rw [hglen, hklr], hmay, hform, by simp⟩
  · rw [collectS, if_pos hmay, hkept]
    have e : (roots.map (mvV kp 0)).map (mvV (spots kp.length) 0) = roots.map (mvV kp 0) := by
      have := List.map_congr_left (l := roots.map (mvV kp 0)) (f := mvV (spots kp.length) 0) (g := id) (fun v hv => by
        have h1 := List.all_eq_true.1 (hMay_roots hmay) v hv
        rw [hglen] at h1
        exact mvV_spots h1)
      simpa using this
    rw [e]
  · rw [mvObs_length', spots_length, hklr]

end Go.Proofs.Ytbifdcchdoflpac
