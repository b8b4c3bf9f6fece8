/- The walk of Decode: the program of the bytes, or their fault; what is read has just these bytes. -/
import Derived.Test.YtahcgnmhhgcfmaaDoorCReadAll
import Derived.Test.YtahcgnmhhgcfmaaDoorCProgL
import Derived.Test.YtahcgnmhhgcfmaaDoorCPlain
import Derived.Test.YtahcgnmhhgcfmaaDoorCCheck
import Derived.Deep.Slices
import Derived.WalkKit
import Derived.WalkSpells
import Derived.WalkLawsBesides
import Derived.Deep.Light
namespace Go.Proofs.YtahcgnmhhgcfmaaDoor
open Go.RowKit

def decErr (bs : List Int) : Int := if (rdAll bs).2 ≠ 0 then (rdAll bs).2 else rowsFault (rdAll bs).1

def slAddr : Value → Option Addr
  | .slice ao _ _ => ao
  | _ => none
def slCap : Value → Nat
  | .slice _ _ c => c
  | _ => 0

theorem rowOwn_form {w : World} {base : Nat} {v : Value} {l : List Ins} (h : RowOwn w base v l) : v = .slice (slAddr v) l.length (slCap v) := by
  rcases h.2 with ⟨rfl, hn⟩ | ⟨g, cap, cur, rfl, _⟩
  · rw [hn]; rfl
  · rfl

theorem rowAt_own {w : World} {base : Nat} {v : Value} {l : List Ins} (h : RowOwn w base v l) : RowAt w (slAddr v) l.length (fun i f => fld (l.getD i noIns) f) := fun i hi => by
  rcases h.2 with ⟨rfl, hn⟩ | ⟨g, cap, cur, rfl, _, hg, hc, _, hsz, htake⟩
  · omega
  · refine ⟨g, 0, rfl, fun f hf => ?_⟩
    have hcell := cell_of_row w g (0 + i * 4 + f) cur 40 (0, 0) hg
    rw [hcell]
    have e := insCells_get l i f hi hf
    rw [← htake, List.getElem?_take] at e
    split at e
    · rw [show 0 + i * 4 + f = i * 4 + f by omega]
      simpa using e
    · cases e

theorem getD_snd (rows : List (Value × List Ins)) (r : Nat) : (rows.map (·.2)).getD r [] = (rows.getD r (.slice none 0 0, [])).2 := by
  by_cases h : r < rows.length
  · simp [h]
  · simp [h]

theorem prog_of_kinds {w : World} {base : Nat} {v : Value} {rows : List (Value × List Ins)} (h : KindsOwn w base v rows) (hn : rows.length ≤ 255) (hb : ∀ r, r ∈ rows.map (·.2) → r.length ≤ 255 ∧ ∀ x, x ∈ r → insBd x) :
    ProgAt w (slAddr v) rows.length (fun r => slAddr (rows.getD r (.slice none 0 0, [])).1) (lenOf (rows.map (·.2))) (fun r => slCap (rows.getD r (.slice none 0 0, [])).1) (xOf (rows.map (·.2))) := by
  have hmem : ∀ r, r < rows.length → rows.getD r (.slice none 0 0, []) ∈ rows := fun r hr => by
    simp [hr]
  have hrow : ∀ r, r < rows.length → RowOwn w base (rows.getD r (.slice none 0 0, [])).1 (rows.getD r (.slice none 0 0, [])).2 := fun r hr => h.row _ (hmem r hr)
  have hbr : ∀ r, r < rows.length → (rows.getD r (.slice none 0 0, [])).2.length ≤ 255 ∧ ∀ x, x ∈ (rows.getD r (.slice none 0 0, [])).2 → insBd x := fun r hr => hb _ (List.mem_map.2 ⟨_, hmem r hr, rfl⟩)
  refine ⟨fun r hr => ?_, fun r hr => ?_, by omega, fun r hr => ?_, fun r hr i hi f hf => ?_⟩
  · rcases h.top.2 with ⟨rfl, hn0⟩ | ⟨g, cap, cur, rfl, _, hg, hc, _, hsz, htake⟩
    · omega
    · refine ⟨g, 0, rfl, ?_⟩
      rw [cell_of_row w g (0 + r) cur 37 (0, 0) hg, Nat.zero_add]
      have e : (rows.map (·.1))[r]? = some (rows.getD r (.slice none 0 0, [])).1 := by simp [hr]
      rw [← htake, List.getElem?_take] at e
      split at e
      · have e2 : cur[r]? = some (rows.getD r (.slice none 0 0, [])).1 := by simpa using e
        rw [e2, lenOf, getD_snd]
        exact congrArg some (rowOwn_form (hrow r hr))
      · cases e
  · have := rowAt_own (hrow r hr)
    unfold lenOf xOf
    rw [getD_snd]
    exact this
  · have := (hbr r hr).1
    unfold lenOf
    rw [getD_snd]
    omega
  · unfold lenOf at hi
    rw [getD_snd] at hi
    unfold xOf
    rw [getD_snd]
    have hx : (rows.getD r (.slice none 0 0, [])).2.getD i noIns ∈ (rows.getD r (.slice none 0 0, [])).2 := by
      generalize (rows.getD r (.slice none 0 0, [])).2 = l at *
      rw [List.getD_eq_getElem?_getD, List.getElem?_eq_getElem hi]
      simp
    obtain ⟨o1, o2, a1, a2, b1, b2, n1, n2⟩ := (hbr r hr).2 _ hx
    generalize (rows.getD r (.slice none 0 0, [])).2.getD i noIns = x at *
    match f, hf with
    | 0, _ => simp only [fld]; omega
    | 1, _ => simp only [fld]; omega
    | 2, _ => simp only [fld]; omega
    | 3, _ => simp only [fld]; omega

theorem owns_below {w w' : World} {base : Nat} {e : TypeId} {size : Nat} {v : Value} {n : Nat} {xs : List Value} (h : w.ownsRow base e size v n xs) (hb : Below w.heap.size w w') : w'.ownsRow base e size v n xs :=
  World.ownsRow.kept h (row := none) ⟨hb.os, hb.tape, hb.output, hb.size, fun k hk _ => hb.block k hk⟩ (by cases hv : v.ownBlock <;> simp)

theorem KindsOwn.below {w w' : World} {base : Nat} {v : Value} {rows : List (Value × List Ins)} (h : KindsOwn w base v rows) (hb : Below w.heap.size w w') : KindsOwn w' base v rows :=
  ⟨owns_below h.top hb, fun p hp => owns_below (h.row p hp) hb⟩

theorem bytes_of_rows (rows : List (List Ins)) : progBytes rows.length (lenOf rows) (xOf rows) rows.length = [116, 119, (rows.length : Int)] ++ rows.flatMap rowB := by
  unfold progBytes kindBytes
  rw [Deep.flatMap_by_index rows [] rowB]
  congr 2
  funext r
  unfold rowB rowBytes lenOf
  rw [Deep.flatMap_by_index (rows.getD r []) noIns insB]
  rfl

set_option maxHeartbeats 400000 in
theorem decode_long (ba : Option Addr) (len cap : Nat) (w : World) (h : 5000 < len) (h' : len ≤ 9223372036854775807) :
    Calls Tryd.prog 12 #[.slice ba len cap] w fun e w' => e = .returned (.tuple #[.agg #[.slice none 0 0], .int .i64 1]) ∧ Below w.heap.size w w' := by
  have hz : (5000 : Int) < (len : Int) := by omega
  go_enter Tryd.func12, Tryd.ntmps12
  go_wp2
  exact bodyPost_ret (v := .tuple #[.agg #[.slice none 0 0], .int .i64 1]) (by simp [results, Tryd.results12, go_sem]) rfl ⟨rfl, cbelow_box _ _⟩

set_option maxRecDepth 100000 in
set_option maxHeartbeats 800000 in
theorem decode_any (ba : Option Addr) (cap : Nat) (bs : List Int) (w : World) (hB : BytesAt w ba bs) (hT : TabAt 0 w) :
    Calls Tryd.prog 12 #[.slice ba bs.length cap] w fun e w' =>
      ∃ ao c rows A C, e = .returned (.tuple #[.agg #[.slice ao (List.length rows) c], .int .i64 (decErr bs)]) ∧ Below w.heap.size w w' ∧ (decErr bs ≠ 0 → rows = []) ∧
        (decErr bs = 0 → rows = (rdAll bs).1 ∧ ProgAt w' ao rows.length A (lenOf rows) C (xOf rows) ∧ progFault rows.length (lenOf rows) (xOf rows) = 0 ∧ progBytes rows.length (lenOf rows) (xOf rows) rows.length = bs) := by
  have hsh := hB.short
  have hz : ¬ (5000 : Int) < (bs.length : Int) := by omega
  go_enter Tryd.func12, Tryd.ntmps12
  go_wp2_with fail
  refine (readAll_any ba cap bs _ (hB.keeps (Keeps.alloc _ _)) (hT.keeps (Keeps.alloc _ _))).mono ?_
  rintro e w1 ⟨v, rows, rfl, hrows, hK, hb1⟩
  have N1 : w1.heap[w.heap.size]? = some (.cells #[.slice none 0 0] 26 (0, 0)) := (hb1.block _ (by simp)).trans (block_new w _)
  have b1 : Below w.heap.size w w1 := (cbelow_box w _).trans (hb1.mono (by simp))
  have hs1 := hb1.size
  simp at hs1
  have hT1 : TabAt 0 w1 := hT.keeps ((Keeps.alloc _ _).trans (Keeps.below hb1))
  obtain ⟨va, vc, rfl⟩ := kinds_form hK
  have N3 : ∀ o, (w1.alloc o).heap[w.heap.size]? = some (.cells #[.slice none 0 0] 26 (0, 0)) := fun o => block_old N1 o
  have c0 : ∀ o, (w1.alloc o).cell? ⟨w.heap.size, 0, none⟩ = some (.slice none 0 0) := fun o => by have := ccell_blk (N3 o) 0; simpa using this
  have f0 : ∀ o, (w1.alloc o).frozen? ⟨w.heap.size, 0, none⟩ = false := fun o => cfz_blk (N3 o) 0
  clear hb1
  by_cases he : (rdAll bs).2 = 0
  · obtain ⟨hbytes, hn, hbd⟩ := all_back hB.fits (rows := (rdAll bs).1) (Prod.ext rfl he)
    have hlr : rows.length = (rdAll bs).1.length := by rw [← hrows]; simp
    have HP : Aside (∀ w' b, KindsOwn w' b (.slice va rows.length vc) rows → ProgAt w' va (rdAll bs).1.length (fun r => slAddr (rows.getD r (.slice none 0 0, [])).1) (lenOf (rdAll bs).1) (fun r => slCap (rows.getD r (.slice none 0 0, [])).1) (xOf (rdAll bs).1)) := fun w' b hK' => by
      have hp := prog_of_kinds hK' (by omega) (by rw [hrows]; exact hbd)
      rw [hrows, hlr] at hp
      exact hp
    have hp := HP.out _ _ hK
    have HK : Aside (KindsOwn w1 (w.heap.size + 1) (.slice va rows.length vc) rows) := by have := hK; rw [World.size_alloc] at this; exact this
    have HDE : Aside (decErr bs = rowsFault (rdAll bs).1) := by show decErr bs = _; rw [decErr, if_neg (by simp [he])]
    have HBY : Aside (progBytes (rdAll bs).1.length (lenOf (rdAll bs).1) (xOf (rdAll bs).1) (rdAll bs).1.length = bs) := (bytes_of_rows _).trans hbytes.symm
    rw [he, hlr]
    clear hbytes hn hbd hK hrows hlr he
    generalize hL0 : (rdAll bs).1 = L0 at *
    have HL0 : Aside ((rdAll bs).1 = L0) := hL0
    clear hL0
    go_wp2_with fail
    refine (ccheck_any _ L0.length vc _ (lenOf L0) _ (xOf L0) _ (hT1.keeps (Keeps.alloc _ _)) (hp.keeps (Keeps.alloc _ _))).mono ?_
    rintro e w2 ⟨rfl, hb2⟩
    have HDE2 : Aside (decErr bs = progFault L0.length (lenOf L0) (xOf L0)) := HDE.out
    have k2 := Keeps.below hb2
    have d0 := k2 _ _ (show (w1.alloc (.cells #[.slice va L0.length vc] 26)).cell? ⟨w1.heap.size, 0, none⟩ = some (.slice va L0.length vc) by simp)
    have N4 : w2.heap[w.heap.size]? = some (.cells #[.slice none 0 0] 26 (0, 0)) := (hb2.block _ (by simp; omega)).trans (N3 _)
    have e0 := ccell_blk N4 0
    have g0 := cfz_blk N4 0
    simp at e0
    have b2 : Below w.heap.size w w2 := (b1.alloc (by omega) _).trans (hb2.mono (by simp; omega))
    clear k2 hp N3 c0 f0 HDE
    by_cases hf : progFault L0.length (lenOf L0) (xOf L0) = 0
    · have HF : Aside (progFault L0.length (lenOf L0) (xOf L0) = 0) := hf
      rw [hf]
      clear hf
      go_wp2
      have M0 := ccell_blk (blk_set (j := 0) N4 (.slice va L0.length vc)) 0
      simp at M0
      have hfin := HP.out _ _ (((HK.out.alloc (.cells #[.slice va L0.length vc] 26)).below hb2).set N4 (by decide) (by decide) 0 (.slice va L0.length vc))
      exact bodyPost_ret (v := .tuple #[.agg #[.slice va L0.length vc], .int .i64 0]) (by simp [results, Tryd.results12, go_sem, M0]) rfl ⟨va, vc, L0, _, _, by rw [HDE2.out, HF.out], b2.setCell (Nat.le_refl _) _, fun h0 => absurd (HDE2.out.trans HF.out) h0, fun _ => ⟨HL0.out.symm, hfin, HF.out, HBY.out⟩⟩
    · have HF : Aside (¬ progFault L0.length (lenOf L0) (xOf L0) = 0) := hf
      have hfb : (progFault L0.length (lenOf L0) (xOf L0) != 0) = true := by simp [hf]
      clear hf
      go_wp2
      have M0 := ccell_blk (blk_set (j := 0) N4 (.slice none 0 0)) 0
      simp at M0
      exact bodyPost_ret (v := .tuple #[.agg #[.slice none 0 0], .int .i64 (progFault L0.length (lenOf L0) (xOf L0))]) (by simp [results, Tryd.results12, go_sem, M0]) rfl ⟨none, 0, [], fun _ => none, fun _ => 0, by rw [HDE2.out]; rfl, b2.setCell (Nat.le_refl _) _, fun _ => rfl, fun h0 => absurd (HDE2.out.symm.trans h0) HF.out⟩
  · have HDE : Aside (decErr bs = (rdAll bs).2) := by show decErr bs = _; rw [decErr, if_pos he]
    have heb : ((rdAll bs).2 != 0) = true := by simp [he]
    have heq : ((rdAll bs).2 == 0) = false := by simp [he]
    go_wp2
    have M0 := ccell_blk (blk_set (j := 0) (N3 (.cells #[.slice va rows.length vc] 26)) (.slice none 0 0)) 0
    simp at M0
    refine bodyPost_ret (v := .tuple #[.agg #[.slice none 0 0], .int .i64 (rdAll bs).2]) (by simp [results, Tryd.results12, go_sem, M0]) rfl ⟨none, 0, [], fun _ => none, fun _ => 0, by rw [HDE.out]; rfl, (b1.alloc (by omega) _).setCell (Nat.le_refl _) _, fun _ => rfl, fun h0 => absurd (HDE.out.symm.trans h0) he⟩

end Go.Proofs.YtahcgnmhhgcfmaaDoor
