/- The program's Types and the reference's TypesOf. -/
import Derived.Test.YtahcgnmhhgcfmaaDoorCVListed
import Derived.Test.YtahcgnmhhgcfmaaDoorCFault
namespace Go.Proofs.YtahcgnmhhgcfmaaDoor
open Go.RowKit

/-- What Types is refused for. -/
def tyErr (G : Nat) (L : Nat → Nat) (X : Nat → Nat → Nat → Int) (kind : Int) : Int := if progFault G L X ≠ 0 then progFault G L X else if kind < 0 ∨ (G : Int) ≤ kind then 6 else 0

theorem SeqOwnLe {w : World} {base base' : Nat} {e : TypeId} {size n : Nat} {v : Value} {xs : List Value} (h : w.ownsRow base e size v n xs) (hb : base' ≤ base) : w.ownsRow base' e size v n xs := by
  refine ⟨h.1, ?_⟩
  rcases h.2 with hn | ⟨g, cap, cur, h0, h1, h2⟩
  · exact Or.inl hn
  · exact Or.inr ⟨g, cap, cur, h0, by omega, h2⟩

set_option maxRecDepth 100000 in
set_option maxHeartbeats 1000000 in
theorem types_bad (ao : Option Addr) (G cap : Nat) (A : Nat → Option Addr) (L C : Nat → Nat) (X : Nat → Nat → Nat → Int) (kind : Int) (w : World) (hT : TabAt 0 w) (hp : ProgAt w ao G A L C X) (he : tyErr G L X kind ≠ 0) :
    Calls Tryd.prog 17 #[.agg #[.slice ao G cap], .int .i64 kind] w fun e w' => e = .returned (.tuple #[.slice none 0 0, .int .i64 (tyErr G L X kind)]) ∧ Below w.heap.size w w' := by
  have hG := hp.many
  obtain ⟨R, hR⟩ : ∃ R, R = tyErr G L X kind := ⟨_, rfl⟩
  have HR : Aside (R = tyErr G L X kind ∧ R ≠ 0) := ⟨hR, by rw [hR]; exact he⟩
  rw [← hR]
  clear hR he
  go_enter Tryd.func17, Tryd.ntmps17
  go_wp2_with fail
  have k1 := Keeps.alloc w (Obj.cells #[Value.slice ao G cap] 26)
  have b1 := below_box w (Obj.cells #[Value.slice ao G cap] 26)
  have c1 : (w.alloc (Obj.cells #[Value.slice ao G cap] 26)).cell? ⟨w.heap.size, 0, none⟩ = some (.slice ao G cap) := by simp
  generalize w.alloc (Obj.cells #[Value.slice ao G cap] 26) = W at *
  refine (ccheck_any ao G cap A L C X _ (hT.keeps k1) (hp.keeps k1)).mono ?_
  rintro e w1 ⟨rfl, hb1⟩
  have b2 := b1.trans (hb1.mono b1.size)
  have c2 := Keeps.below hb1 _ _ c1
  clear c1 b1 hb1 k1
  by_cases hf : progFault G L X = 0
  · have HK : Aside (R = 6 ∧ (kind < 0 ∨ (G : Int) ≤ kind)) := by
      have h1 := HR.out.1
      have h2 := HR.out.2
      unfold tyErr at h1
      rw [if_neg (by simp [hf])] at h1
      by_cases hk : kind < 0 ∨ (G : Int) ≤ kind
      · rw [if_pos hk] at h1; exact ⟨h1, hk⟩
      · rw [if_neg hk] at h1; exact absurd h1 h2
    rw [hf]
    clear hf HR
    by_cases hk : kind < 0
    · go_wp2
      go_ret2
      exact ⟨by rw [HK.out.1]; rfl, b2⟩
    · have hk2 : (G : Int) ≤ kind := by have := HK.out.2; omega
      have hk0 : 0 ≤ kind := by omega
      go_wp2
      go_ret2
      exact ⟨by rw [HK.out.1]; rfl, b2⟩
  · have HE : Aside (R = progFault G L X) := by
      have h1 := HR.out.1
      unfold tyErr at h1
      rw [if_pos hf] at h1
      exact h1
    have hfb : (progFault G L X != 0) = true := by simp [hf]
    have hfb2 : (progFault G L X == 0) = false := by simp [hf]
    clear HR
    go_wp2
    go_ret2
    exact ⟨by rw [HE.out]; rfl, b2⟩

set_option maxRecDepth 100000 in
set_option maxHeartbeats 1000000 in
theorem types_ok (ao : Option Addr) (G cap : Nat) (A : Nat → Option Addr) (L C : Nat → Nat) (X : Nat → Nat → Nat → Int) (kind : Nat) (w : World) (hT : TabAt 0 w) (hp : ProgAt w ao G A L C X) (hf : progFault G L X = 0) (hk : kind < G) :
    Calls Tryd.prog 17 #[.agg #[.slice ao G cap], .int .i64 (kind : Int)] w fun e w' => ∃ g vc, e = .returned (.tuple #[.slice (some ⟨g, 0, none⟩) (L kind) vc, .int .i64 0]) ∧ Below w.heap.size w w' ∧ ∃ rows, RfAt w' w.heap.size g vc (L kind) (flowS (X kind) (L kind)) rows := by
  have hG := hp.many
  have hkz : (kind : Int) < (G : Int) := by omega
  have hk0 : (0 : Int) ≤ (kind : Int) := Int.natCast_nonneg _
  have hx := rowV_ok hf hk
  have hLk := hx.len
  go_enter Tryd.func17, Tryd.ntmps17
  go_wp2_with fail
  have k1 := Keeps.alloc w (Obj.cells #[Value.slice ao G cap] 26)
  have b1 := below_box w (Obj.cells #[Value.slice ao G cap] 26)
  have c1 : (w.alloc (Obj.cells #[Value.slice ao G cap] 26)).cell? ⟨w.heap.size, 0, none⟩ = some (.slice ao G cap) := by simp
  generalize w.alloc (Obj.cells #[Value.slice ao G cap] 26) = W at *
  refine (ccheck_any ao G cap A L C X _ (hT.keeps k1) (hp.keeps k1)).mono ?_
  rintro e w1 ⟨rfl, hb1⟩
  have b2 := b1.trans (hb1.mono b1.size)
  have c2 := Keeps.below hb1 _ _ c1
  have hp2 := (hp.keeps k1).keeps (Keeps.below hb1)
  obtain ⟨b, o, rfl, hca⟩ := hp2.outer kind hk
  have hrow := hp2.rows kind hk
  clear c1 b1 hb1 k1
  rw [hf]
  go_wp2_with fail
  refine (points_any (A kind) (L kind) (C kind) (X kind) _ hrow hx).mono ?_
  rintro e w2 ⟨g, pc, st, rfl, hfl, hP, hb2⟩
  have HST : Aside (st = flowS (X kind) (L kind)) := hfl.eq
  have hgd : VGood (L kind) st := by rw [HST.out]; exact flowS_good _ _
  have b3 := b2.trans (hb2.mono b2.size)
  clear hfl hca hrow hp2
  go_wp2_with fail
  refine (listed_any g pc (L kind) _ st w2 hLk hP hgd).mono ?_
  rintro e w3 ⟨g3, c3, rfl, hb3, rows, hR⟩
  have b4 := b3.trans (hb3.mono b3.size)
  have hR4 : RfAt w3 w.heap.size g3 c3 (L kind) (flowS (X kind) (L kind)) rows := by
    rw [← HST.out]
    exact ⟨SeqOwnLe hR.own b3.size, hR.row⟩
  clear hb3 hR
  go_wp2
  go_ret2
  exact ⟨g3, c3, rfl, b4, rows, hR4⟩

end Go.Proofs.YtahcgnmhhgcfmaaDoor
