/- The walk of the reader's behavior: a row of instructions, in new memory. -/
import Derived.Test.YtahcgnmhhgcfmaaDoorCRdIns
import Derived.Test.YtahcgnmhhgcfmaaDoorCProgL
import Derived.WalkKit
import Derived.WalkSpells
import Derived.WalkLawsBesides
import Derived.Deep.LoopGhost
import Derived.Deep.Light
namespace Go.Proofs.YtahcgnmhhgcfmaaDoor
open Go.RowKit

theorem insCells_snoc (l : List Ins) (x : Ins) : insCells (l ++ [x]) = insCells l ++ [.int .i64 x.op, .int .i64 x.a, .int .i64 x.b, .int .i64 x.n] := by simp [insCells]

/-- The slice v, in memory of the call's own, holds these instructions. -/
def RowOwn (w : World) (base : Nat) (v : Value) (l : List Ins) : Prop := w.ownsRow base 40 4 v l.length (insCells l)

theorem RowOwn.nil (w : World) (base : Nat) : RowOwn w base (.slice none 0 0) [] := World.ownsRow_nil w base _ 4
theorem RowOwn.alloc {w : World} {base : Nat} {v : Value} {l : List Ins} (h : RowOwn w base v l) (o : Obj) : RowOwn (w.alloc o) base v l := World.ownsRow.alloc h o
theorem RowOwn.le {w : World} {base base' : Nat} {v : Value} {l : List Ins} (h : RowOwn w base v l) (hb : base' ≤ base) : RowOwn w base' v l :=
  ⟨h.1, h.2.elim Or.inl (fun ⟨g, cap, cur, hv, hg, r⟩ => Or.inr ⟨g, cap, cur, hv, Nat.le_trans hb hg, r⟩)⟩

theorem RowOwn.but {w w' : World} {R base : Nat} {v : Value} {l : List Ins} (h : RowOwn w base v l) (k : But R w w') (hR : R < base) : RowOwn w' base v l :=
  World.ownsRow.kept h (row := some R) ⟨k.os, k.tape, k.output, k.size, fun i hi hne => k.block i hi (fun e => hne (by rw [e]))⟩ (by
    cases hv : v.ownBlock with
    | none => exact Or.inl rfl
    | some g => exact Or.inr (fun e => by
        simp only [Option.some.injEq] at e
        have := (World.ownsRow.lt h g hv).1
        omega))

theorem Tryd.infoIns : (Tryd.prog.info? 40).map (fun i => (i.zero, i.size, i.bytes)) = some (some (.agg #[.int .i64 0, .int .i64 0, .int .i64 0, .int .i64 0]), 4, 32) := by kernel_rfl

theorem cells4_new (w : World) (a b c d : Value) (t : TypeId) (m : Nat) (hm : m = w.heap.size) : ∀ j u, [a, b, c, d][j]? = some u → (w.alloc (.cells #[a, b, c, d] t)).cell? ((⟨m, 0, none⟩ : Addr).add j) = some u := by
  subst hm
  intro j u hj
  have hb := block_new w (.cells #[a, b, c, d] t)
  have hc := ccell_blk hb j
  have e : (⟨w.heap.size, 0, none⟩ : Addr).add j = ⟨w.heap.size, j, none⟩ := by unfold Addr.add; split <;> simp_all
  rw [e, hc]
  simpa using hj

theorem grown_but {R : Nat} {a w w' : World} {row : Option Nat} (h : But R a w) (hg : w.grownBy w' row) (hr : ∀ k, row = some k → a.heap.size ≤ k) : But R a w' :=
  ⟨hg.os.trans h.os, hg.tape.trans h.tape, hg.output.trans h.output, Nat.le_trans h.size hg.size, fun k hk hR => (hg.block k (Nat.lt_of_lt_of_le hk h.size) (fun e => by have := hr k e.symm; omega)).trans (h.block k hk hR)⟩

theorem RdAt.grown {w w' : World} {R : Nat} {ba : Option Addr} {cap : Nat} {bs : List Int} {k : Nat} {row : Option Nat} (h : RdAt w R ba cap bs k) (hg : w.grownBy w' row) (hR : row ≠ some R) (hb : ∀ B, row = some B → Apart ba bs B) : RdAt w' R ba cap bs k :=
  ⟨(hg.block R h.ne (Ne.symm hR)).trans h.blk, ⟨fun i hi => by
    obtain ⟨b, o, e, hc⟩ := h.bytes.cell i hi
    exact ⟨b, o, e, hg.cell hc (fun e' => hb b e'.symm (by omega) b o e rfl)⟩, h.bytes.fits, h.bytes.short⟩, h.place⟩

set_option maxRecDepth 100000 in
set_option maxHeartbeats 800000 in
theorem behavior_any (R : Nat) (ba : Option Addr) (cap : Nat) (bs : List Int) (k : Nat) (w : World) (h : RdAt w R ba cap bs k) (hR : Apart ba bs R) (hT : TabAt 0 w) (hR0 : R ≠ 0) :
    Calls Tryd.prog 62 #[.pointer (some ⟨R, 0, none⟩)] w fun e w' =>
      ∃ v, e = .returned (.tuple #[v, .int .i64 (rdRow bs k).2.1]) ∧ RowOwn w' w.heap.size v (rdRow bs k).1 ∧ RdAt w' R ba cap bs (rdRow bs k).2.2 ∧ But R w w' := by
  obtain ⟨i0, hi, hzz⟩ := Option.map_eq_some_iff.1 Tryd.infoIns
  simp only [Prod.mk.injEq] at hzz
  obtain ⟨hz0, hz1, hz2⟩ := hzz
  obtain ⟨n1, n2⟩ := rdNext_bd bs k h.bytes.fits
  have hRw := h.ne
  have HOWN : Aside (∀ B, w.heap.size ≤ B → Apart ba bs B) := fun B hB => own_block h hB
  go_enter Tryd.func62, Tryd.ntmps62
  go_wp2_with fail
  refine (next_any R ba cap bs k _ h hR).mono ?_
  rintro e w1 ⟨rfl, h1, hb1⟩
  by_cases he : (rdNext bs k).2.1 = 0
  · have HR : Aside (rdRow bs k = rdInss bs (rdNext bs k).1.toNat [] (rdNext bs k).2.2) := by show rdRow bs k = _; rw [rdRow, if_neg (by simp [he])]
    rw [he]
    clear he
    generalize (rdNext bs k).2.2 = k1 at *
    generalize (rdNext bs k).1 = c at *
    obtain ⟨c, rfl⟩ := Int.eq_ofNat_of_zero_le n1
    rw [Int.toNat_natCast] at HR
    go_wp2_with fail
    go_loopg [6, 18] c (fun g s6 s18 wr => ∃ (i : Nat) (v : Value) (l : List Ins) (j : Nat), i ≤ c ∧ g = c - i ∧ s18 = .int .i64 i ∧ s6 = v ∧ l.length = i ∧ RowOwn wr w.heap.size v l ∧ RdAt wr R ba cap bs j ∧ But R w wr ∧ Aside (rdRow bs k = rdInss bs (c - i) l j))
    case atStart => exact ⟨0, _, [], k1, Nat.zero_le _, rfl, rfl, rfl, rfl, RowOwn.nil _ _, h1, hb1, HR⟩
    case round =>
      obtain ⟨i, v, l, j, hi', rfl, rfl, rfl, hll, hO, hr, hb, hA⟩ := hrel
      clear h1 hb1 HR
      have HLL : Aside (l.length = i) := hll
      have hlb : l.length ≤ 255 := by omega
      clear hll
      by_cases hic : i < c
      · have hiz : (i : Int) < (c : Int) := by omega
        go_wp2_with fail
        refine (rdInstr_any R ba cap bs j _ hr hR (hT.but hb hR0) hR0).mono ?_
        rintro e w2 ⟨rfl, h2, hb2⟩
        have hb3 := hb.trans hb2
        have hO2 := hO.but hb2 hRw
        have hs2 := hb3.size
        clear hr hb hb2 hO
        have HS : Aside (rdInss bs (c - i) l j = if (rdIns bs j).2.1 ≠ 0 then ([], (rdIns bs j).2.1, (rdIns bs j).2.2) else rdInss bs (c - (i + 1)) (l ++ [(rdIns bs j).1]) (rdIns bs j).2.2) := by
          obtain ⟨f, hf⟩ : ∃ f, c - i = f + 1 := ⟨c - i - 1, by omega⟩
          show rdInss bs (c - i) l j = _
          rw [hf, rdInss, show c - (i + 1) = f by omega]
        generalize rdIns bs j = q at *
        obtain ⟨x, er, j'⟩ := q
        simp only at h2
        by_cases her : er = 0
        · subst her
          have HN : Aside (rdRow bs k = rdInss bs (c - (i + 1)) (l ++ [x]) j') := by show rdRow bs k = _; rw [hA.out, HS.out]; simp
          clear HS hA
          go_wp2_with (at_builtin; refine wpList_append_own _ rfl (.tmp 28) (.tmp 30) 37 rfl w.heap.size 40 i0 (.agg #[.int .i64 0, .int .i64 0, .int .i64 0, .int .i64 0]) 4 32 Tryd.underlying37 hi hz0 hz1 hz2 rfl (by decide) u6 l.length (insCells l) rfl ((hO2.alloc _).alloc _) ⟨w2.heap.size + 1, 0, none⟩ 1 1 [.int .i64 x.op, .int .i64 x.a, .int .i64 x.b, .int .i64 x.n] rfl rfl ?p1 ?p2 ?p3 ?p4 ?p5 ?_; (case p1 => exact cells4_new _ _ _ _ _ _ _ (by simp)); (case p2 => intro u hu; simp at hu; rcases hu with rfl | rfl | rfl | rfl <;> rfl); (case p3 => unfold maxLen; omega); (case p4 => omega); (case p5 => simp; omega); intro v1 w3 hO3 hg3 _)
          have hrow : ∀ g, u6.ownBlock = some g → w.heap.size ≤ g := fun g hg => (World.ownsRow.lt hO2 g hg).1
          have hb4 : But R w w3 := grown_but ((hb3.alloc _).alloc _) hg3 hrow
          have h4 : RdAt w3 R ba cap bs j' := ((h2.alloc _).alloc _).grown hg3 (fun e => by have := hrow R e; omega) (fun B hB => HOWN.out B (hrow B hB))
          clear hO2 hg3 h2 hb3 hrow
          go_wp2
          go_roundg (c - (i + 1))
          case measure => go_light; omega
          case rel =>
            go_light
            refine ⟨i + 1, _, l ++ [x], j', by omega, rfl, by go_num, rfl, by simp [HLL.out], ?_, h4, hb4, HN.out⟩
            unfold RowOwn
            rw [insCells_snoc]
            simpa using hO3
        · have heb : (er != 0) = true := by simp [her]
          have HN : Aside (rdRow bs k = ([], er, j')) := by show rdRow bs k = _; rw [hA.out, HS.out]; simp [her]
          clear HS hA
          go_wp2
          go_ret2
          exact ⟨_, by rw [HN.out]; rfl, by rw [HN.out]; exact RowOwn.nil _ _, by rw [HN.out]; exact h2.alloc _, hb3.alloc _⟩
      · have HN : Aside (rdRow bs k = (l, 0, j)) := by show rdRow bs k = _; rw [hA.out, show c - i = 0 by omega, rdInss]
        go_wp2
        go_ret2
        exact ⟨_, by rw [HN.out]; rfl, by rw [HN.out]; exact hO, by rw [HN.out]; exact hr, hb⟩
  · have HU : Aside (rdRow bs k = ([], (rdNext bs k).2.1, (rdNext bs k).2.2)) := by show rdRow bs k = _; rw [rdRow, if_pos he]
    have heb : ((rdNext bs k).2.1 != 0) = true := by simp [he]
    go_wp2
    go_ret2
    exact ⟨_, by rw [HU.out]; rfl, by rw [HU.out]; exact RowOwn.nil _ _, by rw [HU.out]; exact h1, hb1⟩

end Go.Proofs.YtahcgnmhhgcfmaaDoor
