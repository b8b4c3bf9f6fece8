/- The walks of New and of picked; raw things in memory; what Heap makes of them. -/
import Derived.Test.YtbifdcchdoflpadHRawS
import Derived.Test.YtbifdcchdoflpadHPick
import Derived.WalkKit
import Derived.WalkSpells
import Derived.WalkLawsBesides
import Derived.Deep.LoopGhost
import Derived.Deep.Light
import Derived.Deep.QuietTactic
import Derived.BigQuiet
import Derived.BigRegion
import Derived.Deep.DeepCutAuto
namespace Go.Proofs.Ytbifdcchdoflpad
open Go.RowKit

/-- What New answers: Most and the error. -/
def newS (n : Int) : Int × Int := if (decide (0 ≤ n) && decide (n ≤ 60)) = true then (n, 0) else (0, 2)

set_option maxHeartbeats 1000000 in
theorem new_any (n : Int) (w : World) :
    Calls Try.prog 16 #[.int .i64 n] w fun e w' => e = .returned (.tuple #[.agg #[.int .i64 (newS n).1, .slice none 0 0], .int .i64 (newS n).2]) ∧ Below w.heap.size w w' := by
  cases hq : (decide (0 ≤ n) && decide (n ≤ 60)) with
  | true =>
    have hn : newS n = (n, 0) := by simp [newS, hq]
    rw [hn]
    go_enter Try.func16, Try.ntmps16
    go_wp2_with (go_at_call 32; refine (isMost_any _ _).mono ?_; rintro e w' ⟨rfl, rfl⟩; rw [hq])
    refine bodyPost_ret (v := .tuple #[.agg #[.int .i64 n, .slice none 0 0], .int .i64 0]) (by simp [results, Try.results16, go_sem]) rfl ⟨rfl, ?_⟩
    first
      | exact below_box _ _
      | exact ((below_box _ _).setCell (Nat.le_refl _) _).setCell (Nat.le_refl _) _
  | false =>
    have hn : newS n = (0, 2) := by simp [newS, hq]
    rw [hn]
    go_enter Try.func16, Try.ntmps16
    go_wp2_with (go_at_call 32; refine (isMost_any _ _).mono ?_; rintro e w' ⟨rfl, rfl⟩; rw [hq])
    refine bodyPost_ret (v := .tuple #[.agg #[.int .i64 0, .slice none 0 0], .int .i64 2]) (by simp [results, Try.results16, go_sem]) rfl ⟨rfl, ?_⟩
    first
      | exact below_box _ _
      | exact ((below_box _ _).setCell (Nat.le_refl _) _).setCell (Nat.le_refl _) _


/-- In the middle of Heap: so many objects, so many values. -/
structure HMid (w wr : World) (X : Nat) (M : Int) (n : Nat) (obs : List Ob) (av : Value) : Prop where
  below : Below w.heap.size w wr
  low : w.heap.size < X ∧ X < wr.heap.size
  ret : wr.heap[w.heap.size]? = some (.cells #[.int .i64 0, .slice none 0 0] 25 (0, 0))
  own : ∃ ha hc rows, wr.heap[X]? = some (.cells #[.int .i64 M, .slice ha n hc] 25 (0, 0)) ∧ HeapOwn wr (X + 1) (.slice ha n hc) rows ∧ rows.map (·.2) = obs ∧
    ∀ (i : Nat) p, rows[i]? = some p → p.1.ownBlock = none ∨ p.1.ownBlock ≠ av.ownBlock
  vals : ValsOwn wr (X + 1) av (allVals n)
  good : Good M obs
  len : obs.length = n

theorem HMid.later {w wr w' : World} {X : Nat} {M : Int} {n : Nat} {obs : List Ob} {av : Value} (h : HMid w wr X M n obs av) (hb : Below wr.heap.size wr w') : HMid w w' X M n obs av := by
  obtain ⟨ha, hc, rows, hx, hO, hr, hap⟩ := h.own
  have hlow := h.low
  have hs := hb.size
  have hws := h.below.size
  exact ⟨h.below.trans (hb.mono hws), ⟨hlow.1, by omega⟩, (hb.block _ (by omega)).trans h.ret, ⟨ha, hc, rows, (hb.block _ hlow.2).trans hx, hO.below hb, hr, hap⟩, ownsRow_below h.vals hb, h.good, h.len⟩

/-- 'h = g': another heap, in newer memory. -/
theorem HMid.put {w wr : World} {X : Nat} {M : Int} {n n' : Nat} {obs obs' : List Ob} {av : Value} (h : HMid w wr X M n obs av) {ga : Option Addr} {gc B : Nat} {rows : List (Value × Ob)} (hO : HeapOwn wr B (.slice ga n' gc) rows) (hB : X < B) (hr : rows.map (·.2) = obs') (hap : ∀ k, av.ownBlock = some k → k < B) :
    let W := (wr.setCell ⟨X, 0, none⟩ (.int .i64 M)).setCell ⟨X, 1, none⟩ (.slice ga n' gc)
    Below w.heap.size w W ∧ X < W.heap.size ∧ W.heap.size = wr.heap.size ∧ W.heap[w.heap.size]? = some (.cells #[.int .i64 0, .slice none 0 0] 25 (0, 0)) ∧
      W.heap[X]? = some (.cells #[.int .i64 M, .slice ga n' gc] 25 (0, 0)) ∧ HeapOwn W (X + 1) (.slice ga n' gc) rows ∧ rows.map (·.2) = obs' ∧ (∀ (i : Nat) p, rows[i]? = some p → p.1.ownBlock = none ∨ p.1.ownBlock ≠ av.ownBlock) ∧ ValsOwn W (X + 1) av (allVals n) := by
  intro W
  obtain ⟨ha, hc, rows0, hx, _, _, _⟩ := h.own
  have hlow := h.low
  refine ⟨(h.below.setCell (by show w.heap.size ≤ X; omega) _).setCell (by show w.heap.size ≤ X; omega) _, by simpa [W, World.setCell] using hlow.2, by simp [W, World.setCell], ?_, ?_, ?_, hr, fun i p hp => ?_, ?_⟩
  · show ((wr.setCell _ _).setCell _ _).heap[w.heap.size]? = _
    rw [Deep.blk_setCell_other _ _ _ _ (by show w.heap.size ≠ X; omega), Deep.blk_setCell_other _ _ _ _ (by show w.heap.size ≠ X; omega)]
    exact h.ret
  · show ((wr.setCell _ _).setCell _ _).heap[X]? = _
    rw [setCell_blk (setCell_blk hx 0 _) 1 _]
    simp
  · refine HeapOwn.le (base := B) ?_ (by omega)
    exact (hO.setLow (by show X < B; omega) _).setLow (by show X < B; omega) _
  · by_cases hn : p.1.ownBlock = none
    · exact Or.inl hn
    · refine Or.inr (fun e => ?_)
      obtain ⟨k, hk⟩ := Option.ne_none_iff_exists'.1 hn
      have h1 := (World.ownsRow.lt (hO.row i p hp).1 k hk).1
      have h2 := hap k (by rw [← e]; exact hk)
      omega
  · exact ownsRow_setCell_below (ownsRow_setCell_below h.vals (by show X < X + 1; omega) _) (by show X < X + 1; omega) _

/-- 'h = g' alone. -/
theorem HMid.set {w wr : World} {X : Nat} {M : Int} {n : Nat} {obs obs' : List Ob} {av : Value} (h : HMid w wr X M n obs av) {ga : Option Addr} {gc B : Nat} {rows : List (Value × Ob)} (hO : HeapOwn wr B (.slice ga n gc) rows) (hB : X < B) (hr : rows.map (·.2) = obs') (hap : ∀ k, av.ownBlock = some k → k < B) (hg : Good M obs') (hl : obs'.length = n) :
    HMid w ((wr.setCell ⟨X, 0, none⟩ (.int .i64 M)).setCell ⟨X, 1, none⟩ (.slice ga n gc)) X M n obs' av := by
  obtain ⟨h1, h2, _, h4, h5, h6, h7, h8, h9⟩ := h.put hO hB hr hap
  exact ⟨h1, ⟨h.low.1, h2⟩, h4, ⟨ga, gc, rows, h5, h6, h7, h8⟩, h9, hg, hl⟩

/-- 'h = g; all = append(all, v)'. -/
theorem HMid.push {w wr w5 : World} {X : Nat} {M : Int} {n : Nat} {obs obs' : List Ob} {av : Value} (h : HMid w wr X M n obs av) {ga : Option Addr} {gc B g cap : Nat} {rows : List (Value × Ob)} (hO : HeapOwn wr B (.slice ga (n + 1) gc) rows) (hB : X < B) (hr : rows.map (·.2) = obs') (hap : ∀ k, av.ownBlock = some k → k < B) (hg : Good M obs') (hl : obs'.length = n + 1)
    (o : Obj) (hv : ValsOwn w5 (X + 1) (.slice (some ⟨g, 0, none⟩) (n + 1) cap) (allVals n ++ [⟨2, (n : Int)⟩])) (hgr : (((wr.setCell ⟨X, 0, none⟩ (.int .i64 M)).setCell ⟨X, 1, none⟩ (.slice ga (n + 1) gc)).alloc o).grownBy w5 av.ownBlock) (hat : av.ownBlock = some g ∨ wr.heap.size < g) :
    HMid w w5 X M (n + 1) obs' (.slice (some ⟨g, 0, none⟩) (n + 1) cap) := by
  obtain ⟨h1, h2, h3, h4, h5, h6, h7, h8, h9⟩ := h.put hO hB hr hap
  have hlow := h.low
  have hva := World.ownsRow.alloc h9 o
  have hba := h1.alloc (by omega) o
  have hs5 := hgr.size
  have hws := h.below.size
  have hX5 : w5.heap[X]? = _ := owns_blk hva hgr ((Deep.blk_alloc_lt _ _ _ h2).trans h5) (by decide)
  have hR5 : w5.heap[w.heap.size]? = _ := owns_blk hva hgr ((Deep.blk_alloc_lt _ _ _ (by omega)).trans h4) (by decide)
  refine ⟨hba.grown hgr (by simp; omega) (fun k hk => by have := (World.ownsRow.lt h9 k hk).1; omega), ⟨hlow.1, by simp at hs5; omega⟩, hR5, ⟨ga, gc, rows, hX5, ?_, h7, fun i p hp => ?_⟩, by rw [allVals_succ]; exact hv, hg, hl⟩
  · have hOa := h6.alloc o
    exact ⟨hOa.top.kept hgr (owns_other hOa.top hva (Ne.symm tne)), fun i p hp => ⟨(hOa.row i p hp).1.kept hgr (h8 i p hp), (hOa.row i p hp).2⟩, hOa.apart, hOa.many⟩
  · rcases hat with hat | hat
    · rcases h8 i p hp with hn | hn
      · exact Or.inl hn
      · refine Or.inr (fun e => hn ?_)
        rw [e, hat]
        rfl
    · by_cases hn : p.1.ownBlock = none
      · exact Or.inl hn
      · refine Or.inr (fun e => ?_)
        have hlt := (World.ownsRow.lt (hO.row i p hp).1 g e).2
        omega

/-- 'return h, all'. -/
theorem HMid.done {w wr : World} {X : Nat} {M : Int} {n : Nat} {obs : List Ob} {aa ha : Option Addr} {ac hc : Nat} {rows : List (Value × Ob)} (h : HMid w wr X M n obs (.slice aa n ac)) (hO : HeapOwn wr (X + 1) (.slice ha n hc) rows) (hr : rows.map (·.2) = obs) (u v : Value) :
    Below w.heap.size w ((wr.setCell ⟨w.heap.size, 0, none⟩ u).setCell ⟨w.heap.size, 1, none⟩ v) ∧ ValsAt ((wr.setCell ⟨w.heap.size, 0, none⟩ u).setCell ⟨w.heap.size, 1, none⟩ v) aa (allVals n) ∧ ObsAt ((wr.setCell ⟨w.heap.size, 0, none⟩ u).setCell ⟨w.heap.size, 1, none⟩ v) ha obs := by
  have hlow := h.low
  refine ⟨(h.below.setCell (Nat.le_refl _) _).setCell (Nat.le_refl _) _, ?_, ?_⟩
  · exact (ValsOwn.vals (ownsRow_setCell_below (ownsRow_setCell_below h.vals (by show w.heap.size < X + 1; omega) _) (by show w.heap.size < X + 1; omega) _)).2
  · have := ((hO.setLow (a := ⟨w.heap.size, 0, none⟩) (by show w.heap.size < X + 1; omega) u).setLow (a := ⟨w.heap.size, 1, none⟩) (by show w.heap.size < X + 1; omega) v).obs.2
    rw [hr] at this
    exact this

set_option maxRecDepth 100000 in
set_option maxHeartbeats 40000000 in
theorem heapOf_any (ra : Option Addr) (rc : Nat) (l : List Rw) (M : Int) (w : World) (h : RawsAt w ra l) (h0 : 0 ≤ M) (h1 : M ≤ 60) :
    Calls Try.prog 6 #[.slice ra l.length rc, .int .i64 M] w fun e w' => ∃ (ha : Option Addr) (n hc : Nat) (aa : Option Addr) (ac : Nat), e = .returned (.tuple #[.agg #[.int .i64 M, .slice ha n hc], .slice aa n ac]) ∧ Below w.heap.size w w' ∧ ValsAt w' aa (allVals n) ∧ ∃ obs, obs.length = n ∧ ObsAt w' ha obs ∧ Good M obs := by
  obtain ⟨V, hV⟩ : ∃ V, V = l.length := ⟨_, rfl⟩
  have HV : Aside (V = l.length) := hV
  rw [← hV]
  clear hV
  go_enter Try.func6, Try.ntmps6
  go_wp2_with fail
  have hn := new_any M (w.alloc (Obj.cells #[.int .i64 0, .slice none 0 0] 25))
  have hnS : newS M = (M, 0) := by
    have hh : (decide (0 ≤ M) && decide (M ≤ 60)) = true := by simp [h0, h1]
    simp [newS, hh]
  rw [hnS] at hn
  have N0 := Deep.blk_alloc_new w (Obj.cells #[.int .i64 0, .slice none 0 0] 25)
  have k0 := Keeps.alloc w (Obj.cells #[.int .i64 0, .slice none 0 0] 25)
  refine hn.mono ?_
  clear hn hnS
  rintro e w1 ⟨rfl, hb⟩
  replace N0 := (hb.block w.heap.size (by simp)).trans N0
  have b1 := (below_box w (Obj.cells #[.int .i64 0, .slice none 0 0] 25)).trans (hb.mono (by simp))
  have k1 := k0.trans (Keeps.below hb)
  have hs1 : w.heap.size + 1 ≤ w1.heap.size := by have := hb.size; simp at this; omega
  clear hb k0
  go_wp2
  have hst : HMid w (w1.alloc (Obj.cells #[.int .i64 M, .slice none 0 0] 25)) w1.heap.size M 0 [] (.slice none 0 0) :=
    ⟨b1.alloc (by omega) _, ⟨by omega, by simp⟩, (Deep.blk_alloc_lt _ _ _ (by omega)).trans N0, ⟨none, 0, [], Deep.blk_alloc_new _ _, heapOwn_nil _ _, rfl, fun i p hp => by simp at hp⟩, World.ownsRow_nil _ _ _ _, good_empty h0 h1, rfl⟩
  obtain ⟨X, hX⟩ : ∃ X, X = w1.heap.size := ⟨_, rfl⟩
  rw [← hX] at hst ⊢
  generalize w1.alloc (Obj.cells #[.int .i64 M, .slice none 0 0] 25) = W at *
  clear hX N0 b1 hs1 k1
  clear w1
  have HST : Aside (HMid w W X M 0 [] (.slice none 0 0)) := hst
  clear hst
  go_loopg [8, 9, 10, 11, 12, 13, 14, 15, 16] V (fun g s8 s9 s10 s11 s12 s13 s14 s15 s16 wr => ∃ (i n : Nat) (obs : List Ob) (aa : Option Addr) (ac : Nat), i ≤ V ∧ g = V - i ∧ s9 = .int .i64 i ∧ s8 = .slice aa n ac ∧ HMid w wr X M n obs (.slice aa n ac))
  case atStart => exact ⟨0, 0, [], none, 0, Nat.zero_le _, rfl, rfl, rfl, HST.out⟩
  case round =>
    obtain ⟨i, n, obs, aa, ac, hi, rfl, rfl, rfl, hmid⟩ := hrel
    clear HST
    have hlow := hmid.low
    by_cases hiV : i < V ∧ i < 40
    · have hiz : (i : Int) < (V : Int) := by omega
      have hi40 : (i : Int) < 40 := by omega
      obtain ⟨⟨rk, rA, rB, rC⟩, hx⟩ := at_some (l := l) (i := i) (by rw [← HV.out]; exact hiV.1)
      obtain ⟨b, o, rfl, hblt, c1, c2, c3, c4, q1, q2, q3, q4⟩ := h i _ hx
      simp only [fit64] at c1 c2 c3 c4 q1 q2 q3 q4
      replace c1 := (hmid.below.cell (p := ⟨b, o + i * 4, none⟩) hblt).trans c1
      replace c2 := (hmid.below.cell (p := ⟨b, o + i * 4 + 1, none⟩) hblt).trans c2
      replace c3 := (hmid.below.cell (p := ⟨b, o + i * 4 + 2, none⟩) hblt).trans c3
      replace c4 := (hmid.below.cell (p := ⟨b, o + i * 4 + 3, none⟩) hblt).trans c4
      clear hx hblt hiV
      have p1 := (pick_bd (n := rk) (many := 3) (by omega))
      by_cases hA : pick rk 3 = 0 ∨ n = 0
      · have hA1 : (pick rk 3 == 0) = true ∨ ((pick rk 3 == 0) = false ∧ n = 0) := by
          by_cases hp : pick rk 3 = 0
          · exact Or.inl (by simp [hp])
          · exact Or.inr ⟨by simp [hp], hA.resolve_left hp⟩
        go_upto_region 7 with (fail)
        go_cut [44] (fun s44 wx => s44 = .bool true ∧ wr.alloc (Obj.cells #[.int .i64 rk, .int .i64 rA, .int .i64 rB, .int .i64 rC] 51) = wx)
        case first =>
          rcases hA1 with hp | ⟨hp, hn0⟩
          · go_wp2_with (go_at_call 7; refine (picked_any rk 3 _ q1.1 q1.2 (by omega) (by omega)).mono ?_; rintro e w' ⟨rfl, rfl⟩)
            go_meet
            case rel => exact ⟨rfl, rfl⟩
          · subst hn0
            go_wp2_with (go_at_call 7; refine (picked_any rk 3 _ q1.1 q1.2 (by omega) (by omega)).mono ?_; rintro e w' ⟨rfl, rfl⟩)
            go_meet
            case rel => exact ⟨rfl, rfl⟩
        case rest =>
          obtain ⟨rfl, rfl⟩ := hcut
          go_upto_region 8 with (fail)
          obtain ⟨ha, hc, rows, hx, hO, hr, hap⟩ := hmid.own
          have hobs : ObsAt wr ha obs := hr ▸ hO.obs.2
          have hb1 := below_box wr (Obj.cells #[.int .i64 rk, .int .i64 rA, .int .i64 rB, .int .i64 rC] 51)
          have N1 := Deep.blk_alloc_new wr (Obj.cells #[.int .i64 rk, .int .i64 rA, .int .i64 rB, .int .i64 rC] 51)
          have hs1 : wr.heap.size < (wr.alloc (Obj.cells #[.int .i64 rk, .int .i64 rA, .int .i64 rB, .int .i64 rC] 51)).heap.size := by simp
          generalize wr.alloc (Obj.cells #[.int .i64 rk, .int .i64 rA, .int .i64 rB, .int .i64 rC] 51) = W1 at *
          have hx1 := (hb1.block _ hlow.2).trans hx
          have hSof : ∀ wy, Below W1.heap.size W1 wy → wy.cell? ⟨X, 0, none⟩ = some (.int .i64 M) ∧ wy.cell? ⟨X, 1, none⟩ = some (.slice ha n hc) ∧ wy.cell? ⟨wr.heap.size, 1, none⟩ = some (.int .i64 rA) := fun wy hby =>
            ⟨(hby.cell (p := ⟨X, 0, none⟩) (by show X < _; omega)).trans (by simp [World.cell?, hx1]), (hby.cell (p := ⟨X, 1, none⟩) (by show X < _; omega)).trans (by simp [World.cell?, hx1]), (hby.cell (p := ⟨wr.heap.size, 1, none⟩) hs1).trans (by simp [World.cell?, N1])⟩
          obtain ⟨r, hrr⟩ : ∃ r, r = allocS M obs (1 + pick rA 4) := ⟨_, rfl⟩
          have HR : Aside (r = allocS M obs (1 + pick rA 4)) := hrr
          have hAl : ∀ wy, Below W1.heap.size W1 wy → Calls Try.prog 17 #[.agg #[.int .i64 M, .slice ha n hc], .int .i64 (1 + pick rA 4)] wy fun e w' => ∃ va vc, e = .returned (.tuple #[.agg #[.int .i64 r.M, .slice va r.obs.length vc], .agg #[.int .i64 r.k, .int .i64 r.n], .int .i64 r.e]) ∧
              Below wy.heap.size wy w' ∧ ∃ rows, rows.map (·.2) = r.obs ∧ HeapOwn w' wy.heap.size (.slice va r.obs.length vc) rows := fun wy hby => by
            have := alloc_any M ha hc obs (1 + pick rA 4) wy (hobs.keeps ((Keeps.below hb1).trans (Keeps.below hby)))
            rw [hmid.len, ← hrr] at this
            exact this
          clear hrr
          have p2 := (pick_bd (n := rA) (many := 4) (by omega))
          have hwr : IntKind.i64.wrap (1 + pick rA 4) = 1 + pick rA 4 := IntWalk.i64_in _ (by omega)
          go_cut [11, 12, 13] (fun s11 s12 s13 wx => ∃ (G U : Nat) (va : Option Addr) (vc : Nat), s11 = .pointer (some ⟨G, 0, none⟩) ∧ s12 = .pointer (some ⟨U, 0, none⟩) ∧ s13 = .int .i64 r.e ∧ RF W1 wx G r.M va vc r.obs ∧ W1.heap.size ≤ U ∧ wx.heap[U]? = some (.cells #[.int .i64 r.k, .int .i64 r.n] 30 (0, 0)))
          case first =>
            have hR := RS.start W1 r.obs
            refine wp_region_need (fun j => true) (fun wy => wy.cell? ⟨X, 0, none⟩ = some (.int .i64 M) ∧ wy.cell? ⟨X, 1, none⟩ = some (.slice ha n hc) ∧ wy.cell? ⟨wr.heap.size, 1, none⟩ = some (.int .i64 rA)) (by kernel_rfl) (hSof _ hR.below) (fun hS => ?_)
            generalize W1.drew = wc0 at hS hR ⊢
            refine wpAnyN_take (i := 0) (v := ?v1) rfl (by kernel_rfl) (by kernel_rfl) (by kernel_rfl) (by kernel_rfl) (fun _ _ _ h => h) (by rfl) ?hy1 hS ?rest1
            case hy1 => (intro wy hSy; (try dsimp only at hSy); go_simp; try (with_reducible rfl))
            simp only [Act.put, List.getElem_toArray, List.getElem_cons_zero, List.setIfInBounds_toArray, List.set_cons_zero, List.set_cons_succ]
            refine wpAnyN_take (i := 1) (v := ?v2) rfl (by kernel_rfl) (by kernel_rfl) (by kernel_rfl) (by kernel_rfl) (fun _ _ _ h => h) (by rfl) ?hy2 hS ?rest2
            case hy2 => (intro wy hSy; (try dsimp only at hSy); go_simp; try (with_reducible rfl))
            simp only [Act.put, List.getElem_toArray, List.getElem_cons_zero, List.getElem_cons_succ, List.setIfInBounds_toArray, List.set_cons_zero, List.set_cons_succ]
            refine wpAnyN_take (i := 2) (v := ?v3) rfl (by kernel_rfl) (by kernel_rfl) (by kernel_rfl) (by kernel_rfl) (fun _ _ _ h => h) (by rfl) ?hy3 hS ?rest3
            case hy3 => (intro wy hSy; (try dsimp only at hSy); go_simp; try (with_reducible rfl))
            simp only [Act.put, List.getElem_toArray, List.getElem_cons_zero, List.getElem_cons_succ, List.setIfInBounds_toArray, List.set_cons_zero, List.set_cons_succ]
            refine wpAnyN_three (i := 3) (j := 10) (l := 11) (by kernel_rfl) rfl rfl rfl (fun K hK => ?_) (fun K hK => ?_) (fun K hK => ?_)
            · simp only [List.getElem_toArray, List.getElem_cons_zero, List.getElem_cons_succ]
              go_simp
              refine (picked_any rA 4 _ q2.1 q2.2 (by omega) (by omega)).mono ?_
              rintro e wz ⟨rfl, rfl⟩
              refine hK.out _ _ (fun _ => hS) ?_
              clear hK
              try simp only [Act.put, List.getElem_toArray, List.getElem_cons_zero, List.getElem_cons_succ, List.setIfInBounds_toArray, List.set_cons_zero, List.set_cons_succ]
              refine wpAnyN_take (i := 4) (v := ?v4) rfl (by kernel_rfl) (by kernel_rfl) (by kernel_rfl) (by kernel_rfl) (fun _ _ _ h => h) (by rfl) ?hy4 hS ?rest4
              case hy4 => (intro wy hSy; (try dsimp only at hSy); go_simp; try (with_reducible rfl))
              simp only [Act.put, List.getElem_toArray, List.getElem_cons_zero, List.getElem_cons_succ, List.setIfInBounds_toArray, List.set_cons_zero, List.set_cons_succ]
              refine wpAnyN_three (i := 5) (j := 10) (l := 11) (by kernel_rfl) rfl rfl rfl (fun K hK => ?_) (fun K hK => ?_) (fun K hK => ?_)
              · simp only [List.getElem_toArray, List.getElem_cons_zero, List.getElem_cons_succ]
                go_simp
                try rw [hwr]
                refine (hAl _ hR.below).mono ?_
                rintro e wc1 ⟨va, vc, rfl, hb2, rows2, hr2, hO2⟩
                have hRn := hR.call hb2 hO2 hr2
                refine hK.out _ _ (fun _ => hSof _ hRn.below) ?_
                clear hK
                replace hS := hSof _ hRn.below
                replace hR := hRn
                clear hRn hb2 hO2 hr2
                try simp only [Act.put, List.getElem_toArray, List.getElem_cons_zero, List.getElem_cons_succ, List.setIfInBounds_toArray, List.set_cons_zero, List.set_cons_succ]
                refine wpAnyN_take (i := 6) (v := ?v5) rfl (by kernel_rfl) (by kernel_rfl) (by kernel_rfl) (by kernel_rfl) (fun _ _ _ h => h) (by rfl) ?hy5 hS ?rest5
                case hy5 => (intro wy hSy; (try dsimp only at hSy); go_simp; try (with_reducible rfl))
                simp only [Act.put, List.getElem_toArray, List.getElem_cons_zero, List.getElem_cons_succ, List.setIfInBounds_toArray, List.set_cons_zero, List.set_cons_succ]
                refine wpAnyN_take (i := 7) (v := ?v6) rfl (by kernel_rfl) (by kernel_rfl) (by kernel_rfl) (by kernel_rfl) (fun _ _ _ h => h) (by rfl) ?hy6 hS ?rest6
                case hy6 => (intro wy hSy; (try dsimp only at hSy); go_simp; try (with_reducible rfl))
                simp only [Act.put, List.getElem_toArray, List.getElem_cons_zero, List.getElem_cons_succ, List.setIfInBounds_toArray, List.set_cons_zero, List.set_cons_succ]
                refine wpAnyN_take (i := 8) (v := ?v7) rfl (by kernel_rfl) (by kernel_rfl) (by kernel_rfl) (by kernel_rfl) (fun _ _ _ h => h) (by rfl) ?hy7 hS ?rest7
                case hy7 => (intro wy hSy; (try dsimp only at hSy); go_simp; try (with_reducible rfl))
                simp only [Act.put, List.getElem_toArray, List.getElem_cons_zero, List.getElem_cons_succ, List.setIfInBounds_toArray, List.set_cons_zero, List.set_cons_succ]
                refine wpAnyN_take (i := 9) (v := ?v8) rfl (by kernel_rfl) (by kernel_rfl) (by kernel_rfl) (by kernel_rfl) (fun _ _ _ h => h) (by rfl) ?hy8 hS ?rest8
                case hy8 => (intro wy hSy; (try dsimp only at hSy); go_simp; try (with_reducible rfl))
                simp only [Act.put, List.getElem_toArray, List.getElem_cons_zero, List.getElem_cons_succ, List.setIfInBounds_toArray, List.set_cons_zero, List.set_cons_succ]
                refine wpAnyN_two (i := 10) (j := 11) (by kernel_rfl) rfl rfl (fun K hK => ?_) (fun K hK => ?_)
                · simp only [List.getElem_toArray, List.getElem_cons_zero, List.getElem_cons_succ]
                  go_simp
                  have hRn := hR.allocG
                  clear hR hS
                  generalize wc1.alloc (Obj.cells #[.int .i64 0, .slice none 0 0] 25) = wc2 at hRn ⊢
                  generalize wc1.heap.size = Gb at hRn ⊢
                  refine hK.out _ _ (fun _ => hSof _ hRn.below) ?_
                  clear hK
                  have hS := hSof _ hRn.below
                  have hR := hRn
                  clear hRn
                  try simp only [Act.put, List.getElem_toArray, List.getElem_cons_zero, List.getElem_cons_succ, List.setIfInBounds_toArray, List.set_cons_zero, List.set_cons_succ]
                  refine wpAnyN_one (i := 11) (by kernel_rfl) rfl (fun K hK => ?_)
                  simp only [List.getElem_toArray, List.getElem_cons_zero, List.getElem_cons_succ]
                  go_simp
                  have hRn := hR.allocV
                  clear hR hS
                  generalize wc2.alloc (Obj.cells #[.int .i64 0, .int .i64 0] 30) = wc3 at hRn ⊢
                  generalize wc2.heap.size = Vb at hRn ⊢
                  refine hK.out _ _ (fun _ => hSof _ hRn.below) ?_
                  clear hK
                  have hS := hSof _ hRn.below
                  have hR := hRn
                  clear hRn
                  try simp only [Act.put, List.getElem_toArray, List.getElem_cons_zero, List.getElem_cons_succ, List.setIfInBounds_toArray, List.set_cons_zero, List.set_cons_succ]
                  obtain ⟨hF, hV1, hV2⟩ := hR.both r.M r.k r.n
                  obtain ⟨fg, fv, x1, x2, x3, x4, x5, x6⟩ := hR.cells
                  refine wpAnyN_one (i := 12) (by kernel_rfl) rfl (fun K hK => ?_)
                  simp only [List.getElem_toArray, List.getElem_cons_zero, List.getElem_cons_succ]
                  go_simp
                  refine hK.out _ _ (fun _ => hSof _ (hR.storeG (.int .i64 r.M) (.slice va r.obs.length vc))) ?_
                  clear hK
                  replace hS := hSof _ (hR.storeG (.int .i64 r.M) (.slice va r.obs.length vc))
                  refine wpAnyN_one (i := 13) (by kernel_rfl) rfl (fun K hK => ?_)
                  simp only [List.getElem_toArray, List.getElem_cons_zero, List.getElem_cons_succ]
                  go_simp
                  refine hK.out _ _ (fun _ => hSof _ hF.below) ?_
                  clear hK
                  replace hS := hSof _ hF.below
                  refine wpAnyN_one (i := 14) (by kernel_rfl) rfl (fun K hK => ?_)
                  simp only [List.getElem_toArray, List.getElem_cons_zero, List.getElem_cons_succ]
                  go_simp
                  refine hK.out _ _ (fun _ => hS) ?_
                  clear hK
                  refine wpAnyN_done (by kernel_rfl) ?_ _
                  refine NoPanic.normal ?_
                  go_wp2_with fail
                  go_meet
                  case rel => exact ⟨_, _, va, vc, rfl, rfl, rfl, hF, hV1, hV2⟩
                · simp only [List.getElem_toArray, List.getElem_cons_zero, List.getElem_cons_succ]
                  go_simp
                  have hRn := hR.allocV
                  clear hR hS
                  generalize wc1.alloc (Obj.cells #[.int .i64 0, .int .i64 0] 30) = wc2 at hRn ⊢
                  generalize wc1.heap.size = Vb at hRn ⊢
                  refine hK.out _ _ (fun _ => hSof _ hRn.below) ?_
                  clear hK
                  have hS := hSof _ hRn.below
                  have hR := hRn
                  clear hRn
                  try simp only [Act.put, List.getElem_toArray, List.getElem_cons_zero, List.getElem_cons_succ, List.setIfInBounds_toArray, List.set_cons_zero, List.set_cons_succ]
                  refine wpAnyN_one (i := 10) (by kernel_rfl) rfl (fun K hK => ?_)
                  simp only [List.getElem_toArray, List.getElem_cons_zero, List.getElem_cons_succ]
                  go_simp
                  have hRn := hR.allocG
                  clear hR hS
                  generalize wc2.alloc (Obj.cells #[.int .i64 0, .slice none 0 0] 25) = wc3 at hRn ⊢
                  generalize wc2.heap.size = Gb at hRn ⊢
                  refine hK.out _ _ (fun _ => hSof _ hRn.below) ?_
                  clear hK
                  have hS := hSof _ hRn.below
                  have hR := hRn
                  clear hRn
                  try simp only [Act.put, List.getElem_toArray, List.getElem_cons_zero, List.getElem_cons_succ, List.setIfInBounds_toArray, List.set_cons_zero, List.set_cons_succ]
                  obtain ⟨hF, hV1, hV2⟩ := hR.both r.M r.k r.n
                  obtain ⟨fg, fv, x1, x2, x3, x4, x5, x6⟩ := hR.cells
                  refine wpAnyN_one (i := 12) (by kernel_rfl) rfl (fun K hK => ?_)
                  simp only [List.getElem_toArray, List.getElem_cons_zero, List.getElem_cons_succ]
                  go_simp
                  refine hK.out _ _ (fun _ => hSof _ (hR.storeG (.int .i64 r.M) (.slice va r.obs.length vc))) ?_
                  clear hK
                  replace hS := hSof _ (hR.storeG (.int .i64 r.M) (.slice va r.obs.length vc))
                  refine wpAnyN_one (i := 13) (by kernel_rfl) rfl (fun K hK => ?_)
                  simp only [List.getElem_toArray, List.getElem_cons_zero, List.getElem_cons_succ]
                  go_simp
                  refine hK.out _ _ (fun _ => hSof _ hF.below) ?_
                  clear hK
                  replace hS := hSof _ hF.below
                  refine wpAnyN_one (i := 14) (by kernel_rfl) rfl (fun K hK => ?_)
                  simp only [List.getElem_toArray, List.getElem_cons_zero, List.getElem_cons_succ]
                  go_simp
                  refine hK.out _ _ (fun _ => hS) ?_
                  clear hK
                  refine wpAnyN_done (by kernel_rfl) ?_ _
                  refine NoPanic.normal ?_
                  go_wp2_with fail
                  go_meet
                  case rel => exact ⟨_, _, va, vc, rfl, rfl, rfl, hF, hV1, hV2⟩
              · simp only [List.getElem_toArray, List.getElem_cons_zero, List.getElem_cons_succ]
                go_simp
                have hRn := hR.allocG
                clear hR hS
                generalize wc0.alloc (Obj.cells #[.int .i64 0, .slice none 0 0] 25) = wc1 at hRn ⊢
                generalize wc0.heap.size = Gb at hRn ⊢
                refine hK.out _ _ (fun _ => hSof _ hRn.below) ?_
                clear hK
                have hS := hSof _ hRn.below
                have hR := hRn
                clear hRn
                try simp only [Act.put, List.getElem_toArray, List.getElem_cons_zero, List.getElem_cons_succ, List.setIfInBounds_toArray, List.set_cons_zero, List.set_cons_succ]
                refine wpAnyN_two (i := 5) (j := 11) (by kernel_rfl) rfl rfl (fun K hK => ?_) (fun K hK => ?_)
                · simp only [List.getElem_toArray, List.getElem_cons_zero, List.getElem_cons_succ]
                  go_simp
                  try rw [hwr]
                  refine (hAl _ hR.below).mono ?_
                  rintro e wc2 ⟨va, vc, rfl, hb2, rows2, hr2, hO2⟩
                  have hRn := hR.call hb2 hO2 hr2
                  refine hK.out _ _ (fun _ => hSof _ hRn.below) ?_
                  clear hK
                  replace hS := hSof _ hRn.below
                  replace hR := hRn
                  clear hRn hb2 hO2 hr2
                  try simp only [Act.put, List.getElem_toArray, List.getElem_cons_zero, List.getElem_cons_succ, List.setIfInBounds_toArray, List.set_cons_zero, List.set_cons_succ]
                  refine wpAnyN_take (i := 6) (v := ?v9) rfl (by kernel_rfl) (by kernel_rfl) (by kernel_rfl) (by kernel_rfl) (fun _ _ _ h => h) (by rfl) ?hy9 hS ?rest9
                  case hy9 => (intro wy hSy; (try dsimp only at hSy); go_simp; try (with_reducible rfl))
                  simp only [Act.put, List.getElem_toArray, List.getElem_cons_zero, List.getElem_cons_succ, List.setIfInBounds_toArray, List.set_cons_zero, List.set_cons_succ]
                  refine wpAnyN_take (i := 7) (v := ?v10) rfl (by kernel_rfl) (by kernel_rfl) (by kernel_rfl) (by kernel_rfl) (fun _ _ _ h => h) (by rfl) ?hy10 hS ?rest10
                  case hy10 => (intro wy hSy; (try dsimp only at hSy); go_simp; try (with_reducible rfl))
                  simp only [Act.put, List.getElem_toArray, List.getElem_cons_zero, List.getElem_cons_succ, List.setIfInBounds_toArray, List.set_cons_zero, List.set_cons_succ]
                  refine wpAnyN_take (i := 8) (v := ?v11) rfl (by kernel_rfl) (by kernel_rfl) (by kernel_rfl) (by kernel_rfl) (fun _ _ _ h => h) (by rfl) ?hy11 hS ?rest11
                  case hy11 => (intro wy hSy; (try dsimp only at hSy); go_simp; try (with_reducible rfl))
                  simp only [Act.put, List.getElem_toArray, List.getElem_cons_zero, List.getElem_cons_succ, List.setIfInBounds_toArray, List.set_cons_zero, List.set_cons_succ]
                  refine wpAnyN_take (i := 9) (v := ?v12) rfl (by kernel_rfl) (by kernel_rfl) (by kernel_rfl) (by kernel_rfl) (fun _ _ _ h => h) (by rfl) ?hy12 hS ?rest12
                  case hy12 => (intro wy hSy; (try dsimp only at hSy); go_simp; try (with_reducible rfl))
                  simp only [Act.put, List.getElem_toArray, List.getElem_cons_zero, List.getElem_cons_succ, List.setIfInBounds_toArray, List.set_cons_zero, List.set_cons_succ]
                  refine wpAnyN_one (i := 11) (by kernel_rfl) rfl (fun K hK => ?_)
                  simp only [List.getElem_toArray, List.getElem_cons_zero, List.getElem_cons_succ]
                  go_simp
                  have hRn := hR.allocV
                  clear hR hS
                  generalize wc2.alloc (Obj.cells #[.int .i64 0, .int .i64 0] 30) = wc3 at hRn ⊢
                  generalize wc2.heap.size = Vb at hRn ⊢
                  refine hK.out _ _ (fun _ => hSof _ hRn.below) ?_
                  clear hK
                  have hS := hSof _ hRn.below
                  have hR := hRn
                  clear hRn
                  try simp only [Act.put, List.getElem_toArray, List.getElem_cons_zero, List.getElem_cons_succ, List.setIfInBounds_toArray, List.set_cons_zero, List.set_cons_succ]
                  obtain ⟨hF, hV1, hV2⟩ := hR.both r.M r.k r.n
                  obtain ⟨fg, fv, x1, x2, x3, x4, x5, x6⟩ := hR.cells
                  refine wpAnyN_one (i := 12) (by kernel_rfl) rfl (fun K hK => ?_)
                  simp only [List.getElem_toArray, List.getElem_cons_zero, List.getElem_cons_succ]
                  go_simp
                  refine hK.out _ _ (fun _ => hSof _ (hR.storeG (.int .i64 r.M) (.slice va r.obs.length vc))) ?_
                  clear hK
                  replace hS := hSof _ (hR.storeG (.int .i64 r.M) (.slice va r.obs.length vc))
                  refine wpAnyN_one (i := 13) (by kernel_rfl) rfl (fun K hK => ?_)
                  simp only [List.getElem_toArray, List.getElem_cons_zero, List.getElem_cons_succ]
                  go_simp
                  refine hK.out _ _ (fun _ => hSof _ hF.below) ?_
                  clear hK
                  replace hS := hSof _ hF.below
                  refine wpAnyN_one (i := 14) (by kernel_rfl) rfl (fun K hK => ?_)
                  simp only [List.getElem_toArray, List.getElem_cons_zero, List.getElem_cons_succ]
                  go_simp
                  refine hK.out _ _ (fun _ => hS) ?_
                  clear hK
                  refine wpAnyN_done (by kernel_rfl) ?_ _
                  refine NoPanic.normal ?_
                  go_wp2_with fail
                  go_meet
                  case rel => exact ⟨_, _, va, vc, rfl, rfl, rfl, hF, hV1, hV2⟩
                · simp only [List.getElem_toArray, List.getElem_cons_zero, List.getElem_cons_succ]
                  go_simp
                  have hRn := hR.allocV
                  clear hR hS
                  generalize wc1.alloc (Obj.cells #[.int .i64 0, .int .i64 0] 30) = wc2 at hRn ⊢
                  generalize wc1.heap.size = Vb at hRn ⊢
                  refine hK.out _ _ (fun _ => hSof _ hRn.below) ?_
                  clear hK
                  have hS := hSof _ hRn.below
                  have hR := hRn
                  clear hRn
                  try simp only [Act.put, List.getElem_toArray, List.getElem_cons_zero, List.getElem_cons_succ, List.setIfInBounds_toArray, List.set_cons_zero, List.set_cons_succ]
                  refine wpAnyN_one (i := 5) (by kernel_rfl) rfl (fun K hK => ?_)
                  simp only [List.getElem_toArray, List.getElem_cons_zero, List.getElem_cons_succ]
                  go_simp
                  try rw [hwr]
                  refine (hAl _ hR.below).mono ?_
                  rintro e wc3 ⟨va, vc, rfl, hb2, rows2, hr2, hO2⟩
                  have hRn := hR.call hb2 hO2 hr2
                  refine hK.out _ _ (fun _ => hSof _ hRn.below) ?_
                  clear hK
                  replace hS := hSof _ hRn.below
                  replace hR := hRn
                  clear hRn hb2 hO2 hr2
                  try simp only [Act.put, List.getElem_toArray, List.getElem_cons_zero, List.getElem_cons_succ, List.setIfInBounds_toArray, List.set_cons_zero, List.set_cons_succ]
                  refine wpAnyN_take (i := 6) (v := ?v13) rfl (by kernel_rfl) (by kernel_rfl) (by kernel_rfl) (by kernel_rfl) (fun _ _ _ h => h) (by rfl) ?hy13 hS ?rest13
                  case hy13 => (intro wy hSy; (try dsimp only at hSy); go_simp; try (with_reducible rfl))
                  simp only [Act.put, List.getElem_toArray, List.getElem_cons_zero, List.getElem_cons_succ, List.setIfInBounds_toArray, List.set_cons_zero, List.set_cons_succ]
                  refine wpAnyN_take (i := 7) (v := ?v14) rfl (by kernel_rfl) (by kernel_rfl) (by kernel_rfl) (by kernel_rfl) (fun _ _ _ h => h) (by rfl) ?hy14 hS ?rest14
                  case hy14 => (intro wy hSy; (try dsimp only at hSy); go_simp; try (with_reducible rfl))
                  simp only [Act.put, List.getElem_toArray, List.getElem_cons_zero, List.getElem_cons_succ, List.setIfInBounds_toArray, List.set_cons_zero, List.set_cons_succ]
                  refine wpAnyN_take (i := 8) (v := ?v15) rfl (by kernel_rfl) (by kernel_rfl) (by kernel_rfl) (by kernel_rfl) (fun _ _ _ h => h) (by rfl) ?hy15 hS ?rest15
                  case hy15 => (intro wy hSy; (try dsimp only at hSy); go_simp; try (with_reducible rfl))
                  simp only [Act.put, List.getElem_toArray, List.getElem_cons_zero, List.getElem_cons_succ, List.setIfInBounds_toArray, List.set_cons_zero, List.set_cons_succ]
                  refine wpAnyN_take (i := 9) (v := ?v16) rfl (by kernel_rfl) (by kernel_rfl) (by kernel_rfl) (by kernel_rfl) (fun _ _ _ h => h) (by rfl) ?hy16 hS ?rest16
                  case hy16 => (intro wy hSy; (try dsimp only at hSy); go_simp; try (with_reducible rfl))
                  simp only [Act.put, List.getElem_toArray, List.getElem_cons_zero, List.getElem_cons_succ, List.setIfInBounds_toArray, List.set_cons_zero, List.set_cons_succ]
                  obtain ⟨hF, hV1, hV2⟩ := hR.both r.M r.k r.n
                  obtain ⟨fg, fv, x1, x2, x3, x4, x5, x6⟩ := hR.cells
                  refine wpAnyN_one (i := 12) (by kernel_rfl) rfl (fun K hK => ?_)
                  simp only [List.getElem_toArray, List.getElem_cons_zero, List.getElem_cons_succ]
                  go_simp
                  refine hK.out _ _ (fun _ => hSof _ (hR.storeG (.int .i64 r.M) (.slice va r.obs.length vc))) ?_
                  clear hK
                  replace hS := hSof _ (hR.storeG (.int .i64 r.M) (.slice va r.obs.length vc))
                  refine wpAnyN_one (i := 13) (by kernel_rfl) rfl (fun K hK => ?_)
                  simp only [List.getElem_toArray, List.getElem_cons_zero, List.getElem_cons_succ]
                  go_simp
                  refine hK.out _ _ (fun _ => hSof _ hF.below) ?_
                  clear hK
                  replace hS := hSof _ hF.below
                  refine wpAnyN_one (i := 14) (by kernel_rfl) rfl (fun K hK => ?_)
                  simp only [List.getElem_toArray, List.getElem_cons_zero, List.getElem_cons_succ]
                  go_simp
                  refine hK.out _ _ (fun _ => hS) ?_
                  clear hK
                  refine wpAnyN_done (by kernel_rfl) ?_ _
                  refine NoPanic.normal ?_
                  go_wp2_with fail
                  go_meet
                  case rel => exact ⟨_, _, va, vc, rfl, rfl, rfl, hF, hV1, hV2⟩
              · simp only [List.getElem_toArray, List.getElem_cons_zero, List.getElem_cons_succ]
                go_simp
                have hRn := hR.allocV
                clear hR hS
                generalize wc0.alloc (Obj.cells #[.int .i64 0, .int .i64 0] 30) = wc1 at hRn ⊢
                generalize wc0.heap.size = Vb at hRn ⊢
                refine hK.out _ _ (fun _ => hSof _ hRn.below) ?_
                clear hK
                have hS := hSof _ hRn.below
                have hR := hRn
                clear hRn
                try simp only [Act.put, List.getElem_toArray, List.getElem_cons_zero, List.getElem_cons_succ, List.setIfInBounds_toArray, List.set_cons_zero, List.set_cons_succ]
                refine wpAnyN_two (i := 5) (j := 10) (by kernel_rfl) rfl rfl (fun K hK => ?_) (fun K hK => ?_)
                · simp only [List.getElem_toArray, List.getElem_cons_zero, List.getElem_cons_succ]
                  go_simp
                  try rw [hwr]
                  refine (hAl _ hR.below).mono ?_
                  rintro e wc2 ⟨va, vc, rfl, hb2, rows2, hr2, hO2⟩
                  have hRn := hR.call hb2 hO2 hr2
                  refine hK.out _ _ (fun _ => hSof _ hRn.below) ?_
                  clear hK
                  replace hS := hSof _ hRn.below
                  replace hR := hRn
                  clear hRn hb2 hO2 hr2
                  try simp only [Act.put, List.getElem_toArray, List.getElem_cons_zero, List.getElem_cons_succ, List.setIfInBounds_toArray, List.set_cons_zero, List.set_cons_succ]
                  refine wpAnyN_take (i := 6) (v := ?v17) rfl (by kernel_rfl) (by kernel_rfl) (by kernel_rfl) (by kernel_rfl) (fun _ _ _ h => h) (by rfl) ?hy17 hS ?rest17
                  case hy17 => (intro wy hSy; (try dsimp only at hSy); go_simp; try (with_reducible rfl))
                  simp only [Act.put, List.getElem_toArray, List.getElem_cons_zero, List.getElem_cons_succ, List.setIfInBounds_toArray, List.set_cons_zero, List.set_cons_succ]
                  refine wpAnyN_take (i := 7) (v := ?v18) rfl (by kernel_rfl) (by kernel_rfl) (by kernel_rfl) (by kernel_rfl) (fun _ _ _ h => h) (by rfl) ?hy18 hS ?rest18
                  case hy18 => (intro wy hSy; (try dsimp only at hSy); go_simp; try (with_reducible rfl))
                  simp only [Act.put, List.getElem_toArray, List.getElem_cons_zero, List.getElem_cons_succ, List.setIfInBounds_toArray, List.set_cons_zero, List.set_cons_succ]
                  refine wpAnyN_take (i := 8) (v := ?v19) rfl (by kernel_rfl) (by kernel_rfl) (by kernel_rfl) (by kernel_rfl) (fun _ _ _ h => h) (by rfl) ?hy19 hS ?rest19
                  case hy19 => (intro wy hSy; (try dsimp only at hSy); go_simp; try (with_reducible rfl))
                  simp only [Act.put, List.getElem_toArray, List.getElem_cons_zero, List.getElem_cons_succ, List.setIfInBounds_toArray, List.set_cons_zero, List.set_cons_succ]
                  refine wpAnyN_take (i := 9) (v := ?v20) rfl (by kernel_rfl) (by kernel_rfl) (by kernel_rfl) (by kernel_rfl) (fun _ _ _ h => h) (by rfl) ?hy20 hS ?rest20
                  case hy20 => (intro wy hSy; (try dsimp only at hSy); go_simp; try (with_reducible rfl))
                  simp only [Act.put, List.getElem_toArray, List.getElem_cons_zero, List.getElem_cons_succ, List.setIfInBounds_toArray, List.set_cons_zero, List.set_cons_succ]
                  refine wpAnyN_one (i := 10) (by kernel_rfl) rfl (fun K hK => ?_)
                  simp only [List.getElem_toArray, List.getElem_cons_zero, List.getElem_cons_succ]
                  go_simp
                  have hRn := hR.allocG
                  clear hR hS
                  generalize wc2.alloc (Obj.cells #[.int .i64 0, .slice none 0 0] 25) = wc3 at hRn ⊢
                  generalize wc2.heap.size = Gb at hRn ⊢
                  refine hK.out _ _ (fun _ => hSof _ hRn.below) ?_
                  clear hK
                  have hS := hSof _ hRn.below
                  have hR := hRn
                  clear hRn
                  try simp only [Act.put, List.getElem_toArray, List.getElem_cons_zero, List.getElem_cons_succ, List.setIfInBounds_toArray, List.set_cons_zero, List.set_cons_succ]
                  obtain ⟨hF, hV1, hV2⟩ := hR.both r.M r.k r.n
                  obtain ⟨fg, fv, x1, x2, x3, x4, x5, x6⟩ := hR.cells
                  refine wpAnyN_one (i := 12) (by kernel_rfl) rfl (fun K hK => ?_)
                  simp only [List.getElem_toArray, List.getElem_cons_zero, List.getElem_cons_succ]
                  go_simp
                  refine hK.out _ _ (fun _ => hSof _ (hR.storeG (.int .i64 r.M) (.slice va r.obs.length vc))) ?_
                  clear hK
                  replace hS := hSof _ (hR.storeG (.int .i64 r.M) (.slice va r.obs.length vc))
                  refine wpAnyN_one (i := 13) (by kernel_rfl) rfl (fun K hK => ?_)
                  simp only [List.getElem_toArray, List.getElem_cons_zero, List.getElem_cons_succ]
                  go_simp
                  refine hK.out _ _ (fun _ => hSof _ hF.below) ?_
                  clear hK
                  replace hS := hSof _ hF.below
                  refine wpAnyN_one (i := 14) (by kernel_rfl) rfl (fun K hK => ?_)
                  simp only [List.getElem_toArray, List.getElem_cons_zero, List.getElem_cons_succ]
                  go_simp
                  refine hK.out _ _ (fun _ => hS) ?_
                  clear hK
                  refine wpAnyN_done (by kernel_rfl) ?_ _
                  refine NoPanic.normal ?_
                  go_wp2_with fail
                  go_meet
                  case rel => exact ⟨_, _, va, vc, rfl, rfl, rfl, hF, hV1, hV2⟩
                · simp only [List.getElem_toArray, List.getElem_cons_zero, List.getElem_cons_succ]
                  go_simp
                  have hRn := hR.allocG
                  clear hR hS
                  generalize wc1.alloc (Obj.cells #[.int .i64 0, .slice none 0 0] 25) = wc2 at hRn ⊢
                  generalize wc1.heap.size = Gb at hRn ⊢
                  refine hK.out _ _ (fun _ => hSof _ hRn.below) ?_
                  clear hK
                  have hS := hSof _ hRn.below
                  have hR := hRn
                  clear hRn
                  try simp only [Act.put, List.getElem_toArray, List.getElem_cons_zero, List.getElem_cons_succ, List.setIfInBounds_toArray, List.set_cons_zero, List.set_cons_succ]
                  refine wpAnyN_one (i := 5) (by kernel_rfl) rfl (fun K hK => ?_)
                  simp only [List.getElem_toArray, List.getElem_cons_zero, List.getElem_cons_succ]
                  go_simp
                  try rw [hwr]
                  refine (hAl _ hR.below).mono ?_
                  rintro e wc3 ⟨va, vc, rfl, hb2, rows2, hr2, hO2⟩
                  have hRn := hR.call hb2 hO2 hr2
                  refine hK.out _ _ (fun _ => hSof _ hRn.below) ?_
                  clear hK
                  replace hS := hSof _ hRn.below
                  replace hR := hRn
                  clear hRn hb2 hO2 hr2
                  try simp only [Act.put, List.getElem_toArray, List.getElem_cons_zero, List.getElem_cons_succ, List.setIfInBounds_toArray, List.set_cons_zero, List.set_cons_succ]
                  refine wpAnyN_take (i := 6) (v := ?v21) rfl (by kernel_rfl) (by kernel_rfl) (by kernel_rfl) (by kernel_rfl) (fun _ _ _ h => h) (by rfl) ?hy21 hS ?rest21
                  case hy21 => (intro wy hSy; (try dsimp only at hSy); go_simp; try (with_reducible rfl))
                  simp only [Act.put, List.getElem_toArray, List.getElem_cons_zero, List.getElem_cons_succ, List.setIfInBounds_toArray, List.set_cons_zero, List.set_cons_succ]
                  refine wpAnyN_take (i := 7) (v := ?v22) rfl (by kernel_rfl) (by kernel_rfl) (by kernel_rfl) (by kernel_rfl) (fun _ _ _ h => h) (by rfl) ?hy22 hS ?rest22
                  case hy22 => (intro wy hSy; (try dsimp only at hSy); go_simp; try (with_reducible rfl))
                  simp only [Act.put, List.getElem_toArray, List.getElem_cons_zero, List.getElem_cons_succ, List.setIfInBounds_toArray, List.set_cons_zero, List.set_cons_succ]
                  refine wpAnyN_take (i := 8) (v := ?v23) rfl (by kernel_rfl) (by kernel_rfl) (by kernel_rfl) (by kernel_rfl) (fun _ _ _ h => h) (by rfl) ?hy23 hS ?rest23
                  case hy23 => (intro wy hSy; (try dsimp only at hSy); go_simp; try (with_reducible rfl))
                  simp only [Act.put, List.getElem_toArray, List.getElem_cons_zero, List.getElem_cons_succ, List.setIfInBounds_toArray, List.set_cons_zero, List.set_cons_succ]
                  refine wpAnyN_take (i := 9) (v := ?v24) rfl (by kernel_rfl) (by kernel_rfl) (by kernel_rfl) (by kernel_rfl) (fun _ _ _ h => h) (by rfl) ?hy24 hS ?rest24
                  case hy24 => (intro wy hSy; (try dsimp only at hSy); go_simp; try (with_reducible rfl))
                  simp only [Act.put, List.getElem_toArray, List.getElem_cons_zero, List.getElem_cons_succ, List.setIfInBounds_toArray, List.set_cons_zero, List.set_cons_succ]
                  obtain ⟨hF, hV1, hV2⟩ := hR.both r.M r.k r.n
                  obtain ⟨fg, fv, x1, x2, x3, x4, x5, x6⟩ := hR.cells
                  refine wpAnyN_one (i := 12) (by kernel_rfl) rfl (fun K hK => ?_)
                  simp only [List.getElem_toArray, List.getElem_cons_zero, List.getElem_cons_succ]
                  go_simp
                  refine hK.out _ _ (fun _ => hSof _ (hR.storeG (.int .i64 r.M) (.slice va r.obs.length vc))) ?_
                  clear hK
                  replace hS := hSof _ (hR.storeG (.int .i64 r.M) (.slice va r.obs.length vc))
                  refine wpAnyN_one (i := 13) (by kernel_rfl) rfl (fun K hK => ?_)
                  simp only [List.getElem_toArray, List.getElem_cons_zero, List.getElem_cons_succ]
                  go_simp
                  refine hK.out _ _ (fun _ => hSof _ hF.below) ?_
                  clear hK
                  replace hS := hSof _ hF.below
                  refine wpAnyN_one (i := 14) (by kernel_rfl) rfl (fun K hK => ?_)
                  simp only [List.getElem_toArray, List.getElem_cons_zero, List.getElem_cons_succ]
                  go_simp
                  refine hK.out _ _ (fun _ => hS) ?_
                  clear hK
                  refine wpAnyN_done (by kernel_rfl) ?_ _
                  refine NoPanic.normal ?_
                  go_wp2_with fail
                  go_meet
                  case rel => exact ⟨_, _, va, vc, rfl, rfl, rfl, hF, hV1, hV2⟩
            · simp only [List.getElem_toArray, List.getElem_cons_zero, List.getElem_cons_succ]
              go_simp
              have hRn := hR.allocG
              clear hR hS
              generalize wc0.alloc (Obj.cells #[.int .i64 0, .slice none 0 0] 25) = wc1 at hRn ⊢
              generalize wc0.heap.size = Gb at hRn ⊢
              refine hK.out _ _ (fun _ => hSof _ hRn.below) ?_
              clear hK
              have hS := hSof _ hRn.below
              have hR := hRn
              clear hRn
              try simp only [Act.put, List.getElem_toArray, List.getElem_cons_zero, List.getElem_cons_succ, List.setIfInBounds_toArray, List.set_cons_zero, List.set_cons_succ]
              refine wpAnyN_two (i := 3) (j := 11) (by kernel_rfl) rfl rfl (fun K hK => ?_) (fun K hK => ?_)
              · simp only [List.getElem_toArray, List.getElem_cons_zero, List.getElem_cons_succ]
                go_simp
                refine (picked_any rA 4 _ q2.1 q2.2 (by omega) (by omega)).mono ?_
                rintro e wz ⟨rfl, rfl⟩
                refine hK.out _ _ (fun _ => hS) ?_
                clear hK
                try simp only [Act.put, List.getElem_toArray, List.getElem_cons_zero, List.getElem_cons_succ, List.setIfInBounds_toArray, List.set_cons_zero, List.set_cons_succ]
                refine wpAnyN_take (i := 4) (v := ?v25) rfl (by kernel_rfl) (by kernel_rfl) (by kernel_rfl) (by kernel_rfl) (fun _ _ _ h => h) (by rfl) ?hy25 hS ?rest25
                case hy25 => (intro wy hSy; (try dsimp only at hSy); go_simp; try (with_reducible rfl))
                simp only [Act.put, List.getElem_toArray, List.getElem_cons_zero, List.getElem_cons_succ, List.setIfInBounds_toArray, List.set_cons_zero, List.set_cons_succ]
                refine wpAnyN_two (i := 5) (j := 11) (by kernel_rfl) rfl rfl (fun K hK => ?_) (fun K hK => ?_)
                · simp only [List.getElem_toArray, List.getElem_cons_zero, List.getElem_cons_succ]
                  go_simp
                  try rw [hwr]
                  refine (hAl _ hR.below).mono ?_
                  rintro e wc2 ⟨va, vc, rfl, hb2, rows2, hr2, hO2⟩
                  have hRn := hR.call hb2 hO2 hr2
                  refine hK.out _ _ (fun _ => hSof _ hRn.below) ?_
                  clear hK
                  replace hS := hSof _ hRn.below
                  replace hR := hRn
                  clear hRn hb2 hO2 hr2
                  try simp only [Act.put, List.getElem_toArray, List.getElem_cons_zero, List.getElem_cons_succ, List.setIfInBounds_toArray, List.set_cons_zero, List.set_cons_succ]
                  refine wpAnyN_take (i := 6) (v := ?v26) rfl (by kernel_rfl) (by kernel_rfl) (by kernel_rfl) (by kernel_rfl) (fun _ _ _ h => h) (by rfl) ?hy26 hS ?rest26
                  case hy26 => (intro wy hSy; (try dsimp only at hSy); go_simp; try (with_reducible rfl))
                  simp only [Act.put, List.getElem_toArray, List.getElem_cons_zero, List.getElem_cons_succ, List.setIfInBounds_toArray, List.set_cons_zero, List.set_cons_succ]
                  refine wpAnyN_take (i := 7) (v := ?v27) rfl (by kernel_rfl) (by kernel_rfl) (by kernel_rfl) (by kernel_rfl) (fun _ _ _ h => h) (by rfl) ?hy27 hS ?rest27
                  case hy27 => (intro wy hSy; (try dsimp only at hSy); go_simp; try (with_reducible rfl))
                  simp only [Act.put, List.getElem_toArray, List.getElem_cons_zero, List.getElem_cons_succ, List.setIfInBounds_toArray, List.set_cons_zero, List.set_cons_succ]
                  refine wpAnyN_take (i := 8) (v := ?v28) rfl (by kernel_rfl) (by kernel_rfl) (by kernel_rfl) (by kernel_rfl) (fun _ _ _ h => h) (by rfl) ?hy28 hS ?rest28
                  case hy28 => (intro wy hSy; (try dsimp only at hSy); go_simp; try (with_reducible rfl))
                  simp only [Act.put, List.getElem_toArray, List.getElem_cons_zero, List.getElem_cons_succ, List.setIfInBounds_toArray, List.set_cons_zero, List.set_cons_succ]
                  refine wpAnyN_take (i := 9) (v := ?v29) rfl (by kernel_rfl) (by kernel_rfl) (by kernel_rfl) (by kernel_rfl) (fun _ _ _ h => h) (by rfl) ?hy29 hS ?rest29
                  case hy29 => (intro wy hSy; (try dsimp only at hSy); go_simp; try (with_reducible rfl))
                  simp only [Act.put, List.getElem_toArray, List.getElem_cons_zero, List.getElem_cons_succ, List.setIfInBounds_toArray, List.set_cons_zero, List.set_cons_succ]
                  refine wpAnyN_one (i := 11) (by kernel_rfl) rfl (fun K hK => ?_)
                  simp only [List.getElem_toArray, List.getElem_cons_zero, List.getElem_cons_succ]
                  go_simp
                  have hRn := hR.allocV
                  clear hR hS
                  generalize wc2.alloc (Obj.cells #[.int .i64 0, .int .i64 0] 30) = wc3 at hRn ⊢
                  generalize wc2.heap.size = Vb at hRn ⊢
                  refine hK.out _ _ (fun _ => hSof _ hRn.below) ?_
                  clear hK
                  have hS := hSof _ hRn.below
                  have hR := hRn
                  clear hRn
                  try simp only [Act.put, List.getElem_toArray, List.getElem_cons_zero, List.getElem_cons_succ, List.setIfInBounds_toArray, List.set_cons_zero, List.set_cons_succ]
                  obtain ⟨hF, hV1, hV2⟩ := hR.both r.M r.k r.n
                  obtain ⟨fg, fv, x1, x2, x3, x4, x5, x6⟩ := hR.cells
                  refine wpAnyN_one (i := 12) (by kernel_rfl) rfl (fun K hK => ?_)
                  simp only [List.getElem_toArray, List.getElem_cons_zero, List.getElem_cons_succ]
                  go_simp
                  refine hK.out _ _ (fun _ => hSof _ (hR.storeG (.int .i64 r.M) (.slice va r.obs.length vc))) ?_
                  clear hK
                  replace hS := hSof _ (hR.storeG (.int .i64 r.M) (.slice va r.obs.length vc))
                  refine wpAnyN_one (i := 13) (by kernel_rfl) rfl (fun K hK => ?_)
                  simp only [List.getElem_toArray, List.getElem_cons_zero, List.getElem_cons_succ]
                  go_simp
                  refine hK.out _ _ (fun _ => hSof _ hF.below) ?_
                  clear hK
                  replace hS := hSof _ hF.below
                  refine wpAnyN_one (i := 14) (by kernel_rfl) rfl (fun K hK => ?_)
                  simp only [List.getElem_toArray, List.getElem_cons_zero, List.getElem_cons_succ]
                  go_simp
                  refine hK.out _ _ (fun _ => hS) ?_
                  clear hK
                  refine wpAnyN_done (by kernel_rfl) ?_ _
                  refine NoPanic.normal ?_
                  go_wp2_with fail
                  go_meet
                  case rel => exact ⟨_, _, va, vc, rfl, rfl, rfl, hF, hV1, hV2⟩
                · simp only [List.getElem_toArray, List.getElem_cons_zero, List.getElem_cons_succ]
                  go_simp
                  have hRn := hR.allocV
                  clear hR hS
                  generalize wc1.alloc (Obj.cells #[.int .i64 0, .int .i64 0] 30) = wc2 at hRn ⊢
                  generalize wc1.heap.size = Vb at hRn ⊢
                  refine hK.out _ _ (fun _ => hSof _ hRn.below) ?_
                  clear hK
                  have hS := hSof _ hRn.below
                  have hR := hRn
                  clear hRn
                  try simp only [Act.put, List.getElem_toArray, List.getElem_cons_zero, List.getElem_cons_succ, List.setIfInBounds_toArray, List.set_cons_zero, List.set_cons_succ]
                  refine wpAnyN_one (i := 5) (by kernel_rfl) rfl (fun K hK => ?_)
                  simp only [List.getElem_toArray, List.getElem_cons_zero, List.getElem_cons_succ]
                  go_simp
                  try rw [hwr]
                  refine (hAl _ hR.below).mono ?_
                  rintro e wc3 ⟨va, vc, rfl, hb2, rows2, hr2, hO2⟩
                  have hRn := hR.call hb2 hO2 hr2
                  refine hK.out _ _ (fun _ => hSof _ hRn.below) ?_
                  clear hK
                  replace hS := hSof _ hRn.below
                  replace hR := hRn
                  clear hRn hb2 hO2 hr2
                  try simp only [Act.put, List.getElem_toArray, List.getElem_cons_zero, List.getElem_cons_succ, List.setIfInBounds_toArray, List.set_cons_zero, List.set_cons_succ]
                  refine wpAnyN_take (i := 6) (v := ?v30) rfl (by kernel_rfl) (by kernel_rfl) (by kernel_rfl) (by kernel_rfl) (fun _ _ _ h => h) (by rfl) ?hy30 hS ?rest30
                  case hy30 => (intro wy hSy; (try dsimp only at hSy); go_simp; try (with_reducible rfl))
                  simp only [Act.put, List.getElem_toArray, List.getElem_cons_zero, List.getElem_cons_succ, List.setIfInBounds_toArray, List.set_cons_zero, List.set_cons_succ]
                  refine wpAnyN_take (i := 7) (v := ?v31) rfl (by kernel_rfl) (by kernel_rfl) (by kernel_rfl) (by kernel_rfl) (fun _ _ _ h => h) (by rfl) ?hy31 hS ?rest31
                  case hy31 => (intro wy hSy; (try dsimp only at hSy); go_simp; try (with_reducible rfl))
                  simp only [Act.put, List.getElem_toArray, List.getElem_cons_zero, List.getElem_cons_succ, List.setIfInBounds_toArray, List.set_cons_zero, List.set_cons_succ]
                  refine wpAnyN_take (i := 8) (v := ?v32) rfl (by kernel_rfl) (by kernel_rfl) (by kernel_rfl) (by kernel_rfl) (fun _ _ _ h => h) (by rfl) ?hy32 hS ?rest32
                  case hy32 => (intro wy hSy; (try dsimp only at hSy); go_simp; try (with_reducible rfl))
                  simp only [Act.put, List.getElem_toArray, List.getElem_cons_zero, List.getElem_cons_succ, List.setIfInBounds_toArray, List.set_cons_zero, List.set_cons_succ]
                  refine wpAnyN_take (i := 9) (v := ?v33) rfl (by kernel_rfl) (by kernel_rfl) (by kernel_rfl) (by kernel_rfl) (fun _ _ _ h => h) (by rfl) ?hy33 hS ?rest33
                  case hy33 => (intro wy hSy; (try dsimp only at hSy); go_simp; try (with_reducible rfl))
                  simp only [Act.put, List.getElem_toArray, List.getElem_cons_zero, List.getElem_cons_succ, List.setIfInBounds_toArray, List.set_cons_zero, List.set_cons_succ]
                  obtain ⟨hF, hV1, hV2⟩ := hR.both r.M r.k r.n
                  obtain ⟨fg, fv, x1, x2, x3, x4, x5, x6⟩ := hR.cells
                  refine wpAnyN_one (i := 12) (by kernel_rfl) rfl (fun K hK => ?_)
                  simp only [List.getElem_toArray, List.getElem_cons_zero, List.getElem_cons_succ]
                  go_simp
                  refine hK.out _ _ (fun _ => hSof _ (hR.storeG (.int .i64 r.M) (.slice va r.obs.length vc))) ?_
                  clear hK
                  replace hS := hSof _ (hR.storeG (.int .i64 r.M) (.slice va r.obs.length vc))
                  refine wpAnyN_one (i := 13) (by kernel_rfl) rfl (fun K hK => ?_)
                  simp only [List.getElem_toArray, List.getElem_cons_zero, List.getElem_cons_succ]
                  go_simp
                  refine hK.out _ _ (fun _ => hSof _ hF.below) ?_
                  clear hK
                  replace hS := hSof _ hF.below
                  refine wpAnyN_one (i := 14) (by kernel_rfl) rfl (fun K hK => ?_)
                  simp only [List.getElem_toArray, List.getElem_cons_zero, List.getElem_cons_succ]
                  go_simp
                  refine hK.out _ _ (fun _ => hS) ?_
                  clear hK
                  refine wpAnyN_done (by kernel_rfl) ?_ _
                  refine NoPanic.normal ?_
                  go_wp2_with fail
                  go_meet
                  case rel => exact ⟨_, _, va, vc, rfl, rfl, rfl, hF, hV1, hV2⟩
              · simp only [List.getElem_toArray, List.getElem_cons_zero, List.getElem_cons_succ]
                go_simp
                have hRn := hR.allocV
                clear hR hS
                generalize wc1.alloc (Obj.cells #[.int .i64 0, .int .i64 0] 30) = wc2 at hRn ⊢
                generalize wc1.heap.size = Vb at hRn ⊢
                refine hK.out _ _ (fun _ => hSof _ hRn.below) ?_
                clear hK
                have hS := hSof _ hRn.below
                have hR := hRn
                clear hRn
                try simp only [Act.put, List.getElem_toArray, List.getElem_cons_zero, List.getElem_cons_succ, List.setIfInBounds_toArray, List.set_cons_zero, List.set_cons_succ]
                refine wpAnyN_one (i := 3) (by kernel_rfl) rfl (fun K hK => ?_)
                simp only [List.getElem_toArray, List.getElem_cons_zero, List.getElem_cons_succ]
                go_simp
                refine (picked_any rA 4 _ q2.1 q2.2 (by omega) (by omega)).mono ?_
                rintro e wz ⟨rfl, rfl⟩
                refine hK.out _ _ (fun _ => hS) ?_
                clear hK
                try simp only [Act.put, List.getElem_toArray, List.getElem_cons_zero, List.getElem_cons_succ, List.setIfInBounds_toArray, List.set_cons_zero, List.set_cons_succ]
                refine wpAnyN_take (i := 4) (v := ?v34) rfl (by kernel_rfl) (by kernel_rfl) (by kernel_rfl) (by kernel_rfl) (fun _ _ _ h => h) (by rfl) ?hy34 hS ?rest34
                case hy34 => (intro wy hSy; (try dsimp only at hSy); go_simp; try (with_reducible rfl))
                simp only [Act.put, List.getElem_toArray, List.getElem_cons_zero, List.getElem_cons_succ, List.setIfInBounds_toArray, List.set_cons_zero, List.set_cons_succ]
                refine wpAnyN_one (i := 5) (by kernel_rfl) rfl (fun K hK => ?_)
                simp only [List.getElem_toArray, List.getElem_cons_zero, List.getElem_cons_succ]
                go_simp
                try rw [hwr]
                refine (hAl _ hR.below).mono ?_
                rintro e wc3 ⟨va, vc, rfl, hb2, rows2, hr2, hO2⟩
                have hRn := hR.call hb2 hO2 hr2
                refine hK.out _ _ (fun _ => hSof _ hRn.below) ?_
                clear hK
                replace hS := hSof _ hRn.below
                replace hR := hRn
                clear hRn hb2 hO2 hr2
                try simp only [Act.put, List.getElem_toArray, List.getElem_cons_zero, List.getElem_cons_succ, List.setIfInBounds_toArray, List.set_cons_zero, List.set_cons_succ]
                refine wpAnyN_take (i := 6) (v := ?v35) rfl (by kernel_rfl) (by kernel_rfl) (by kernel_rfl) (by kernel_rfl) (fun _ _ _ h => h) (by rfl) ?hy35 hS ?rest35
                case hy35 => (intro wy hSy; (try dsimp only at hSy); go_simp; try (with_reducible rfl))
                simp only [Act.put, List.getElem_toArray, List.getElem_cons_zero, List.getElem_cons_succ, List.setIfInBounds_toArray, List.set_cons_zero, List.set_cons_succ]
                refine wpAnyN_take (i := 7) (v := ?v36) rfl (by kernel_rfl) (by kernel_rfl) (by kernel_rfl) (by kernel_rfl) (fun _ _ _ h => h) (by rfl) ?hy36 hS ?rest36
                case hy36 => (intro wy hSy; (try dsimp only at hSy); go_simp; try (with_reducible rfl))
                simp only [Act.put, List.getElem_toArray, List.getElem_cons_zero, List.getElem_cons_succ, List.setIfInBounds_toArray, List.set_cons_zero, List.set_cons_succ]
                refine wpAnyN_take (i := 8) (v := ?v37) rfl (by kernel_rfl) (by kernel_rfl) (by kernel_rfl) (by kernel_rfl) (fun _ _ _ h => h) (by rfl) ?hy37 hS ?rest37
                case hy37 => (intro wy hSy; (try dsimp only at hSy); go_simp; try (with_reducible rfl))
                simp only [Act.put, List.getElem_toArray, List.getElem_cons_zero, List.getElem_cons_succ, List.setIfInBounds_toArray, List.set_cons_zero, List.set_cons_succ]
                refine wpAnyN_take (i := 9) (v := ?v38) rfl (by kernel_rfl) (by kernel_rfl) (by kernel_rfl) (by kernel_rfl) (fun _ _ _ h => h) (by rfl) ?hy38 hS ?rest38
                case hy38 => (intro wy hSy; (try dsimp only at hSy); go_simp; try (with_reducible rfl))
                simp only [Act.put, List.getElem_toArray, List.getElem_cons_zero, List.getElem_cons_succ, List.setIfInBounds_toArray, List.set_cons_zero, List.set_cons_succ]
                obtain ⟨hF, hV1, hV2⟩ := hR.both r.M r.k r.n
                obtain ⟨fg, fv, x1, x2, x3, x4, x5, x6⟩ := hR.cells
                refine wpAnyN_one (i := 12) (by kernel_rfl) rfl (fun K hK => ?_)
                simp only [List.getElem_toArray, List.getElem_cons_zero, List.getElem_cons_succ]
                go_simp
                refine hK.out _ _ (fun _ => hSof _ (hR.storeG (.int .i64 r.M) (.slice va r.obs.length vc))) ?_
                clear hK
                replace hS := hSof _ (hR.storeG (.int .i64 r.M) (.slice va r.obs.length vc))
                refine wpAnyN_one (i := 13) (by kernel_rfl) rfl (fun K hK => ?_)
                simp only [List.getElem_toArray, List.getElem_cons_zero, List.getElem_cons_succ]
                go_simp
                refine hK.out _ _ (fun _ => hSof _ hF.below) ?_
                clear hK
                replace hS := hSof _ hF.below
                refine wpAnyN_one (i := 14) (by kernel_rfl) rfl (fun K hK => ?_)
                simp only [List.getElem_toArray, List.getElem_cons_zero, List.getElem_cons_succ]
                go_simp
                refine hK.out _ _ (fun _ => hS) ?_
                clear hK
                refine wpAnyN_done (by kernel_rfl) ?_ _
                refine NoPanic.normal ?_
                go_wp2_with fail
                go_meet
                case rel => exact ⟨_, _, va, vc, rfl, rfl, rfl, hF, hV1, hV2⟩
            · simp only [List.getElem_toArray, List.getElem_cons_zero, List.getElem_cons_succ]
              go_simp
              have hRn := hR.allocV
              clear hR hS
              generalize wc0.alloc (Obj.cells #[.int .i64 0, .int .i64 0] 30) = wc1 at hRn ⊢
              generalize wc0.heap.size = Vb at hRn ⊢
              refine hK.out _ _ (fun _ => hSof _ hRn.below) ?_
              clear hK
              have hS := hSof _ hRn.below
              have hR := hRn
              clear hRn
              try simp only [Act.put, List.getElem_toArray, List.getElem_cons_zero, List.getElem_cons_succ, List.setIfInBounds_toArray, List.set_cons_zero, List.set_cons_succ]
              refine wpAnyN_two (i := 3) (j := 10) (by kernel_rfl) rfl rfl (fun K hK => ?_) (fun K hK => ?_)
              · simp only [List.getElem_toArray, List.getElem_cons_zero, List.getElem_cons_succ]
                go_simp
                refine (picked_any rA 4 _ q2.1 q2.2 (by omega) (by omega)).mono ?_
                rintro e wz ⟨rfl, rfl⟩
                refine hK.out _ _ (fun _ => hS) ?_
                clear hK
                try simp only [Act.put, List.getElem_toArray, List.getElem_cons_zero, List.getElem_cons_succ, List.setIfInBounds_toArray, List.set_cons_zero, List.set_cons_succ]
                refine wpAnyN_take (i := 4) (v := ?v39) rfl (by kernel_rfl) (by kernel_rfl) (by kernel_rfl) (by kernel_rfl) (fun _ _ _ h => h) (by rfl) ?hy39 hS ?rest39
                case hy39 => (intro wy hSy; (try dsimp only at hSy); go_simp; try (with_reducible rfl))
                simp only [Act.put, List.getElem_toArray, List.getElem_cons_zero, List.getElem_cons_succ, List.setIfInBounds_toArray, List.set_cons_zero, List.set_cons_succ]
                refine wpAnyN_two (i := 5) (j := 10) (by kernel_rfl) rfl rfl (fun K hK => ?_) (fun K hK => ?_)
                · simp only [List.getElem_toArray, List.getElem_cons_zero, List.getElem_cons_succ]
                  go_simp
                  try rw [hwr]
                  refine (hAl _ hR.below).mono ?_
                  rintro e wc2 ⟨va, vc, rfl, hb2, rows2, hr2, hO2⟩
                  have hRn := hR.call hb2 hO2 hr2
                  refine hK.out _ _ (fun _ => hSof _ hRn.below) ?_
                  clear hK
                  replace hS := hSof _ hRn.below
                  replace hR := hRn
                  clear hRn hb2 hO2 hr2
                  try simp only [Act.put, List.getElem_toArray, List.getElem_cons_zero, List.getElem_cons_succ, List.setIfInBounds_toArray, List.set_cons_zero, List.set_cons_succ]
                  refine wpAnyN_take (i := 6) (v := ?v40) rfl (by kernel_rfl) (by kernel_rfl) (by kernel_rfl) (by kernel_rfl) (fun _ _ _ h => h) (by rfl) ?hy40 hS ?rest40
                  case hy40 => (intro wy hSy; (try dsimp only at hSy); go_simp; try (with_reducible rfl))
                  simp only [Act.put, List.getElem_toArray, List.getElem_cons_zero, List.getElem_cons_succ, List.setIfInBounds_toArray, List.set_cons_zero, List.set_cons_succ]
                  refine wpAnyN_take (i := 7) (v := ?v41) rfl (by kernel_rfl) (by kernel_rfl) (by kernel_rfl) (by kernel_rfl) (fun _ _ _ h => h) (by rfl) ?hy41 hS ?rest41
                  case hy41 => (intro wy hSy; (try dsimp only at hSy); go_simp; try (with_reducible rfl))
                  simp only [Act.put, List.getElem_toArray, List.getElem_cons_zero, List.getElem_cons_succ, List.setIfInBounds_toArray, List.set_cons_zero, List.set_cons_succ]
                  refine wpAnyN_take (i := 8) (v := ?v42) rfl (by kernel_rfl) (by kernel_rfl) (by kernel_rfl) (by kernel_rfl) (fun _ _ _ h => h) (by rfl) ?hy42 hS ?rest42
                  case hy42 => (intro wy hSy; (try dsimp only at hSy); go_simp; try (with_reducible rfl))
                  simp only [Act.put, List.getElem_toArray, List.getElem_cons_zero, List.getElem_cons_succ, List.setIfInBounds_toArray, List.set_cons_zero, List.set_cons_succ]
                  refine wpAnyN_take (i := 9) (v := ?v43) rfl (by kernel_rfl) (by kernel_rfl) (by kernel_rfl) (by kernel_rfl) (fun _ _ _ h => h) (by rfl) ?hy43 hS ?rest43
                  case hy43 => (intro wy hSy; (try dsimp only at hSy); go_simp; try (with_reducible rfl))
                  simp only [Act.put, List.getElem_toArray, List.getElem_cons_zero, List.getElem_cons_succ, List.setIfInBounds_toArray, List.set_cons_zero, List.set_cons_succ]
                  refine wpAnyN_one (i := 10) (by kernel_rfl) rfl (fun K hK => ?_)
                  simp only [List.getElem_toArray, List.getElem_cons_zero, List.getElem_cons_succ]
                  go_simp
                  have hRn := hR.allocG
                  clear hR hS
                  generalize wc2.alloc (Obj.cells #[.int .i64 0, .slice none 0 0] 25) = wc3 at hRn ⊢
                  generalize wc2.heap.size = Gb at hRn ⊢
                  refine hK.out _ _ (fun _ => hSof _ hRn.below) ?_
                  clear hK
                  have hS := hSof _ hRn.below
                  have hR := hRn
                  clear hRn
                  try simp only [Act.put, List.getElem_toArray, List.getElem_cons_zero, List.getElem_cons_succ, List.setIfInBounds_toArray, List.set_cons_zero, List.set_cons_succ]
                  obtain ⟨hF, hV1, hV2⟩ := hR.both r.M r.k r.n
                  obtain ⟨fg, fv, x1, x2, x3, x4, x5, x6⟩ := hR.cells
                  refine wpAnyN_one (i := 12) (by kernel_rfl) rfl (fun K hK => ?_)
                  simp only [List.getElem_toArray, List.getElem_cons_zero, List.getElem_cons_succ]
                  go_simp
                  refine hK.out _ _ (fun _ => hSof _ (hR.storeG (.int .i64 r.M) (.slice va r.obs.length vc))) ?_
                  clear hK
                  replace hS := hSof _ (hR.storeG (.int .i64 r.M) (.slice va r.obs.length vc))
                  refine wpAnyN_one (i := 13) (by kernel_rfl) rfl (fun K hK => ?_)
                  simp only [List.getElem_toArray, List.getElem_cons_zero, List.getElem_cons_succ]
                  go_simp
                  refine hK.out _ _ (fun _ => hSof _ hF.below) ?_
                  clear hK
                  replace hS := hSof _ hF.below
                  refine wpAnyN_one (i := 14) (by kernel_rfl) rfl (fun K hK => ?_)
                  simp only [List.getElem_toArray, List.getElem_cons_zero, List.getElem_cons_succ]
                  go_simp
                  refine hK.out _ _ (fun _ => hS) ?_
                  clear hK
                  refine wpAnyN_done (by kernel_rfl) ?_ _
                  refine NoPanic.normal ?_
                  go_wp2_with fail
                  go_meet
                  case rel => exact ⟨_, _, va, vc, rfl, rfl, rfl, hF, hV1, hV2⟩
                · simp only [List.getElem_toArray, List.getElem_cons_zero, List.getElem_cons_succ]
                  go_simp
                  have hRn := hR.allocG
                  clear hR hS
                  generalize wc1.alloc (Obj.cells #[.int .i64 0, .slice none 0 0] 25) = wc2 at hRn ⊢
                  generalize wc1.heap.size = Gb at hRn ⊢
                  refine hK.out _ _ (fun _ => hSof _ hRn.below) ?_
                  clear hK
                  have hS := hSof _ hRn.below
                  have hR := hRn
                  clear hRn
                  try simp only [Act.put, List.getElem_toArray, List.getElem_cons_zero, List.getElem_cons_succ, List.setIfInBounds_toArray, List.set_cons_zero, List.set_cons_succ]
                  refine wpAnyN_one (i := 5) (by kernel_rfl) rfl (fun K hK => ?_)
                  simp only [List.getElem_toArray, List.getElem_cons_zero, List.getElem_cons_succ]
                  go_simp
                  try rw [hwr]
                  refine (hAl _ hR.below).mono ?_
                  rintro e wc3 ⟨va, vc, rfl, hb2, rows2, hr2, hO2⟩
                  have hRn := hR.call hb2 hO2 hr2
                  refine hK.out _ _ (fun _ => hSof _ hRn.below) ?_
                  clear hK
                  replace hS := hSof _ hRn.below
                  replace hR := hRn
                  clear hRn hb2 hO2 hr2
                  try simp only [Act.put, List.getElem_toArray, List.getElem_cons_zero, List.getElem_cons_succ, List.setIfInBounds_toArray, List.set_cons_zero, List.set_cons_succ]
                  refine wpAnyN_take (i := 6) (v := ?v44) rfl (by kernel_rfl) (by kernel_rfl) (by kernel_rfl) (by kernel_rfl) (fun _ _ _ h => h) (by rfl) ?hy44 hS ?rest44
                  case hy44 => (intro wy hSy; (try dsimp only at hSy); go_simp; try (with_reducible rfl))
                  simp only [Act.put, List.getElem_toArray, List.getElem_cons_zero, List.getElem_cons_succ, List.setIfInBounds_toArray, List.set_cons_zero, List.set_cons_succ]
                  refine wpAnyN_take (i := 7) (v := ?v45) rfl (by kernel_rfl) (by kernel_rfl) (by kernel_rfl) (by kernel_rfl) (fun _ _ _ h => h) (by rfl) ?hy45 hS ?rest45
                  case hy45 => (intro wy hSy; (try dsimp only at hSy); go_simp; try (with_reducible rfl))
                  simp only [Act.put, List.getElem_toArray, List.getElem_cons_zero, List.getElem_cons_succ, List.setIfInBounds_toArray, List.set_cons_zero, List.set_cons_succ]
                  refine wpAnyN_take (i := 8) (v := ?v46) rfl (by kernel_rfl) (by kernel_rfl) (by kernel_rfl) (by kernel_rfl) (fun _ _ _ h => h) (by rfl) ?hy46 hS ?rest46
                  case hy46 => (intro wy hSy; (try dsimp only at hSy); go_simp; try (with_reducible rfl))
                  simp only [Act.put, List.getElem_toArray, List.getElem_cons_zero, List.getElem_cons_succ, List.setIfInBounds_toArray, List.set_cons_zero, List.set_cons_succ]
                  refine wpAnyN_take (i := 9) (v := ?v47) rfl (by kernel_rfl) (by kernel_rfl) (by kernel_rfl) (by kernel_rfl) (fun _ _ _ h => h) (by rfl) ?hy47 hS ?rest47
                  case hy47 => (intro wy hSy; (try dsimp only at hSy); go_simp; try (with_reducible rfl))
                  simp only [Act.put, List.getElem_toArray, List.getElem_cons_zero, List.getElem_cons_succ, List.setIfInBounds_toArray, List.set_cons_zero, List.set_cons_succ]
                  obtain ⟨hF, hV1, hV2⟩ := hR.both r.M r.k r.n
                  obtain ⟨fg, fv, x1, x2, x3, x4, x5, x6⟩ := hR.cells
                  refine wpAnyN_one (i := 12) (by kernel_rfl) rfl (fun K hK => ?_)
                  simp only [List.getElem_toArray, List.getElem_cons_zero, List.getElem_cons_succ]
                  go_simp
                  refine hK.out _ _ (fun _ => hSof _ (hR.storeG (.int .i64 r.M) (.slice va r.obs.length vc))) ?_
                  clear hK
                  replace hS := hSof _ (hR.storeG (.int .i64 r.M) (.slice va r.obs.length vc))
                  refine wpAnyN_one (i := 13) (by kernel_rfl) rfl (fun K hK => ?_)
                  simp only [List.getElem_toArray, List.getElem_cons_zero, List.getElem_cons_succ]
                  go_simp
                  refine hK.out _ _ (fun _ => hSof _ hF.below) ?_
                  clear hK
                  replace hS := hSof _ hF.below
                  refine wpAnyN_one (i := 14) (by kernel_rfl) rfl (fun K hK => ?_)
                  simp only [List.getElem_toArray, List.getElem_cons_zero, List.getElem_cons_succ]
                  go_simp
                  refine hK.out _ _ (fun _ => hS) ?_
                  clear hK
                  refine wpAnyN_done (by kernel_rfl) ?_ _
                  refine NoPanic.normal ?_
                  go_wp2_with fail
                  go_meet
                  case rel => exact ⟨_, _, va, vc, rfl, rfl, rfl, hF, hV1, hV2⟩
              · simp only [List.getElem_toArray, List.getElem_cons_zero, List.getElem_cons_succ]
                go_simp
                have hRn := hR.allocG
                clear hR hS
                generalize wc1.alloc (Obj.cells #[.int .i64 0, .slice none 0 0] 25) = wc2 at hRn ⊢
                generalize wc1.heap.size = Gb at hRn ⊢
                refine hK.out _ _ (fun _ => hSof _ hRn.below) ?_
                clear hK
                have hS := hSof _ hRn.below
                have hR := hRn
                clear hRn
                try simp only [Act.put, List.getElem_toArray, List.getElem_cons_zero, List.getElem_cons_succ, List.setIfInBounds_toArray, List.set_cons_zero, List.set_cons_succ]
                refine wpAnyN_one (i := 3) (by kernel_rfl) rfl (fun K hK => ?_)
                simp only [List.getElem_toArray, List.getElem_cons_zero, List.getElem_cons_succ]
                go_simp
                refine (picked_any rA 4 _ q2.1 q2.2 (by omega) (by omega)).mono ?_
                rintro e wz ⟨rfl, rfl⟩
                refine hK.out _ _ (fun _ => hS) ?_
                clear hK
                try simp only [Act.put, List.getElem_toArray, List.getElem_cons_zero, List.getElem_cons_succ, List.setIfInBounds_toArray, List.set_cons_zero, List.set_cons_succ]
                refine wpAnyN_take (i := 4) (v := ?v48) rfl (by kernel_rfl) (by kernel_rfl) (by kernel_rfl) (by kernel_rfl) (fun _ _ _ h => h) (by rfl) ?hy48 hS ?rest48
                case hy48 => (intro wy hSy; (try dsimp only at hSy); go_simp; try (with_reducible rfl))
                simp only [Act.put, List.getElem_toArray, List.getElem_cons_zero, List.getElem_cons_succ, List.setIfInBounds_toArray, List.set_cons_zero, List.set_cons_succ]
                refine wpAnyN_one (i := 5) (by kernel_rfl) rfl (fun K hK => ?_)
                simp only [List.getElem_toArray, List.getElem_cons_zero, List.getElem_cons_succ]
                go_simp
                try rw [hwr]
                refine (hAl _ hR.below).mono ?_
                rintro e wc3 ⟨va, vc, rfl, hb2, rows2, hr2, hO2⟩
                have hRn := hR.call hb2 hO2 hr2
                refine hK.out _ _ (fun _ => hSof _ hRn.below) ?_
                clear hK
                replace hS := hSof _ hRn.below
                replace hR := hRn
                clear hRn hb2 hO2 hr2
                try simp only [Act.put, List.getElem_toArray, List.getElem_cons_zero, List.getElem_cons_succ, List.setIfInBounds_toArray, List.set_cons_zero, List.set_cons_succ]
                refine wpAnyN_take (i := 6) (v := ?v49) rfl (by kernel_rfl) (by kernel_rfl) (by kernel_rfl) (by kernel_rfl) (fun _ _ _ h => h) (by rfl) ?hy49 hS ?rest49
                case hy49 => (intro wy hSy; (try dsimp only at hSy); go_simp; try (with_reducible rfl))
                simp only [Act.put, List.getElem_toArray, List.getElem_cons_zero, List.getElem_cons_succ, List.setIfInBounds_toArray, List.set_cons_zero, List.set_cons_succ]
                refine wpAnyN_take (i := 7) (v := ?v50) rfl (by kernel_rfl) (by kernel_rfl) (by kernel_rfl) (by kernel_rfl) (fun _ _ _ h => h) (by rfl) ?hy50 hS ?rest50
                case hy50 => (intro wy hSy; (try dsimp only at hSy); go_simp; try (with_reducible rfl))
                simp only [Act.put, List.getElem_toArray, List.getElem_cons_zero, List.getElem_cons_succ, List.setIfInBounds_toArray, List.set_cons_zero, List.set_cons_succ]
                refine wpAnyN_take (i := 8) (v := ?v51) rfl (by kernel_rfl) (by kernel_rfl) (by kernel_rfl) (by kernel_rfl) (fun _ _ _ h => h) (by rfl) ?hy51 hS ?rest51
                case hy51 => (intro wy hSy; (try dsimp only at hSy); go_simp; try (with_reducible rfl))
                simp only [Act.put, List.getElem_toArray, List.getElem_cons_zero, List.getElem_cons_succ, List.setIfInBounds_toArray, List.set_cons_zero, List.set_cons_succ]
                refine wpAnyN_take (i := 9) (v := ?v52) rfl (by kernel_rfl) (by kernel_rfl) (by kernel_rfl) (by kernel_rfl) (fun _ _ _ h => h) (by rfl) ?hy52 hS ?rest52
                case hy52 => (intro wy hSy; (try dsimp only at hSy); go_simp; try (with_reducible rfl))
                simp only [Act.put, List.getElem_toArray, List.getElem_cons_zero, List.getElem_cons_succ, List.setIfInBounds_toArray, List.set_cons_zero, List.set_cons_succ]
                obtain ⟨hF, hV1, hV2⟩ := hR.both r.M r.k r.n
                obtain ⟨fg, fv, x1, x2, x3, x4, x5, x6⟩ := hR.cells
                refine wpAnyN_one (i := 12) (by kernel_rfl) rfl (fun K hK => ?_)
                simp only [List.getElem_toArray, List.getElem_cons_zero, List.getElem_cons_succ]
                go_simp
                refine hK.out _ _ (fun _ => hSof _ (hR.storeG (.int .i64 r.M) (.slice va r.obs.length vc))) ?_
                clear hK
                replace hS := hSof _ (hR.storeG (.int .i64 r.M) (.slice va r.obs.length vc))
                refine wpAnyN_one (i := 13) (by kernel_rfl) rfl (fun K hK => ?_)
                simp only [List.getElem_toArray, List.getElem_cons_zero, List.getElem_cons_succ]
                go_simp
                refine hK.out _ _ (fun _ => hSof _ hF.below) ?_
                clear hK
                replace hS := hSof _ hF.below
                refine wpAnyN_one (i := 14) (by kernel_rfl) rfl (fun K hK => ?_)
                simp only [List.getElem_toArray, List.getElem_cons_zero, List.getElem_cons_succ]
                go_simp
                refine hK.out _ _ (fun _ => hS) ?_
                clear hK
                refine wpAnyN_done (by kernel_rfl) ?_ _
                refine NoPanic.normal ?_
                go_wp2_with fail
                go_meet
                case rel => exact ⟨_, _, va, vc, rfl, rfl, rfl, hF, hV1, hV2⟩
          case rest =>
            obtain ⟨G, U, va, vc, rfl, rfl, rfl, hF, hU1, hU2⟩ := hcut
            have hm2 := hmid.later (hb1.trans (hF.below.mono hb1.size))
            have hfe := hF.pos
            obtain ⟨ha2, hc2, rows2, hx2, _, _, _⟩ := hm2.own
            have cg0 : wc.cell? ⟨G, 0, none⟩ = some (.int .i64 r.M) := by simp [World.cell?, hF.g]
            have cg1 : wc.cell? ⟨G, 1, none⟩ = some (.slice va r.obs.length vc) := by simp [World.cell?, hF.g]
            have cu0 : wc.cell? ⟨U, 0, none⟩ = some (.int .i64 r.k) := by simp [World.cell?, hU2]
            have cu1 : wc.cell? ⟨U, 1, none⟩ = some (.int .i64 r.n) := by simp [World.cell?, hU2]
            have cx0 : wc.cell? ⟨X, 0, none⟩ = some (.int .i64 M) := by simp [World.cell?, hx2]
            have cx1 : wc.cell? ⟨X, 1, none⟩ = some (.slice ha2 n hc2) := by simp [World.cell?, hx2]
            have fx : ∀ j, wc.frozen? ⟨X, j, none⟩ = false := fun j => by simp [World.frozen?, hx2]
            have nXU : U ≠ X := by omega
            have hn60 : n ≤ 60 := by have := (hMay_parts.1 hmid.good.1).1; rw [hmid.len] at this; omega
            clear hx hx1 hO hr hap hobs hSof hAl c1 c2 c3 c4
            by_cases he : r.e = 0
            · have hg := good_alloc hmid.good (n := 1 + pick rA 4) (by rw [← HR.out]; exact he)
              rw [← HR.out, hmid.len] at hg
              obtain ⟨g1, g2, g3, g4, g5⟩ := hg
              obtain ⟨rows3, hO3, hr3⟩ := hF.own
              rw [g2] at hO3 cg1
              rw [g1] at cg0
              rw [g3] at cu0
              rw [g4] at cu1
              have hbk : ∀ k, (Value.slice aa n ac).ownBlock = some k → k < W1.heap.size := fun k hk => by have := (World.ownsRow.lt hmid.vals k hk).2; omega
              obtain ⟨y1, y2, y3, y4, y5, y6, y7, y8, y9⟩ := hm2.put (M := M) hO3 (by omega) hr3 hbk
              clear hU2 hx2
              go_wp2_with (at_builtin; refine wpList_pushValA rfl _ _ (by rfl) (v := .slice aa n ac) (by rfl) y9 ?b0 2 (n : Int) ?b2 ?b1 ?_; (case b2 => rw [y3]; rfl); (case b0 => omega); (case b1 => rw [allVals_length]; omega); intro g gc w5 hv5 hg5 hat; rw [allVals_length] at hv5; rw [allVals_length]; have hps := hm2.push hO3 (by omega) hr3 hbk g5 (by omega) _ hv5 hg5 (by rw [y3] at hat; exact hat); clear hv5 hg5 hat y1 y2 y3 y4 y5 y6 y7 y8 y9 hm2 hF)
              go_wp2
              go_roundg (V - (i + 1))
              case measure => go_light; omega
              case rel => go_light; exact ⟨i + 1, n + 1, r.obs, _, _, by omega, rfl, by go_num, rfl, hps⟩
            · have hed : (r.e == 0) = false := by simp [he]
              go_wp2
              go_roundg (V - (i + 1))
              case measure => go_light; omega
              case rel => go_light; exact ⟨i + 1, n, obs, _, _, by omega, rfl, by go_num, rfl, hm2⟩
      · have hp0 : (pick rk 3 == 0) = false := by simp; omega
        have hn0 : 0 < n := by omega
        have hnz : ((n : Int) == 0) = false := by simp; omega
        have hn60 : n ≤ 60 := by have := (hMay_parts.1 hmid.good.1).1; rw [hmid.len] at this; omega
        have pB := (pick_bd (n := rB) (many := n) (by omega))
        have pA := (pick_bd (n := rA) (many := n) (by omega))
        have pC := (pick_bd (n := rC) (many := 3) (by omega))
        have pC4 := (pick_bd (n := rC) (many := 4) (by omega))
        have pC100 := (pick_bd (n := rC) (many := 100) (by omega))
        obtain ⟨jB, hjB⟩ : ∃ j : Nat, pick rB n = j := ⟨(pick rB n).toNat, by omega⟩
        obtain ⟨jA, hjA⟩ : ∃ j : Nat, pick rA n = j := ⟨(pick rA n).toNat, by omega⟩
        rw [hjB] at pB
        rw [hjA] at pA
        obtain ⟨g, g0, rfl, hvB1, hvB2⟩ := (hmid.vals.vals).2 jB _ (allVals_get (by omega))
        obtain ⟨g', g0', hgg, hvA1, hvA2⟩ := (hmid.vals.vals).2 jA _ (allVals_get (by omega))
        simp only [Option.some.injEq, Addr.mk.injEq, and_true] at hgg
        obtain ⟨rfl, rfl⟩ := hgg
        simp only at hvB1 hvB2 hvA1 hvA2
        clear hA
        go_upto_region 7 with (fail)
        go_cut [44] (fun s44 wx => s44 = .bool false ∧ wr.alloc (Obj.cells #[.int .i64 rk, .int .i64 rA, .int .i64 rB, .int .i64 rC] 51) = wx)
        case first =>
          go_wp2_with (go_at_call 7; refine (picked_any rk 3 _ q1.1 q1.2 (by omega) (by omega)).mono ?_; rintro e w' ⟨rfl, rfl⟩)
          go_meet
          case rel => exact ⟨rfl, rfl⟩
        case rest =>
        obtain ⟨rfl, rfl⟩ := hcut
        obtain ⟨ha, hc, rows, hx, hO, hr, hap⟩ := hmid.own
        have hobs : ObsAt wr ha obs := hr ▸ hO.obs.2
        have hb1 := below_box wr (Obj.cells #[.int .i64 rk, .int .i64 rA, .int .i64 rB, .int .i64 rC] 51)
        have N1 := Deep.blk_alloc_new wr (Obj.cells #[.int .i64 rk, .int .i64 rA, .int .i64 rB, .int .i64 rC] 51)
        have hs1 : wr.heap.size < (wr.alloc (Obj.cells #[.int .i64 rk, .int .i64 rA, .int .i64 rB, .int .i64 rC] 51)).heap.size := by simp
        generalize wr.alloc (Obj.cells #[.int .i64 rk, .int .i64 rA, .int .i64 rB, .int .i64 rC] 51) = W1 at *
        replace hvB1 := Keeps.below hb1 _ _ hvB1
        replace hvB2 := Keeps.below hb1 _ _ hvB2
        replace hvA1 := Keeps.below hb1 _ _ hvA1
        replace hvA2 := Keeps.below hb1 _ _ hvA2
        replace c2 : W1.cell? ⟨wr.heap.size, 1, none⟩ = some (.int .i64 rA) := by simp [World.cell?, N1]
        replace c3 : W1.cell? ⟨wr.heap.size, 2, none⟩ = some (.int .i64 rB) := by simp [World.cell?, N1]
        replace c4 : W1.cell? ⟨wr.heap.size, 3, none⟩ = some (.int .i64 rC) := by simp [World.cell?, N1]
        clear c1
        go_upto_region 13 with (go_at_call 7; refine (picked_any rB n _ q3.1 q3.2 (by omega) (by omega)).mono ?_; rintro e w' ⟨rfl, rfl⟩; rw [hjB])
        have c4' : (W1.alloc (Obj.cells #[.int .i64 2, .int .i64 (jB : Int)] 30)).cell? ⟨wr.heap.size, 3, none⟩ = some (.int .i64 rC) := Keeps.alloc _ _ _ _ c4
        have N2 := Deep.blk_alloc_new W1 (Obj.cells #[.int .i64 2, .int .i64 (jB : Int)] 30)
        have hb2 := below_box W1 (Obj.cells #[.int .i64 2, .int .i64 (jB : Int)] 30)
        have hs2 : W1.heap.size < (W1.alloc (Obj.cells #[.int .i64 2, .int .i64 (jB : Int)] 30)).heap.size := by simp
        generalize W1.alloc (Obj.cells #[.int .i64 2, .int .i64 (jB : Int)] 30) = W2 at *
        go_upto_if 73 with (go_at_call 7; refine (picked_any rC 3 _ q4.1 q4.2 (by omega) (by omega)).mono ?_; rintro e w' ⟨rfl, rfl⟩)
        go_cut [14] (fun s14 wx => ∃ xk xn : Int, s14 = .pointer (some ⟨W1.heap.size, 0, none⟩) ∧ wx.heap[W1.heap.size]? = some (.cells #[.int .i64 xk, .int .i64 xn] 30 (0, 0)) ∧ Below W1.heap.size W1 wx)
        case first =>
          have x0 : W2.cell? ⟨W1.heap.size, 0, none⟩ = some (.int .i64 2) := by simp [World.cell?, N2]
          have x1 : W2.cell? ⟨W1.heap.size, 1, none⟩ = some (.int .i64 (jB : Int)) := by simp [World.cell?, N2]
          have fx : ∀ j, W2.frozen? ⟨W1.heap.size, j, none⟩ = false := fun j => by simp [World.frozen?, N2]
          by_cases hC : pick rC 3 = 0
          · go_wp2_with (go_at_call 7; refine (picked_any rC 100 _ q4.1 q4.2 (by omega) (by omega)).mono ?_; rintro e w' ⟨rfl, rfl⟩)
            go_meet
            case rel => exact ⟨1, pick rC 100, rfl, by rw [setCell_blk (setCell_blk N2 0 _) 1 _]; simp, (hb2.setCell (by show W1.heap.size ≤ W1.heap.size; omega) _).setCell (by show W1.heap.size ≤ W1.heap.size; omega) _⟩
          · have hCb : (pick rC 3 == 0) = false := by simp [hC]
            go_wp2_with fail
            go_meet
            case rel => exact ⟨2, jB, rfl, N2, hb2⟩
        case rest =>
        obtain ⟨xk, xn, rfl, hxb, hb3⟩ := hcut
        obtain ⟨W3, hW3⟩ : ∃ W3, W3 = wc := ⟨_, rfl⟩
        subst hW3
        clear hb2 hs2 N2 c4' N1 c3
        clear W2
        go_upto_region 15 with (fail)
        have hb4 : Below wr.heap.size wr W3 := hb1.trans (hb3.mono hb1.size)
        have hs3 : W1.heap.size < W3.heap.size := (Array.getElem?_eq_some_iff.1 hxb).1
        have hx1 := (hb4.block _ hlow.2).trans hx
        replace hvA1 := Keeps.below hb3 _ _ hvA1
        replace hvA2 := Keeps.below hb3 _ _ hvA2
        replace c2 := Keeps.below hb3 _ _ c2
        replace c4 := Keeps.below hb3 _ _ c4
        have c5 : W3.cell? ⟨W1.heap.size, 0, none⟩ = some (.int .i64 xk) := by simp [World.cell?, hxb]
        have c6 : W3.cell? ⟨W1.heap.size, 1, none⟩ = some (.int .i64 xn) := by simp [World.cell?, hxb]
        have c7 : W3.cell? ⟨X, 0, none⟩ = some (.int .i64 M) := by simp [World.cell?, hx1]
        have c8 : W3.cell? ⟨X, 1, none⟩ = some (.slice ha n hc) := by simp [World.cell?, hx1]
        have hSof : ∀ wy, Below W3.heap.size W3 wy → wy.cell? ⟨X, 0, none⟩ = some (.int .i64 M) ∧ wy.cell? ⟨X, 1, none⟩ = some (.slice ha n hc) ∧ wy.cell? ⟨wr.heap.size, 1, none⟩ = some (.int .i64 rA) ∧ wy.cell? ⟨wr.heap.size, 3, none⟩ = some (.int .i64 rC) ∧ wy.cell? ⟨g, g0 + jA * 2, none⟩ = some (.int .i64 2) ∧ wy.cell? ⟨g, g0 + jA * 2 + 1, none⟩ = some (.int .i64 (jA : Int)) ∧ wy.cell? ⟨W1.heap.size, 0, none⟩ = some (.int .i64 xk) ∧ wy.cell? ⟨W1.heap.size, 1, none⟩ = some (.int .i64 xn) := fun wy hby =>
          ⟨Keeps.below hby _ _ c7, Keeps.below hby _ _ c8, Keeps.below hby _ _ c2, Keeps.below hby _ _ c4, Keeps.below hby _ _ hvA1, Keeps.below hby _ _ hvA2, Keeps.below hby _ _ c5, Keeps.below hby _ _ c6⟩
        obtain ⟨⟨rM, robs, re⟩, hrr⟩ : ∃ r, r = setS M obs ⟨2, (jA : Int)⟩ (pick rC 4) ⟨xk, xn⟩ := ⟨_, rfl⟩
        have HR : Aside ((rM, robs, re) = setS M obs ⟨2, (jA : Int)⟩ (pick rC 4) ⟨xk, xn⟩) := hrr
        have hAl : ∀ wy, Below W3.heap.size W3 wy → Calls Try.prog 18 #[.agg #[.int .i64 M, .slice ha n hc], .agg #[.int .i64 2, .int .i64 (jA : Int)], .int .i64 (pick rC 4), .agg #[.int .i64 xk, .int .i64 xn]] wy fun e w' => ∃ va vc, e = .returned (.tuple #[.agg #[.int .i64 rM, .slice va robs.length vc], .int .i64 re]) ∧
            Below wy.heap.size wy w' ∧ ∃ rows, rows.map (·.2) = robs ∧ HeapOwn w' wy.heap.size (.slice va robs.length vc) rows := fun wy hby => by
          have := set_any M ha hc obs 2 (jA : Int) (pick rC 4) xk xn wy (hobs.keeps ((Keeps.below hb4).trans (Keeps.below hby)))
          rw [hmid.len, ← hrr] at this
          exact this
        clear hrr hvB1 hvB2
        go_cut [15, 16] (fun s15 s16 wx => ∃ (G : Nat) (va : Option Addr) (vc : Nat), s15 = .pointer (some ⟨G, 0, none⟩) ∧ s16 = .int .i64 re ∧ RF W3 wx G rM va vc robs)
        case first =>
          have hR := RS.start W3 robs
          refine wp_region_need (fun j => true) (fun wy => wy.cell? ⟨X, 0, none⟩ = some (.int .i64 M) ∧ wy.cell? ⟨X, 1, none⟩ = some (.slice ha n hc) ∧ wy.cell? ⟨wr.heap.size, 1, none⟩ = some (.int .i64 rA) ∧ wy.cell? ⟨wr.heap.size, 3, none⟩ = some (.int .i64 rC) ∧ wy.cell? ⟨g, g0 + jA * 2, none⟩ = some (.int .i64 2) ∧ wy.cell? ⟨g, g0 + jA * 2 + 1, none⟩ = some (.int .i64 (jA : Int)) ∧ wy.cell? ⟨W1.heap.size, 0, none⟩ = some (.int .i64 xk) ∧ wy.cell? ⟨W1.heap.size, 1, none⟩ = some (.int .i64 xn)) (by kernel_rfl) (hSof _ hR.below) (fun hS => ?_)
          generalize W3.drew = wc0 at hS hR ⊢
          refine wpAnyN_take (i := 0) (v := ?v53) rfl (by kernel_rfl) (by kernel_rfl) (by kernel_rfl) (by kernel_rfl) (fun _ _ _ h => h) (by rfl) ?hy53 hS ?rest53
          case hy53 => (intro wy hSy; (try dsimp only at hSy); go_simp; try (with_reducible rfl))
          simp only [Act.put, List.getElem_toArray, List.getElem_cons_zero, List.setIfInBounds_toArray, List.set_cons_zero, List.set_cons_succ]
          refine wpAnyN_take (i := 1) (v := ?v54) rfl (by kernel_rfl) (by kernel_rfl) (by kernel_rfl) (by kernel_rfl) (fun _ _ _ h => h) (by rfl) ?hy54 hS ?rest54
          case hy54 => (intro wy hSy; (try dsimp only at hSy); go_simp; try (with_reducible rfl))
          simp only [Act.put, List.getElem_toArray, List.getElem_cons_zero, List.getElem_cons_succ, List.setIfInBounds_toArray, List.set_cons_zero, List.set_cons_succ]
          refine wpAnyN_take (i := 2) (v := ?v55) rfl (by kernel_rfl) (by kernel_rfl) (by kernel_rfl) (by kernel_rfl) (fun _ _ _ h => h) (by rfl) ?hy55 hS ?rest55
          case hy55 => (intro wy hSy; (try dsimp only at hSy); go_simp; try (with_reducible rfl))
          simp only [Act.put, List.getElem_toArray, List.getElem_cons_zero, List.getElem_cons_succ, List.setIfInBounds_toArray, List.set_cons_zero, List.set_cons_succ]
          refine wpAnyN_take (i := 3) (v := ?v56) rfl (by kernel_rfl) (by kernel_rfl) (by kernel_rfl) (by kernel_rfl) (fun _ _ _ h => h) (by rfl) ?hy56 hS ?rest56
          case hy56 => (intro wy hSy; (try dsimp only at hSy); go_simp; try (with_reducible rfl))
          simp only [Act.put, List.getElem_toArray, List.getElem_cons_zero, List.getElem_cons_succ, List.setIfInBounds_toArray, List.set_cons_zero, List.set_cons_succ]
          refine wpAnyN_take (i := 4) (v := ?v57) rfl (by kernel_rfl) (by kernel_rfl) (by kernel_rfl) (by kernel_rfl) (fun _ _ _ h => h) (by rfl) ?hy57 hS ?rest57
          case hy57 => (intro wy hSy; (try dsimp only at hSy); go_simp; try (with_reducible rfl))
          simp only [Act.put, List.getElem_toArray, List.getElem_cons_zero, List.getElem_cons_succ, List.setIfInBounds_toArray, List.set_cons_zero, List.set_cons_succ]
          refine wpAnyN_take (i := 5) (v := ?v58) rfl (by kernel_rfl) (by kernel_rfl) (by kernel_rfl) (by kernel_rfl) (fun _ _ _ h => h) (by rfl) ?hy58 hS ?rest58
          case hy58 => (intro wy hSy; (try dsimp only at hSy); go_simp; try (with_reducible rfl))
          simp only [Act.put, List.getElem_toArray, List.getElem_cons_zero, List.getElem_cons_succ, List.setIfInBounds_toArray, List.set_cons_zero, List.set_cons_succ]
          refine wpAnyN_take (i := 9) (v := ?v59) rfl (by kernel_rfl) (by kernel_rfl) (by kernel_rfl) (by kernel_rfl) (fun _ _ _ h => h) (by rfl) ?hy59 hS ?rest59
          case hy59 => (intro wy hSy; (try dsimp only at hSy); go_simp; try (with_reducible rfl))
          simp only [Act.put, List.getElem_toArray, List.getElem_cons_zero, List.getElem_cons_succ, List.setIfInBounds_toArray, List.set_cons_zero, List.set_cons_succ]
          refine wpAnyN_take (i := 10) (v := ?v60) rfl (by kernel_rfl) (by kernel_rfl) (by kernel_rfl) (by kernel_rfl) (fun _ _ _ h => h) (by rfl) ?hy60 hS ?rest60
          case hy60 => (intro wy hSy; (try dsimp only at hSy); go_simp; try (with_reducible rfl))
          simp only [Act.put, List.getElem_toArray, List.getElem_cons_zero, List.getElem_cons_succ, List.setIfInBounds_toArray, List.set_cons_zero, List.set_cons_succ]
          refine wpAnyN_take (i := 12) (v := ?v61) rfl (by kernel_rfl) (by kernel_rfl) (by kernel_rfl) (by kernel_rfl) (fun _ _ _ h => h) (by rfl) ?hy61 hS ?rest61
          case hy61 => (intro wy hSy; (try dsimp only at hSy); go_simp; try (with_reducible rfl))
          simp only [Act.put, List.getElem_toArray, List.getElem_cons_zero, List.getElem_cons_succ, List.setIfInBounds_toArray, List.set_cons_zero, List.set_cons_succ]
          refine wpAnyN_two (i := 6) (j := 17) (by kernel_rfl) rfl rfl (fun K hK => ?_) (fun K hK => ?_)
          · simp only [List.getElem_toArray, List.getElem_cons_zero, List.getElem_cons_succ]
            go_simp
            refine (picked_any rA n _ q2.1 q2.2 (by omega) (by omega)).mono ?_
            rintro e wz ⟨rfl, rfl⟩
            rw [hjA]
            refine hK.out _ _ (fun _ => hS) ?_
            clear hK
            try simp only [Act.put, List.getElem_toArray, List.getElem_cons_zero, List.getElem_cons_succ, List.setIfInBounds_toArray, List.set_cons_zero, List.set_cons_succ]
            refine wpAnyN_take (i := 7) (v := ?v62) rfl (by kernel_rfl) (by kernel_rfl) (by kernel_rfl) (by kernel_rfl) (fun _ _ _ h => h) (by rfl) ?hy62 hS ?rest62
            case hy62 => (intro wy hSy; (try dsimp only at hSy); go_simp; try (with_reducible rfl))
            simp only [Act.put, List.getElem_toArray, List.getElem_cons_zero, List.getElem_cons_succ, List.setIfInBounds_toArray, List.set_cons_zero, List.set_cons_succ]
            refine wpAnyN_take (i := 8) (v := ?v63) rfl (by kernel_rfl) (by kernel_rfl) (by kernel_rfl) (by kernel_rfl) (fun _ _ _ h => h) (by rfl) ?hy63 hS ?rest63
            case hy63 => (intro wy hSy; (try dsimp only at hSy); go_simp; try (with_reducible rfl))
            simp only [Act.put, List.getElem_toArray, List.getElem_cons_zero, List.getElem_cons_succ, List.setIfInBounds_toArray, List.set_cons_zero, List.set_cons_succ]
            refine wpAnyN_two (i := 11) (j := 17) (by kernel_rfl) rfl rfl (fun K hK => ?_) (fun K hK => ?_)
            · simp only [List.getElem_toArray, List.getElem_cons_zero, List.getElem_cons_succ]
              go_simp
              refine (picked_any rC 4 _ q4.1 q4.2 (by omega) (by omega)).mono ?_
              rintro e wz ⟨rfl, rfl⟩
              refine hK.out _ _ (fun _ => hS) ?_
              clear hK
              try simp only [Act.put, List.getElem_toArray, List.getElem_cons_zero, List.getElem_cons_succ, List.setIfInBounds_toArray, List.set_cons_zero, List.set_cons_succ]
              refine wpAnyN_two (i := 13) (j := 17) (by kernel_rfl) rfl rfl (fun K hK => ?_) (fun K hK => ?_)
              · simp only [List.getElem_toArray, List.getElem_cons_zero, List.getElem_cons_succ]
                go_simp
                refine (hAl _ hR.below).mono ?_
                rintro e wc1 ⟨va, vc, rfl, hb2, rows2, hr2, hO2⟩
                have hRn := hR.call hb2 hO2 hr2
                refine hK.out _ _ (fun _ => hSof _ hRn.below) ?_
                clear hK
                replace hS := hSof _ hRn.below
                replace hR := hRn
                clear hRn hb2 hO2 hr2
                try simp only [Act.put, List.getElem_toArray, List.getElem_cons_zero, List.getElem_cons_succ, List.setIfInBounds_toArray, List.set_cons_zero, List.set_cons_succ]
                refine wpAnyN_take (i := 14) (v := ?v64) rfl (by kernel_rfl) (by kernel_rfl) (by kernel_rfl) (by kernel_rfl) (fun _ _ _ h => h) (by rfl) ?hy64 hS ?rest64
                case hy64 => (intro wy hSy; (try dsimp only at hSy); go_simp; try (with_reducible rfl))
                simp only [Act.put, List.getElem_toArray, List.getElem_cons_zero, List.getElem_cons_succ, List.setIfInBounds_toArray, List.set_cons_zero, List.set_cons_succ]
                refine wpAnyN_take (i := 15) (v := ?v65) rfl (by kernel_rfl) (by kernel_rfl) (by kernel_rfl) (by kernel_rfl) (fun _ _ _ h => h) (by rfl) ?hy65 hS ?rest65
                case hy65 => (intro wy hSy; (try dsimp only at hSy); go_simp; try (with_reducible rfl))
                simp only [Act.put, List.getElem_toArray, List.getElem_cons_zero, List.getElem_cons_succ, List.setIfInBounds_toArray, List.set_cons_zero, List.set_cons_succ]
                refine wpAnyN_take (i := 16) (v := ?v66) rfl (by kernel_rfl) (by kernel_rfl) (by kernel_rfl) (by kernel_rfl) (fun _ _ _ h => h) (by rfl) ?hy66 hS ?rest66
                case hy66 => (intro wy hSy; (try dsimp only at hSy); go_simp; try (with_reducible rfl))
                simp only [Act.put, List.getElem_toArray, List.getElem_cons_zero, List.getElem_cons_succ, List.setIfInBounds_toArray, List.set_cons_zero, List.set_cons_succ]
                refine wpAnyN_one (i := 17) (by kernel_rfl) rfl (fun K hK => ?_)
                simp only [List.getElem_toArray, List.getElem_cons_zero, List.getElem_cons_succ]
                go_simp
                have hRn := hR.allocG
                clear hR hS
                generalize wc1.alloc (Obj.cells #[.int .i64 0, .slice none 0 0] 25) = wc2 at hRn ⊢
                generalize wc1.heap.size = Gb at hRn ⊢
                refine hK.out _ _ (fun _ => hSof _ hRn.below) ?_
                clear hK
                have hS := hSof _ hRn.below
                have hR := hRn
                clear hRn
                try simp only [Act.put, List.getElem_toArray, List.getElem_cons_zero, List.getElem_cons_succ, List.setIfInBounds_toArray, List.set_cons_zero, List.set_cons_succ]
                have hF := hR.heapOnly rM
                obtain ⟨fg, x1, x2⟩ := hR.cellsG
                refine wpAnyN_one (i := 18) (by kernel_rfl) rfl (fun K hK => ?_)
                simp only [List.getElem_toArray, List.getElem_cons_zero, List.getElem_cons_succ]
                go_simp
                refine hK.out _ _ (fun _ => hSof _ hF.below) ?_
                clear hK
                replace hS := hSof _ hF.below
                refine wpAnyN_one (i := 19) (by kernel_rfl) rfl (fun K hK => ?_)
                simp only [List.getElem_toArray, List.getElem_cons_zero, List.getElem_cons_succ]
                go_simp
                refine hK.out _ _ (fun _ => hS) ?_
                clear hK
                refine wpAnyN_done (by kernel_rfl) ?_ _
                refine NoPanic.normal ?_
                go_wp2_with fail
                go_meet
                case rel => exact ⟨_, va, vc, rfl, rfl, hF⟩
              · simp only [List.getElem_toArray, List.getElem_cons_zero, List.getElem_cons_succ]
                go_simp
                have hRn := hR.allocG
                clear hR hS
                generalize wc0.alloc (Obj.cells #[.int .i64 0, .slice none 0 0] 25) = wc1 at hRn ⊢
                generalize wc0.heap.size = Gb at hRn ⊢
                refine hK.out _ _ (fun _ => hSof _ hRn.below) ?_
                clear hK
                have hS := hSof _ hRn.below
                have hR := hRn
                clear hRn
                try simp only [Act.put, List.getElem_toArray, List.getElem_cons_zero, List.getElem_cons_succ, List.setIfInBounds_toArray, List.set_cons_zero, List.set_cons_succ]
                refine wpAnyN_one (i := 13) (by kernel_rfl) rfl (fun K hK => ?_)
                simp only [List.getElem_toArray, List.getElem_cons_zero, List.getElem_cons_succ]
                go_simp
                refine (hAl _ hR.below).mono ?_
                rintro e wc2 ⟨va, vc, rfl, hb2, rows2, hr2, hO2⟩
                have hRn := hR.call hb2 hO2 hr2
                refine hK.out _ _ (fun _ => hSof _ hRn.below) ?_
                clear hK
                replace hS := hSof _ hRn.below
                replace hR := hRn
                clear hRn hb2 hO2 hr2
                try simp only [Act.put, List.getElem_toArray, List.getElem_cons_zero, List.getElem_cons_succ, List.setIfInBounds_toArray, List.set_cons_zero, List.set_cons_succ]
                refine wpAnyN_take (i := 14) (v := ?v67) rfl (by kernel_rfl) (by kernel_rfl) (by kernel_rfl) (by kernel_rfl) (fun _ _ _ h => h) (by rfl) ?hy67 hS ?rest67
                case hy67 => (intro wy hSy; (try dsimp only at hSy); go_simp; try (with_reducible rfl))
                simp only [Act.put, List.getElem_toArray, List.getElem_cons_zero, List.getElem_cons_succ, List.setIfInBounds_toArray, List.set_cons_zero, List.set_cons_succ]
                refine wpAnyN_take (i := 15) (v := ?v68) rfl (by kernel_rfl) (by kernel_rfl) (by kernel_rfl) (by kernel_rfl) (fun _ _ _ h => h) (by rfl) ?hy68 hS ?rest68
                case hy68 => (intro wy hSy; (try dsimp only at hSy); go_simp; try (with_reducible rfl))
                simp only [Act.put, List.getElem_toArray, List.getElem_cons_zero, List.getElem_cons_succ, List.setIfInBounds_toArray, List.set_cons_zero, List.set_cons_succ]
                refine wpAnyN_take (i := 16) (v := ?v69) rfl (by kernel_rfl) (by kernel_rfl) (by kernel_rfl) (by kernel_rfl) (fun _ _ _ h => h) (by rfl) ?hy69 hS ?rest69
                case hy69 => (intro wy hSy; (try dsimp only at hSy); go_simp; try (with_reducible rfl))
                simp only [Act.put, List.getElem_toArray, List.getElem_cons_zero, List.getElem_cons_succ, List.setIfInBounds_toArray, List.set_cons_zero, List.set_cons_succ]
                have hF := hR.heapOnly rM
                obtain ⟨fg, x1, x2⟩ := hR.cellsG
                refine wpAnyN_one (i := 18) (by kernel_rfl) rfl (fun K hK => ?_)
                simp only [List.getElem_toArray, List.getElem_cons_zero, List.getElem_cons_succ]
                go_simp
                refine hK.out _ _ (fun _ => hSof _ hF.below) ?_
                clear hK
                replace hS := hSof _ hF.below
                refine wpAnyN_one (i := 19) (by kernel_rfl) rfl (fun K hK => ?_)
                simp only [List.getElem_toArray, List.getElem_cons_zero, List.getElem_cons_succ]
                go_simp
                refine hK.out _ _ (fun _ => hS) ?_
                clear hK
                refine wpAnyN_done (by kernel_rfl) ?_ _
                refine NoPanic.normal ?_
                go_wp2_with fail
                go_meet
                case rel => exact ⟨_, va, vc, rfl, rfl, hF⟩
            · simp only [List.getElem_toArray, List.getElem_cons_zero, List.getElem_cons_succ]
              go_simp
              have hRn := hR.allocG
              clear hR hS
              generalize wc0.alloc (Obj.cells #[.int .i64 0, .slice none 0 0] 25) = wc1 at hRn ⊢
              generalize wc0.heap.size = Gb at hRn ⊢
              refine hK.out _ _ (fun _ => hSof _ hRn.below) ?_
              clear hK
              have hS := hSof _ hRn.below
              have hR := hRn
              clear hRn
              try simp only [Act.put, List.getElem_toArray, List.getElem_cons_zero, List.getElem_cons_succ, List.setIfInBounds_toArray, List.set_cons_zero, List.set_cons_succ]
              refine wpAnyN_one (i := 11) (by kernel_rfl) rfl (fun K hK => ?_)
              simp only [List.getElem_toArray, List.getElem_cons_zero, List.getElem_cons_succ]
              go_simp
              refine (picked_any rC 4 _ q4.1 q4.2 (by omega) (by omega)).mono ?_
              rintro e wz ⟨rfl, rfl⟩
              refine hK.out _ _ (fun _ => hS) ?_
              clear hK
              try simp only [Act.put, List.getElem_toArray, List.getElem_cons_zero, List.getElem_cons_succ, List.setIfInBounds_toArray, List.set_cons_zero, List.set_cons_succ]
              refine wpAnyN_one (i := 13) (by kernel_rfl) rfl (fun K hK => ?_)
              simp only [List.getElem_toArray, List.getElem_cons_zero, List.getElem_cons_succ]
              go_simp
              refine (hAl _ hR.below).mono ?_
              rintro e wc2 ⟨va, vc, rfl, hb2, rows2, hr2, hO2⟩
              have hRn := hR.call hb2 hO2 hr2
              refine hK.out _ _ (fun _ => hSof _ hRn.below) ?_
              clear hK
              replace hS := hSof _ hRn.below
              replace hR := hRn
              clear hRn hb2 hO2 hr2
              try simp only [Act.put, List.getElem_toArray, List.getElem_cons_zero, List.getElem_cons_succ, List.setIfInBounds_toArray, List.set_cons_zero, List.set_cons_succ]
              refine wpAnyN_take (i := 14) (v := ?v70) rfl (by kernel_rfl) (by kernel_rfl) (by kernel_rfl) (by kernel_rfl) (fun _ _ _ h => h) (by rfl) ?hy70 hS ?rest70
              case hy70 => (intro wy hSy; (try dsimp only at hSy); go_simp; try (with_reducible rfl))
              simp only [Act.put, List.getElem_toArray, List.getElem_cons_zero, List.getElem_cons_succ, List.setIfInBounds_toArray, List.set_cons_zero, List.set_cons_succ]
              refine wpAnyN_take (i := 15) (v := ?v71) rfl (by kernel_rfl) (by kernel_rfl) (by kernel_rfl) (by kernel_rfl) (fun _ _ _ h => h) (by rfl) ?hy71 hS ?rest71
              case hy71 => (intro wy hSy; (try dsimp only at hSy); go_simp; try (with_reducible rfl))
              simp only [Act.put, List.getElem_toArray, List.getElem_cons_zero, List.getElem_cons_succ, List.setIfInBounds_toArray, List.set_cons_zero, List.set_cons_succ]
              refine wpAnyN_take (i := 16) (v := ?v72) rfl (by kernel_rfl) (by kernel_rfl) (by kernel_rfl) (by kernel_rfl) (fun _ _ _ h => h) (by rfl) ?hy72 hS ?rest72
              case hy72 => (intro wy hSy; (try dsimp only at hSy); go_simp; try (with_reducible rfl))
              simp only [Act.put, List.getElem_toArray, List.getElem_cons_zero, List.getElem_cons_succ, List.setIfInBounds_toArray, List.set_cons_zero, List.set_cons_succ]
              have hF := hR.heapOnly rM
              obtain ⟨fg, x1, x2⟩ := hR.cellsG
              refine wpAnyN_one (i := 18) (by kernel_rfl) rfl (fun K hK => ?_)
              simp only [List.getElem_toArray, List.getElem_cons_zero, List.getElem_cons_succ]
              go_simp
              refine hK.out _ _ (fun _ => hSof _ hF.below) ?_
              clear hK
              replace hS := hSof _ hF.below
              refine wpAnyN_one (i := 19) (by kernel_rfl) rfl (fun K hK => ?_)
              simp only [List.getElem_toArray, List.getElem_cons_zero, List.getElem_cons_succ]
              go_simp
              refine hK.out _ _ (fun _ => hS) ?_
              clear hK
              refine wpAnyN_done (by kernel_rfl) ?_ _
              refine NoPanic.normal ?_
              go_wp2_with fail
              go_meet
              case rel => exact ⟨_, va, vc, rfl, rfl, hF⟩
          · simp only [List.getElem_toArray, List.getElem_cons_zero, List.getElem_cons_succ]
            go_simp
            have hRn := hR.allocG
            clear hR hS
            generalize wc0.alloc (Obj.cells #[.int .i64 0, .slice none 0 0] 25) = wc1 at hRn ⊢
            generalize wc0.heap.size = Gb at hRn ⊢
            refine hK.out _ _ (fun _ => hSof _ hRn.below) ?_
            clear hK
            have hS := hSof _ hRn.below
            have hR := hRn
            clear hRn
            try simp only [Act.put, List.getElem_toArray, List.getElem_cons_zero, List.getElem_cons_succ, List.setIfInBounds_toArray, List.set_cons_zero, List.set_cons_succ]
            refine wpAnyN_one (i := 6) (by kernel_rfl) rfl (fun K hK => ?_)
            simp only [List.getElem_toArray, List.getElem_cons_zero, List.getElem_cons_succ]
            go_simp
            refine (picked_any rA n _ q2.1 q2.2 (by omega) (by omega)).mono ?_
            rintro e wz ⟨rfl, rfl⟩
            rw [hjA]
            refine hK.out _ _ (fun _ => hS) ?_
            clear hK
            try simp only [Act.put, List.getElem_toArray, List.getElem_cons_zero, List.getElem_cons_succ, List.setIfInBounds_toArray, List.set_cons_zero, List.set_cons_succ]
            refine wpAnyN_take (i := 7) (v := ?v73) rfl (by kernel_rfl) (by kernel_rfl) (by kernel_rfl) (by kernel_rfl) (fun _ _ _ h => h) (by rfl) ?hy73 hS ?rest73
            case hy73 => (intro wy hSy; (try dsimp only at hSy); go_simp; try (with_reducible rfl))
            simp only [Act.put, List.getElem_toArray, List.getElem_cons_zero, List.getElem_cons_succ, List.setIfInBounds_toArray, List.set_cons_zero, List.set_cons_succ]
            refine wpAnyN_take (i := 8) (v := ?v74) rfl (by kernel_rfl) (by kernel_rfl) (by kernel_rfl) (by kernel_rfl) (fun _ _ _ h => h) (by rfl) ?hy74 hS ?rest74
            case hy74 => (intro wy hSy; (try dsimp only at hSy); go_simp; try (with_reducible rfl))
            simp only [Act.put, List.getElem_toArray, List.getElem_cons_zero, List.getElem_cons_succ, List.setIfInBounds_toArray, List.set_cons_zero, List.set_cons_succ]
            refine wpAnyN_one (i := 11) (by kernel_rfl) rfl (fun K hK => ?_)
            simp only [List.getElem_toArray, List.getElem_cons_zero, List.getElem_cons_succ]
            go_simp
            refine (picked_any rC 4 _ q4.1 q4.2 (by omega) (by omega)).mono ?_
            rintro e wz ⟨rfl, rfl⟩
            refine hK.out _ _ (fun _ => hS) ?_
            clear hK
            try simp only [Act.put, List.getElem_toArray, List.getElem_cons_zero, List.getElem_cons_succ, List.setIfInBounds_toArray, List.set_cons_zero, List.set_cons_succ]
            refine wpAnyN_one (i := 13) (by kernel_rfl) rfl (fun K hK => ?_)
            simp only [List.getElem_toArray, List.getElem_cons_zero, List.getElem_cons_succ]
            go_simp
            refine (hAl _ hR.below).mono ?_
            rintro e wc2 ⟨va, vc, rfl, hb2, rows2, hr2, hO2⟩
            have hRn := hR.call hb2 hO2 hr2
            refine hK.out _ _ (fun _ => hSof _ hRn.below) ?_
            clear hK
            replace hS := hSof _ hRn.below
            replace hR := hRn
            clear hRn hb2 hO2 hr2
            try simp only [Act.put, List.getElem_toArray, List.getElem_cons_zero, List.getElem_cons_succ, List.setIfInBounds_toArray, List.set_cons_zero, List.set_cons_succ]
            refine wpAnyN_take (i := 14) (v := ?v75) rfl (by kernel_rfl) (by kernel_rfl) (by kernel_rfl) (by kernel_rfl) (fun _ _ _ h => h) (by rfl) ?hy75 hS ?rest75
            case hy75 => (intro wy hSy; (try dsimp only at hSy); go_simp; try (with_reducible rfl))
            simp only [Act.put, List.getElem_toArray, List.getElem_cons_zero, List.getElem_cons_succ, List.setIfInBounds_toArray, List.set_cons_zero, List.set_cons_succ]
            refine wpAnyN_take (i := 15) (v := ?v76) rfl (by kernel_rfl) (by kernel_rfl) (by kernel_rfl) (by kernel_rfl) (fun _ _ _ h => h) (by rfl) ?hy76 hS ?rest76
            case hy76 => (intro wy hSy; (try dsimp only at hSy); go_simp; try (with_reducible rfl))
            simp only [Act.put, List.getElem_toArray, List.getElem_cons_zero, List.getElem_cons_succ, List.setIfInBounds_toArray, List.set_cons_zero, List.set_cons_succ]
            refine wpAnyN_take (i := 16) (v := ?v77) rfl (by kernel_rfl) (by kernel_rfl) (by kernel_rfl) (by kernel_rfl) (fun _ _ _ h => h) (by rfl) ?hy77 hS ?rest77
            case hy77 => (intro wy hSy; (try dsimp only at hSy); go_simp; try (with_reducible rfl))
            simp only [Act.put, List.getElem_toArray, List.getElem_cons_zero, List.getElem_cons_succ, List.setIfInBounds_toArray, List.set_cons_zero, List.set_cons_succ]
            have hF := hR.heapOnly rM
            obtain ⟨fg, x1, x2⟩ := hR.cellsG
            refine wpAnyN_one (i := 18) (by kernel_rfl) rfl (fun K hK => ?_)
            simp only [List.getElem_toArray, List.getElem_cons_zero, List.getElem_cons_succ]
            go_simp
            refine hK.out _ _ (fun _ => hSof _ hF.below) ?_
            clear hK
            replace hS := hSof _ hF.below
            refine wpAnyN_one (i := 19) (by kernel_rfl) rfl (fun K hK => ?_)
            simp only [List.getElem_toArray, List.getElem_cons_zero, List.getElem_cons_succ]
            go_simp
            refine hK.out _ _ (fun _ => hS) ?_
            clear hK
            refine wpAnyN_done (by kernel_rfl) ?_ _
            refine NoPanic.normal ?_
            go_wp2_with fail
            go_meet
            case rel => exact ⟨_, va, vc, rfl, rfl, hF⟩
        case rest =>
        obtain ⟨G, va, vc, rfl, rfl, hF⟩ := hcut
        have hm2 := hmid.later (hb4.trans (hF.below.mono hb4.size))
        have hfe := hF.pos
        obtain ⟨ha2, hc2, rows2, hx2, _, _, _⟩ := hm2.own
        have cg0 : wc.cell? ⟨G, 0, none⟩ = some (.int .i64 rM) := by simp [World.cell?, hF.g]
        have cg1 : wc.cell? ⟨G, 1, none⟩ = some (.slice va robs.length vc) := by simp [World.cell?, hF.g]
        have cx0 : wc.cell? ⟨X, 0, none⟩ = some (.int .i64 M) := by simp [World.cell?, hx2]
        have cx1 : wc.cell? ⟨X, 1, none⟩ = some (.slice ha2 n hc2) := by simp [World.cell?, hx2]
        have fx : ∀ j, wc.frozen? ⟨X, j, none⟩ = false := fun j => by simp [World.frozen?, hx2]
        clear hx hx1 hO hr hap hobs hSof hAl c2 c4 c5 c6 c7 c8 hvA1 hvA2
        by_cases he : re = 0
        · have hg := good_set hmid.good (v := ⟨2, (jA : Int)⟩) (x := ⟨xk, xn⟩) (f := pick rC 4) (by rw [← HR.out]; exact he)
          rw [← HR.out, hmid.len] at hg
          obtain ⟨g1, g2, g3⟩ := hg
          simp only at g1 g2 g3
          obtain ⟨rows3, hO3, hr3⟩ := hF.own
          rw [g2] at hO3 cg1
          rw [g1] at cg0
          have hbk : ∀ k, (Value.slice (some ⟨g, g0, none⟩) n ac).ownBlock = some k → k < W3.heap.size := fun k hk => by have := (World.ownsRow.lt hmid.vals k hk).2; omega
          have hps := hm2.set hO3 (by omega) hr3 hbk g3 g2
          go_wp2
          go_roundg (V - (i + 1))
          case measure => go_light; omega
          case rel => go_light; exact ⟨i + 1, n, robs, _, _, by omega, rfl, by go_num, rfl, hps⟩
        · have hed : (re == 0) = false := by simp [he]
          go_wp2
          go_roundg (V - (i + 1))
          case measure => go_light; omega
          case rel => go_light; exact ⟨i + 1, n, obs, _, _, by omega, rfl, by go_num, rfl, hm2⟩
    · obtain ⟨ha, hc, rows, hx, hO, hr, hap⟩ := hmid.own
      have c0 : wr.cell? ⟨X, 0, none⟩ = some (.int .i64 M) := by simp [World.cell?, hx]
      have c1 : wr.cell? ⟨X, 1, none⟩ = some (.slice ha n hc) := by simp [World.cell?, hx]
      have r1 : wr.cell? ⟨w.heap.size, 0, none⟩ = some (.int .i64 0) := by simp [World.cell?, hmid.ret]
      have r2 : wr.cell? ⟨w.heap.size, 1, none⟩ = some (.slice none 0 0) := by simp [World.cell?, hmid.ret]
      have r3 : ∀ j, wr.frozen? ⟨w.heap.size, j, none⟩ = false := fun j => by simp [World.frozen?, hmid.ret]
      have hE : ¬ ((i : Int) < (V : Int) ∧ (i : Int) < 40) := by omega
      by_cases hiz : (i : Int) < (V : Int)
      · have hi40 : ¬ (i : Int) < 40 := by omega
        clear hE hiV
        go_wp2
        obtain ⟨z1, z2, z3⟩ := hmid.done hO hr (.int .i64 M) (.slice ha n hc)
        refine bodyPost_ret (v := .tuple #[.agg #[.int .i64 M, .slice ha n hc], .slice aa n ac]) (by simp [results, Try.results6, go_sem, r1, r2]) rfl ?_
        exact ⟨ha, n, hc, aa, ⟨ac, rfl⟩, z1, z2, obs, hmid.len, z3, hmid.good⟩
      · clear hE hiV
        go_wp2
        obtain ⟨z1, z2, z3⟩ := hmid.done hO hr (.int .i64 M) (.slice ha n hc)
        refine bodyPost_ret (v := .tuple #[.agg #[.int .i64 M, .slice ha n hc], .slice aa n ac]) (by simp [results, Try.results6, go_sem, r1, r2]) rfl ?_
        exact ⟨ha, n, hc, aa, ⟨ac, rfl⟩, z1, z2, obs, hmid.len, z3, hmid.good⟩

end Go.Proofs.Ytbifdcchdoflpad
