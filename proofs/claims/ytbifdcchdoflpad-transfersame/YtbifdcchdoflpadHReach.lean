/- The walks of each, reached and Reach. -/
import Derived.Test.YtbifdcchdoflpadHVisit
import Derived.Test.YtbifdcchdoflpadHHeld
import Derived.WalkKit
import Derived.WalkSpells
import Derived.WalkLawsBesides
import Derived.Deep.LoopGhost
import Derived.Deep.Light
import Derived.Deep.QuietTactic
import Derived.BigQuiet
import Derived.BigRegion
namespace Go.Proofs.Ytbifdcchdoflpad
open Go.RowKit Go.Maps

set_option maxHeartbeats 1000000 in
theorem each_visit (ra : Option Addr) (rc : Nat) (vs : List Vl) (L : Nat) (R O m B : Nat) (order : List Int) (w : World) (hst : RState w R O m B order) (hok : Ok L order) (hvs : ∀ w', Below B w w' → ValsAt w' ra vs) (hvl : 16 * vs.length ≤ 140737488351232) (hv : vs.all (vMay L) = true) (hL : L ≤ 60) :
    Calls Try.prog 37 #[.slice ra vs.length rc, .func (.func 36) #[] #[.pointer (some ⟨R, 0, none⟩), .pointer (some ⟨O, 0, none⟩)]] w fun e w' => e = .returned (.tuple #[]) ∧ RState w' R O m B (visits order vs) ∧ Below B w w' := by
  obtain ⟨V, hV⟩ : ∃ V, V = vs.length := ⟨_, rfl⟩
  have HV : Aside (V = vs.length) := hV
  rw [← hV] at hvl ⊢
  clear hV
  go_enter Try.func37, Try.ntmps37
  go_wp2
  go_loopg [8, 5] V (fun g s8 s5 wr => ∃ i : Nat, i ≤ V ∧ g = V - i ∧ s8 = .int .i64 i ∧ RState wr R O m B (visits order (vs.take i)) ∧ Below B w wr ∧ Aside (Ok L (visits order (vs.take i))))
  case atStart => exact ⟨0, Nat.zero_le _, rfl, rfl, hst, Below.refl _ _, hok⟩
  case round =>
    obtain ⟨i, hi, rfl, rfl, hr, hb, hoi⟩ := hrel
    clear hst hok
    by_cases hiV : i < V
    · have hiz : (i : Int) < (V : Int) := by omega
      obtain ⟨⟨k, n⟩, hx⟩ := at_some (l := vs) (i := i) (by rw [← HV.out]; exact hiV)
      have HT : Aside (visits order (vs.take (i + 1)) = visit (visits order (vs.take i)) ⟨k, n⟩) := by show visits order (vs.take (i + 1)) = _; rw [List.take_add_one, hx]; exact visits_snoc _ _ _
      have hvm : vMay L ⟨k, n⟩ = true := List.all_eq_true.1 hv _ (List.mem_of_getElem? hx)
      obtain ⟨b, o, rfl, c1, c2⟩ := hvs wr hb i _ hx
      simp only at c1 c2
      have hlow := hr.low
      have hol : Aside ((visits order (vs.take i)).length ≤ 60) := Nat.le_trans hoi.out.len hL
      clear hx
      go_wp2_with fail
      refine (visit_any k n L R O m B _ _ (hr.below (below_box _ _)) hvm (by omega) hol.out).mono ?_
      rintro e w1 ⟨rfl, hr1, hb1⟩
      have hb2 := (hb.alloc hlow.2.2.2 _).trans hb1
      rw [← HT.out] at hr1
      have hoi2 : Aside (Ok L (visits order (vs.take (i + 1)))) := by show Ok L _; rw [HT.out]; exact hoi.out.visit hvm
      clear hr hb hb1 c1 c2 hoi
      go_wp2
      go_roundg (V - (i + 1))
      case measure => go_light; omega
      case rel => go_light; exact ⟨i + 1, by omega, rfl, by go_num, hr1, hb2, hoi2⟩
    · have HT : Aside (vs.take i = vs) := by show vs.take i = vs; rw [List.take_of_length_le]; rw [← HV.out]; omega
      go_wp2
      first
        | go_end0
        | (refine bodyPost_ret (v := .tuple #[]) (by simp [results, Try.results37]) rfl ?_)
      rw [HT.out] at hr
      exact ⟨rfl, hr, hb⟩

theorem hMay_bound {M : Int} {l : List Ob} {r : List Vl} (h : hMay M l r = true) : l.length ≤ 60 := by
  simp only [hMay, mMay, Bool.and_eq_true, decide_eq_true_eq] at h
  omega

set_option maxHeartbeats 1000000 in
theorem reached_any (M : Int) (ao : Option Addr) (cap : Nat) (l : List Ob) (ra : Option Addr) (rc : Nat) (roots : List Vl) (w : World) (h : ObsAt w ao l) (hr : ValsAt w ra roots) (hrl : 16 * roots.length ≤ 140737488351232) (hmay : hMay M l roots = true) :
    Calls Try.prog 20 #[.agg #[.int .i64 M, .slice ao l.length cap], .slice ra roots.length rc] w fun e w' => ∃ ov oc, e = .returned (.slice ov (reach l roots).length oc) ∧ Below w.heap.size w w' ∧ IntsOwn w' w.heap.size (.slice ov (reach l roots).length oc) (reach l roots) := by
  have hl60 := hMay_bound hmay
  have hrv : roots.all (vMay l.length) = true := by simp only [hMay, Bool.and_eq_true] at hmay; exact hmay.2
  have HM : Aside (hMay M l roots = true) := hmay
  clear hmay
  obtain ⟨L, hL⟩ : ∃ L, L = l.length := ⟨_, rfl⟩
  have HL : Aside (L = l.length) := hL
  rw [← hL] at hl60 hrv ⊢
  clear hL
  obtain ⟨rr, hrr⟩ : ∃ rr, rr = reach l roots := ⟨_, rfl⟩
  have HR : Aside (rr = reach l roots) := hrr
  rw [← hrr]
  clear hrr
  have hmm := @run_makeMap Try.prog
  go_enter Try.func20, Try.ntmps20
  go_wp2_with fail
  have HB := boxes4 w (Obj.cells #[.int .i64 M, .slice ao L cap] 25) (Obj.cells #[.slice none 0 0] 32) (Obj.map #[] 0) (Obj.cells #[.map (some (w.heap.size + 1 + 1))] 59)
  have hDm : (((w.alloc (Obj.cells #[.int .i64 M, .slice ao L cap] 25)).alloc (Obj.cells #[.slice none 0 0] 32)).alloc (Obj.map #[] 0)).ownsMap Try.prog 3 (plainElem (H := Unit) Try.prog 3) (w.heap.size + 1 + 1) 0 (.map []) := by
    have := World.ownsMap_made (H := Unit) ((w.alloc (Obj.cells #[.int .i64 M, .slice ao L cap] 25)).alloc (Obj.cells #[.slice none 0 0] 32)) Try.prog 3 (plainElem Try.prog 3)
    simpa using this
  have hDm2 := hDm.alloc (Obj.cells #[.map (some (w.heap.size + 1 + 1))] 59)
  clear hDm hmm
  generalize (((w.alloc (Obj.cells #[.int .i64 M, .slice ao L cap] 25)).alloc (Obj.cells #[.slice none 0 0] 32)).alloc (Obj.map #[] 0)).alloc (Obj.cells #[.map (some (w.heap.size + 1 + 1))] 59) = W at *
  obtain ⟨N0, N1, _N2, N3, k1, b1, hs⟩ := HB
  have hst : RState W (w.heap.size + 1 + 1 + 1) (w.heap.size + 1) (w.heap.size + 1 + 1) (w.heap.size + 1) [] :=
    ⟨N3, ⟨none, 0, N1, World.ownsRow_nil _ _ _ _⟩, ⟨.map [], hDm2, fun z => rfl⟩, by omega, by omega, by omega, by omega⟩
  have hlow : ∀ (i : Nat) v, roots[i]? = some v → ∃ b o, ra = some ⟨b, o, none⟩ ∧ b < w.heap.size + 1 := fun i v hi => by
    obtain ⟨b, o, e, hb⟩ := hr.low i v hi
    exact ⟨b, o, e, by omega⟩
  refine (each_visit ra rc roots L _ _ _ _ [] W hst (Ok.nil _) (fun w' hb' => (hr.keeps k1).keepLow hlow hb') hrl hrv hl60).mono ?_
  rintro e w1 ⟨rfl, hs1, hb1⟩
  have hk0 : Aside (Ok L (visits [] roots)) := (Ok.nil L).visits hrv
  have hg0 : Aside (rr = bfs l (L + 1 - 0) 0 (visits [] roots)) := by show rr = _; rw [HR.out, HL.out]; rfl
  have hW : Below w.heap.size w w1 := b1.trans (hb1.mono (by omega))
  have NW : Aside (W.heap[w.heap.size]? = some (.cells #[.int .i64 M, .slice ao L cap] 25 (0, 0))) := N0
  clear hst N0 N1 _N2 N3 hDm2 hlow
  go_wp2
  go_loopg [8] (L + 1) (fun g s8 wr => ∃ (i : Nat) (order : List Int), i ≤ order.length ∧ g = L + 1 - i ∧ s8 = .int .i64 i ∧ RState wr (w.heap.size + 1 + 1 + 1) (w.heap.size + 1) (w.heap.size + 1 + 1) (w.heap.size + 1) order ∧ Below (w.heap.size + 1) W wr ∧ Aside (Ok L order) ∧ Aside (rr = bfs l (L + 1 - i) i order))
  case atStart => exact ⟨0, _, Nat.zero_le _, rfl, rfl, hs1, hb1, hk0.out, hg0.out⟩
  case round =>
    obtain ⟨i, order, hi, rfl, rfl, hr2, hb2, hok, hA⟩ := hrel
    clear hs1 hb1 hk0 hg0 hW
    obtain ⟨ov, oc, ho, hio⟩ := hr2.own
    have hoL := hok.out.len
    have hc0 := cell_blk ho 0
    simp at hc0
    have hN := (hb2.block _ (by omega : w.heap.size < w.heap.size + 1)).trans ((show W.heap[w.heap.size]? = some (.cells #[.int .i64 M, .slice ao L cap] 25 (0, 0)) from NW.out))
    have hc1 := cell_blk hN 1
    simp at hc1
    by_cases hiO : i < order.length
    · have hiz : (i : Int) < (order.length : Int) := by omega
      obtain ⟨p, hp⟩ := at_some hiO
      have hpb := hok.out.2 p (List.mem_of_getElem? hp)
      obtain ⟨q, rfl⟩ := Int.eq_ofNat_of_zero_le hpb.1
      have hq : q < L := by omega
      have hqz : (q : Int) < (L : Int) := by omega
      obtain ⟨⟨fs, dead⟩, hx⟩ := at_some (l := l) (i := q) (by rw [← HL.out]; exact hq)
      have HF : Aside (fieldsOf l (q : Int) = fs) := by show fieldsOf l (q : Int) = fs; simp [fieldsOf, hx]
      have HN : Aside (rr = bfs l (L + 1 - (i + 1)) (i + 1) (visits order fs)) := by
        show rr = _
        rw [hA.out, bfs_step l hp (by omega), HF.out]
        rfl
      have hfm : fs.all (vMay L) = true := by rw [← HF.out, HL.out]; exact fields_may HM.out _
      obtain ⟨b, o, fa, fc, rfl, c1, c2, hfs, hfl⟩ := h.cell q _ hx
      simp only at c1 c2 hfs hfl
      have hblt := World.block_lt_of_cell? _ _ c1
      simp only at hblt
      have d1 := (hb2.cell (p := ⟨b, o + q * 2, none⟩) (by show b < _; omega)).trans (k1 _ _ c1)
      obtain ⟨g, hov⟩ : ∃ g, ov = some ⟨g, 0, none⟩ := by
        rcases ownsRow_form hio with ⟨_, hn⟩ | ⟨g, gc, hg', _⟩
        · omega
        · simp only [Value.slice.injEq] at hg'
          exact ⟨g, hg'.1⟩
      subst hov
      have d2 : wr.cell? ⟨g, i, none⟩ = some (.int .i64 q) := ownsRow_cell hio rfl (by simp [hp])
      have hlowf : ∀ (i : Nat) v, fs[i]? = some v → ∃ b o, fa = some ⟨b, o, none⟩ ∧ b < w.heap.size + 1 := fun i v hi => by
        obtain ⟨b, o, e, hb⟩ := hfs.low i v hi
        exact ⟨b, o, e, by omega⟩
      have hfsW := (hfs.keeps k1).keepLow hlowf hb2
      have HFS : Aside (∀ w', Below (w.heap.size + 1) wr w' → ValsAt w' fa fs) := fun w' hb' => hfsW.keepLow hlowf hb'
      clear hA hp hx c1 c2 hfs hfsW hlowf ho hN
      go_wp2_with fail
      refine wp_region_need (fun j => j != 10) (fun w' => w'.cell? ⟨w.heap.size, 1, none⟩ = some (.slice (some ⟨b, o, none⟩) L cap) ∧ w'.cell? ⟨w.heap.size + 1, 0, none⟩ = some (.slice (some ⟨g, 0, none⟩) order.length oc) ∧ w'.cell? ⟨g, i, none⟩ = some (.int .i64 q) ∧ w'.cell? ⟨b, o + q * 2, none⟩ = some (.slice fa fs.length fc)) (by kernel_rfl) ⟨hc1, hc0, d2, d1⟩ (fun hS => ?_)
      refine wpAnyN_take (i := 0) (v := ?v1) rfl (by kernel_rfl) (by kernel_rfl) (by kernel_rfl) (by kernel_rfl) (fun _ _ _ h => h) (by rfl) ?hy1 hS ?rest1
      case hy1 => (intro wy hSy; (try dsimp only at hSy); go_simp; try (with_reducible rfl))
      simp only [Act.put, List.getElem_toArray, List.getElem_cons_zero, List.setIfInBounds_toArray, List.set_cons_zero, List.set_cons_succ]
      refine wpAnyN_take (i := 1) (v := ?v2) rfl (by kernel_rfl) (by kernel_rfl) (by kernel_rfl) (by kernel_rfl) (fun _ _ _ h => h) (by rfl) ?hy2 hS ?rest2
      case hy2 => (intro wy hSy; (try dsimp only at hSy); go_simp; try (with_reducible rfl))
      simp only [Act.put, List.getElem_toArray, List.getElem_cons_zero, List.getElem_cons_succ, List.setIfInBounds_toArray, List.set_cons_zero, List.set_cons_succ]
      refine wpAnyN_take (i := 2) (v := ?v3) rfl (by kernel_rfl) (by kernel_rfl) (by kernel_rfl) (by kernel_rfl) (fun _ _ _ h => h) (by rfl) ?hy3 hS ?rest3
      case hy3 => (intro wy hSy; (try dsimp only at hSy); go_simp; try (with_reducible rfl))
      simp only [Act.put, List.getElem_toArray, List.getElem_cons_zero, List.getElem_cons_succ, List.setIfInBounds_toArray, List.set_cons_zero, List.set_cons_succ]
      refine wpAnyN_take (i := 3) (v := ?v4) rfl (by kernel_rfl) (by kernel_rfl) (by kernel_rfl) (by kernel_rfl) (fun _ _ _ h => h) (by rfl) ?hy4 hS ?rest4
      case hy4 => (intro wy hSy; (try dsimp only at hSy); go_simp; try (with_reducible rfl))
      simp only [Act.put, List.getElem_toArray, List.getElem_cons_zero, List.getElem_cons_succ, List.setIfInBounds_toArray, List.set_cons_zero, List.set_cons_succ]
      refine wpAnyN_take (i := 4) (v := ?v5) rfl (by kernel_rfl) (by kernel_rfl) (by kernel_rfl) (by kernel_rfl) (fun _ _ _ h => h) (by rfl) ?hy5 hS ?rest5
      case hy5 => (intro wy hSy; (try dsimp only at hSy); go_simp; try (with_reducible rfl))
      simp only [Act.put, List.getElem_toArray, List.getElem_cons_zero, List.getElem_cons_succ, List.setIfInBounds_toArray, List.set_cons_zero, List.set_cons_succ]
      refine wpAnyN_take (i := 5) (v := ?v6) rfl (by kernel_rfl) (by kernel_rfl) (by kernel_rfl) (by kernel_rfl) (fun _ _ _ h => h) (by rfl) ?hy6 hS ?rest6
      case hy6 => (intro wy hSy; (try dsimp only at hSy); go_simp; try (with_reducible rfl))
      simp only [Act.put, List.getElem_toArray, List.getElem_cons_zero, List.getElem_cons_succ, List.setIfInBounds_toArray, List.set_cons_zero, List.set_cons_succ]
      refine wpAnyN_take (i := 6) (v := ?v7) rfl (by kernel_rfl) (by kernel_rfl) (by kernel_rfl) (by kernel_rfl) (fun _ _ _ h => h) (by rfl) ?hy7 hS ?rest7
      case hy7 => (intro wy hSy; (try dsimp only at hSy); go_simp; try (with_reducible rfl))
      simp only [Act.put, List.getElem_toArray, List.getElem_cons_zero, List.getElem_cons_succ, List.setIfInBounds_toArray, List.set_cons_zero, List.set_cons_succ]
      refine wpAnyN_take (i := 7) (v := ?v8) rfl (by kernel_rfl) (by kernel_rfl) (by kernel_rfl) (by kernel_rfl) (fun _ _ _ h => h) (by rfl) ?hy8 hS ?rest8
      case hy8 => (intro wy hSy; (try dsimp only at hSy); go_simp; try (with_reducible rfl))
      simp only [Act.put, List.getElem_toArray, List.getElem_cons_zero, List.getElem_cons_succ, List.setIfInBounds_toArray, List.set_cons_zero, List.set_cons_succ]
      refine wpAnyN_take (i := 8) (v := ?v9) rfl (by kernel_rfl) (by kernel_rfl) (by kernel_rfl) (by kernel_rfl) (fun _ _ _ h => h) (by rfl) ?hy9 hS ?rest9
      case hy9 => (intro wy hSy; (try dsimp only at hSy); go_simp; try (with_reducible rfl))
      simp only [Act.put, List.getElem_toArray, List.getElem_cons_zero, List.getElem_cons_succ, List.setIfInBounds_toArray, List.set_cons_zero, List.set_cons_succ]
      refine wpAnyN_take (i := 9) (v := ?v10) rfl (by kernel_rfl) (by kernel_rfl) (by kernel_rfl) (by kernel_rfl) (fun _ _ _ h => h) (by rfl) ?hy10 hS ?rest10
      case hy10 => (intro wy hSy; (try dsimp only at hSy); go_simp; try (with_reducible rfl))
      simp only [Act.put, List.getElem_toArray, List.getElem_cons_zero, List.getElem_cons_succ, List.setIfInBounds_toArray, List.set_cons_zero, List.set_cons_succ]
      refine wpAnyN_one (i := 10) (by kernel_rfl) rfl (fun K hK => ?_)
      simp only [List.getElem_toArray, List.getElem_cons_zero, List.getElem_cons_succ]
      go_simp
      refine (each_visit fa fc fs L _ _ _ _ order wr.drew (hr2.below (Below.refl _ _).drew) hok.out (fun w' hb' => HFS.out w' (((Below.refl _ _).drew).trans hb')) hfl hfm hl60).mono ?_
      rintro e w2 ⟨rfl, hr3, hb3⟩
      refine hK.out _ _ (fun h => absurd h (by decide)) ?_
      clear hK
      refine wpAnyN_done (by kernel_rfl) ?_ _
      refine NoPanic.normal ?_
      have hb4 : Below (w.heap.size + 1) W w2 := hb2.trans (((Below.refl _ _).drew).trans hb3)
      have hok2 : Aside (Ok L (visits order fs)) := hok.out.visits hfm
      have hil : Aside (i + 1 ≤ (visits order fs).length) := Nat.le_trans hiO (visits_len _ _)
      clear hS hc0 hc1 d1 d2 hr2 hb2 hb3 HFS hio hok
      go_wp2
      go_roundg (L + 1 - (i + 1))
      case measure => go_light; omega
      case rel => go_light; exact ⟨i + 1, _, hil.out, rfl, by go_num, hr3, hb4, hok2, HN⟩
    · obtain rfl : i = order.length := by omega
      have HN : Aside (rr = order) := by show rr = order; rw [hA.out, bfs_end]
      have hbW : Below w.heap.size w wr := b1.trans (hb2.mono (by omega))
      clear hA
      go_wp2
      go_ret
      exact ⟨ov, oc, by rw [HN.out]; rfl, hbW, by rw [HN.out]; exact ownsRow_le hio (by omega)⟩

/-- What Reach answers. -/
def reachS (M : Int) (l : List Ob) (roots : List Vl) : List Int × Int := if hMay M l roots = true then (reach l roots, 0) else ([], 8)

set_option maxHeartbeats 1000000 in
theorem reach_any (M : Int) (ao : Option Addr) (cap : Nat) (l : List Ob) (ra : Option Addr) (rc : Nat) (roots : List Vl) (w : World) (h : ObsAt w ao l) (hr : ValsAt w ra roots) (hrl : 16 * roots.length ≤ 140737488351232) :
    Calls Try.prog 8 #[.agg #[.int .i64 M, .slice ao l.length cap], .slice ra roots.length rc] w fun e w' => ∃ ov oc, e = .returned (.tuple #[.slice ov (reachS M l roots).1.length oc, .int .i64 (reachS M l roots).2]) ∧ Below w.heap.size w w' ∧ IntsOwn w' w.heap.size (.slice ov (reachS M l roots).1.length oc) (reachS M l roots).1 := by
  cases hq : hMay M l roots with
  | false =>
    have hS : reachS M l roots = ([], 8) := by simp [reachS, hq]
    rw [hS]
    go_enter Try.func8, Try.ntmps8
    go_wp2_with fail
    refine (check_any M ao cap l ra rc roots _ (h.keeps (Keeps.alloc _ _)) (hr.keeps (Keeps.alloc _ _)) hrl).mono ?_
    rintro e w1 ⟨rfl, hb⟩
    rw [hq]
    simp only [erS_false]
    have b1 := (below_box w _).trans (hb.mono (by simp))
    clear hb
    go_wp2
    go_ret2
    exact ⟨none, 0, rfl, b1, World.ownsRow_nil _ _ _ _⟩
  | true =>
    have hS : reachS M l roots = (reach l roots, 0) := by simp [reachS, hq]
    rw [hS]
    clear hS
    go_enter Try.func8, Try.ntmps8
    go_wp2_with fail
    have N0 := Deep.blk_alloc_new w (Obj.cells #[.int .i64 M, .slice ao l.length cap] 25)
    have k0 := Keeps.alloc w (Obj.cells #[.int .i64 M, .slice ao l.length cap] 25)
    refine (check_any M ao cap l ra rc roots _ (h.keeps k0) (hr.keeps k0) hrl).mono ?_
    rintro e w1 ⟨rfl, hb⟩
    rw [hq]
    simp only [erS_true]
    have b1 := (below_box w (Obj.cells #[.int .i64 M, .slice ao l.length cap] 25)).trans (hb.mono (by simp))
    have M0 := (hb.block w.heap.size (by simp)).trans N0
    have hs1 : w.heap.size + 1 ≤ w1.heap.size := by have := hb.size; simp at this; omega
    have p0 := cell_blk M0 0
    have p1 := cell_blk M0 1
    simp at p0 p1
    have k1 := k0.trans (Keeps.below hb)
    clear hb N0 k0
    go_wp2_with fail
    refine (reached_any M ao cap l ra rc roots _ (h.keeps k1) (hr.keeps k1) hrl hq).mono ?_
    rintro e w2 ⟨ov, oc, rfl, hb2, hI⟩
    have b2 := b1.trans (hb2.mono (by omega))
    have hI2 := ownsRow_le hI (show w.heap.size ≤ w1.heap.size by omega)
    clear hb2 hI p0 p1
    go_wp2
    go_ret2
    exact ⟨ov, oc, rfl, b2, hI2⟩

end Go.Proofs.Ytbifdcchdoflpad
