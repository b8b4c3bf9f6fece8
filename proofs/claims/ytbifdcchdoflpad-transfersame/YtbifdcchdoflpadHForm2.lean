/- The walk of the closure say. -/
import Derived.Test.YtbifdcchdoflpadHForm
namespace Go.Proofs.Ytbifdcchdoflpad
open Go.RowKit Go.Maps

set_option maxHeartbeats 1000000 in
theorem say_any (k n : Int) (L : Int) (U P O m B : Nat) (out order : List Int) (w : World) (hst : FState w U P O m B out order) (hv : vMay L ⟨k, n⟩ = true) (hL : L ≤ 60) (hol : order.length ≤ 60) (hou : out.length ≤ 1000000) :
    Calls Try.prog 27 #[.agg #[.int .i64 k, .int .i64 n], .pointer (some ⟨U, 0, none⟩), .pointer (some ⟨P, 0, none⟩), .pointer (some ⟨O, 0, none⟩)] w fun e w' => e = .returned (.tuple #[]) ∧ FState w' U P O m B (out ++ tell (visit order ⟨k, n⟩) ⟨k, n⟩) (visit order ⟨k, n⟩) ∧ Below B w w' := by
  obtain ⟨uv, uc, ov, oc, D, hF⟩ := hst
  have ha := hF.below (below_box w (Obj.cells #[.int .i64 k, .int .i64 n] 30))
  have hV := Deep.blk_alloc_new w (Obj.cells #[.int .i64 k, .int .i64 n] 30)
  have hB0 : Below B w (w.alloc (Obj.cells #[.int .i64 k, .int .i64 n] 30)) := below_box_base hF.low.2.2.2.2 _
  have hs0 : B ≤ (w.alloc (Obj.cells #[.int .i64 k, .int .i64 n] 30)).heap.size := ha.low.2.2.2.2
  have c0 := cell_blk ha.u 0
  simp at c0
  go_enter Try.func27, Try.ntmps27
  go_upto_region 1 with fail
  generalize w.alloc (Obj.cells #[.int .i64 k, .int .i64 n] 30) = wa at *
  have v0 := cell_blk hV 0
  simp at v0
  go_upto_region 2 with (at_builtin; refine wpList_tellInt rfl _ _ (by rfl) (v := .slice uv out.length uc) (by rfl) ha.ui hs0 k (by rfl) ?b1 ?_; (case b1 => omega); intro g gc w2 hi2 hg2 hgg; have U2 := ha.tell_keep _ hg2 ha.u (by decide); have c2 := cell_blk U2 0; have f2 := fz_blk U2 0; simp at c2)
  have hV2 := ha.tell_keep _ hg2 hV (by decide)
  obtain ⟨hF3, hB3⟩ := ha.tell _ (by simp) hi2 hg2 hgg
  have hVU : w.heap.size ≠ U := fun e => by
    rw [← e] at U2
    rw [hV2] at U2
    simp at U2
  have hV3 := (Deep.blk_setCell_other w2 ⟨U, 0, none⟩ (.slice (some ⟨g, 0, none⟩) (out.length + 1) gc) w.heap.size hVU).trans hV2
  replace hB3 := hB0.trans hB3
  clear hV2 hB0 hs0 c0 U2 c2 f2 hi2 hg2 hgg ha hV hF
  generalize w2.setCell ⟨U, 0, none⟩ (.slice (some ⟨g, 0, none⟩) (out.length + 1) gc) = w3 at *
  have x0 := cell_blk hV3 0
  have x1 := cell_blk hV3 1
  have u0 := cell_blk hF3.u 0
  have p0 := cell_blk hF3.p 0
  have o0 := cell_blk hF3.o 0
  simp at x0 x1 u0 p0 o0
  have hs3 := hF3.low.2.2.2.2
  have hlen : (out ++ [k]).length = out.length + 1 := by simp
  by_cases hk : k = 2
  · subst hk
    have hn0 : 0 ≤ n := by simp [vMay] at hv; omega
    have hn1 : n < 60 := by simp [vMay] at hv; omega
    clear hv
    have hVs : Aside (visit order ⟨2, n⟩ = if n ∈ order then order else order ++ [n]) := rfl
    have hkey := keyOf_int_mk (P := Try.prog) (k := 3) (q := .i64) (a := n) Try.underlying3 (wf64 (by omega) (by omega))
    by_cases hin : n ∈ order
    · have hhas : Maps.has D (.int .i64 n) = true := by rw [hF3.has]; simp [hin]
      have hat0 : D.atKey (.int .i64 n) (.lit (.int .i64 0)) = .lit (.int .i64 (order.idxOf n : Nat)) := hF3.at_ _ _ (idx_at hin)
      obtain ⟨q, hq⟩ : ∃ q : Nat, q = order.idxOf n := ⟨_, rfl⟩
      have HQ : Aside (q = order.idxOf n) := hq
      rw [← hq] at hat0
      clear hq
      have ui3 := hF3.ui
      rw [hlen] at ui3
      go_wp2_with (first
        | (at_lookup; refine wpList_lookup_own_ok_int _ rfl _ _ 59 rfl 3 3 .i64 keysN Try.underlying59 Try.underlying3 (Try.zeroN _) m order.length D rfl hF3.d _ _ rfl hkey ?_; intro c hat hwc; obtain rfl : (q : Int) = c := (by rw [hat0] at hat; simpa using hat); rw [hhas])
        | (at_builtin; refine wpList_tellInt rfl _ _ (by rfl) (v := .slice (some ⟨g, 0, none⟩) (out.length + 1) gc) (by rfl) ui3 hs3 q (by rfl) ?b1 ?_; (case b1 => simp; omega); intro g2 gc2 w4 hi4 hg4 hgg4; have U4 := hF3.tell_keep _ (by rw [hlen]; exact hg4) hF3.u (by decide); have c4 := cell_blk U4 0; have f4 := fz_blk U4 0; simp at c4)
        | fail)
      rw [hlen] at hi4
      obtain ⟨hF5, hB5⟩ := hF3.tell _ (n := out.length + 1 + 1) (by simp) hi4 hg4 hgg4
      refine bodyPost_ret (v := .tuple #[]) (by simp [results, Try.results27]) rfl ⟨rfl, ?_, hB3.trans hB5⟩
      rw [hVs.out, if_pos hin]
      have e : out ++ tell order ⟨2, n⟩ = out ++ [2] ++ [(q : Int)] := by rw [HQ.out]; simp [tell]
      rw [e]
      exact ⟨_, _, _, _, _, hF5⟩
    · have hhas : Maps.has D (.int .i64 n) = false := by rw [hF3.has]; simp [hin]
      go_upto_region 6 with (at_lookup; refine wpList_lookup_own_ok_int _ rfl _ _ 59 rfl 3 3 .i64 keysN Try.underlying59 Try.underlying3 (Try.zeroN _) m order.length D rfl hF3.d _ _ rfl hkey ?_; intro c hat hwc; rw [hhas])
      go_upto_region 7 with (at_mapUpdate; refine wpList_mapUpdate_own _ rfl _ _ _ 59 rfl 3 3 keysN Try.underlying59 _ m order.length D rfl hF3.d ?m1 _ _ _ rfl rfl hkey _ [] (plainElem_int Try.underlying3 (wf64 ?m2 ?m3)) ?_; (case m1 => unfold maxLen; omega); (case m2 => omega); (case m3 => omega); intro w4 hD4 hg4)
      have O4 := hF3.map_keep hg4 hF3.o
      have V4 := hF3.map_keep hg4 hV3
      have oi4 := hF3.map_order hg4
      have y1 := cell_blk V4 1
      have z0 := cell_blk O4 0
      simp at y1 z0
      have hs4 : B ≤ w4.heap.size := Nat.le_trans hs3 hg4.size
      go_upto_region 8 with (at_builtin; refine wpList_tellInt rfl _ _ (by rfl) (v := .slice ov order.length oc) (by rfl) oi4 hs4 n (by rfl) ?b1 ?_; (case b1 => omega); intro g5 gc5 w5 hi5 hg5 hgg5; have O5 := hF3.push_keep hg4 _ hg5 hF3.o (by decide); have c5 := cell_blk O5 0; have f5 := fz_blk O5 0; simp at c5)
      obtain ⟨hF6, hB6⟩ := hF3.push hin hD4 hg4 hi5 hg5 hgg5
      clear O5 c5 f5 hi5 hg5 hgg5 hs4 y1 z0 oi4 V4 O4 hD4 hg4 x0 x1 u0 p0 o0 hs3 hF3
      generalize w5.setCell ⟨O, 0, none⟩ (.slice (some ⟨g5, 0, none⟩) (order.length + 1) gc5) = w6 at *
      have ui6 := hF6.ui
      rw [hlen] at ui6
      have u6 := cell_blk hF6.u 0
      simp at u6
      have hs6 := hF6.low.2.2.2.2
      go_wp2_with (at_builtin; refine wpList_tellInt rfl _ _ (by rfl) (v := .slice (some ⟨g, 0, none⟩) (out.length + 1) gc) (by rfl) ui6 hs6 order.length (by rfl) ?b1 ?_; (case b1 => simp; omega); intro g2 gc2 w7 hi7 hg7 hgg7; have U7 := hF6.tell_keep _ (by rw [hlen]; exact hg7) hF6.u (by decide); have c7 := cell_blk U7 0; have f7 := fz_blk U7 0; simp at c7)
      rw [hlen] at hi7
      obtain ⟨hF8, hB8⟩ := hF6.tell _ (n := out.length + 1 + 1) (by simp) hi7 hg7 hgg7
      refine bodyPost_ret (v := .tuple #[]) (by simp [results, Try.results27]) rfl ⟨rfl, ?_, (hB3.trans hB6).trans hB8⟩
      rw [hVs.out, if_neg hin]
      have e : out ++ tell (order ++ [n]) ⟨2, n⟩ = out ++ [2] ++ [(order.length : Int)] := by simp [tell, List.idxOf_append, hin]
      rw [e]
      exact ⟨_, _, _, _, _, hF8⟩
  · have hVs : visit order ⟨k, n⟩ = order := by simp [visit, hk]
    have hkb : (k == 2) = false := by simp [hk]
    have HVS : Aside (visit order ⟨k, n⟩ = order) := hVs
    clear hVs
    have ui3 := hF3.ui
    rw [hlen] at ui3
    go_wp2_with (at_builtin; refine wpList_tellInt rfl _ _ (by rfl) (v := .slice (some ⟨g, 0, none⟩) (out.length + 1) gc) (by rfl) ui3 hs3 n (by rfl) ?b1 ?_; (case b1 => simp; omega); intro g2 gc2 w4 hi4 hg4 hgg4; have U4 := hF3.tell_keep _ (by rw [hlen]; exact hg4) hF3.u (by decide); have c4 := cell_blk U4 0; have f4 := fz_blk U4 0; simp at c4)
    rw [hlen] at hi4
    obtain ⟨hF5, hB5⟩ := hF3.tell _ (n := out.length + 1 + 1) (by simp) hi4 hg4 hgg4
    go_end0
    refine ⟨rfl, ?_, hB3.trans hB5⟩
    have e : out ++ tell order ⟨k, n⟩ = out ++ [k] ++ [n] := by simp [tell, hk]
    rw [HVS.out, e]
    exact ⟨_, _, _, _, _, hF5⟩

end Go.Proofs.Ytbifdcchdoflpad
