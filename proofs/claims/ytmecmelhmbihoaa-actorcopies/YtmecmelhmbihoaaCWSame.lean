/- The walk of sameWorld: worlds that are the same as data are found the same. -/
import Derived.Test.YtmecmelhmbihoaaCHSame
import Derived.Test.YtmecmelhmbihoaaCPlain
import Derived.Test.YtmecmelhmbihoaaCHOwn
namespace Go.Proofs.Ytmecmelhmbihoaa
open Go.RowKit

set_option maxRecDepth 100000 in
set_option maxHeartbeats 1600000 in
theorem sameWorld_any (aa ab pa pb : Option Addr) (ca cb da db : Nat) (V : Wd) (w : World) (ha : ActsAt w aa V.acts) (hb : ActsAt w ab V.acts) (hp : ToldAt w pa V.prints) (hq : ToldAt w pb V.prints) :
    Calls Try.prog 5 #[.agg #[.slice aa V.acts.length ca, .slice pa V.prints.length da], .agg #[.slice ab V.acts.length cb, .slice pb V.prints.length db]] w fun e w' => e = .returned (.bool true) ∧ Below w.heap.size w w' := by
  have hm := ha.many
  have hm2 := hp.many
  obtain ⟨L, hL⟩ : ∃ L, L = V.acts.length := ⟨_, rfl⟩
  obtain ⟨K, hK⟩ : ∃ K, K = V.prints.length := ⟨_, rfl⟩
  have HL : Aside (L = V.acts.length ∧ K = V.prints.length) := ⟨hL, hK⟩
  rw [← hL] at hm ⊢
  rw [← hK] at hm2 ⊢
  clear hL hK
  go_enter Try.func5, Try.ntmps5
  obtain ⟨B0, B1, kW, hbel, _⟩ := boxes2 w (.cells #[.slice aa L ca, .slice pa K da] 25) (.cells #[.slice ab L cb, .slice pb K db] 25)
  go_wp2
  replace ha := ha.keeps kW
  replace hb := hb.keeps kW
  replace hp := hp.keeps kW
  replace hq := hq.keeps kW
  have c0 : ((w.alloc (.cells #[.slice aa L ca, .slice pa K da] 25)).alloc (.cells #[.slice ab L cb, .slice pb K db] 25)).cell? ⟨w.heap.size, 0, none⟩ = some (.slice aa L ca) := by simp
  have c1 : ((w.alloc (.cells #[.slice aa L ca, .slice pa K da] 25)).alloc (.cells #[.slice ab L cb, .slice pb K db] 25)).cell? ⟨w.heap.size, 1, none⟩ = some (.slice pa K da) := by simp
  have d0 : ((w.alloc (.cells #[.slice aa L ca, .slice pa K da] 25)).alloc (.cells #[.slice ab L cb, .slice pb K db] 25)).cell? ⟨w.heap.size + 1, 0, none⟩ = some (.slice ab L cb) := by simp
  have d1 : ((w.alloc (.cells #[.slice aa L ca, .slice pa K da] 25)).alloc (.cells #[.slice ab L cb, .slice pb K db] 25)).cell? ⟨w.heap.size + 1, 1, none⟩ = some (.slice pb K db) := by simp
  clear kW
  generalize (w.alloc (.cells #[.slice aa L ca, .slice pa K da] 25)).alloc (.cells #[.slice ab L cb, .slice pb K db] 25) = W at *
  clear B0 B1
  go_loopg [5] K (fun g s5 wr => ∃ i n : Nat, i ≤ K ∧ g = K - i ∧ s5 = .int .i64 i ∧ wr = W.drewN n)
  case atStart => exact ⟨0, 0, Nat.zero_le _, rfl, rfl, rfl⟩
  case round =>
    obtain ⟨i, n, hi, rfl, rfl, rfl⟩ := hrel
    by_cases hiK : i < K
    · have hiz : (i : Int) < (K : Int) := by omega
      obtain ⟨⟨k, m⟩, hv⟩ := at_some (l := V.prints) (i := i) (by rw [← HL.out.2]; exact hiK)
      obtain ⟨ba, oa, rfl, a1, a2⟩ := hp.cell i _ hv
      obtain ⟨bb, ob, rfl, b1, b2⟩ := hq.cell i _ hv
      clear hv
      simp only at a1 a2 b1 b2
      go_wp2
      go_quiet (fail)
      go_wp2
      go_roundg (K - (i + 1))
      case measure => go_light; omega
      case rel => go_light; exact ⟨i + 1, _, by omega, rfl, by go_num, rfl⟩
    · clear hp hq
      have kn := Keeps.drewN W n
      have hbn := below_drewN hbel n
      replace ha := ha.keeps kn
      replace hb := hb.keeps kn
      replace c0 := kn _ _ c0
      replace d0 := kn _ _ d0
      replace c1 := kn _ _ c1
      clear kn hbel
      go_wp2
      generalize W.drewN n = W1 at *
      go_loopg [6] L (fun g s6 wr => ∃ i : Nat, i ≤ L ∧ g = L - i ∧ s6 = .int .i64 i ∧ Below W1.heap.size W1 wr)
      case atStart => exact ⟨0, Nat.zero_le _, rfl, rfl, Below.refl _ _⟩
      case round =>
        obtain ⟨j, hj, rfl, rfl, hbr⟩ := hrel
        have kr := Keeps.below hbr
        replace c0 := kr _ _ c0
        replace d0 := kr _ _ d0
        replace c1 := kr _ _ c1
        by_cases hjL : j < L
        · have hjz : (j : Int) < (L : Int) := by omega
          obtain ⟨⟨kind, par, M, obs, regs, pc, box, fin⟩, hv⟩ := at_some (l := V.acts) (i := j) (by rw [← HL.out.1]; exact hjL)
          obtain ⟨b1, o1, oa1, oc1, ra1, rc1, ba1, bc1, rfl, A1⟩ := ha.cell j _ hv
          obtain ⟨b2, o2, oa2, oc2, ra2, rc2, ba2, bc2, rfl, A2⟩ := hb.cell j _ hv
          clear hv
          replace A1 := A1.keeps kr
          replace A2 := A2.keeps kr
          obtain ⟨x0, x1, x2, x3, x4, x5, x6, x7, xo, xr, xb, rl, bl⟩ := A1
          obtain ⟨y0, y1, y2, y3, y4, y5, y6, y7, yo, yr, yb, _, _⟩ := A2
          simp only at x0 x1 x2 x3 x4 x5 x6 x7 xo xr xb rl bl y0 y1 y2 y3 y4 y5 y6 y7 yo yr yb
          have ka := Keeps.alloc wr (.cells #[.int .i64 kind, .int .i64 par, .int .i64 M, .slice oa1 obs.length oc1, .slice ra1 regs.length rc1, .int .i64 pc, .slice ba1 box.length bc1, .int .i64 fin] 35)
          replace d0 := ka _ _ d0
          replace y0 := ka _ _ y0
          replace y1 := ka _ _ y1
          replace y2 := ka _ _ y2
          replace y3 := ka _ _ y3
          replace y4 := ka _ _ y4
          replace y5 := ka _ _ y5
          replace y6 := ka _ _ y6
          replace y7 := ka _ _ y7
          clear ka
          obtain ⟨E0, E1, k2, hb2, hs2⟩ := boxes2 wr (.cells #[.int .i64 kind, .int .i64 par, .int .i64 M, .slice oa1 obs.length oc1, .slice ra1 regs.length rc1, .int .i64 pc, .slice ba1 box.length bc1, .int .i64 fin] 35) (.cells #[.int .i64 kind, .int .i64 par, .int .i64 M, .slice oa2 obs.length oc2, .slice ra2 regs.length rc2, .int .i64 pc, .slice ba2 box.length bc2, .int .i64 fin] 35)
          go_wp2_with fail
          clear y0 y1 y2 y3 y4 y5 y6 y7 x0 x1 x2 x3 x4 x5 x6 x7 d0 c0 c1 ha hb
          generalize (wr.alloc (.cells #[.int .i64 kind, .int .i64 par, .int .i64 M, .slice oa1 obs.length oc1, .slice ra1 regs.length rc1, .int .i64 pc, .slice ba1 box.length bc1, .int .i64 fin] 35)).alloc (.cells #[.int .i64 kind, .int .i64 par, .int .i64 M, .slice oa2 obs.length oc2, .slice ra2 regs.length rc2, .int .i64 pc, .slice ba2 box.length bc2, .int .i64 fin] 35) = W2 at *
          have f4 := cell_blk E0 4
          have f6 := cell_blk E0 6
          have g4 := cell_blk E1 4
          have g6 := cell_blk E1 6
          simp at f4 f6 g4 g6
          refine (sameHeap_any M oa1 oa2 oc1 oc2 obs W2 (xo.keeps k2) (yo.keeps k2)).mono ?_
          rintro e w3 ⟨rfl, hb3⟩
          have k3 := Keeps.below hb3
          have k4 := k2.trans k3
          replace f4 := k3 _ _ f4
          replace f6 := k3 _ _ f6
          replace g4 := k3 _ _ g4
          replace g6 := k3 _ _ g6
          have hb5 : Below W1.heap.size W1 w3 := hbr.trans ((hb2.trans (hb3.mono hb2.size)).mono hbr.size)
          replace xr := xr.keeps k4
          replace yr := yr.keeps k4
          replace xb := xb.keeps k4
          replace yb := yb.keeps k4
          clear k3 k4 k2 hb3 hb2 E0 E1 xo yo hs2
          go_wp2_with fail
          refine (sameValues_any ra1 ra2 rc1 rc2 regs _ xr yr rl).mono ?_
          rintro e w4 ⟨rfl, n1, rfl⟩
          have k5 := Keeps.drewN w3 n1
          replace f6 := k5 _ _ f6
          replace g6 := k5 _ _ g6
          go_wp2_with fail
          refine (sameValues_any ba1 ba2 bc1 bc2 box _ (xb.keeps k5) (yb.keeps k5) bl).mono ?_
          rintro e w5 ⟨rfl, n2, rfl⟩
          go_wp2_with fail
          go_roundg (L - (j + 1))
          case measure => go_light; omega
          case rel => go_light; exact ⟨j + 1, by omega, rfl, by go_num, below_drewN hb5 _⟩
        · go_wp2
          go_ret
          exact ⟨rfl, hbn.trans (hbr.mono hbn.size)⟩

end Go.Proofs.Ytmecmelhmbihoaa
