/- The walk of Encode: a program's fault, or its bytes. -/
import Derived.Test.YtahcgnmhhgcfmaaDoorCInstr
import Derived.Test.YtahcgnmhhgcfmaaDoorCCheck
import Derived.WalkKit
import Derived.WalkSpells
import Derived.WalkLawsBesides
import Derived.Deep.LoopGhost
import Derived.Deep.Light
namespace Go.Proofs.YtahcgnmhhgcfmaaDoor
open Go.RowKit

/-- The bytes of a program, if it may be. -/
def bytesOf (G : Nat) (L : Nat → Nat) (X : Nat → Nat → Nat → Int) : List Int := if progFault G L X = 0 then progBytes G L X G else []

set_option maxRecDepth 100000 in
set_option maxHeartbeats 1600000 in
theorem encode_any (ao : Option Addr) (G cap : Nat) (A : Nat → Option Addr) (L C : Nat → Nat) (X : Nat → Nat → Nat → Int) (w : World) (hT : TabAt 0 w) (hp : ProgAt w ao G A L C X) :
    Calls Tryd.prog 11 #[.agg #[.slice ao G cap]] w fun e w' => ∃ v, e = .returned (.tuple #[v, .int .i64 (progFault G L X)]) ∧ Buf w' w.heap.size 5 v (bytesOf G L X) ∧ Below w.heap.size w w' := by
  obtain ⟨i0, BT⟩ := bytesT
  have hG := hp.many
  go_enter Tryd.func11, Tryd.ntmps11
  go_wp2_with fail
  have k1 := Keeps.alloc w (Obj.cells #[Value.slice ao G cap] 26)
  have b1 := cbelow_box w (Obj.cells #[Value.slice ao G cap] 26)
  have c1 : (w.alloc (Obj.cells #[Value.slice ao G cap] 26)).cell? ⟨w.heap.size, 0, none⟩ = some (.slice ao G cap) := by simp
  refine (ccheck_any ao G cap A L C X _ (hT.keeps k1) (hp.keeps k1)).mono ?_
  rintro e w1 ⟨rfl, hb⟩
  have k2 := Keeps.below hb
  have c2 := k2 _ _ c1
  have b2 : Below w.heap.size w w1 := b1.trans (hb.mono (by simp))
  have hp2 := hp.keeps (k1.trans k2)
  have hT2 := hT.keeps (k1.trans k2)
  have hs1 := b2.size
  clear hb c1 k2 k1 b1 hp hT
  by_cases hf : progFault G L X = 0
  · have hbo : bytesOf G L X = progBytes G L X G := by rw [bytesOf, if_pos hf]
    have HBO : Aside (bytesOf G L X = progBytes G L X G) := hbo
    have HF : Aside (progFault G L X = 0) := hf
    obtain ⟨g1, g6, hrows⟩ := prog_ok hf
    rw [hf]
    clear hf hbo
    have c3 : ∀ o, (w1.alloc o).cell? ⟨w.heap.size, 0, none⟩ = some (.slice ao G cap) := fun o => Keeps.alloc w1 o _ _ c2
    go_wp2_with fail
    have hlit := Buf.lit w1 w1.heap.size 5 [116, 119, (G : Int)] (Nat.le_refl _) (by simp)
    have hb3 : Below w1.heap.size w1 (w1.alloc (.cells ([116, 119, (G : Int)].map (Value.int .u8)).toArray 5)) := cbelow_box _ _
    clear c3 c2
    go_loopg [5, 23] G (fun g s5 s23 wr => ∃ (r : Nat) (v : Value), r ≤ G ∧ g = G - r ∧ s23 = .int .i64 r ∧ s5 = v ∧ Buf wr w1.heap.size 5 v (progBytes G L X r) ∧ Below w1.heap.size w1 wr)
    case atStart => exact ⟨0, _, Nat.zero_le _, rfl, rfl, rfl, hlit, hb3⟩
    case round =>
      obtain ⟨r, v, hr, rfl, rfl, rfl, hBr, hbr⟩ := hrel
      clear hlit hb3
      by_cases hrG : r < G
      · have hrz : (r : Int) < (G : Int) := by omega
        have hpr := hp2.keeps (Keeps.below hbr)
        obtain ⟨b, o, rfl, hca⟩ := hpr.outer r hrG
        have hL := hp2.long r hrG
        obtain ⟨l1, l60, hins⟩ := row_ok (hrows r hrG)
        have hlen : (progBytes G L X r).length ≤ 4000 := by
          have := progBytes_length G L X r (fun k hk => (row_ok (hrows k (by omega))).2.1)
          omega
        have hRow := hp2.rows r hrG
        obtain ⟨bb, oo, hAr, _⟩ := hRow 0 (by omega)
        rw [hAr] at hRow hca
        have hsz := hbr.size
        clear hpr hAr
        go_wp2_with (at_builtin; refine wpList_push (v := u5) BT rfl (.tmp 27) (.tmp 31) rfl rfl (hBr.alloc _) (L r) wr.heap.size rfl ?p1 ?p2 ?p3 ?_; (case p1 => simp); (case p2 => omega); (case p3 => simp; omega); intro v1 w2 hB1 hg1 hb1)
        have hb4 : Below w1.heap.size w1 w2 := (hbr.alloc (by omega) _).trans hb1
        have hB2 : Buf w2 w1.heap.size 5 v1 (progBytes G L X r ++ ([(L r : Int)] ++ rowBytes (X r) 0)) := by simpa [rowBytes] using hB1
        clear hB1 hg1 hb1 hBr hbr hca hsz
        go_loopg [5, 35] (L r) (fun g s5 s35 wi => ∃ (i : Nat) (v : Value), i ≤ L r ∧ g = L r - i ∧ s35 = .int .i64 i ∧ s5 = v ∧ Buf wi w1.heap.size 5 v (progBytes G L X r ++ ([(L r : Int)] ++ rowBytes (X r) i)) ∧ Below w1.heap.size w1 wi)
        case atStart => exact ⟨0, _, Nat.zero_le _, rfl, rfl, rfl, hB2, hb4⟩
        case round =>
          obtain ⟨i, v, hi, rfl, rfl, rfl, hBi, hbi⟩ := hrel
          clear hB2 hb4
          by_cases hiL : i < L r
          · have hiz : (i : Int) < (L r : Int) := by omega
            obtain ⟨o1, o2, a1, a2, b1, b2', n1, n2⟩ := ins_ok (hins i hiL)
            obtain ⟨bb', oo', hq, hx⟩ := (hRow.keeps (Keeps.below hbi)) i hiL
            simp only [Option.some.injEq, Addr.mk.injEq, and_true] at hq
            obtain ⟨rfl, rfl⟩ := hq
            have x0 : wr.cell? ⟨bb, oo + i * 4, none⟩ = some (.int .i64 (X r i 0)) := by simpa using hx 0 (by omega)
            have x1 := hx 1 (by omega)
            have x2 := hx 2 (by omega)
            have x3 := hx 3 (by omega)
            have hs := rowBytes_succ (X r) i
            have hrl := rowBytes_length (X r) i
            have HS : Aside (rowBytes (X r) (i + 1) = rowBytes (X r) i ++ insBytes (X r i 0) (X r i 1) (X r i 2) (X r i 3)) := hs
            have hsz := hbi.size
            clear hx hs
            go_wp2_with fail
            generalize X r i 0 = op at *
            obtain ⟨k, rfl⟩ := Int.eq_ofNat_of_zero_le o1
            refine (appendInstr_any _ _ k _ _ _ w1.heap.size _ ((hT2.keeps (Keeps.below hbi)).keeps (Keeps.alloc _ _)) (hBi.alloc _) ?_ ?_ (by omega) a1 a2 b1 b2' n1 n2).mono ?_
            · simp only [List.length_append, List.length_singleton]; omega
            · simp; omega
            · rintro e w3 ⟨v3, rfl, hB3, hb3⟩
              have hb5 : Below w1.heap.size w1 w3 := (hbi.alloc (by omega) _).trans hb3
              clear x0 x1 x2 x3 hb3 hbi hBi
              go_wp2
              go_roundg (L r - (i + 1))
              case measure => go_light; omega
              case rel =>
                go_light
                refine ⟨i + 1, _, by omega, rfl, by go_num, rfl, ?_, hb5⟩
                rw [HS.out]
                simpa using hB3
          · obtain rfl : i = L r := by omega
            go_wp2
            go_roundg (G - (r + 1))
            case measure => go_light; omega
            case rel => go_light; exact ⟨r + 1, _, by omega, rfl, by go_num, rfl, by rw [progBytes_succ]; exact hBi, hbi⟩
      · obtain rfl : r = G := by omega
        go_wp2
        go_ret2
        exact ⟨u5, by rw [HF.out]; rfl, by rw [HBO.out]; exact hBr.le hs1, b2.trans (hbr.mono hs1)⟩
  · have hbo : bytesOf G L X = [] := by rw [bytesOf, if_neg hf]
    have HBO : Aside (bytesOf G L X = []) := hbo
    have hzb : (progFault G L X != 0) = true := by simp [hf]
    clear hf hbo
    go_wp2
    go_ret2
    exact ⟨_, rfl, by rw [HBO.out]; exact Buf.nil _ _ _, b2⟩

end Go.Proofs.YtahcgnmhhgcfmaaDoor
