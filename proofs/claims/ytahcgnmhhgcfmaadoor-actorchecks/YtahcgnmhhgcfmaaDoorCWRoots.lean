/- Package actor's small walks: questions at values, and the roots of an actor. -/
import Derived.Test.YtahcgnmhhgcfmaaDoorCWRow
import Derived.Test.YtahcgnmhhgcfmaaDoorCPlain
import Derived.Lib.AppendZeros
import Derived.WalkSpells
import Derived.WalkLawsBesides
import Derived.Deep.LoopGhost
import Derived.Deep.Light
namespace Go.Proofs.YtahcgnmhhgcfmaaDoor
open Go.RowKit

set_option maxHeartbeats 400000 in
theorem isNoObject_any (k n : Int) (w : World) : Calls Tryd.prog 75 #[.agg #[.int .i64 k, .int .i64 n]] w fun e w' => e = .returned (.bool (k != 2)) ∧ Below w.heap.size w w' := by
  go_enter Tryd.func75, Tryd.ntmps75
  go_wp2
  go_ret
  exact ⟨rfl, below_box _ _⟩

set_option maxHeartbeats 400000 in
theorem isWord_any (n : Int) (w : World) : Calls Tryd.prog 54 #[.int .i64 n] w fun e w' => e = .returned (.bool (isW n)) ∧ w' = w := by
  go_enter Tryd.func54, Tryd.ntmps54
  go_wp2
  all_goals
    go_ret
    refine ⟨ret_bool ?_, rfl⟩
    simp [isW, *] <;> omega

/-- Is one of them no object? -/
def noObj (l : List Vl) : Bool := l.any (fun v => v.k != 2)

set_option maxRecDepth 100000 in
set_option maxHeartbeats 800000 in
theorem indexFunc_any (ao : Option Addr) (cap : Nat) (l : List Vl) (w : World) (h : ValsAt w ao l) (hl : 16 * l.length ≤ 140737488351232) :
    Calls Tryd.prog 86 #[.slice ao l.length cap, .func (.func 75) #[] #[]] w fun e w' => ∃ z : Int, e = .returned (.int .i64 z) ∧ decide (0 ≤ z) = noObj l ∧ Below w.heap.size w w' := by
  obtain ⟨L, hL⟩ : ∃ L, L = l.length := ⟨_, rfl⟩
  have HL : Aside (L = l.length) := hL
  rw [← hL] at hl ⊢
  clear hL
  go_enter Tryd.func86, Tryd.ntmps86
  go_wp2
  go_loopg [8] L (fun g s8 wr => ∃ i : Nat, i ≤ L ∧ g = L - i ∧ s8 = .int .i64 i ∧ Below w.heap.size w wr ∧ noObj l = noObj (l.drop i))
  case atStart => exact ⟨0, Nat.zero_le _, rfl, rfl, Below.refl _ _, by simp⟩
  case round =>
    obtain ⟨i, hi, rfl, rfl, hbr, hno⟩ := hrel
    have HNO : Aside (noObj l = noObj (l.drop i)) := hno
    clear hno
    by_cases hiL : i < L
    · have hiz : (i : Int) < (L : Int) := by omega
      obtain ⟨⟨k, n⟩, hv⟩ := at_some (l := l) (i := i) (by rw [← HL.out]; exact hiL)
      have HV : Aside (l[i]? = some ⟨k, n⟩) := hv
      obtain ⟨b, o, rfl, a1, a2⟩ := h i _ hv
      replace a1 := Keeps.below hbr _ _ a1
      replace a2 := Keeps.below hbr _ _ a2
      simp only at a1 a2
      clear hv
      have hd : noObj (l.drop i) = ((k != 2) || noObj (l.drop (i + 1))) := by
        obtain ⟨hlt, e⟩ := List.getElem?_eq_some_iff.1 HV.out
        rw [List.drop_eq_getElem_cons hlt, e]
        rfl
      have HD : Aside (noObj (l.drop i) = ((k != 2) || noObj (l.drop (i + 1)))) := hd
      clear hd
      go_wp2_with fail
      refine (isNoObject_any k n _).mono ?_
      rintro e w' ⟨rfl, hb'⟩
      have hb2 := hbr.trans (hb'.mono hbr.size)
      clear hb'
      by_cases hk : k = 2
      · have hkb : (k != 2) = false := by simp [hk]
        have HK : Aside ((k != 2) = false) := hkb
        rw [hkb]
        go_wp2_with fail
        go_roundg (L - (i + 1))
        case measure => go_light; omega
        case rel => go_light; exact ⟨i + 1, by omega, rfl, by go_num, hb2, by rw [HNO.out, HD.out, HK.out]; rfl⟩
      · have hkb : (k != 2) = true := by simp [hk]
        have HK : Aside ((k != 2) = true) := hkb
        rw [hkb]
        go_wp2_with fail
        go_ret
        exact ⟨i, rfl, by rw [HNO.out, HD.out, HK.out]; simp, hb2⟩
    · obtain rfl : i = L := by omega
      go_wp2
      go_ret
      refine ⟨-1, rfl, ?_, hbr⟩
      rw [HNO.out, List.drop_eq_nil_of_le (by rw [← HL.out]; exact Nat.le_refl _)]
      rfl

set_option maxHeartbeats 400000 in
theorem containsFunc_any (ao : Option Addr) (cap : Nat) (l : List Vl) (w : World) (h : ValsAt w ao l) (hl : 16 * l.length ≤ 140737488351232) :
    Calls Tryd.prog 74 #[.slice ao l.length cap, .func (.func 75) #[] #[]] w fun e w' => e = .returned (.bool (noObj l)) ∧ Below w.heap.size w w' := by
  have hI := indexFunc_any ao cap l w h hl
  obtain ⟨L, hL⟩ : ∃ L, L = l.length := ⟨_, rfl⟩
  rw [← hL] at hI ⊢
  have HI : Aside (Calls Tryd.prog 86 #[.slice ao L cap, .func (.func 75) #[] #[]] w _) := hI
  clear hI hL
  go_enter Tryd.func74, Tryd.ntmps74
  go_wp2_with fail
  refine Calls.mono HI.out ?_
  rintro e w' ⟨z, rfl, hz, hb⟩
  have HZ : Aside (decide (0 ≤ z) = noObj l) := hz
  clear hz
  go_wp2
  go_ret
  exact ⟨ret_bool (by rw [← HZ.out]), hb⟩

/-- 'append', where what it yields is known. -/
theorem wpList_append_run {P : Program} {w w' : World} {ops : Array Oper} {rest : List Oper} {o : Oper} {a : Act} {Q : Exit → Act → World → Prop} (hgd : o.guard = none) (p q : Operand) (t1 t2 : TypeId)
    (ho : o.op = .call { callee := .builtin .append, args := #[p, q], argTypes := #[t1, t2] }) (v1 v2 r : Value) (hp : a.eval p = v1) (hq : a.eval q = v2)
    (hrun : (Builtin.append_ #[t1, t2] o.type #[v1, v2]).run P w = .ok r w') (h : wpList P ops Q rest (a.put o.dst r) w') : wpList P ops Q (o :: rest) a w := by
  refine wpList_plain hgd fun K hK => ?_
  unfold Oper.wp execOp
  simp only [ho, resolve, invoke, builtin, Sem.run_bind, Sem.run_pure, Result.andThen_ok, List.map_toArray, List.map_cons, List.map_nil, hp, hq, hrun]
  exact hK _ _ h

theorem zeroCells_size (z : Array Value) (n : Nat) : (Builtin.zeroCells z n).size = n * z.size := by simp [Builtin.zeroCells]

set_option maxRecDepth 100000 in
set_option maxHeartbeats 800000 in
theorem grow_any (n : Nat) (w : World) (hn : 16 * n ≤ 281474976710656) :
    Calls Tryd.prog 95 #[.slice none 0 0, .int .i64 n] w fun e w' => ∃ v, e = .returned v ∧ SeqOwn fVl 2 78 w' w.heap.size v [] ∧ Below w.heap.size w w' := by
  by_cases h0 : n = 0
  · subst h0
    go_enter Tryd.func95, Tryd.ntmps95
    go_wp2
    go_ret
    exact ⟨_, rfl, seqOwn_nil _ _, Below.refl _ _⟩
  · obtain ⟨i0, hi0, hzz⟩ := Option.map_eq_some_iff.1 (show (Tryd.prog.info? 78).map (fun i => (i.zero, i.size, i.bytes)) = some (some (.agg #[.int .i64 0, .int .i64 0]), 2, 16) by kernel_rfl)
    simp only [Prod.mk.injEq] at hzz
    obtain ⟨hz0, hz1, hz2⟩ := hzz
    have hnz : (0 : Int) < (n : Int) := by omega
    have hrun := Go.Lib.run_append_nil_zeros (P := Tryd.prog) w 80 3 80 78 i0 _ .i64 .i64 Tryd.underlying80 Tryd.underlying3 hi0 hz0 n (by omega) (by omega) (by omega) (by rw [hz2]; omega)
    have hge := grownCap_ge w n 0 78
    have hle := grownCap_le_maxLen w n 0 78 (by unfold maxLen; omega)
    have hown : SeqOwn fVl 2 78 (w.drew.alloc (.cells (Builtin.zeroCells (Value.cells (.agg #[.int .i64 0, .int .i64 0])) n ++ Builtin.zeroCells (Value.cells (.agg #[.int .i64 0, .int .i64 0])) (grownCap w n 0 78 - n)) 78)) w.heap.size (.slice (some ⟨w.heap.size, 0, none⟩) 0 (grownCap w n 0 78)) [] :=
      ⟨by simp, .inr ⟨w.heap.size, _, _, rfl, Nat.le_refl _, Deep.blk_alloc_new w.drew _, Nat.zero_le _, hle, by
        rw [Array.size_append, zeroCells_size, zeroCells_size]
        show n * 2 + (grownCap w n 0 78 - n) * 2 = _
        omega, by simp⟩⟩
    have hbel : Below w.heap.size w (w.drew.alloc (.cells (Builtin.zeroCells (Value.cells (.agg #[.int .i64 0, .int .i64 0])) n ++ Builtin.zeroCells (Value.cells (.agg #[.int .i64 0, .int .i64 0])) (grownCap w n 0 78 - n)) 78)) := (Below.refl _ _).drew.alloc (Nat.le_refl _) _
    generalize w.drew.alloc (.cells (Builtin.zeroCells (Value.cells (.agg #[.int .i64 0, .int .i64 0])) n ++ Builtin.zeroCells (Value.cells (.agg #[.int .i64 0, .int .i64 0])) (grownCap w n 0 78 - n)) 78) = W1 at *
    generalize grownCap w n 0 78 = Cp at *
    clear hi0 hz0 hz1 hz2
    go_enter Tryd.func95, Tryd.ntmps95
    have HR : Aside ((Builtin.append_ #[80, 3] 80 #[.slice none 0 0, .int .i64 n]).run Tryd.prog w = .ok (.slice (some ⟨w.heap.size, 0, none⟩) n Cp) W1) := hrun
    clear hrun
    go_wp2_with (at_builtin; refine wpList_append_run rfl _ _ _ _ (by rfl) _ _ _ (by simp [Act.eval]) (by simp [Act.eval]) HR.out ?_)
    go_ret
    exact ⟨_, rfl, hown, hbel⟩

/-- 'append(v, x...)', whatever x. -/
theorem wpList_seqAll {α : Type} {f : α → List Value} {s : Nat} {e tS : TypeId} {bytes : Nat} {P : Program} (T : RowT P f s tS e bytes) {w : World} {base : Nat} {v : Value} {l : List α} {ops : Array Oper} {rest : List Oper} {o : Oper} {a : Act} {Q : Exit → Act → World → Prop} (hgd : o.guard = none) (p q : Operand)
    (ho : o.op = .call { callee := .builtin .append, args := #[p, q], argTypes := #[tS, tS] }) (hp : a.eval p = v) (hO : SeqOwn f s e w base v l) (hb : base ≤ w.heap.size)
    (fs : List α) (fa : Option Addr) (fc : Nat) (hq : a.eval q = .slice fa fs.length fc) (hfs : SeqAt f s w fa fs) (hl : (l.length + fs.length) * bytes ≤ 140737488355328) (hl2 : l.length + fs.length ≤ maxLen)
    (h : ∀ v' w', SeqOwn f s e w' base v' (l ++ fs) → Below base w w' → wpList P ops Q rest (a.put o.dst v') w') :
    wpList P ops Q (o :: rest) a w := by
  by_cases hpos : 0 < fs.length
  · refine wpList_seq T hgd p q ho hp hO hb fs fa fc hq hfs hpos hl hl2 ?_
    intro g cap w' hO' _ hb' _
    exact h _ _ hO' hb'
  · have he : fs = [] := List.eq_nil_of_length_eq_zero (by omega)
    subst he
    refine wpList_append_run hgd p q tS tS ho v (.slice fa 0 fc) v hp (by simpa using hq) (run_seq_zero T hO fa fc) ?_
    exact h v w (by simpa using hO) (Below.refl _ _)

set_option maxRecDepth 100000 in
set_option maxHeartbeats 1600000 in
theorem concat_any (b : Nat) (ra ba : Option Addr) (rc bc : Nat) (regs box : List Vl) (w : World) (c0 : w.cell? ⟨b, 0, none⟩ = some (.slice ra regs.length rc)) (c1 : w.cell? ⟨b, 1, none⟩ = some (.slice ba box.length bc)) (hr : ValsAt w ra regs) (hb : ValsAt w ba box)
    (hrl : 16 * regs.length ≤ 140737488351232) (hbl : box.length ≤ 6) :
    Calls Tryd.prog 90 #[.slice (some ⟨b, 0, none⟩) 2 2] w fun e w' => ∃ va vc, e = .returned (.slice va (regs.length + box.length) vc) ∧ ValsAt w' va (regs ++ box) ∧ Below w.heap.size w w' := by
  have hmx : maxLen = 9223372036854775807 := rfl
  have sr := seqVl_of hr
  have sb := seqVl_of hb
  have HS : Aside (SeqAt fVl 2 w ra regs ∧ SeqAt fVl 2 w ba box) := ⟨sr, sb⟩
  clear hr hb sr sb
  obtain ⟨R, hR⟩ : ∃ R, R = regs.length := ⟨_, rfl⟩
  obtain ⟨X, hX⟩ : ∃ X, X = box.length := ⟨_, rfl⟩
  have HL : Aside (R = regs.length ∧ X = box.length) := ⟨hR, hX⟩
  rw [← hR] at c0 hrl ⊢
  rw [← hX] at c1 hbl ⊢
  clear hR hX
  go_enter Tryd.func90, Tryd.ntmps90
  go_wp2_with fail
  go_loopg [3, 11] 2 (fun g s3 s11 wr => ∃ i n : Nat, i ≤ 2 ∧ g = 2 - i ∧ s11 = .int .i64 i ∧ s3 = .int .i64 n ∧ (i = 0 → n = 0) ∧ (i = 1 → n = R) ∧ (i = 2 → n = R + X) ∧ wr = w)
  case atStart => exact ⟨0, 0, by omega, rfl, rfl, rfl, fun _ => rfl, fun h => by omega, fun h => by omega, rfl⟩
  case round =>
    obtain ⟨i, n, hi, rfl, rfl, rfl, h0, h1, h2, hw⟩ := hrel
    replace hw := hw.symm
    subst hw
    by_cases hi2 : i < 2
    · have hiz : (i : Int) < 2 := by omega
      rcases (by omega : i = 0 ∨ i = 1) with rfl | rfl
      · obtain rfl := h0 rfl
        go_wp2_with fail
        go_roundg (2 - (0 + 1))
        case measure => go_light; omega
        case rel => go_light; exact ⟨1, R, by omega, rfl, by go_num, by simp, fun h => by omega, fun _ => rfl, fun h => by omega, rfl⟩
      · obtain rfl := h1 rfl
        go_wp2_with fail
        go_roundg (2 - (1 + 1))
        case measure => go_light; omega
        case rel => go_light; exact ⟨2, n + X, by omega, rfl, by go_num, by simp, fun h => by omega, fun h => by omega, fun _ => rfl, rfl⟩
    · obtain rfl : i = 2 := by omega
      obtain rfl := h2 rfl
      clear h0 h1 h2
      go_wp2_with fail
      refine (grow_any (R + X) _ (by omega)).mono ?_
      rintro e w1 ⟨v, rfl, hO, hb1⟩
      have HO : Aside (SeqOwn fVl 2 78 w1 w.heap.size v [] ∧ Below w.heap.size w w1) := ⟨hO, hb1⟩
      clear hO hb1
      have hb1s := HO.out.2.size
      go_wp2_with fail
      go_loopg [6, 27] 2 (fun g s6 s27 wr => ∃ i : Nat, i ≤ 2 ∧ g = 2 - i ∧ s27 = .int .i64 i ∧ SeqOwn fVl 2 78 wr w.heap.size s6 (if i = 0 then [] else if i = 1 then regs else regs ++ box) ∧ Below w.heap.size w wr)
      case atStart => exact ⟨0, by omega, rfl, rfl, HO.out.1, HO.out.2⟩
      case round =>
        obtain ⟨i, hi, rfl, rfl, hO, hbr⟩ := hrel
        by_cases hi2 : i < 2
        · have hiz : (i : Int) < 2 := by omega
          rcases (by omega : i = 0 ∨ i = 1) with rfl | rfl
          · have hfs := (HS.out.1).keeps (Keeps.below hbr)
            replace hO : SeqOwn fVl 2 78 wr w.heap.size u6 ([]) := hO
            have hcc := Keeps.below hbr _ _ c0
            have hsz := hbr.size
            go_wp2_with (at_builtin; refine wpList_seqAll Tryd.rowVl rfl _ _ (by rfl) (v := u6) (by simp [Act.eval]) hO hsz regs ra rc (by simp [Act.eval]; exact HL.out.1) hfs (by have := HL.out; simp; omega) (by have := HL.out; simp; omega) ?_; rintro v2 w2 hO2 hb2)
            go_roundg (2 - (0 + 1))
            case measure => go_light; omega
            case rel => go_light; exact ⟨1, by omega, rfl, by go_num, hO2, hbr.trans hb2⟩
          · have hfs := (HS.out.2).keeps (Keeps.below hbr)
            replace hO : SeqOwn fVl 2 78 wr w.heap.size u6 (regs) := hO
            have hcc := Keeps.below hbr _ _ c1
            have hsz := hbr.size
            go_wp2_with (at_builtin; refine wpList_seqAll Tryd.rowVl rfl _ _ (by rfl) (v := u6) (by simp [Act.eval]) hO hsz box ba bc (by simp [Act.eval]; exact HL.out.2) hfs (by have := HL.out; rw [← this.1, ← this.2]; omega) (by have := HL.out; rw [← this.1, ← this.2]; omega) ?_; rintro v2 w2 hO2 hb2)
            go_roundg (2 - (1 + 1))
            case measure => go_light; omega
            case rel => go_light; exact ⟨2, by omega, rfl, by go_num, hO2, hbr.trans hb2⟩
        · obtain rfl : i = 2 := by omega
          replace hO : SeqOwn fVl 2 78 wr w.heap.size u6 (regs ++ box) := hO
          obtain ⟨va, vc, rfl⟩ := hO.form
          have HV : Aside (ValsAt wr va (regs ++ box)) := seqVl_to (SeqOwn.at (f := fVl) (s := 2) (fun _ => rfl) hO)
          clear hO
          go_wp2_with fail
          go_ret
          exact ⟨va, vc, by rw [HL.out.1, HL.out.2]; simp, HV.out, hbr⟩

end Go.Proofs.YtahcgnmhhgcfmaaDoor
