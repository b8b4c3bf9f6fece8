/- The walk of ProgramsBack. -/
import Derived.Test.YtahcgnmhhgcfmaaDoorCKTells
import Derived.Test.YtahcgnmhhgcfmaaDoorCKEqual
namespace Go.Proofs.YtahcgnmhhgcfmaaDoor
open Go.RowKit

set_option maxRecDepth 100000 in
set_option maxHeartbeats 2000000 in
theorem programsBack_walk (ra : Option Addr) (rc : Nat) (l : List Rw) (cut : Int) (w : World) (hT : TabAt 0 w) (h : RawsAt w ra l) (hl : 32 * l.length ≤ 140737488351232) (hc : -9223372036854775808 ≤ cut ∧ cut ≤ 9223372036854775807) :
    Calls Tryd.prog 3 #[.slice ra l.length rc, .int .i64 cut] w fun e w' => e = .returned (.bool true) ∧ Below w.heap.size w w' := by
  go_enter Tryd.func3, Tryd.ntmps3
  go_wp2_with fail
  refine (codeTells_any w hT).mono ?_
  rintro e w0 ⟨rfl, hb0⟩
  go_wp2_with fail
  refine (kprogram_any l ra rc 12 _ (h.keeps (Keeps.below hb0)) (by omega) (by omega) (hT.keeps (Keeps.below hb0))).mono ?_
  rintro e w1 ⟨ao, cap, rfl, hb1, hK⟩
  obtain ⟨N1, k2, b2, s2⟩ := boxes1 w1 (Obj.cells #[.slice ao 3 cap] 26)
  obtain ⟨A, C, hP, _, hpf⟩ := program_prog (by omega) (hK.keeps k2)
  have hT2 := (hT.keeps (Keeps.below hb0)).keeps ((Keeps.below hb1).trans k2)
  have b3 := hb0.trans ((hb1.trans (b2.mono hb1.size)).mono hb0.size)
  obtain ⟨F1, F2, F3, F4, F5, F6, F7, F8⟩ := prog_facts (rows := programS l 12) rfl hpf
  have hL60 : ∀ r, r < 3 → lenOf (programS l 12) r ≤ 1000000 := fun r hr => by have := (row_ok ((prog_ok hpf).2.2 r hr)).2.1; omega
  have hr3 : (programS l 12).length = 3 := rfl
  generalize programS l 12 = R at *
  clear hK k2 b2 s2 hb1 hT hb0 h hl
  go_wp2_with fail
  generalize w1.alloc (Obj.cells #[.slice ao 3 cap] 26) = W at *
  refine (encode_any ao 3 cap A _ C _ _ hT2 hP).mono ?_
  rintro e w2 ⟨v1, rfl, hB, hb4⟩
  rw [hpf]
  rw [F1] at hB
  generalize hbs : progB R = bs at *
  obtain ⟨g, c1, rfl, _⟩ : ∃ g cap, v1 = .slice (some ⟨g, 0, none⟩) bs.length cap ∧ W.heap.size ≤ g := by
    rcases hB.form with ⟨_, h0⟩ | hh
    · subst h0; simp at F4
    · exact hh
  have n1 := vCell_blk N1 0
  have m1 := Keeps.below hb4 _ (.slice ao 3 cap) n1
  have hP2 := hP.keeps (Keeps.below hb4)
  have hT3 := hT2.keeps (Keeps.below hb4)
  have b5 := b3.trans (hb4.mono b3.size)
  have HF : Aside ((rdAll bs).1 = R ∧ decErr bs = 0 ∧ (∀ k, k < bs.length → decErr (bs.take k) = 5) ∧ decErr (bs ++ [0]) = 4 ∧ progB R = bs ∧ R.length = 3 ∧ progFault 3 (lenOf R) (xOf R) = 0 ∧ bytesOf 3 (lenOf R) (xOf R) = bs ∧ (∀ b ∈ bs, 0 ≤ b ∧ b ≤ 255)) := ⟨F5, F6, F7, F8, hbs, hr3, hpf, F1, F2⟩
  have HL : Aside (∀ r, r < 3 → lenOf R r ≤ 1000000) := hL60
  have hBA := buf_bytes hB F2 (by omega)
  clear hP hT2 hb4 b3 N1 n1 F1 F2 F5 F6 F7 F8 hbs hr3 hpf hL60
  go_wp2_with fail
  refine (decode_any _ c1 bs _ hBA hT3).mono ?_
  rintro e w3 ⟨ao2, c2, rows, A2, C2, rfl, hb6, _, hok⟩
  obtain ⟨hrows, hPq, hfq, hby⟩ := hok HF.out.2.1
  rw [HF.out.2.1]
  rw [HF.out.1] at hrows
  subst hrows
  rw [HF.out.2.2.2.2.2.1] at hPq hfq ⊢
  clear hby hok
  obtain ⟨Q1, k7, b7, s7⟩ := boxes1 w3 (Obj.cells #[.slice ao2 3 c2] 26)
  have k8 := (Keeps.below hb6).trans k7
  have m2 := k8 _ _ m1
  have hP3 := hP2.keeps k8
  have hQ3 := hPq.keeps k7
  have hT4 := hT3.keeps k8
  have hB4 := (hB.below hb6).below b7
  have b8 := b5.trans ((hb6.trans (b7.mono hb6.size)).mono b5.size)
  clear hP2 hPq hT3 hB hb6 b7 k7 k8 b5 m1 hBA s7
  go_wp2_with fail
  generalize w3.alloc (Obj.cells #[.slice ao2 3 c2] 26) = W4 at *
  refine (encode_any ao2 3 c2 A2 _ C2 _ _ hT4 hQ3).mono ?_
  rintro e w5 ⟨v2, rfl, hV, hb9⟩
  rw [hfq]
  rw [HF.out.2.2.2.2.2.2.2.1] at hV
  have q1 := vCell_blk Q1 0
  have k9 := Keeps.below hb9
  have q2 := k9 _ (.slice ao2 3 c2) q1
  have m3 := k9 _ _ m2
  have hP5 := hP3.keeps k9
  have hQ5 := hQ3.keeps k9
  have hT5 := hT4.keeps k9
  have hB5 := hB4.below hb9
  have b10 := b8.trans (hb9.mono b8.size)
  clear hP3 hQ3 hT4 hB4 b8 k9 hb9 m2 q1 Q1 hfq
  go_wp2_with fail
  refine (picked_any cut bs.length _ hc.1 hc.2 (by omega) (by omega)).mono ?_
  rintro e w6 ⟨rfl, rfl⟩
  obtain ⟨pb1, pb2⟩ := pick_bd (n := cut) (many := bs.length) (by omega)
  obtain ⟨k, hk⟩ := Int.eq_ofNat_of_zero_le pb1
  rw [hk]
  have hkb : k < bs.length := by omega
  have HK : Aside (k < bs.length) := hkb
  have htl : (bs.take k).length = k := by simp; omega
  have hBA := buf_bytes hB5 HF.out.2.2.2.2.2.2.2.2 (by omega)
  have hD := decode_any _ c1 (bs.take k) _ (bytes_take hBA k) hT5
  rw [htl] at hD
  have hkz : (k : Int) ≤ (bs.length : Int) := by omega
  have hcap : bs.length ≤ c1 := by
    rcases hB5.2 with ⟨h0, _⟩ | ⟨g', cap', cur, h0, _, _, h1, _⟩
    · simp at h0
    · simp only [Value.slice.injEq] at h0; omega
  have HD : Aside (Calls Tryd.prog 12 #[.slice (some ⟨g, 0, none⟩) k c1] _ _) := hD
  clear hD htl pb1 pb2 hk hBA
  go_wp2_with fail
  refine Calls.mono HD.out ?_
  rintro e w7 ⟨ao3, c3, rows3, A3, C3, rfl, hb11, hbad, _⟩
  obtain rfl := hbad (by rw [HF.out.2.2.1 k HK.out]; decide)
  rw [HF.out.2.2.1 k HK.out]
  simp only [List.length_nil]
  obtain ⟨_, k12, b12, _⟩ := boxes1 w7 (Obj.cells #[.slice ao3 0 c3] 26)
  have k13 := (Keeps.below hb11).trans k12
  have q4 := k13 _ _ q2
  have m4 := k13 _ _ m3
  have hP7 := hP5.keeps k13
  have hQ7 := hQ5.keeps k13
  have hT7 := hT5.keeps k13
  have hB7 := (hB5.below hb11).below b12
  have hV7 := (hV.below hb11).below b12
  have b14 := b10.trans ((hb11.trans (b12.mono hb11.size)).mono b10.size)
  clear hbad HD hP5 hQ5 hT5 hB5 hV b10 k12 k13 b12 hb11 q2 m3 hkz hkb hcap
  go_wp2_with fail
  generalize w7.alloc (Obj.cells #[.slice ao3 0 c3] 26) = W7 at *
  refine (cloneBytes_any g bs.length c1 _ bs _ rfl hB7 (by omega)).mono ?_
  rintro e w8 ⟨v3, rfl, hC, hb15⟩
  obtain ⟨Z1, _, b16, _⟩ := boxes1 w8 (Obj.cells #[.int .u8 0] 5)
  have z0 := vCell_blk Z1 0
  have z1 : (w8.alloc (Obj.cells #[.int .u8 0] 5)).cell? ⟨w8.heap.size, 0, none⟩ = some (.int .u8 0) := z0
  have hC8 := hC.below b16
  have hbY := hb15.trans (b16.mono hb15.size)
  have hsz8 := hb15.size
  have hsz9 := b16.size
  clear hb15 b16 z0 hC Z1
  obtain ⟨i0, BT⟩ := bytesT
  go_wp2_with (at_builtin; refine wpList_push BT rfl _ _ (by rfl) (v := v3) (by simp [Act.eval]) hC8 0 w8.heap.size (by simp [Act.eval]) z1 (by omega) (by omega) ?_; rintro v4 w9 hD4 hg4 hb19)
  have hbX := hbY.trans hb19
  clear hC8 hbY hb19 hg4 z1 hsz8 hsz9
  obtain ⟨g4, c4, rfl, _⟩ : ∃ g cap, v4 = .slice (some ⟨g, 0, none⟩) (bs ++ [0]).length cap ∧ W7.heap.size ≤ g := by
    rcases hD4.form with ⟨_, h0⟩ | hh
    · simp at h0
    · exact hh
  have hk9 := Keeps.below hbX
  have hBA := buf_bytes hD4 (fun b hb => by
    rcases List.mem_append.1 hb with h | h
    · exact HF.out.2.2.2.2.2.2.2.2 b h
    · simp at h; subst h; omega) (by simp; omega)
  refine (decode_any _ c4 (bs ++ [0]) _ hBA (hT7.keeps hk9)).mono ?_
  rintro e w10 ⟨ao5, c5, rows5, A5, C5, rfl, hb21, hbad, _⟩
  obtain rfl := hbad (by rw [HF.out.2.2.2.1]; decide)
  rw [HF.out.2.2.2.1]
  simp only [List.length_nil]
  obtain ⟨_, k22, b22, _⟩ := boxes1 w10 (Obj.cells #[.slice ao5 0 c5] 26)
  have hbZ := (hbX.trans (hb21.mono hbX.size)).trans (b22.mono (Nat.le_trans hbX.size hb21.size))
  have kZ := Keeps.below hbZ
  have q6 := kZ _ _ q4
  have m6 := kZ _ _ m4
  have hP9 := hP7.keeps kZ
  have hQ9 := hQ7.keeps kZ
  have hB9 := hB7.below hbZ
  have hV9 := hV7.below hbZ
  have b23 := b14.trans (hbZ.mono b14.size)
  clear hbad hP7 hQ7 hT7 hB7 hV7 b14 hbZ kZ b22 k22 hb21 hBA hk9 hbX hD4 q4 m4 BT
  have s1 := hB9.str (P := Tryd.prog) Tryd.underlying28 Tryd.underlying5 Tryd.underlying9
  have s2 := hV9.str (P := Tryd.prog) Tryd.underlying28 Tryd.underlying5 Tryd.underlying9
  clear hB9 hV9
  go_wp2_with fail
  refine (equalFunc_any ao ao2 3 cap c2 A A2 _ C C2 _ _ hP9 hQ9 (by omega) HL.out).mono ?_
  rintro e w11 ⟨rfl, mm, rfl⟩
  go_wp2
  go_ret
  exact ⟨ret_bool (by simp), below_drewN b23 _⟩

end Go.Proofs.YtahcgnmhhgcfmaaDoor
