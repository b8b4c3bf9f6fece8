/- The walks of codeTells, and of slices.Clone of bytes. -/
import Derived.Test.YtahcgnmhhgcfmaaDoorCKFlowW
import Derived.Test.YtahcgnmhhgcfmaaDoorCPlain
import Derived.Test.YtahcgnmhhgcfmaaDoorCEncode
import Derived.Test.YtahcgnmhhgcfmaaDoorCDecode
import Derived.Lib.LazyBuf
namespace Go.Proofs.YtahcgnmhhgcfmaaDoor
open Go.RowKit

theorem buf_bytes {w : World} {base : Nat} {e : TypeId} {g n cap : Nat} {bs : List Int} (h : Buf w base e (.slice (some ⟨g, 0, none⟩) n cap) bs) (hf : ∀ b ∈ bs, 0 ≤ b ∧ b ≤ 255) (hs : bs.length ≤ 5000) : BytesAt w (some ⟨g, 0, none⟩) bs :=
  ⟨fun i hi => ⟨g, 0, rfl, by
    have := h.cells rfl i (.int .u8 (bs.getD i 0)) (by simp [hi])
    rw [← this]
    congr 1
    unfold Addr.add; split <;> simp_all⟩, getD_bd hf, hs⟩

theorem bytes_take {w : World} {ba : Option Addr} {bs : List Int} (h : BytesAt w ba bs) (k : Nat) : BytesAt w ba (bs.take k) := by
  have hg : ∀ i, i < (bs.take k).length → (bs.take k).getD i 0 = bs.getD i 0 := fun i hi => by
    have : (bs.take k)[i]? = bs[i]? := by rw [List.getElem?_take, if_pos (by simp at hi; omega)]
    simp only [List.getD_eq_getElem?_getD, this]
  refine ⟨fun i hi => ?_, fun i => ?_, ?_⟩
  · rw [hg i hi]
    exact h.cell i (by simp at hi; omega)
  · by_cases hi : i < (bs.take k).length
    · rw [hg i hi]; exact h.fits i
    · have : (bs.take k).getD i 0 = 0 := by simp [List.getD_eq_getElem?_getD, List.getElem?_eq_none (Nat.le_of_not_lt hi)]
      rw [this]; omega
  · have := h.short
    simp; omega

set_option maxRecDepth 100000 in
set_option maxHeartbeats 800000 in
theorem cloneBytes_any (g n cap base : Nat) (bs : List Int) (w : World) (hn : n = bs.length) (hB : Buf w base 5 (.slice (some ⟨g, 0, none⟩) n cap) bs) (hl : bs.length ≤ 5000) :
    Calls Tryd.prog 14 #[.slice (some ⟨g, 0, none⟩) n cap] w fun e w' => ∃ v, e = .returned v ∧ Buf w' w.heap.size 5 v bs ∧ Below w.heap.size w w' := by
  obtain ⟨i0, BT⟩ := bytesT
  have heq := fun (w : World) => run_eql_slice_nil (P := Tryd.prog) w 28 5 (some ⟨g, 0, none⟩) n cap Tryd.underlying28
  have hb0 := below_box w (.cells #[] 5)
  have hO0 : Buf (w.alloc (.cells #[] 5)) w.heap.size 5 (.slice (some ⟨w.heap.size, 0, none⟩) 0 0) [] :=
    ⟨by simp, .inr ⟨w.heap.size, 0, #[], rfl, Nat.le_refl _, Deep.blk_alloc_new w _, Nat.le_refl _, Nat.zero_le _, by simp, by simp⟩⟩
  have hy : ∀ j u, (bs.map (Value.int .u8))[j]? = some u → (w.alloc (.cells #[] 5)).cell? ((⟨g, 0, none⟩ : Addr).add j) = some u := fun j u hu => Keeps.alloc _ _ _ _ (hB.cells rfl j u hu)
  have HY : Aside (∀ j u, (bs.map (Value.int .u8))[j]? = some u → (w.alloc (.cells #[] 5)).cell? ((⟨g, 0, none⟩ : Addr).add j) = some u) := hy
  have HN : Aside (n = bs.length) := hn
  clear hy hn hB
  go_enter Tryd.func14, Tryd.ntmps14
  go_wp2_with (at_builtin; refine wpList_gather BT rfl _ _ (by rfl) (v := .slice (some ⟨w.heap.size, 0, none⟩) 0 0) (by simp [Act.eval]) hO0 bs ⟨g, 0, none⟩ cap (by simp [Act.eval]; exact HN.out) HY.out (by simp) (by omega) (by simp) ?_; rintro v w2 hO hg2 hb2)
  go_ret
  exact ⟨v, rfl, by simpa using hO, hb0.trans hb2⟩

theorem raws_nil (w : World) : RawsAt w none [] := fun i v hi => by simp at hi

theorem rowsF_of {rows : List (List Ins)} {n : Nat} (hn : n = rows.length) (h : progFault n (lenOf rows) (xOf rows) = 0) : rowsFault rows = 0 := by subst hn; exact h

theorem bytesOf_prog {rows : List (List Ins)} {n : Nat} (hn : n = rows.length) (h : progFault n (lenOf rows) (xOf rows) = 0) : bytesOf n (lenOf rows) (xOf rows) = progB rows := by
  subst hn
  rw [bytesOf, if_pos h, progB_of]

set_option maxRecDepth 100000 in
set_option maxHeartbeats 800000 in
theorem codeTells_any (w : World) (hT : TabAt 0 w) : Calls Tryd.prog 9 #[] w fun e w' => e = .returned (.bool true) ∧ Below w.heap.size w w' := by
  go_enter Tryd.func9, Tryd.ntmps9
  go_wp2_with fail
  refine (kprogram_any [] none 0 2 w (raws_nil w) (by simp) (by omega) hT).mono ?_
  rintro e w1 ⟨ao, cap, rfl, hb1, hK⟩
  obtain ⟨A, C, hP, hck, hpf⟩ := program_prog (by omega) hK
  go_wp2_with fail
  refine (encode_any ao 3 cap A _ C _ _ (hT.keeps (Keeps.below hb1)) hP).mono ?_
  rintro e w2 ⟨v, rfl, hB, hb2⟩
  rw [hpf]
  rw [bytesOf_prog (n := 3) (rows := programS [] 2) rfl hpf] at hB
  have hv : ∃ g n c, v = .slice (some ⟨g, 0, none⟩) n c ∧ 0 < n ∧ n ≤ 9223372036854775807 := by
    rcases hB.form with ⟨_, h0⟩ | ⟨g, c, rfl, _⟩
    · simp [progB] at h0
    · refine ⟨g, _, c, rfl, by simp [progB], ?_⟩
      obtain ⟨_, h3, h4⟩ := insOk_of_form (rowsF_of (n := 3) (rows := programS [] 2) rfl hpf)
      have := progBytes_length 3 (lenOf (programS [] 2)) (xOf (programS [] 2)) 3 (fun k hk => (row_ok ((prog_ok hpf).2.2 k hk)).2.1)
      have e : progBytes 3 (lenOf (programS [] 2)) (xOf (programS [] 2)) 3 = progB (programS [] 2) := progB_of (programS [] 2)
      rw [e] at this
      omega
  obtain ⟨g, n, c, rfl, hn0, hn⟩ := hv
  have hb3 := hb1.trans (hb2.mono hb1.size)
  have hnz : (0 : Int) < (n : Int) := by omega
  clear hB hP hK hpf hck hb1 hb2 hT
  go_wp2
  go_ret
  exact ⟨ret_bool (by simp), hb3⟩

/-- The bytes of a program of three behaviors that is in form, and what comes of reading them. -/
theorem prog_facts {rows : List (List Ins)} (hr : rows.length = 3) (h : progFault 3 (lenOf rows) (xOf rows) = 0) :
    bytesOf 3 (lenOf rows) (xOf rows) = progB rows ∧ (∀ b ∈ progB rows, 0 ≤ b ∧ b ≤ 255) ∧ (progB rows).length ≤ 2000 ∧ 0 < (progB rows).length ∧ (rdAll (progB rows)).1 = rows ∧ decErr (progB rows) = 0 ∧
      (∀ k, k < (progB rows).length → decErr ((progB rows).take k) = 5) ∧ decErr (progB rows ++ [0]) = 4 := by
  have hF : rowsFault rows = 0 := rowsF_of hr.symm h
  obtain ⟨hx, hl, hm⟩ := insOk_of_form hF
  have hlen : (progB rows).length ≤ 2000 := by
    have := progBytes_length 3 (lenOf rows) (xOf rows) 3 (fun k hk => (row_ok ((prog_ok h).2.2 k hk)).2.1)
    have e : progBytes 3 (lenOf rows) (xOf rows) 3 = progB rows := by rw [← progB_of rows, hr]
    rw [e] at this
    omega
  have ha := all_fwd hx
  refine ⟨bytesOf_prog hr.symm h, progB_bd hx (fun y hy => by have := hl y hy; omega) (by omega), hlen, by simp [progB], by rw [ha], ?_, fun k hk => ?_, ?_⟩
  · rw [decErr, ha, if_neg (by simp)]
    exact hF
  · have := all_cut hx (cut_take hk)
    rw [decErr, this, if_pos (by decide)]
  · have := all_more hx 0
    rw [decErr, this, if_pos (by decide)]

end Go.Proofs.YtahcgnmhhgcfmaaDoor
