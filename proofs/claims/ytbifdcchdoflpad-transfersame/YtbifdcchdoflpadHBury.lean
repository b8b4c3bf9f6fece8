/- The walk of bury. -/
import Derived.Test.YtbifdcchdoflpadHTrans
namespace Go.Proofs.Ytbifdcchdoflpad
open Go.RowKit Go.Maps

def buryR (rows : List (Value × Ob)) (ps : List Int) : List (Value × Ob) := ps.foldl (fun r p => r.set p.toNat (Value.slice none 0 0, (⟨[], true⟩ : Ob))) rows

def buryL (l : List Ob) (ps : List Int) : List Ob := ps.foldl (fun r p => r.set p.toNat (⟨[], true⟩ : Ob)) l

theorem buryR_length (rows : List (Value × Ob)) : ∀ ps : List Int, (buryR rows ps).length = rows.length := by
  intro ps
  induction ps generalizing rows with
  | nil => rfl
  | cons p r ih => show (buryR _ r).length = _; rw [ih]; simp

theorem buryL_length (l : List Ob) : ∀ ps : List Int, (buryL l ps).length = l.length := by
  intro ps
  induction ps generalizing l with
  | nil => rfl
  | cons p r ih => show (buryL _ r).length = _; rw [ih]; simp

theorem buryR_obs (rows : List (Value × Ob)) : ∀ ps : List Int, (buryR rows ps).map (·.2) = buryL (rows.map (·.2)) ps := by
  intro ps
  induction ps generalizing rows with
  | nil => rfl
  | cons p r ih => show (buryR _ r).map _ = buryL _ r; rw [ih, List.map_set]

theorem buryR_snoc (rows : List (Value × Ob)) (ps : List Int) (p : Int) : buryR rows (ps ++ [p]) = (buryR rows ps).set p.toNat (.slice none 0 0, ⟨[], true⟩) := by simp [buryR, List.foldl_append]
theorem buryL_snoc (l : List Ob) (ps : List Int) (p : Int) : buryL l (ps ++ [p]) = (buryL l ps).set p.toNat ⟨[], true⟩ := by simp [buryL, List.foldl_append]

theorem grownBy_refl (w : World) (r : Option Nat) : w.grownBy w r := ⟨rfl, rfl, rfl, Nat.le_refl _, fun _ _ _ => rfl⟩
theorem grownBy_trans {a b c : World} {r : Option Nat} (h : a.grownBy b r) (k : b.grownBy c r) : a.grownBy c r :=
  ⟨k.os.trans h.os, k.tape.trans h.tape, k.output.trans h.output, Nat.le_trans h.size k.size, fun j hj hn => (k.block j (Nat.lt_of_lt_of_le hj h.size) hn).trans (h.block j hj hn)⟩
theorem grownBy_below {a b : World} (r : Option Nat) (h : Below a.heap.size a b) : a.grownBy b r := ⟨h.os, h.tape, h.output, h.size, fun j hj _ => h.block j hj⟩
theorem grownBy_set (w : World) (g j : Nat) (u : Value) : w.grownBy (w.setCell ⟨g, j, none⟩ u) (some g) :=
  ⟨rfl, rfl, rfl, by simp [World.setCell], fun k _ hk => Below.heap_setCell _ _ _ _ (fun e => hk (by rw [e]))⟩

set_option maxHeartbeats 1000000 in
theorem bury_any (M : Int) (g n cap base b2 : Nat) (rows : List (Value × Ob)) (oa : Option Addr) (oc : Nat) (ps : List Int) (w : World) (hO : HeapOwn w base (.slice (some ⟨g, 0, none⟩) n cap) rows) (hn : rows.length = n) (hI : IntsOwn w b2 (.slice oa ps.length oc) ps) (hok : Ok n ps) (hn60 : n ≤ 60) :
    Calls Try.prog 26 #[.agg #[.int .i64 M, .slice (some ⟨g, 0, none⟩) n cap], .slice oa ps.length oc] w fun e w' =>
      e = .returned (.tuple #[]) ∧ HeapOwn w' base (.slice (some ⟨g, 0, none⟩) n cap) (buryR rows ps) ∧ w.grownBy w' (some g) := by
  have hlen := hok.len
  obtain ⟨P, hP⟩ : ∃ P, P = ps.length := ⟨_, rfl⟩
  have HP : Aside (P = ps.length) := hP
  rw [← hP] at hI hlen ⊢
  clear hP
  have HOK : Aside (Ok n ps) := hok
  have HN : Aside (rows.length = n) := hn
  clear hok hn
  have N0 := Deep.blk_alloc_new w (Obj.cells #[.int .i64 M, .slice (some ⟨g, 0, none⟩) n cap] 25)
  have hG0 : w.grownBy (w.alloc (Obj.cells #[.int .i64 M, .slice (some ⟨g, 0, none⟩) n cap] 25)) (some g) := grownBy_below _ (below_box _ _)
  have hO0 := hO.alloc (Obj.cells #[.int .i64 M, .slice (some ⟨g, 0, none⟩) n cap] 25)
  have hI0 := World.ownsRow.alloc hI (Obj.cells #[.int .i64 M, .slice (some ⟨g, 0, none⟩) n cap] 25)
  have hgw := (World.ownsRow.lt hO.top g rfl).2
  clear hO hI
  go_enter Try.func26, Try.ntmps26
  go_upto_region 1 with fail
  generalize w.alloc (Obj.cells #[.int .i64 M, .slice (some ⟨g, 0, none⟩) n cap] 25) = W at *
  go_wp2
  go_loopg [8, 5] P (fun gg s8 s5 wr => ∃ i : Nat, i ≤ P ∧ gg = P - i ∧ s8 = .int .i64 i ∧ HeapOwn wr base (.slice (some ⟨g, 0, none⟩) n cap) (buryR rows (ps.take i)) ∧ IntsOwn wr b2 (.slice oa P oc) ps ∧ w.grownBy wr (some g) ∧ wr.heap[w.heap.size]? = some (.cells #[.int .i64 M, .slice (some ⟨g, 0, none⟩) n cap] 25 (0, 0)))
  case atStart => exact ⟨0, Nat.zero_le _, rfl, rfl, hO0, hI0, hG0, N0⟩
  case round =>
    obtain ⟨i, hi, rfl, rfl, hO, hI, hG, hN⟩ := hrel
    clear hO0 hI0 hG0 N0
    by_cases hiP : i < P
    · have hiz : (i : Int) < (P : Int) := by omega
      obtain ⟨p, hp⟩ := at_some (l := ps) (i := i) (by rw [← HP.out]; exact hiP)
      have hpb := HOK.out.2 p (List.mem_of_getElem? hp)
      obtain ⟨q, rfl⟩ := Int.eq_ofNat_of_zero_le hpb.1
      have hqz : (q : Int) < (n : Int) := hpb.2
      have HTK : Aside (ps.take (i + 1) = ps.take i ++ [(q : Int)]) := by show ps.take (i + 1) = _; rw [List.take_add_one, hp]; rfl
      obtain ⟨ib, io, rfl, d3⟩ := IntsOwn.at hI i _ hp
      have c1 := cell_blk hN 1
      simp at c1
      have hlt : q < (buryR rows (ps.take i)).length := by rw [buryR_length, HN.out]; omega
      obtain ⟨⟨rv, ob⟩, hrow⟩ := at_some hlt
      have e0 := ownsRow_cell hO.top rfl (j := q * 2) (u := rv) (by simp [obCells, pairs_fst, hrow, obPair])
      have e1 := ownsRow_cell hO.top rfl (j := q * 2 + 1) (u := .bool ob.dead) (by simp [obCells, pairs_snd, hrow, obPair])
      have e2 : ∀ j, wr.frozen? ⟨g, j, none⟩ = false := fun j => ownsRow_frozen hO.top rfl j
      have hO2 := hO.store hlt (.slice none 0 0) ⟨[], true⟩ (World.ownsRow_nil _ _ _ _) (by simp) (fun j q _ _ => Or.inl rfl)
      have hne : (Value.slice (some ⟨ib, io, none⟩) P oc).ownBlock = none ∨ (Value.slice (some ⟨ib, io, none⟩) P oc).ownBlock ≠ some g := owns_other hI hO.top (by decide)
      have hI2 := ownsRow_set_other (ownsRow_set_other hI hne (q * 2) (.slice none 0 0)) hne (q * 2 + 1) (.bool true)
      have hG2 := grownBy_trans (grownBy_trans hG (grownBy_set wr g (q * 2) (.slice none 0 0))) (grownBy_set _ g (q * 2 + 1) (.bool true))
      have hgn : w.heap.size ≠ g := by omega
      have hN2 := ((Deep.blk_setCell_other (wr.setCell ⟨g, q * 2, none⟩ (.slice none 0 0)) ⟨g, q * 2 + 1, none⟩ (.bool true) w.heap.size hgn).trans (Deep.blk_setCell_other wr ⟨g, q * 2, none⟩ (.slice none 0 0) w.heap.size hgn)).trans hN
      have HR : Aside ((buryR rows (ps.take i)).set q (Value.slice none 0 0, (⟨[], true⟩ : Ob)) = buryR rows (ps.take (i + 1))) := by show _ = _; rw [HTK.out, buryR_snoc]; simp
      rw [HR.out] at hO2
      have HALL : Aside (HeapOwn ((wr.setCell ⟨g, q * 2, none⟩ (.slice none 0 0)).setCell ⟨g, q * 2 + 1, none⟩ (.bool true)) base (.slice (some ⟨g, 0, none⟩) n cap) (buryR rows (ps.take (i + 1))) ∧ IntsOwn ((wr.setCell ⟨g, q * 2, none⟩ (.slice none 0 0)).setCell ⟨g, q * 2 + 1, none⟩ (.bool true)) b2 (.slice (some ⟨ib, io, none⟩) P oc) ps ∧ w.grownBy ((wr.setCell ⟨g, q * 2, none⟩ (.slice none 0 0)).setCell ⟨g, q * 2 + 1, none⟩ (.bool true)) (some g) ∧ ((wr.setCell ⟨g, q * 2, none⟩ (.slice none 0 0)).setCell ⟨g, q * 2 + 1, none⟩ (.bool true)).heap[w.heap.size]? = some (.cells #[.int .i64 M, .slice (some ⟨g, 0, none⟩) n cap] 25 (0, 0))) := ⟨hO2, hI2, hG2, hN2⟩
      clear hO2 hI2 hG2 hN2 hO hI hG hp hrow hN
      go_wp2
      go_roundg (P - (i + 1))
      case measure => go_light; omega
      case rel => go_light; exact ⟨i + 1, by omega, rfl, by go_num, HALL.out.1, HALL.out.2.1, HALL.out.2.2.1, HALL.out.2.2.2⟩
    · have HT : Aside (ps.take i = ps) := by show ps.take i = ps; rw [List.take_of_length_le]; rw [← HP.out]; omega
      rw [HT.out] at hO
      go_wp2
      go_end0
      exact ⟨rfl, hO, hG⟩

end Go.Proofs.Ytbifdcchdoflpad
