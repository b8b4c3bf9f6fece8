/- Rows of actors, of values, of what was told. -/
import Derived.Test.YtahcgnmhhgcfmaaDoorCPlain
import Derived.Test.YtahcgnmhhgcfmaaDoorCHOwn
import Derived.Test.YtahcgnmhhgcfmaaDoorCHAppG
import Derived.WalkSpells
import Derived.WalkLawsBesides
import Derived.Deep.LoopGhost
import Derived.Deep.Light
namespace Go.Proofs.YtahcgnmhhgcfmaaDoor
open Go.RowKit

/-- An actor as it lies: its numbers, and where its lists lie. -/
structure Fa where
  kind : Int
  par : Int
  M : Int
  oa : Option Addr
  on : Nat
  oc : Nat
  ra : Option Addr
  rn : Nat
  rc : Nat
  pc : Int
  ba : Option Addr
  bn : Nat
  bc : Nat
  fin : Int

def fAc (x : Fa) : List Value := [.int .i64 x.kind, .int .i64 x.par, .int .i64 x.M, .slice x.oa x.on x.oc, .slice x.ra x.rn x.rc, .int .i64 x.pc, .slice x.ba x.bn x.bc, .int .i64 x.fin]
def fVl (x : Vl) : List Value := [.int .i64 x.k, .int .i64 x.n]
def fTl (x : Int × Int) : List Value := [.int .i64 x.1, .int .i64 x.2]

theorem Tryd.rowAc : RowT Tryd.prog fAc 8 51 87 112 := ⟨fun _ => rfl, fun x v hv => by simp [fAc] at hv; rcases hv with h | h | h | h | h | h | h | h <;> rw [h] <;> rfl, by decide, Tryd.underlying51, _, (show (Tryd.prog.info? 87).map (fun i => (i.zero, i.size, i.bytes)) = some (some (.agg #[.int .i64 0, .int .i64 0, .int .i64 0, .slice none 0 0, .slice none 0 0, .int .i64 0, .slice none 0 0, .int .i64 0]), 8, 112) by kernel_rfl), rfl⟩
theorem Tryd.rowVl : RowT Tryd.prog fVl 2 80 78 16 := ⟨fun _ => rfl, fun x v hv => by simp [fVl] at hv; rcases hv with h | h <;> rw [h] <;> rfl, by decide, Tryd.underlying80, _, (show (Tryd.prog.info? 78).map (fun i => (i.zero, i.size, i.bytes)) = some (some (.agg #[.int .i64 0, .int .i64 0]), 2, 16) by kernel_rfl), rfl⟩
theorem Tryd.rowTl : RowT Tryd.prog fTl 2 52 92 16 := ⟨fun _ => rfl, fun x v hv => by simp [fTl] at hv; rcases hv with h | h <;> rw [h] <;> rfl, by decide, Tryd.underlying52, _, (show (Tryd.prog.info? 92).map (fun i => (i.zero, i.size, i.bytes)) = some (some (.agg #[.int .i64 0, .int .i64 0]), 2, 16) by kernel_rfl), rfl⟩

theorem seqVl_of {w : World} {ao : Option Addr} {l : List Vl} (h : ValsAt w ao l) : SeqAt fVl 2 w ao l := fun i x hx => by
  obtain ⟨b, o, e, h1, h2⟩ := h i x hx
  refine ⟨b, o, e, fun j u hu => ?_⟩
  match j, hu with
  | 0, hu => simp [fVl] at hu; subst hu; exact h1
  | 1, hu => simp [fVl] at hu; subst hu; exact h2
  | j + 2, hu => simp [fVl] at hu

theorem seqVl_to {w : World} {ao : Option Addr} {l : List Vl} (h : SeqAt fVl 2 w ao l) : ValsAt w ao l := fun i x hx => by
  obtain ⟨b, o, e, hc⟩ := h i x hx
  exact ⟨b, o, e, hc 0 _ rfl, hc 1 _ rfl⟩

theorem seqTl_of {w : World} {ao : Option Addr} {l : List (Int × Int)} (h : ToldAt w ao l) : SeqAt fTl 2 w ao l := fun i x hx => by
  obtain ⟨b, o, e, h1, h2⟩ := h.cell i x hx
  refine ⟨b, o, e, fun j u hu => ?_⟩
  match j, hu with
  | 0, hu => simp [fTl] at hu; subst hu; exact h1
  | 1, hu => simp [fTl] at hu; subst hu; exact h2
  | j + 2, hu => simp [fTl] at hu

theorem seqTl_to {w : World} {ao : Option Addr} {l : List (Int × Int)} (h : SeqAt fTl 2 w ao l) (hm : 16 * l.length ≤ 140737488351232) : ToldAt w ao l := ⟨fun i x hx => by
  obtain ⟨b, o, e, hc⟩ := h i x hx
  exact ⟨b, o, e, hc 0 _ rfl, hc 1 _ rfl⟩, hm⟩

end Go.Proofs.YtahcgnmhhgcfmaaDoor
