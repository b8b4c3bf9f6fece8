/- Reading a program out of bytes, as plain functions of the bytes and the place: what is read, the fault, the place behind it. -/
import Derived.Test.YtcgdabmmhjnidaaDoorByteSpec
namespace Go.Proofs.YtcgdabmmhjnidaaDoor

def rdNext (bs : List Int) (k : Nat) : Int × Int × Nat := if k < bs.length then (bs.getD k 0, 0, k + 1) else (0, 5, k)

/-- The two first bytes. -/
def rdBegin (bs : List Int) (k : Nat) : Int × Nat :=
  if (rdNext bs k).2.1 ≠ 0 then ((rdNext bs k).2.1, (rdNext bs k).2.2)
  else if (rdNext bs k).1 ≠ 116 then (4, (rdNext bs k).2.2)
  else if (rdNext bs (rdNext bs k).2.2).2.1 ≠ 0 then ((rdNext bs (rdNext bs k).2.2).2.1, (rdNext bs (rdNext bs k).2.2).2.2)
  else if (rdNext bs (rdNext bs k).2.2).1 ≠ 119 then (4, (rdNext bs (rdNext bs k).2.2).2.2)
  else (0, (rdNext bs (rdNext bs k).2.2).2.2)

/-- A and B in a byte. -/
def rdRegs (bs : List Int) (k : Nat) : Int × Int × Int × Nat :=
  if (rdNext bs k).2.1 ≠ 0 then (0, 0, (rdNext bs k).2.1, (rdNext bs k).2.2)
  else if 64 ≤ (rdNext bs k).1 then (0, 0, 4, (rdNext bs k).2.2)
  else ((rdNext bs k).1 % 8, (rdNext bs k).1 / 8, 0, (rdNext bs k).2.2)

def unzig (s : Int) : Int := if s % 2 = 1 then -((s + 1) / 2) else s / 2

/-- A number, of which i bytes are read already, f more may come. -/
def rdNum (bs : List Int) : Nat → Nat → Int → Int → Nat → Int × Int × Nat
  | 0, _, _, _, k => (0, 4, k)
  | f + 1, i, s, p, k =>
    if (rdNext bs k).2.1 ≠ 0 then (0, (rdNext bs k).2.1, (rdNext bs k).2.2)
    else if 128 ≤ (rdNext bs k).1 then rdNum bs f (i + 1) (s + (rdNext bs k).1 % 128 * p) (p * 128) (rdNext bs k).2.2
    else if (rdNext bs k).1 = 0 ∧ 0 < i then (0, 4, (rdNext bs k).2.2)
    else (unzig (s + (rdNext bs k).1 % 128 * p), 0, (rdNext bs k).2.2)

structure Ins where
  op : Int
  a : Int
  b : Int
  n : Int

def noIns : Ins := ⟨0, 0, 0, 0⟩

/-- The registers of an instruction, if it has any. -/
def rdAB (bs : List Int) (op : Int) (k : Nat) : Int × Int × Int × Nat := if aOf op then rdRegs bs k else (0, 0, 0, k)
def rdN (bs : List Int) (op : Int) (k : Nat) : Int × Int × Nat := if nOf op then rdNum bs 6 0 0 1 k else (0, 0, k)

def rdIns (bs : List Int) (k : Nat) : Ins × Int × Nat :=
  if (rdNext bs k).2.1 ≠ 0 then (noIns, (rdNext bs k).2.1, (rdNext bs k).2.2)
  else if okOp (rdNext bs k).1 = false then (noIns, 3, (rdNext bs k).2.2)
  else if (rdAB bs (rdNext bs k).1 (rdNext bs k).2.2).2.2.1 ≠ 0 then (noIns, (rdAB bs (rdNext bs k).1 (rdNext bs k).2.2).2.2.1, (rdAB bs (rdNext bs k).1 (rdNext bs k).2.2).2.2.2)
  else if (rdN bs (rdNext bs k).1 (rdAB bs (rdNext bs k).1 (rdNext bs k).2.2).2.2.2).2.1 ≠ 0 then (noIns, (rdN bs (rdNext bs k).1 (rdAB bs (rdNext bs k).1 (rdNext bs k).2.2).2.2.2).2.1, (rdN bs (rdNext bs k).1 (rdAB bs (rdNext bs k).1 (rdNext bs k).2.2).2.2.2).2.2)
  else (⟨(rdNext bs k).1, (rdAB bs (rdNext bs k).1 (rdNext bs k).2.2).1, (rdAB bs (rdNext bs k).1 (rdNext bs k).2.2).2.1, (rdN bs (rdNext bs k).1 (rdAB bs (rdNext bs k).1 (rdNext bs k).2.2).2.2.2).1⟩, 0,
    (rdN bs (rdNext bs k).1 (rdAB bs (rdNext bs k).1 (rdNext bs k).2.2).2.2.2).2.2)

section
variable {bs : List Int} {k k1 k2 k3 : Nat} {q a b n er : Int}
theorem rdIns_ab (h : rdNext bs k = (q, 0, k1)) (ho : okOp q = true) (hab : rdAB bs q k1 = (a, b, er, k2)) (he : er ≠ 0) : rdIns bs k = (noIns, er, k2) := by
  simp [rdIns, h, ho, hab, he]
theorem rdIns_n (h : rdNext bs k = (q, 0, k1)) (ho : okOp q = true) (hab : rdAB bs q k1 = (a, b, 0, k2)) (hn : rdN bs q k2 = (n, er, k3)) (he : er ≠ 0) : rdIns bs k = (noIns, er, k3) := by
  simp [rdIns, h, ho, hab, hn, he]
theorem rdIns_ok (h : rdNext bs k = (q, 0, k1)) (ho : okOp q = true) (hab : rdAB bs q k1 = (a, b, 0, k2)) (hn : rdN bs q k2 = (n, 0, k3)) : rdIns bs k = (⟨q, a, b, n⟩, 0, k3) := by
  simp [rdIns, h, ho, hab, hn]
end

/-- So many instructions more, behind those that are read. -/
def rdInss (bs : List Int) : Nat → List Ins → Nat → List Ins × Int × Nat
  | 0, l, k => (l, 0, k)
  | f + 1, l, k => if (rdIns bs k).2.1 ≠ 0 then ([], (rdIns bs k).2.1, (rdIns bs k).2.2) else rdInss bs f (l ++ [(rdIns bs k).1]) (rdIns bs k).2.2

def rdRow (bs : List Int) (k : Nat) : List Ins × Int × Nat :=
  if (rdNext bs k).2.1 ≠ 0 then ([], (rdNext bs k).2.1, (rdNext bs k).2.2) else rdInss bs (rdNext bs k).1.toNat [] (rdNext bs k).2.2

def rdRows (bs : List Int) : Nat → List (List Ins) → Nat → List (List Ins) × Int × Nat
  | 0, l, k => (l, 0, k)
  | f + 1, l, k => if (rdRow bs k).2.1 ≠ 0 then ([], (rdRow bs k).2.1, (rdRow bs k).2.2) else rdRows bs f (l ++ [(rdRow bs k).1]) (rdRow bs k).2.2

def rdProg (bs : List Int) (k : Nat) : List (List Ins) × Int × Nat :=
  if (rdNext bs k).2.1 ≠ 0 then ([], (rdNext bs k).2.1, (rdNext bs k).2.2) else rdRows bs (rdNext bs k).1.toNat [] (rdNext bs k).2.2

def rdAll (bs : List Int) : List (List Ins) × Int :=
  if (rdBegin bs 0).1 ≠ 0 then ([], (rdBegin bs 0).1)
  else if (rdProg bs (rdBegin bs 0).2).2.1 ≠ 0 then ([], (rdProg bs (rdBegin bs 0).2).2.1)
  else if (rdProg bs (rdBegin bs 0).2).2.2 < bs.length then ([], 4)
  else ((rdProg bs (rdBegin bs 0).2).1, 0)

end Go.Proofs.YtcgdabmmhjnidaaDoor
