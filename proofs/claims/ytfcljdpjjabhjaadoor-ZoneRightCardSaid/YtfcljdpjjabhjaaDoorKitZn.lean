/- Zones as values and as cells in memory. Conditions: those that each theorem names. -/
import Derived.Test.YtfcljdpjjabhjaaDoorKitCf
import Derived.Test.YtfcljdpjjabhjaaDoorZn
import Derived.Test.YtfcljdpjjabhjaaDoorRef9
namespace Go.Proofs.YtfcljdpjjabhjaaDoor.kit
open Go Go.RowKit Go.Proofs.YtfcljdpjjabhjaaDoor.nums Go.Proofs.YtfcljdpjjabhjaaDoor.cf Go.Proofs.YtfcljdpjjabhjaaDoor.zn Go.Proofs.YtfcljdpjjabhjaaDoor.ref9
set_option linter.unusedVariables false

/-- Where a zone's three lists lie. -/
structure ZnA where
  a1 : Option Addr
  n1 : Nat
  c1 : Nat
  a2 : Option Addr
  n2 : Nat
  c2 : Nat
  a3 : Option Addr
  n3 : Nat
  c3 : Nat
def znV (a : ZnA) (z : ZnL) : Value := .agg #[.slice a.a1 a.n1 a.c1, .slice a.a2 a.n2 a.c2, .slice a.a3 a.n3 a.c3, .int .i64 z.e, .int .i64 z.k, .int .i64 z.s]
/-- The lists read as the zone's, below block B. -/
structure RdZ (w : World) (B : Nat) (a : ZnA) (z : ZnL) : Prop where
  r1 : RdV w B a.a1 a.n1 (i64s z.v)
  r2 : RdV w B a.a2 a.n2 (i64s z.w)
  r3 : RdV w B a.a3 a.n3 (i64s z.l)
  l1 : a.n1 ≤ 1099511627776
  l2 : a.n2 ≤ 1099511627776
  l3 : a.n3 ≤ 1099511627776
/-- The same, of lists of any length. -/
structure RdZ0 (w : World) (B : Nat) (a : ZnA) (z : ZnL) : Prop where
  r1 : RdV w B a.a1 a.n1 (i64s z.v)
  r2 : RdV w B a.a2 a.n2 (i64s z.w)
  r3 : RdV w B a.a3 a.n3 (i64s z.l)
theorem RdZ0.on {w w' : World} {B B' : Nat} {a : ZnA} {z : ZnL} (h : RdZ0 w B a z) (hb : Below B w w') (hB : B ≤ B') : RdZ0 w' B' a z := ⟨h.r1.on hb hB, h.r2.on hb hB, h.r3.on hb hB⟩
theorem RdZ0.full {w : World} {B : Nat} {a : ZnA} {z : ZnL} (h : RdZ0 w B a z) (l1 : a.n1 ≤ 30) (l2 : a.n2 ≤ 30) (l3 : a.n3 ≤ 30) : RdZ w B a z := ⟨h.r1, h.r2, h.r3, by omega, by omega, by omega⟩
theorem RdZ.below {w w' : World} {B : Nat} {a : ZnA} {z : ZnL} (h : RdZ w B a z) (hb : Below B w w') : RdZ w' B a z := ⟨h.r1.below hb, h.r2.below hb, h.r3.below hb, h.l1, h.l2, h.l3⟩
theorem RdZ.more {w : World} {B B' : Nat} {a : ZnA} {z : ZnL} (h : RdZ w B a z) (hb : B ≤ B') : RdZ w B' a z := ⟨h.r1.more hb, h.r2.more hb, h.r3.more hb, h.l1, h.l2, h.l3⟩
section
variable {w w' : World} {b o g : Nat} {E : TypeId} {a0 a1 a2 a3 a4 a5 : Value}
theorem blk6 (h : Blk E w g [a0, a1, a2, a3, a4, a5]) : w.cell? ⟨g, 0, none⟩ = some a0 ∧ w.cell? ⟨g, 1, none⟩ = some a1 ∧ w.cell? ⟨g, 2, none⟩ = some a2 ∧ w.cell? ⟨g, 3, none⟩ = some a3 ∧ w.cell? ⟨g, 4, none⟩ = some a4 ∧ w.cell? ⟨g, 5, none⟩ = some a5 :=
  ⟨h.cell 0, h.cell 1, h.cell 2, h.cell 3, h.cell 4, h.cell 5⟩
theorem blk3 (h : Blk E w g [a0, a1, a2]) : w.cell? ⟨g, 0, none⟩ = some a0 ∧ w.cell? ⟨g, 1, none⟩ = some a1 ∧ w.cell? ⟨g, 2, none⟩ = some a2 :=
  ⟨h.cell 0, h.cell 1, h.cell 2⟩
end
/-- A block that is known whole reads as a slice. -/
theorem rdv_blk {w : World} {E : TypeId} {g n : Nat} {xs : List Value} (h : Blk E w g xs) (hn : xs.length = n) : RdV w w.heap.size (some ⟨g, 0, none⟩) n xs :=
  ⟨hn, fun _ => ⟨g, 0, rfl, h.lt, fun j hj => by rw [Nat.zero_add, h.cell]⟩⟩
/-- What a slice of sets reads as. -/
theorem rd_set {w : World} {B n : Nat} {A : Option Addr} {l : List Nat} (h : RdV w B A n (u16s l)) (i : Nat) (hi : i < n) : ∃ b o x, A = some ⟨b, o, none⟩ ∧ b < B ∧ l[i]? = some x ∧ w.cell? ⟨b, o + i, none⟩ = some (.int .u16 (x : Int)) := by
  obtain ⟨hl, hp⟩ := h
  obtain ⟨b, o, rfl, hb, hc⟩ := hp (by omega)
  rw [u16s_length] at hl
  refine ⟨b, o, l[i]'(by omega), rfl, hb, List.getElem?_eq_getElem _, ?_⟩
  have h3 := hc i hi
  rw [h3]
  simp [u16s, List.getElem?_map, List.getElem?_eq_getElem (show i < l.length by omega)]
end Go.Proofs.YtfcljdpjjabhjaaDoor.kit
