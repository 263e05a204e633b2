/- What operations on a disk are, as plain values, and slices of them in memory. Conditions: none. -/
import Derived.Test.YtkjaljfoaagfdaaKitV
import Derived.Test.YtkjaljfoaagfdaaNums
namespace Go.Proofs.Ytkjaljfoaagfdaa.kit
open Go.RowKit Go.Proofs.Ytkjaljfoaagfdaa.nums
set_option linter.unusedVariables false

/-- An operation as it is handed in. -/
structure OpL where
  kind : Int
  f : Int
  n : Int
  b : List Int
  keep : List Int
def I64 (z : Int) : Prop := -9223372036854775808 ≤ z ∧ z ≤ 9223372036854775807
/-- Its numbers are in range, its bytes are bytes. -/
structure OpOk (x : OpL) : Prop where
  kind : I64 x.kind
  f : I64 x.f
  n : I64 x.n
  b : Byt x.b
  keep : ∀ z ∈ x.keep, I64 z
/-- The values of its five cells. -/
structure OpV (w : World) (B : Nat) (x : OpL) (v3 v4 : Value) : Prop where
  b : Sl w B v3 x.b
  keep : ∃ A c, v4 = .slice A x.keep.length c ∧ x.keep.length ≤ c ∧ c ≤ maxLen ∧ RdV w B A x.keep.length (x.keep.map (Value.int .i64))
/-- The operation x lies at ⟨b, o⟩. -/
def OpAt (w : World) (B b o : Nat) (x : OpL) : Prop :=
  w.cell? ⟨b, o, none⟩ = some (.int .i64 x.kind) ∧ w.cell? ⟨b, o + 1, none⟩ = some (.int .i64 x.f) ∧ w.cell? ⟨b, o + 2, none⟩ = some (.int .i64 x.n) ∧
  ∃ v3 v4, w.cell? ⟨b, o + 3, none⟩ = some v3 ∧ w.cell? ⟨b, o + 4, none⟩ = some v4 ∧ OpV w B x v3 v4
/-- The slice at A with n elements reads as the operations os, below block B. -/
def RdOp (w : World) (B : Nat) (A : Option Addr) (n : Nat) (os : List OpL) : Prop :=
  os.length = n ∧ (0 < n → ∃ b o, A = some ⟨b, o, none⟩ ∧ b < B ∧ ∀ (j : Nat) (x : OpL), os[j]? = some x → OpAt w B b (o + j * 5) x)
section
variable {w w' : World} {B B' : Nat}
theorem OpV.below {x : OpL} {v3 v4 : Value} (h : OpV w B x v3 v4) (hb : Below B w w') : OpV w' B x v3 v4 := by
  obtain ⟨A, c, e, h1, h2, hR⟩ := h.keep
  exact ⟨h.b.below hb, A, c, e, h1, h2, hR.below hb⟩
theorem OpV.more {x : OpL} {v3 v4 : Value} (h : OpV w B x v3 v4) (hB : B ≤ B') : OpV w B' x v3 v4 := by
  obtain ⟨A, c, e, h1, h2, hR⟩ := h.keep
  exact ⟨h.b.more hB, A, c, e, h1, h2, hR.more hB⟩
theorem OpAt.below {b o : Nat} {x : OpL} (h : OpAt w B b o x) (hlt : b < B) (hb : Below B w w') : OpAt w' B b o x := by
  obtain ⟨h0, h1, h2, v3, v4, h3, h4, h5⟩ := h
  have hc := fun i => hb.cell (p := ⟨b, i, none⟩) hlt
  exact ⟨by rw [hc]; exact h0, by rw [hc]; exact h1, by rw [hc]; exact h2, v3, v4, by rw [hc]; exact h3, by rw [hc]; exact h4, h5.below hb⟩
theorem RdOp.below {A : Option Addr} {n : Nat} {os : List OpL} (h : RdOp w B A n os) (hb : Below B w w') : RdOp w' B A n os :=
  ⟨h.1, fun hn => by
    obtain ⟨b, o, e, hlt, hc⟩ := h.2 hn
    exact ⟨b, o, e, hlt, fun j x hx => (hc j x hx).below hlt hb⟩⟩
theorem RdOp.at_ {A : Option Addr} {n : Nat} {os : List OpL} (h : RdOp w B A n os) {j : Nat} (hj : j < n) : ∃ b o x, A = some ⟨b, o, none⟩ ∧ b < B ∧ os[j]? = some x ∧ OpAt w B b (o + j * 5) x := by
  obtain ⟨b, o, e, hlt, hc⟩ := h.2 (by omega)
  have hlen := h.1
  have hx : os[j]? = some (os[j]) := List.getElem?_eq_getElem (by omega)
  exact ⟨b, o, os[j], e, hlt, hx, hc j _ hx⟩
end
end Go.Proofs.Ytkjaljfoaagfdaa.kit
