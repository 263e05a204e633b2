/- Configurations, joints and sets as values and as cells in memory. Conditions: those that each theorem names. -/
import Derived.Test.YteadkgjikaikjaaKitK
import Derived.Test.YteadkgjikaikjaaCf
import Derived.Test.YteadkgjikaikjaaProg
namespace Go.Proofs.Yteadkgjikaikjaa.kit
open Go Go.RowKit Go.Proofs.Yteadkgjikaikjaa.nums Go.Proofs.Yteadkgjikaikjaa.cf
set_option linter.unusedVariables false

def cfC (c : CfL) : List Value := [.int .u16 (c.v : Int), .int .u16 (c.w : Int), .int .u16 (c.l : Int), .int .i64 c.e, .int .i64 c.k]
def cfV (c : CfL) : Value := .agg #[.int .u16 (c.v : Int), .int .u16 (c.w : Int), .int .u16 (c.l : Int), .int .i64 c.e, .int .i64 c.k]
def jtC (j : JtL) : List Value := [.int .u16 (j.a.v : Int), .int .u16 (j.a.w : Int), .int .u16 (j.a.l : Int), .int .i64 j.a.e, .int .i64 j.a.k, .int .u16 (j.b.v : Int), .int .u16 (j.b.w : Int), .int .u16 (j.b.l : Int), .int .i64 j.b.e, .int .i64 j.b.k, .bool j.two]
def jtV (j : JtL) : Value := .agg #[.int .u16 (j.a.v : Int), .int .u16 (j.a.w : Int), .int .u16 (j.a.l : Int), .int .i64 j.a.e, .int .i64 j.a.k, .int .u16 (j.b.v : Int), .int .u16 (j.b.w : Int), .int .u16 (j.b.l : Int), .int .i64 j.b.e, .int .i64 j.b.k, .bool j.two]
def u16s (l : List Nat) : List Value := l.map fun (x : Nat) => Value.int .u16 (x : Int)
theorem u16s_length (l : List Nat) : (u16s l).length = l.length := by simp [u16s]
theorem u16s_append (l m : List Nat) : u16s (l ++ m) = u16s l ++ u16s m := by simp [u16s]
section
variable {w w' : World} {b o g : Nat} {E : TypeId} {a0 a1 a2 a3 a4 a5 a6 a7 a8 a9 a10 : Value}
theorem at5 (h : At w b o [a0, a1, a2, a3, a4]) : w.cell? ⟨b, o, none⟩ = some a0 ∧ w.cell? ⟨b, o + 1, none⟩ = some a1 ∧ w.cell? ⟨b, o + 2, none⟩ = some a2 ∧ w.cell? ⟨b, o + 3, none⟩ = some a3 ∧ w.cell? ⟨b, o + 4, none⟩ = some a4 :=
  ⟨h 0 _ rfl, h 1 _ rfl, h 2 _ rfl, h 3 _ rfl, h 4 _ rfl⟩
theorem at11 (h : At w b o [a0, a1, a2, a3, a4, a5, a6, a7, a8, a9, a10]) : w.cell? ⟨b, o, none⟩ = some a0 ∧ w.cell? ⟨b, o + 1, none⟩ = some a1 ∧ w.cell? ⟨b, o + 2, none⟩ = some a2 ∧ w.cell? ⟨b, o + 3, none⟩ = some a3 ∧ w.cell? ⟨b, o + 4, none⟩ = some a4 ∧ w.cell? ⟨b, o + 5, none⟩ = some a5 ∧ w.cell? ⟨b, o + 6, none⟩ = some a6 ∧ w.cell? ⟨b, o + 7, none⟩ = some a7 ∧ w.cell? ⟨b, o + 8, none⟩ = some a8 ∧ w.cell? ⟨b, o + 9, none⟩ = some a9 ∧ w.cell? ⟨b, o + 10, none⟩ = some a10 :=
  ⟨h 0 _ rfl, h 1 _ rfl, h 2 _ rfl, h 3 _ rfl, h 4 _ rfl, h 5 _ rfl, h 6 _ rfl, h 7 _ rfl, h 8 _ rfl, h 9 _ rfl, h 10 _ rfl⟩
theorem blk5 (h : Blk E w g [a0, a1, a2, a3, a4]) : w.cell? ⟨g, 0, none⟩ = some a0 ∧ w.cell? ⟨g, 1, none⟩ = some a1 ∧ w.cell? ⟨g, 2, none⟩ = some a2 ∧ w.cell? ⟨g, 3, none⟩ = some a3 ∧ w.cell? ⟨g, 4, none⟩ = some a4 :=
  ⟨h.cell 0, h.cell 1, h.cell 2, h.cell 3, h.cell 4⟩
theorem blk11 (h : Blk E w g [a0, a1, a2, a3, a4, a5, a6, a7, a8, a9, a10]) : w.cell? ⟨g, 0, none⟩ = some a0 ∧ w.cell? ⟨g, 1, none⟩ = some a1 ∧ w.cell? ⟨g, 2, none⟩ = some a2 ∧ w.cell? ⟨g, 3, none⟩ = some a3 ∧ w.cell? ⟨g, 4, none⟩ = some a4 ∧ w.cell? ⟨g, 5, none⟩ = some a5 ∧ w.cell? ⟨g, 6, none⟩ = some a6 ∧ w.cell? ⟨g, 7, none⟩ = some a7 ∧ w.cell? ⟨g, 8, none⟩ = some a8 ∧ w.cell? ⟨g, 9, none⟩ = some a9 ∧ w.cell? ⟨g, 10, none⟩ = some a10 :=
  ⟨h.cell 0, h.cell 1, h.cell 2, h.cell 3, h.cell 4, h.cell 5, h.cell 6, h.cell 7, h.cell 8, h.cell 9, h.cell 10⟩
end
section
variable {w w0 : World} {g B : Nat} {E : TypeId} {a0 a1 a2 a3 a4 a5 a6 a7 a8 a9 a10 : Value} (b0 b1 b2 b3 b4 b5 b6 b7 b8 b9 b10 : Value)
/-- A joint that is written over. -/
theorem put11 (K : Blk E w g [a0, a1, a2, a3, a4, a5, a6, a7, a8, a9, a10]) : Blk E (((((((((((w.setCell ⟨g, 0, none⟩ b0).setCell ⟨g, 1, none⟩ b1).setCell ⟨g, 2, none⟩ b2).setCell ⟨g, 3, none⟩ b3).setCell ⟨g, 4, none⟩ b4).setCell ⟨g, 5, none⟩ b5).setCell ⟨g, 6, none⟩ b6).setCell ⟨g, 7, none⟩ b7).setCell ⟨g, 8, none⟩ b8).setCell ⟨g, 9, none⟩ b9).setCell ⟨g, 10, none⟩ b10) g [b0, b1, b2, b3, b4, b5, b6, b7, b8, b9, b10] := (((((((((((K.set_ 0 b0).set_ 1 b1).set_ 2 b2).set_ 3 b3).set_ 4 b4).set_ 5 b5).set_ 6 b6).set_ 7 b7).set_ 8 b8).set_ 9 b9).set_ 10 b10)
theorem below11 (h : Below B w0 w) (hg : B ≤ g) : Below B w0 (((((((((((w.setCell ⟨g, 0, none⟩ b0).setCell ⟨g, 1, none⟩ b1).setCell ⟨g, 2, none⟩ b2).setCell ⟨g, 3, none⟩ b3).setCell ⟨g, 4, none⟩ b4).setCell ⟨g, 5, none⟩ b5).setCell ⟨g, 6, none⟩ b6).setCell ⟨g, 7, none⟩ b7).setCell ⟨g, 8, none⟩ b8).setCell ⟨g, 9, none⟩ b9).setCell ⟨g, 10, none⟩ b10) := (((((((((((h.setCell (p := ⟨g, 0, none⟩) hg b0).setCell (p := ⟨g, 1, none⟩) hg b1).setCell (p := ⟨g, 2, none⟩) hg b2).setCell (p := ⟨g, 3, none⟩) hg b3).setCell (p := ⟨g, 4, none⟩) hg b4).setCell (p := ⟨g, 5, none⟩) hg b5).setCell (p := ⟨g, 6, none⟩) hg b6).setCell (p := ⟨g, 7, none⟩) hg b7).setCell (p := ⟨g, 8, none⟩) hg b8).setCell (p := ⟨g, 9, none⟩) hg b9).setCell (p := ⟨g, 10, none⟩) hg b10)
end
section
variable {w w0 : World} {g B : Nat} {E : TypeId} {a0 a1 a2 a3 a4 : Value} (b0 b1 b2 b3 b4 : Value)
/-- A configuration that is written over. -/
theorem put5 (K : Blk E w g [a0, a1, a2, a3, a4]) : Blk E (((((w.setCell ⟨g, 0, none⟩ b0).setCell ⟨g, 1, none⟩ b1).setCell ⟨g, 2, none⟩ b2).setCell ⟨g, 3, none⟩ b3).setCell ⟨g, 4, none⟩ b4) g [b0, b1, b2, b3, b4] := (((((K.set_ 0 b0).set_ 1 b1).set_ 2 b2).set_ 3 b3).set_ 4 b4)
theorem below5 (h : Below B w0 w) (hg : B ≤ g) : Below B w0 (((((w.setCell ⟨g, 0, none⟩ b0).setCell ⟨g, 1, none⟩ b1).setCell ⟨g, 2, none⟩ b2).setCell ⟨g, 3, none⟩ b3).setCell ⟨g, 4, none⟩ b4) := (((((h.setCell (p := ⟨g, 0, none⟩) hg b0).setCell (p := ⟨g, 1, none⟩) hg b1).setCell (p := ⟨g, 2, none⟩) hg b2).setCell (p := ⟨g, 3, none⟩) hg b3).setCell (p := ⟨g, 4, none⟩) hg b4)
end
/-- A row of configurations in a block of its own. -/
theorem row_at {w : World} {E : TypeId} {g : Nat} {l : List Value} (h : Blk E w g l) : At w g 0 l := fun j u hu => by rw [Nat.zero_add, h.cell]; exact hu
/-- The slice at A with n elements reads as the configurations xs, below block B; each is one of the kind. -/
def RdCf (w : World) (B : Nat) (A : Option Addr) (n : Nat) (xs : List CfL) : Prop :=
  xs.length = n ∧ (0 < n → ∃ b o, A = some ⟨b, o, none⟩ ∧ b < B ∧ ∀ (j : Nat) (x : CfL), xs[j]? = some x → At w b (o + j * 5) (cfC x) ∧ x.ok)
end Go.Proofs.Yteadkgjikaikjaa.kit
