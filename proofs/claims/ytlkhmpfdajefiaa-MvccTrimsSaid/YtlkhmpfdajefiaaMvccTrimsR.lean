/- MvccTrims in the words of its frame. Conditions: what the arguments read as. -/
import Derived.Test.YtlkhmpfdajefiaaTrims8
namespace Go.Proofs.Ytlkhmpfdajefiaa.law8
open Go Go.RowKit Go.Proofs.Ytlkhmpfdajefiaa.kit Go.Proofs.Ytlkhmpfdajefiaa.nums Go.Proofs.Ytlkhmpfdajefiaa.st Go.Proofs.Ytlkhmpfdajefiaa.mv Go.Proofs.Ytlkhmpfdajefiaa.ref8
set_option linter.unusedVariables false

theorem trims_any_row (A : Option Addr) (n c : Nat) (os : List OpM) (tb ta : StL) (lo hi : ByteArray) (w : World) (R : RdOpM w w.heap.size A n os) (C : n ≤ c) (M : c ≤ maxLen) : Calls Try.prog 5 #[.slice A n c, .agg #[.int .i64 tb.wall, .int .i64 tb.tie], .agg #[.int .i64 ta.wall, .int .i64 ta.tie], .agg #[.string lo, .string hi]] w fun e w' => e = .returned (.bool true) ∧ Below w.heap.size w w' :=
  trims_any A n c os tb ta lo hi w w.heap.size R (Nat.le_refl _) (by unfold maxLen at M; omega)
end Go.Proofs.Ytlkhmpfdajefiaa.law8
