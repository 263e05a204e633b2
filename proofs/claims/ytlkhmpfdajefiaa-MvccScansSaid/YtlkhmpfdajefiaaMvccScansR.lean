/- MvccScans in the words of its frame. Conditions: what the arguments read as. -/
import Derived.Test.YtlkhmpfdajefiaaScans8
namespace Go.Proofs.Ytlkhmpfdajefiaa.law8
open Go Go.RowKit Go.Proofs.Ytlkhmpfdajefiaa.kit Go.Proofs.Ytlkhmpfdajefiaa.nums Go.Proofs.Ytlkhmpfdajefiaa.st Go.Proofs.Ytlkhmpfdajefiaa.mv Go.Proofs.Ytlkhmpfdajefiaa.ref8
set_option linter.unusedVariables false

theorem scans_any_row (A : Option Addr) (n c : Nat) (os : List OpM) (lo hi : ByteArray) (ta : StL) (w : World) (R : RdOpM w w.heap.size A n os) (C : n ≤ c) (M : c ≤ maxLen) : Calls Try.prog 8 #[.slice A n c, .agg #[.string lo, .string hi], .agg #[.int .i64 ta.wall, .int .i64 ta.tie]] w fun e w' => e = .returned (.bool true) ∧ Below w.heap.size w w' :=
  scans_any A n c os lo hi ta w w.heap.size R (Nat.le_refl _) (by unfold maxLen at M; omega)
end Go.Proofs.Ytlkhmpfdajefiaa.law8
