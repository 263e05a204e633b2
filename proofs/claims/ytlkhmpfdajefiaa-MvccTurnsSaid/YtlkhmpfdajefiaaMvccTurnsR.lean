/- MvccTurns in the words of its frame. Conditions: what the arguments read as. -/
import Derived.Test.YtlkhmpfdajefiaaTurns8
namespace Go.Proofs.Ytlkhmpfdajefiaa.law8
open Go Go.RowKit Go.Proofs.Ytlkhmpfdajefiaa.kit Go.Proofs.Ytlkhmpfdajefiaa.nums Go.Proofs.Ytlkhmpfdajefiaa.st Go.Proofs.Ytlkhmpfdajefiaa.mv Go.Proofs.Ytlkhmpfdajefiaa.ref8
set_option linter.unusedVariables false

theorem turns_any_row (A : Option Addr) (n c : Nat) (os : List OpM) (a b : TrL) (x y : Bool) (w : World) (R : RdOpM w w.heap.size A n os) (C : n ≤ c) (M : c ≤ maxLen) : Calls Try.prog 9 #[.slice A n c, .agg #[.int .i64 a.node, .int .i64 a.life, .int .i64 a.seq, .int .i64 a.att], .agg #[.int .i64 b.node, .int .i64 b.life, .int .i64 b.seq, .int .i64 b.att], .bool x, .bool y] w fun e w' => e = .returned (.bool true) ∧ Below w.heap.size w w' :=
  turns_any A n c os a b x y w w.heap.size R (Nat.le_refl _) (by unfold maxLen at M; omega)
end Go.Proofs.Ytlkhmpfdajefiaa.law8
