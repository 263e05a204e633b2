/- MvccPast in the words of its frame. Conditions: what the arguments read as. -/
import Derived.Test.YtlkhmpfdajefiaaPast8
namespace Go.Proofs.Ytlkhmpfdajefiaa.law8
open Go Go.RowKit Go.Proofs.Ytlkhmpfdajefiaa.kit Go.Proofs.Ytlkhmpfdajefiaa.nums Go.Proofs.Ytlkhmpfdajefiaa.st Go.Proofs.Ytlkhmpfdajefiaa.mv Go.Proofs.Ytlkhmpfdajefiaa.ref8
set_option linter.unusedVariables false

theorem past_any_row (A : Option Addr) (n c : Nat) (os : List OpM) (ky : ByteArray) (dr : Bool) (da : ByteArray) (l : LockL) (yes : Bool) (t : StL) (w : World) (R : RdOpM w w.heap.size A n os) (C : n ≤ c) (M : c ≤ maxLen) : Calls Try.prog 6 #[.slice A n c, .agg #[.string ky, .bool dr, .string da], .agg #[.int .i64 l.by_.node, .int .i64 l.by_.life, .int .i64 l.by_.seq, .int .i64 l.by_.att, .int .i64 l.home, .int .i64 l.at_.wall, .int .i64 l.at_.tie, .bool l.drop, .string l.data], .bool yes, .agg #[.int .i64 t.wall, .int .i64 t.tie]] w fun e w' => e = .returned (.bool true) ∧ Below w.heap.size w w' :=
  past_any A n c os ky dr da l yes t w w.heap.size R (Nat.le_refl _) (by unfold maxLen at M; omega)
end Go.Proofs.Ytlkhmpfdajefiaa.law8
