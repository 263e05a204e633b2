/- MvccApart in the words of its frame. Conditions: what the arguments read as. -/
import Derived.Test.YtlkhmpfdajefiaaApart8
namespace Go.Proofs.Ytlkhmpfdajefiaa.law8
open Go Go.RowKit Go.Proofs.Ytlkhmpfdajefiaa.kit Go.Proofs.Ytlkhmpfdajefiaa.nums Go.Proofs.Ytlkhmpfdajefiaa.st Go.Proofs.Ytlkhmpfdajefiaa.mv Go.Proofs.Ytlkhmpfdajefiaa.ref8
set_option linter.unusedVariables false

theorem apart_any_row (A : Option Addr) (n c : Nat) (os : List OpM) (ky : ByteArray) (dr : Bool) (da : ByteArray) (l : LockL) (yes : Bool) (kk : ByteArray) (t : StL) (w : World) (R : RdOpM w w.heap.size A n os) (C : n ≤ c) (M : c ≤ maxLen) {pkk : Prop} (hkk : pkk) : Calls Try.prog 7 #[.slice A n c, .agg #[.string ky, .bool dr, .string da], .agg #[.int .i64 l.by_.node, .int .i64 l.by_.life, .int .i64 l.by_.seq, .int .i64 l.by_.att, .int .i64 l.home, .int .i64 l.at_.wall, .int .i64 l.at_.tie, .bool l.drop, .string l.data], .bool yes, .string kk, .agg #[.int .i64 t.wall, .int .i64 t.tie]] w fun e w' => e = .returned (.bool true) ∧ Below w.heap.size w w' :=
  apart_any A n c os ky dr da l yes kk t w w.heap.size R (Nat.le_refl _) (by unfold maxLen at M; omega)
end Go.Proofs.Ytlkhmpfdajefiaa.law8
