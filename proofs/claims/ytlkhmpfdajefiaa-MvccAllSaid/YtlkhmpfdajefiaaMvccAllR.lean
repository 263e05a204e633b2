/- MvccAll in the words of its frame. Conditions: what the arguments read as. -/
import Derived.Test.YtlkhmpfdajefiaaAll8
namespace Go.Proofs.Ytlkhmpfdajefiaa.law8
open Go Go.RowKit Go.Proofs.Ytlkhmpfdajefiaa.kit Go.Proofs.Ytlkhmpfdajefiaa.nums Go.Proofs.Ytlkhmpfdajefiaa.st Go.Proofs.Ytlkhmpfdajefiaa.mv Go.Proofs.Ytlkhmpfdajefiaa.ref8
set_option linter.unusedVariables false

theorem all_any_row (A : Option Addr) (n c : Nat) (os : List OpM) (kk : ByteArray) (ta : StL) (lo hi : ByteArray) (b : TrL) (m : Int) (w : World) (R : RdOpM w w.heap.size A n os) (C : n ≤ c) (M : c ≤ maxLen) {pkk : Prop} (hkk : pkk) {pm : Prop} (hm : pm) : Calls Try.prog 3 #[.slice A n c, .string kk, .agg #[.int .i64 ta.wall, .int .i64 ta.tie], .agg #[.string lo, .string hi], .agg #[.int .i64 b.node, .int .i64 b.life, .int .i64 b.seq, .int .i64 b.att], .int .i64 m] w fun e w' => e = .returned (.bool true) ∧ Below w.heap.size w w' :=
  all_any A n c os kk ta lo hi b m w w.heap.size R (Nat.le_refl _) (by unfold maxLen at M; omega)
end Go.Proofs.Ytlkhmpfdajefiaa.law8
