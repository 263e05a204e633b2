/- MvccAny in the words of its frame. Conditions: what the arguments read as. -/
import Derived.Test.YtlkhmpfdajefiaaAny8
namespace Go.Proofs.Ytlkhmpfdajefiaa.law8
open Go Go.RowKit Go.Proofs.Ytlkhmpfdajefiaa.kit Go.Proofs.Ytlkhmpfdajefiaa.nums Go.Proofs.Ytlkhmpfdajefiaa.st Go.Proofs.Ytlkhmpfdajefiaa.mv Go.Proofs.Ytlkhmpfdajefiaa.ref8
set_option linter.unusedVariables false

theorem any_any_row (A : Option Addr) (n c : Nat) (cs : List CellL) (kk : ByteArray) (ta : StL) (lo hi : ByteArray) (b : TrL) (m : Int) (x : OpM) (w : World) (R : RdC w w.heap.size A n cs) (C : n ≤ c) (M : c ≤ maxLen) {pkk : Prop} (hkk : pkk) {pm : Prop} (hm : pm) : Calls Try.prog 4 #[.slice A n c, .string kk, .agg #[.int .i64 ta.wall, .int .i64 ta.tie], .agg #[.string lo, .string hi], .agg #[.int .i64 b.node, .int .i64 b.life, .int .i64 b.seq, .int .i64 b.att], .int .i64 m, .agg #[.int .i64 x.kind, .string x.key, .bool x.drop, .string x.data, .int .i64 x.lk.by_.node, .int .i64 x.lk.by_.life, .int .i64 x.lk.by_.seq, .int .i64 x.lk.by_.att, .int .i64 x.lk.home, .int .i64 x.lk.at_.wall, .int .i64 x.lk.at_.tie, .bool x.lk.drop, .string x.lk.data, .bool x.yes]] w fun e w' => e = .returned (.bool true) ∧ Below w.heap.size w w' :=
  any_any A n c cs kk ta lo hi b m x w w.heap.size R (Nat.le_refl _) C (by unfold maxLen at M; omega)
end Go.Proofs.Ytlkhmpfdajefiaa.law8
