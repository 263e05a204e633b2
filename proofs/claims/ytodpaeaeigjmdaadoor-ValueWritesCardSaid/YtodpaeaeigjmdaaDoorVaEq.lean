/- '==' of two values. Condition: texts of bytes. -/
import Derived.Test.YtodpaeaeigjmdaaDoorRef7
import Derived.BigQuiet
import Derived.Deep.Cut
import Derived.Deep.RegionHeld3
namespace Go.Proofs.YtodpaeaeigjmdaaDoor.ref7
open Go Go.RowKit Go.Proofs.YtodpaeaeigjmdaaDoor.kit Go.Proofs.YtodpaeaeigjmdaaDoor.nums Go.Proofs.YtodpaeaeigjmdaaDoor.st Go.Proofs.YtodpaeaeigjmdaaDoor.va
set_option linter.unusedVariables false

theorem eq_va (a b : VaL) (ha : a.ok) (hb : b.ok) (w : World) : (binOp BinOp.eql 24 (vaV a) (vaV b)).run Tryd.prog w = .ok (.bool (decide (a = b))) w := by
  obtain ⟨k, n, s⟩ := a
  obtain ⟨k', n', s'⟩ := b
  have he := str_eq s s' ha.2.2 hb.2.2
  have hd : decide ((⟨k, n, s⟩ : VaL) = ⟨k', n', s'⟩) = decide (k = k' ∧ n = n' ∧ s = s') := by simp
  rw [hd]
  clear hd ha hb
  unfold vaV
  dsimp only
  generalize strOfNums s = T at *
  generalize strOfNums s' = T' at *
  by_cases h1 : k = k' <;> by_cases h2 : n = n' <;> by_cases h3 : s = s'
  all_goals
    simp only [h3, decide_true, decide_false] at he
    go_simp
theorem eq_self (k n : Int) (T : ByteArray) (w : World) : (binOp BinOp.eql 24 (.agg #[.int .i64 k, .int .i64 n, .string T]) (.agg #[.int .i64 k, .int .i64 n, .string T])).run Tryd.prog w = .ok (.bool true) w := by
  go_simp
theorem box_cells {w wq : World} {g : Nat} {x y z : Value} (k : Blk 24 w g [x, y, z]) (h : Below w.heap.size w wq) : wq.cell? ⟨g, 0, none⟩ = some x ∧ wq.cell? ⟨g, 1, none⟩ = some y ∧ wq.cell? ⟨g, 2, none⟩ = some z := by
  have j := k.below h k.lt
  exact ⟨j.cell 0, j.cell 1, j.cell 2⟩
end Go.Proofs.YtodpaeaeigjmdaaDoor.ref7
