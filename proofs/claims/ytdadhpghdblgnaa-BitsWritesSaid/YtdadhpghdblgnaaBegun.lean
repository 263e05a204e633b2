/- The statements' own first test, begun, answers true, and writes nothing that was there. No condition. -/
import Derived.Test.YtdadhpghdblgnaaProg
import Derived.Test.YtdadhpghdblgnaaPut
import Derived.Test.YtdadhpghdblgnaaGet
import Derived.Test.YtdadhpghdblgnaaInts
import Derived.Outline
namespace Go.Proofs.Ytdadhpghdblgnaa.bytes
open Go.RowKit Go.Proofs.Ytdadhpghdblgnaa.kit Go.Proofs.Ytdadhpghdblgnaa.nums
set_option linter.unusedVariables false

theorem beB_258 : beB 258 2 = [1, 2] := by decide
theorem rd9 (w : World) : Rd (w.alloc (.cells #[.int .u8 9] 5)) (w.heap.size + 1) (some ⟨w.heap.size, 0, none⟩) 1 [9] := Rd.one w 5 9

set_option maxHeartbeats 400000 in
theorem begun_any (w : World) :
    Calls Try.prog 10 #[] w fun e w' => e = .returned (.bool true) ∧ Below w.heap.size w w' := by
  go_enter Try.func10, Try.ntmps10
  go_wp2_with fail
  refine (put_ok _ 1 1 [9] 258 2 _ (by simpa using rd9 w) (by omega) (by omega) (by omega) (by omega) (by omega) (by decide)).mono ?_
  rintro e w1 ⟨A, c, rfl, _, hO, hB⟩
  rw [beB_258] at hO
  obtain ⟨A', c', hv, hc1, hc2, hR⟩ := hO.slice
  simp only [List.length_append, List.length_cons, List.length_nil, Value.slice.injEq] at hv
  obtain ⟨rfl, -, rfl⟩ := hv
  have hg := get_ok A 3 c [9, 1, 2] 1 2 w1 w1.heap.size (by simpa using hR) (by intro x hx; simp at hx; omega) (by omega) (by simpa using hc1) (by omega) (by omega) (by omega)
  have hcv := run_string_rd (P := Try.prog) w1 22 5 9 Try.underlying22 Try.underlying5 Try.underlying9 w1.heap.size A 3 c [9, 1, 2] (by simpa using hR)
  rw [show strOfNums [9, 1, 2] = ⟨#[9, 1, 2]⟩ by decide] at hcv
  have HG := Lib.hid hg
  clear hg hR hO
  go_wp2_with fail
  refine HG.out.mono ?_
  rintro e w2 ⟨rfl, rfl⟩
  rw [show beV (List.take 2 (List.drop 1 [9, 1, 2])) = 258 by decide]
  go_wp2_with fail
  refine (ints.zig_any (-1) _ (by omega) (by omega)).mono ?_
  rintro e w3 ⟨rfl, rfl⟩
  rw [show zigF (-1) = 1 by decide]
  go_wp2_with fail
  refine (ints.order_any 0 _ (by omega) (by omega)).mono ?_
  rintro e w4 ⟨rfl, rfl⟩
  go_wp2_with fail
  go_ret
  exact ⟨rfl, ((Below.refl _ _).alloc (Nat.le_refl _) _).trans (hB.mono (by simp))⟩
end Go.Proofs.Ytdadhpghdblgnaa.bytes
