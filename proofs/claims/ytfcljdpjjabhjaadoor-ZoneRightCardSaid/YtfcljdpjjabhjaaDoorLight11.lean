/- Which arguments of layer 11's statements are light. No condition. -/
import Derived.Test.YtfcljdpjjabhjaaDoorKitZn
import Derived.Outline
import Derived.Handy
import Derived.Deep.RegionHeld3
import Derived.Deep.Cut
namespace Go.Proofs.YtfcljdpjjabhjaaDoor.law11
open Go Go.RowKit Go.Proofs.YtfcljdpjjabhjaaDoor.kit Go.Proofs.YtfcljdpjjabhjaaDoor.nums Go.Proofs.YtfcljdpjjabhjaaDoor.zn Go.Proofs.YtfcljdpjjabhjaaDoor.ref9
set_option linter.unusedVariables false

def lightB (n : Nat) (a : ZnA) (m : Nat) : Bool := decide (n ≤ 30) && decide (a.n1 ≤ 30) && decide (a.n2 ≤ 30) && decide (a.n3 ≤ 30) && decide (m ≤ 30)
theorem light_any (A : Option Addr) (n c : Nat) (a : ZnA) (z : ZnL) (A2 : Option Addr) (m c2 : Nat) (w : World) : Calls Tryd.prog 8 #[.slice A n c, znV a z, .slice A2 m c2] w fun e w' => e = .returned (.bool (lightB n a m)) ∧ Below w.heap.size w w' := by
  unfold znV lightB
  obtain ⟨z1, n1, c1, z2, n2, c9, z3, n3, c3⟩ := a
  obtain ⟨zv, zw, zl, ze, zk, zs⟩ := z
  dsimp only
  have k0 : Blk 24 (w.alloc (.cells #[.slice z1 n1 c1, .slice z2 n2 c9, .slice z3 n3 c3, .int .i64 ze, .int .i64 zk, .int .i64 zs] 24)) w.heap.size [.slice z1 n1 c1, .slice z2 n2 c9, .slice z3 n3 c3, .int .i64 ze, .int .i64 zk, .int .i64 zs] := heap_alloc_new w _
  have HB := Lib.hid ((Below.refl w.heap.size w).alloc (Nat.le_refl _) (.cells #[.slice z1 n1 c1, .slice z2 n2 c9, .slice z3 n3 c3, .int .i64 ze, .int .i64 zk, .int .i64 zs] 24))
  obtain ⟨x0, x1, x2, x3, x4, x5⟩ := blk6 k0
  clear k0
  by_cases g0 : n ≤ 30
  · by_cases g1 : n1 ≤ 30
    · by_cases g2 : n2 ≤ 30
      · by_cases g3 : n3 ≤ 30
        · by_cases g4 : m ≤ 30
          · go_enter Tryd.func8, Tryd.ntmps8
            go_upto_region 1 with (fail)
            generalize (w.alloc (.cells #[.slice z1 n1 c1, .slice z2 n2 c9, .slice z3 n3 c3, .int .i64 ze, .int .i64 zk, .int .i64 zs] 24)) = w1 at *
            go_wp2_with fail
            go_ret
            exact ⟨ret_bool (by first | rfl | (rw [decide_eq_true g0, decide_eq_true g1, decide_eq_true g2, decide_eq_true g3, decide_eq_true g4] <;> first | rfl | (simp; done) | (simp; omega))), HB.out⟩
          · go_enter Tryd.func8, Tryd.ntmps8
            go_upto_region 1 with (fail)
            generalize (w.alloc (.cells #[.slice z1 n1 c1, .slice z2 n2 c9, .slice z3 n3 c3, .int .i64 ze, .int .i64 zk, .int .i64 zs] 24)) = w1 at *
            go_wp2_with fail
            go_ret
            exact ⟨ret_bool (by first | rfl | (rw [decide_eq_true g0, decide_eq_true g1, decide_eq_true g2, decide_eq_true g3, decide_eq_false (show ¬ m ≤ 30 by omega)] <;> first | rfl | (simp; done) | (simp; omega))), HB.out⟩
        · go_enter Tryd.func8, Tryd.ntmps8
          go_upto_region 1 with (fail)
          generalize (w.alloc (.cells #[.slice z1 n1 c1, .slice z2 n2 c9, .slice z3 n3 c3, .int .i64 ze, .int .i64 zk, .int .i64 zs] 24)) = w1 at *
          go_wp2_with fail
          go_ret
          exact ⟨ret_bool (by first | rfl | (rw [decide_eq_true g0, decide_eq_true g1, decide_eq_true g2, decide_eq_false (show ¬ n3 ≤ 30 by omega)] <;> first | rfl | (simp; done) | (simp; omega))), HB.out⟩
      · go_enter Tryd.func8, Tryd.ntmps8
        go_upto_region 1 with (fail)
        generalize (w.alloc (.cells #[.slice z1 n1 c1, .slice z2 n2 c9, .slice z3 n3 c3, .int .i64 ze, .int .i64 zk, .int .i64 zs] 24)) = w1 at *
        go_wp2_with fail
        go_ret
        exact ⟨ret_bool (by first | rfl | (rw [decide_eq_true g0, decide_eq_true g1, decide_eq_false (show ¬ n2 ≤ 30 by omega)] <;> first | rfl | (simp; done) | (simp; omega))), HB.out⟩
    · go_enter Tryd.func8, Tryd.ntmps8
      go_upto_region 1 with (fail)
      generalize (w.alloc (.cells #[.slice z1 n1 c1, .slice z2 n2 c9, .slice z3 n3 c3, .int .i64 ze, .int .i64 zk, .int .i64 zs] 24)) = w1 at *
      go_wp2_with fail
      go_ret
      exact ⟨ret_bool (by first | rfl | (rw [decide_eq_true g0, decide_eq_false (show ¬ n1 ≤ 30 by omega)] <;> first | rfl | (simp; done) | (simp; omega))), HB.out⟩
  · go_enter Tryd.func8, Tryd.ntmps8
    go_upto_region 1 with (fail)
    generalize (w.alloc (.cells #[.slice z1 n1 c1, .slice z2 n2 c9, .slice z3 n3 c3, .int .i64 ze, .int .i64 zk, .int .i64 zs] 24)) = w1 at *
    go_wp2_with fail
    go_ret
    exact ⟨ret_bool (by first | rfl | (rw [decide_eq_false (show ¬ n ≤ 30 by omega)] <;> first | rfl | (simp; done) | (simp; omega))), HB.out⟩
theorem light_lens {n m : Nat} {a : ZnA} (h : lightB n a m = true) : n ≤ 30 ∧ a.n1 ≤ 30 ∧ a.n2 ≤ 30 ∧ a.n3 ≤ 30 ∧ m ≤ 30 := by
  unfold lightB at h
  simp only [Bool.and_eq_true, decide_eq_true_eq] at h
  omega
end Go.Proofs.YtfcljdpjjabhjaaDoor.law11
