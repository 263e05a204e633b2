/- The landed core: Step of messages that are ignored, or of a term gone by. Conditions: those that the theorems name. -/
import Derived.BigQuiet
import Derived.Deep.RegionHeld3
import Derived.Deep.Cut
import Derived.Lib.Hide
import Derived.Deep.CutBlock
import Derived.Test.YtegnfkbmlalkeaaSqKitCl
import Derived.Test.YtegnfkbmlalkeaaSqJ4
import Derived.Test.YtegnfkbmlalkeaaSqConfJ
import Derived.Test.YtegnfkbmlalkeaaSqEntD
import Derived.Test.YtegnfkbmlalkeaaSqKitLg
import Derived.Test.YtegnfkbmlalkeaaSqJ0
import Derived.Test.YtegnfkbmlalkeaaSqEntC
import Derived.Test.YtegnfkbmlalkeaaSqEntJ
import Derived.Test.YtegnfkbmlalkeaaSqJ3
import Derived.Test.YtegnfkbmlalkeaaSqTail
import Derived.Test.YtegnfkbmlalkeaaSqJ2
import Derived.Test.YtegnfkbmlalkeaaSqCorN13
import Derived.Test.YtegnfkbmlalkeaaSqCorM13
namespace Go.Proofs.Ytegnfkbmlalkeaa.cor
open Go Go.RowKit Go.Proofs.Ytegnfkbmlalkeaa.kit Go.Proofs.Ytegnfkbmlalkeaa.nums Go.Proofs.Ytegnfkbmlalkeaa.cf Go.Proofs.Ytegnfkbmlalkeaa.lg Go.Proofs.Ytegnfkbmlalkeaa.cr Go.Proofs.Ytegnfkbmlalkeaa.se
set_option linter.unusedVariables false
theorem deaf_not {c : CoL} {m : MsL} (h : deafB c m = false) : (1 ≤ m.f ∧ m.f ≤ 9) ∧ (1 ≤ m.m ∧ m.m ≤ 1099511627776) ∧ (m.k = 1 ∨ m.k = 2 ∨ m.k = 3 ∨ m.k = 4 ∨ m.k = 5 ∨ m.k = 6) := by
 rw [deaf_form] at h
 simp only [Bool.or_eq_false_iff, Bool.not_eq_false', wiB, nodeB, Bool.and_eq_true, decide_eq_true_eq, decide_eq_false_iff_not] at h
 obtain ⟨_, _, h1, h2, h3, h4, _⟩ := h
 exact ⟨h1, h2, by omega⟩
theorem bou_in (v : Int) : 0 ≤ bouF v ∧ bouF v ≤ 1099511627776 := by unfold bouF; omega
def goF (d : CoL) (m : MsL) : CoL × List MsL := if m.k = 1 then askF d m else if m.k = 2 then voteF d m else if m.k = 4 then ackF d m else if d.ro = 2 then (d, []) else toldF d m
theorem step_eq {c : CoL} {m : MsL} (h : deafB c m = false) (hm : m.m = c.tm) : stepF c m = goF c (bouM m) := by
 unfold stepF; rw [if_neg (by rw [h]; decide)]
 dsimp only
 rw [if_neg (by omega)]
 have e : termC c m = c := by unfold termC; rw [if_neg (by omega)]
 rw [e]; rfl
theorem go2 {d : CoL} {m : MsL} (h : m.k = 2) : goF d m = voteF d m := by unfold goF; rw [if_neg (by omega), if_pos h]
end Go.Proofs.Ytegnfkbmlalkeaa.cor
