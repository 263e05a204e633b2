/- What ZoneRight asks, of plain values: how many nodes of each region each set has, and whether some loss breaks what was allotted. It speaks of no program. -/
import Derived.Test.YtfcljdpjjabhjaaDoorZnQ
namespace Go.Proofs.YtfcljdpjjabhjaaDoor.zn
open Go.RowKit Go.Proofs.YtfcljdpjjabhjaaDoor.nums Go.Proofs.YtfcljdpjjabhjaaDoor.se Go.Proofs.YtfcljdpjjabhjaaDoor.cf
set_option linter.unusedVariables false

theorem right_count {rs ld : List Int} {z : ZnL} {s : StL} (hR : mayR rs = true) (hZ : mayZ z = true) (h : runF rs ld (picksF z) = some s) {i r : Nat} (hi : i < 3) (hr : r < 4) :
    ((cntTo (s.sel i &&& regF rs (r : Int)) rs.length : Nat) : Int) = (z.lst i).getD r 0 := by
  have h9 := (mayR_len hR).2.1
  have h1 := (run_count h9 _ _ h).2 i r hi (pre_kind z 4)
  rw [cnt_all h9 9 h9 (Nat.le_refl _)] at h1
  have h2 := pre_count z r i hi 4
  rw [if_pos hr] at h2
  rw [h1]
  unfold picksF
  rw [h2]
  exact (cnt_cast hZ i r).1.symm
theorem any_step {α : Type} (f : Nat → Bool) (k : Nat) : (List.range (k + 1)).any f = ((List.range k).any f || f k) := by
  rw [List.range_succ, List.any_append]
  simp
/-- Whether one of the first k losses breaks it. -/
def brkTo (rs : List Int) (d : CfL) (sv : Int) (k : Nat) : Bool := (List.range k).any fun k => brkF d (leftTo rs sv (k : Int) rs.length)
theorem brkTo_succ (rs : List Int) (d : CfL) (sv : Int) (k : Nat) : brkTo rs d sv (k + 1) = (brkTo rs d sv k || brkF d (leftTo rs sv (k : Int) rs.length)) := any_step (α := Unit) _ k
/-- Who is taken is one of those that there are. -/
theorem run_among {rs ld : List Int} (h9 : rs.length ≤ 9) (xs : List (Nat × Nat)) (s : StL) (h : runF rs ld xs = some s) : ∀ i, s.u.testBit i = true → i ≤ rs.length := by
  refine run_ind (P := fun _ s => ∀ i, s.u.testBit i = true → i ≤ rs.length) ?_ (fun xs x s s' _ ih h3 => ?_) xs s h
  · intro i h; simp [zeroS] at h
  · obtain ⟨n, rfl, hn, n1, n9, nr, nu⟩ := step_some h9 h3
    intro i hi
    rw [put_u, with_bit n1 n9, Bool.or_eq_true, decide_eq_true_eq] at hi
    rcases hi with hi | rfl
    · exact ih i hi
    · rw [reg_bit h9, decide_eq_true_eq] at nr
      exact nr.2.1
theorem right_breaks {rs ld : List Int} {z : ZnL} {s : StL} (hR : mayR rs = true) (hZ : mayZ z = true) (h : runF rs ld (picksF z) = some s) (hm : mayC (confOf z s) = true) :
    brkTo rs (confOf z s) z.s 10 = !(survF rs (confOf z s) z.s).1 := by
  obtain ⟨_, h9, hW⟩ := mayR_len hR
  have hs : mayS z.s = true := by
    unfold mayZ at hZ
    simp only [Bool.and_eq_true] at hZ
    exact hZ.2
  rw [← breaks_all hR hs hm]
  unfold brkTo
  congr 1
  funext k
  apply brk_gone (may_parts hm).1
  intro i hi
  have hU := (run_count h9 _ _ h).1
  have hmay := run_may h9 _ _ h
  have hv : mayF (votF (confOf z s)) = true := by
    show mayF (s.v ||| s.w) = true
    rw [may_or, hmay.1, hmay.2.1]; rfl
  obtain ⟨i1, i9⟩ := may_bits.1 hv i hi
  have hin : i ≤ rs.length := by
    have hu : s.u.testBit i = true := by
      rw [hU, Nat.testBit_or]
      have : (s.v ||| s.w).testBit i = true := hi
      rw [this]; rfl
    exact run_among h9 _ _ h i hu
  exact left_gone h9 hW hs k i i1 hin
end Go.Proofs.YtfcljdpjjabhjaaDoor.zn
