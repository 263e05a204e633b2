/- Plain numbers for a disk: each operation leaves a good one. It speaks of no program. -/
import Derived.Test.YtkjaljfoaagfdaaDs
namespace Go.Proofs.Ytkjaljfoaagfdaa.ds.DS
open Go.Proofs.Ytkjaljfoaagfdaa.nums Go.Proofs.Ytkjaljfoaagfdaa.ds
set_option linter.unusedVariables false

theorem Good.fresh : DS.fresh.Good := ⟨Byt.nil, Byt.nil, Nat.le_refl _, Nat.le_refl _, by decide, by decide, by decide, by decide, by decide, by decide⟩
/-- At most one step and one power more. -/
def Near (S S' : DS) : Prop := S'.stepped ≤ S.stepped + 1 ∧ S'.powers ≤ S.powers + 1
theorem Near.refl (S : DS) : Near S S := ⟨Nat.le_succ _, Nat.le_succ _⟩
section
variable {S : DS} {f : Int}
theorem Good.step (h : S.Good) (hs : S.stepped ≤ 1000000) : S.step.Good := by
  have h1 := h.a0
  have h2 := h.a1
  unfold DS.step
  split
  · exact ⟨h.ya, h.yb, h.la, h.lb, h.na, h.nb, h.a0, h.a1, h.p1, h.s1⟩
  · refine ⟨h.ya, h.yb, h.la, h.lb, h.na, h.nb, ?_, ?_, h.p1, ?_⟩
    · show -1 ≤ (if 0 < S.arms then S.arms - 1 else S.arms); split <;> omega
    · show (if 0 < S.arms then S.arms - 1 else S.arms) ≤ 9223372036854775807; split <;> omega
    · show S.stepped + 1 ≤ 1000000000; omega
theorem Near.step (S : DS) : Near S S.step := by
  unfold DS.step
  split
  · exact ⟨Nat.le_succ _, Nat.le_succ _⟩
  · exact ⟨Nat.le_refl _, Nat.le_succ _⟩
theorem step_file (S : DS) (f : Int) : S.step.file f = S.file f := by
  unfold DS.file DS.step
  split <;> split <;> rfl
theorem Good.app (h : S.Good) (hs : S.stepped ≤ 1000000) {l : List Int} (hY : Byt l) : (S.appS f l).Good := by
  have hst := h.step hs
  unfold DS.appS
  split
  · exact h
  split
  · exact h
  rename_i hf
  split
  · exact hst
  · have e := step_file S f
    unfold DS.full at hf
    unfold DS.setFile
    unfold DS.file at *
    by_cases h0 : f = 0
    · simp only [h0, if_true] at *
      have := h.la; have := hst.la; rw [e] at this
      exact ⟨h.ya.append hY, hst.yb, by show S.step.la ≤ (S.a ++ l).length; rw [List.length_append]; omega, hst.lb, by show (S.a ++ l).length ≤ 4194304; rw [List.length_append]; omega, hst.nb, hst.a0, hst.a1, hst.p1, hst.s1⟩
    · simp only [h0, if_false] at *
      have := h.lb; have := hst.lb; rw [e] at this
      exact ⟨hst.ya, h.yb.append hY, hst.la, by show S.step.lb ≤ (S.b ++ l).length; rw [List.length_append]; omega, hst.na, by show (S.b ++ l).length ≤ 4194304; rw [List.length_append]; omega, hst.a0, hst.a1, hst.p1, hst.s1⟩
theorem Near.app (S : DS) (f : Int) (l : List Int) : Near S (S.appS f l) := by
  unfold DS.appS
  split
  · exact Near.refl S
  split
  · exact Near.refl S
  split
  · exact Near.step S
  · have := Near.step S
    unfold DS.setFile; split <;> exact this
theorem Good.sync (h : S.Good) (hs : S.stepped ≤ 1000000) : (S.syncS f).Good := by
  have hst := h.step hs
  unfold DS.syncS
  split
  · exact h
  split
  · exact hst
  · have e := step_file S f
    unfold DS.setLasts
    unfold DS.file at *
    by_cases h0 : f = 0
    · simp only [h0, if_true] at *
      exact ⟨hst.ya, hst.yb, by show S.a.length ≤ S.step.a.length; rw [e]; exact Nat.le_refl _, hst.lb, hst.na, hst.nb, hst.a0, hst.a1, hst.p1, hst.s1⟩
    · simp only [h0, if_false] at *
      exact ⟨hst.ya, hst.yb, hst.la, by show S.b.length ≤ S.step.b.length; rw [e]; exact Nat.le_refl _, hst.na, hst.nb, hst.a0, hst.a1, hst.p1, hst.s1⟩
theorem Near.sync (S : DS) (f : Int) : Near S (S.syncS f) := by
  unfold DS.syncS
  split
  · exact Near.refl S
  split
  · exact Near.step S
  · have := Near.step S
    unfold DS.setLasts; split <;> exact this
theorem Good.clear (h : S.Good) (hs : S.stepped ≤ 1000000) : (S.clearS f).Good := by
  have hst := h.step hs
  unfold DS.clearS
  split
  · exact h
  split
  · exact hst
  · unfold DS.setLasts DS.setFile
    by_cases h0 : f = 0
    · simp only [h0, if_true]
      exact ⟨Byt.nil, hst.yb, Nat.le_refl _, hst.lb, Nat.zero_le _, hst.nb, hst.a0, hst.a1, hst.p1, hst.s1⟩
    · simp only [h0, if_false]
      exact ⟨hst.ya, Byt.nil, hst.la, Nat.le_refl _, hst.na, Nat.zero_le _, hst.a0, hst.a1, hst.p1, hst.s1⟩
theorem Near.clear (S : DS) (f : Int) : Near S (S.clearS f) := by
  unfold DS.clearS
  split
  · exact Near.refl S
  split
  · exact Near.step S
  · have := Near.step S
    unfold DS.setLasts DS.setFile; split <;> exact this
theorem Good.arm (h : S.Good) {n : Int} (hn : -9223372036854775808 ≤ n ∧ n ≤ 9223372036854775807) : (S.armS n).Good :=
  ⟨h.ya, h.yb, h.la, h.lb, h.na, h.nb, by show -1 ≤ max n (-1); omega, by show max n (-1) ≤ 9223372036854775807; omega, h.p1, h.s1⟩
theorem Good.pow (h : S.Good) (hp : S.powers ≤ 1000000) (keep : List Int) : (S.powS keep).Good := by
  have h1 := h.la
  have h2 := h.lb
  have h3 := h.na
  have h4 := h.nb
  refine ⟨h.ya.take _, h.yb.take _, ?_, ?_, ?_, ?_, by show (-1 : Int) ≤ -1; decide, by show (-1 : Int) ≤ _; decide, by show S.powers + 1 ≤ 1000000000; omega, h.s1⟩
  · show S.la + min (keepN keep 0) (S.a.length - S.la) ≤ (S.a.take (S.la + min (keepN keep 0) (S.a.length - S.la))).length
    rw [List.length_take]; omega
  · show S.lb + min (keepN keep 1) (S.b.length - S.lb) ≤ (S.b.take (S.lb + min (keepN keep 1) (S.b.length - S.lb))).length
    rw [List.length_take]; omega
  · show (S.a.take _).length ≤ 4194304
    rw [List.length_take]; omega
  · show (S.b.take _).length ≤ 4194304
    rw [List.length_take]; omega
theorem Near.pow (S : DS) (keep : List Int) : Near S (S.powS keep) := ⟨Nat.le_succ _, Nat.le_refl _⟩
end
end Go.Proofs.Ytkjaljfoaagfdaa.ds.DS
