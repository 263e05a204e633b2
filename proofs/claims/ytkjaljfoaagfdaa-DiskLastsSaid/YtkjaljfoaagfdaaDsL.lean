/- Plain numbers for a disk: what was synced lasts. It speaks of no program. -/
import Derived.Test.YtkjaljfoaagfdaaDsG
namespace Go.Proofs.Ytkjaljfoaagfdaa.ds.DS
open Go.Proofs.Ytkjaljfoaagfdaa.nums Go.Proofs.Ytkjaljfoaagfdaa.ds
set_option linter.unusedVariables false

/-- The bytes b stand at the beginning of file f, and last. -/
def Holds (S : DS) (f : Int) (b : List Int) : Prop := b.length ≤ S.lasts f ∧ (S.file f).take b.length = b
theorem take_app {l m b : List Int} (h : l.take b.length = b) : (l ++ m).take b.length = b := by
  have hl : b.length ≤ l.length := by
    have := congrArg List.length h
    rw [List.length_take] at this
    omega
  rw [List.take_append_of_le_length hl]; exact h
section
variable {S : DS} {f g : Int} {b : List Int}
theorem Holds.step (h : Holds S f b) : Holds S.step f b := by
  have e : S.step.lasts f = S.lasts f := by
    unfold DS.lasts DS.step
    split <;> split <;> rfl
  unfold Holds at *
  rw [e, step_file]
  exact h
theorem Holds.setFile (h : Holds S f b) (l : List Int) : Holds (S.setFile g (S.file g ++ l)) f b := by
  unfold Holds DS.lasts DS.file DS.setFile at *
  by_cases hf : f = 0 <;> by_cases hg : g = 0 <;> simp only [hf, hg, if_true, if_false] at * <;> first | exact h | exact ⟨h.1, take_app h.2⟩
theorem Holds.app (h : Holds S f b) (l : List Int) : Holds (S.appS g l) f b := by
  unfold DS.appS
  split
  · exact h
  split
  · exact h
  split
  · exact h.step
  · have := (h.step).setFile (g := g) l
    rwa [step_file] at this
theorem Holds.sync (h : Holds S f b) (hs : S.Good) : Holds (S.syncS g) f b := by
  unfold DS.syncS
  split
  · exact h
  split
  · exact h.step
  · have h2 := h.step
    have e := step_file S g
    have hl : b.length ≤ (S.step.file f).length := by
      have := congrArg List.length h2.2
      rw [List.length_take] at this
      omega
    unfold Holds DS.lasts DS.setLasts at *
    unfold DS.file at *
    by_cases hf : f = 0 <;> by_cases hg : g = 0 <;> simp only [hf, hg, if_true, if_false] at *
    · exact ⟨by show b.length ≤ S.a.length; rw [← e]; exact hl, h2.2⟩
    · exact h2
    · exact h2
    · exact ⟨by show b.length ≤ S.b.length; rw [← e]; exact hl, h2.2⟩
theorem Holds.clear (h : Holds S f b) (hf : f = 0 ∨ f = 1) (hg : g ≠ f) : Holds (S.clearS g) f b := by
  unfold DS.clearS
  split
  · exact h
  rename_i hm
  have hg2 : g = 0 ∨ g = 1 := by
    unfold DS.may at hm
    split at hm
    · omega
    · split at hm
      · assumption
      · omega
  split
  · exact h.step
  · have h2 := h.step
    unfold Holds DS.lasts DS.setLasts DS.setFile at *
    unfold DS.file at *
    rcases hf with rfl | rfl <;> rcases hg2 with rfl | rfl
    · exact absurd rfl hg
    · exact h2
    · exact h2
    · exact absurd rfl hg
theorem Holds.arm (h : Holds S f b) (n : Int) : Holds (S.armS n) f b := h
theorem Holds.pow (h : Holds S f b) (keep : List Int) : Holds (S.powS keep) f b := by
  unfold Holds DS.lasts at *
  unfold DS.file at *
  by_cases hf : f = 0 <;> simp only [hf, if_true, if_false] at *
  · obtain ⟨h1, h2⟩ := h
    refine ⟨Nat.le_trans h1 (Nat.le_add_right _ _), ?_⟩
    show ((S.a.take (S.la + min (keepN keep 0) (S.a.length - S.la)))).take b.length = b
    rw [List.take_take, Nat.min_eq_left (by omega)]; exact h2
  · obtain ⟨h1, h2⟩ := h
    refine ⟨Nat.le_trans h1 (Nat.le_add_right _ _), ?_⟩
    show ((S.b.take (S.lb + min (keepN keep 1) (S.b.length - S.lb)))).take b.length = b
    rw [List.take_take, Nat.min_eq_left (by omega)]; exact h2
end
/-- What was appended to a new disk and synced stands there and lasts. -/
theorem Holds.first {f : Int} (hf : f = 0 ∨ f = 1) {b : List Int} (hb : b.length ≤ 1000) :
    DS.fresh.appE f b = 0 ∧ (DS.fresh.appS f b).syncE f = 0 ∧ Holds ((DS.fresh.appS f b).syncS f) f b := by
  have hm : DS.fresh.may f = 0 := by unfold DS.may; rw [if_neg (by decide), if_pos hf]
  have hfull : ¬ DS.fresh.full f b.length := by
    unfold DS.full DS.file
    rcases hf with rfl | rfl <;> show ¬ (4194304 - ((0 : Nat) : Int) < b.length) <;> omega
  have e1 : DS.fresh.appE f b = 0 := by unfold DS.appE; rw [if_neg (by rw [hm]; decide), if_neg hfull]; rfl
  have e2 : DS.fresh.appS f b = DS.fresh.step.setFile f (DS.fresh.file f ++ b) := by unfold DS.appS; rw [if_neg (by rw [hm]; decide), if_neg hfull, if_neg (by decide)]
  have hfile : DS.fresh.file f = [] := by unfold DS.file; split <;> rfl
  rw [hfile, List.nil_append] at e2
  have hm2 : (DS.fresh.appS f b).may f = 0 := by
    rw [e2]; unfold DS.may DS.setFile; rcases hf with rfl | rfl <;> rfl
  have ha2 : ¬ (DS.fresh.appS f b).arms = 0 := by
    rw [e2]; rcases hf with rfl | rfl <;> (show ¬ (-1 : Int) = 0) <;> decide
  refine ⟨e1, ?_, ?_⟩
  · unfold DS.syncE; rw [if_neg (by rw [hm2]; decide)]; unfold DS.stepE; rw [if_neg ha2]
  · unfold DS.syncS; rw [if_neg (by rw [hm2]; decide), if_neg ha2, e2]
    rcases hf with rfl | rfl
    · exact ⟨Nat.le_refl _, List.take_length⟩
    · exact ⟨Nat.le_refl _, List.take_length⟩
end Go.Proofs.Ytkjaljfoaagfdaa.ds.DS
