/- The subsets of a set of nodes, rising. It speaks of no program. -/
import Derived.Test.YteadkgjikaikjaaSe
namespace Go.Proofs.Yteadkgjikaikjaa.se
open Go.RowKit Go.Proofs.Yteadkgjikaikjaa.nums
set_option linter.unusedVariables false

/-- The subsets of a set's nodes up to k, rising. -/
def subTo (s : Nat) : Nat → List Nat
  | 0 => [0]
  | k + 1 => if s.testBit (k + 1) then subTo s k ++ (subTo s k).map (· + 2 ^ (k + 1)) else subTo s k
def subL (s : Nat) : List Nat := subTo s 9
theorem subTo_len (s k : Nat) : (subTo s k).length = 2 ^ (listTo s k).length := by
  induction k with
  | zero => simp [subTo, listTo]
  | succ k ih =>
    simp only [subTo, listTo]
    split
    · rw [List.length_append, List.length_map, List.length_append, ih]
      simp only [List.length_cons, List.length_nil, Nat.zero_add, Nat.pow_succ]
      omega
    · exact ih
theorem subL_len (s : Nat) : (subL s).length = 2 ^ (listF s).length := subTo_len s 9
theorem subTo_mem {s k : Nat} : ∀ {x}, x ∈ subTo s k → x < 2 ^ (k + 1) ∧ x % 2 = 0 ∧ x &&& s = x := by
  induction k with
  | zero => intro x h; simp [subTo] at h; subst h; simp
  | succ k ih =>
    intro x h
    simp only [subTo] at h
    have hp : 2 ^ (k + 2) = 2 ^ (k + 1) * 2 := Nat.pow_succ ..
    have hq : 2 ^ (k + 1) = 2 ^ k * 2 := Nat.pow_succ ..
    cases hb : s.testBit (k + 1)
    · rw [hb, if_neg (by decide)] at h
      obtain ⟨h1, h2, h3⟩ := ih h
      exact ⟨by omega, h2, h3⟩
    · rw [hb, if_pos rfl] at h
      rcases List.mem_append.1 h with h | h
      · obtain ⟨h1, h2, h3⟩ := ih h
        exact ⟨by omega, h2, h3⟩
      · obtain ⟨y, hy, rfl⟩ := List.mem_map.1 h
        obtain ⟨h1, h2, h3⟩ := ih hy
        refine ⟨by omega, by omega, ?_⟩
        have hn : y.testBit (k + 1) = false := Nat.testBit_lt_two_pow h1
        rw [add_bit hn]
        apply Nat.eq_of_testBit_eq
        intro i
        rw [Nat.testBit_and, Nat.testBit_or, Nat.testBit_two_pow]
        by_cases he : k + 1 = i
        · subst he; simp [hb]
        · have h4 : (y &&& s).testBit i = y.testBit i := by rw [h3]
          rw [Nat.testBit_and] at h4
          simp [he, h4]
theorem subTo_rise (s k : Nat) : (subTo s k).Pairwise (· < ·) := by
  induction k with
  | zero => simp [subTo]
  | succ k ih =>
    simp only [subTo]
    split
    · rw [List.pairwise_append]
      refine ⟨ih, ?_, ?_⟩
      · rw [List.pairwise_map]
        exact ih.imp (by intro a b h; omega)
      · intro a ha b hb
        obtain ⟨y, hy, rfl⟩ := List.mem_map.1 hb
        have := (subTo_mem ha).1
        omega
    · exact ih
theorem subL_mem {s x : Nat} (h : x ∈ subL s) : x < 1024 ∧ x &&& (s &&& 1022) = x := by
  obtain ⟨h1, h2, h3⟩ := subTo_mem h
  refine ⟨h1, ?_⟩
  rw [← Nat.and_assoc, h3, and_1022]
  have : (2 : Nat) ^ (9 + 1) = 1024 := rfl
  omega
theorem subL_next {s i x y : Nat} (hx : (subL s)[i]? = some x) (hy : (subL s)[i + 1]? = some y) : x < y := by
  obtain ⟨h1, rfl⟩ := List.getElem?_eq_some_iff.1 hx
  obtain ⟨h2, rfl⟩ := List.getElem?_eq_some_iff.1 hy
  exact List.pairwise_iff_getElem.1 (subTo_rise s 9) i (i + 1) h1 h2 (by omega)
theorem subL_ten : subL 10 = [0, 2, 8, 10] := by decide
theorem sub_and (s : Nat) : subL (s &&& 1022) = subL s := by
  have H : ∀ k, k ≤ 9 → subTo (s &&& 1022) k = subTo s k := by
    intro k
    induction k with
    | zero => intro _; rfl
    | succ k ih =>
      intro hk
      have hb : Nat.testBit 1022 (k + 1) = true := by
        have hk : k = 0 ∨ k = 1 ∨ k = 2 ∨ k = 3 ∨ k = 4 ∨ k = 5 ∨ k = 6 ∨ k = 7 ∨ k = 8 := by omega
        rcases hk with rfl | rfl | rfl | rfl | rfl | rfl | rfl | rfl | rfl <;> rfl
      simp only [subTo, ih (by omega), Nat.testBit_and, hb, Bool.and_true]
  exact H 9 (by omega)
end Go.Proofs.Yteadkgjikaikjaa.se
