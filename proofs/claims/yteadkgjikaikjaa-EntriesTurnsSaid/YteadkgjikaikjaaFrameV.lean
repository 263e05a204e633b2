/- How a slice of ints, and a slice of slices of bytes, that comes in reads, in the words of the kit. No condition. -/
import Derived.Test.YteadkgjikaikjaaFrame
import Derived.Test.YteadkgjikaikjaaKitV
namespace Go.Proofs.Yteadkgjikaikjaa.frame
open Go.ChangeShapes Go.WideShapes Go.ChangeAt Go.RowKit Go.Proofs.Yteadkgjikaikjaa.kit Go.Proofs.Yteadkgjikaikjaa.nums

theorem gather {α : Type} {P : Nat → α → Prop} : ∀ n : Nat, (∀ i, i < n → ∃ x, P i x) → ∃ L : List α, L.length = n ∧ ∀ i x, L[i]? = some x → P i x
  | 0, _ => ⟨[], rfl, fun i x h => by simp at h⟩
  | n + 1, h => by
    obtain ⟨L, hl, hL⟩ := gather n (fun i hi => h i (by omega))
    obtain ⟨x, hx⟩ := h n (by omega)
    refine ⟨L ++ [x], by simp [hl], fun i y hy => ?_⟩
    by_cases hi : i < n
    · rw [List.getElem?_append_left (by omega)] at hy; exact hL i y hy
    · have hi2 : i < (L ++ [x]).length := (List.getElem?_eq_some_iff.1 hy).1
      simp [hl] at hi2
      obtain rfl : i = n := by omega
      rw [List.getElem?_append_right (by omega), hl, Nat.sub_self] at hy
      simp at hy
      subst hy; exact hx

theorem sl_of_trod {H : Type} {enc : TypeId × Value → H} {W : World} {v : Value} {n : Nat} {y : DataW H × List MemPlace}
    (h : DataW.trod enc Try.prog W 0 (fun _ => true) true n 56 [v] = some y) : ∃ l, Sl W W.heap.size v l ∧ Byt l := by
  have key : ∀ (A : Option Addr) (len cap : Nat), v = .slice A len cap → ∃ l, Sl W W.heap.size v l ∧ Byt l := fun A len cap e => by
    subst e
    obtain ⟨l, hR, hY, h1, h2⟩ := rd_of_trod (d := y.1) (p := y.2) (A := A) (len := len) (cap := cap) ⟨n, h⟩
    obtain rfl : len = l.length := hR.len.symm
    exact ⟨l, ⟨A, cap, rfl, h1, h2, hR⟩, hY⟩
  rcases open_ints Try.underlying56 Try.underlying5 (by kernel_rfl) h with ⟨hcs, _⟩ | ⟨x, l, c, zs, hcs, _⟩
  · simp at hcs; exact key _ _ _ hcs
  · simp at hcs; exact key _ _ _ hcs

end Go.Proofs.Yteadkgjikaikjaa.frame
