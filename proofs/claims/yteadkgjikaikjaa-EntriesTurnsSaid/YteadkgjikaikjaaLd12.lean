/- Where a merge stops, as plain values. It speaks of no program. -/
import Derived.Test.YteadkgjikaikjaaLg
namespace Go.Proofs.Yteadkgjikaikjaa.lg
open Go Go.Proofs.Yteadkgjikaikjaa.cf
set_option linter.unusedVariables false
section
variable {l : LgL} {prev : Int} {es : List EnL} {u v : Nat}
theorem laid_uv (hu : max prev l.b = l.b + u) (hv : max prev l.b = prev + v) : laidF l prev es = if sameN (l.es.drop u) (es.drop v) = (es.drop v).length then l.es else l.es.take (u + sameN (l.es.drop u) (es.drop v)) ++ (es.drop v).drop (sameN (l.es.drop u) (es.drop v)) := by
  unfold laidF
  rw [show (max prev l.b - l.b).toNat = u by omega, show (max prev l.b - prev).toNat = v by omega]
theorem laid_all (hu : max prev l.b = l.b + u) (hv : max prev l.b = prev + v) (h : ∀ j, v + j < es.length → ∃ x y, l.es[u + j]? = some x ∧ es[v + j]? = some y ∧ x.t = y.t) : laidF l prev es = l.es := by
  rw [laid_uv hu hv, if_pos]
  refine sameN_eq (fun j hj => ?_) (fun x y _ hy => absurd (List.getElem?_eq_some_iff.1 hy).1 (by omega))
  rw [List.length_drop] at hj
  obtain ⟨x, y, h1, h2, h3⟩ := h j (by omega)
  exact ⟨x, y, by rw [List.getElem?_drop]; exact h1, by rw [List.getElem?_drop]; exact h2, h3⟩
theorem laid_stop (hu : max prev l.b = l.b + u) (hv : max prev l.b = prev + v) {j : Nat} (hj : v + j < es.length) (h : ∀ i, i < j → ∃ x y, l.es[u + i]? = some x ∧ es[v + i]? = some y ∧ x.t = y.t)
    (hs : ∀ x y, l.es[u + j]? = some x → es[v + j]? = some y → x.t ≠ y.t) : laidF l prev es = l.es.take (u + j) ++ es.drop (v + j) := by
  have he : sameN (l.es.drop u) (es.drop v) = j := by
    refine sameN_eq (fun i hi => ?_) (fun x y hx hy => ?_)
    · obtain ⟨x, y, h1, h2, h3⟩ := h i hi
      exact ⟨x, y, by rw [List.getElem?_drop]; exact h1, by rw [List.getElem?_drop]; exact h2, h3⟩
    · rw [List.getElem?_drop] at hx hy
      exact hs x y hx hy
  rw [laid_uv hu hv, he, if_neg (by rw [List.length_drop]; omega), List.drop_drop]
end
end Go.Proofs.Yteadkgjikaikjaa.lg
