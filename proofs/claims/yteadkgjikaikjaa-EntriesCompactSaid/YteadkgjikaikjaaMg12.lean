/- What follows of a merge, as plain values: what is laid on has the other one's terms, once more changes nothing, where terms agree nothing goes. It speaks of no program. -/
import Derived.Test.YteadkgjikaikjaaLg
namespace Go.Proofs.Yteadkgjikaikjaa.lg
open Go Go.Proofs.Yteadkgjikaikjaa.cf
set_option linter.unusedVariables false
section
variable {l : LgL} {prev : Int} {es : List EnL} {u : Nat}
theorem laid_eq (hu : prev = l.b + u) : laidF l prev es = if sameN (l.es.drop u) es = es.length then l.es else l.es.take (u + sameN (l.es.drop u) es) ++ es.drop (sameN (l.es.drop u) es) := by
  unfold laidF
  rw [show (max prev l.b - l.b).toNat = u by omega, show (max prev l.b - prev).toNat = 0 by omega, List.drop_zero]
theorem laid_get (hu : prev = l.b + u) (hn : u ≤ l.es.length) {i : Nat} {x : EnL} (hx : es[i]? = some x) : ∃ y, (laidF l prev es)[u + i]? = some y ∧ y.t = x.t := by
  rw [laid_eq hu]
  have hl := sameN_le (l.es.drop u) es
  rw [List.length_drop] at hl
  have hi : i < es.length := (List.getElem?_eq_some_iff.1 hx).1
  by_cases hk : sameN (l.es.drop u) es = es.length
  · rw [if_pos hk]
    obtain ⟨y, z, h1, h2, h3⟩ := sameN_get (a := l.es.drop u) (b := es) (j := i) (by omega)
    rw [List.getElem?_drop] at h1
    rw [hx] at h2
    obtain rfl := Option.some.inj h2
    exact ⟨y, h1, h3⟩
  · rw [if_neg hk]
    by_cases hik : i < sameN (l.es.drop u) es
    · obtain ⟨y, z, h1, h2, h3⟩ := sameN_get hik
      rw [List.getElem?_drop] at h1
      rw [hx] at h2
      obtain rfl := Option.some.inj h2
      refine ⟨y, ?_, h3⟩
      rw [List.getElem?_append_left (by rw [List.length_take]; omega), List.getElem?_take, if_pos (by omega)]
      exact h1
    · refine ⟨x, ?_, rfl⟩
      rw [List.getElem?_append_right (by rw [List.length_take]; omega), List.length_take, List.getElem?_drop]
      rw [show sameN (l.es.drop u) es + (u + i - min (u + sameN (l.es.drop u) es) l.es.length) = i by omega]
      exact hx
theorem laid_take (hu : prev = l.b + u) (hn : u ≤ l.es.length) : (laidF l prev es).take u = l.es.take u := by
  rw [laid_eq hu]
  have hl := sameN_le (l.es.drop u) es
  rw [List.length_drop] at hl
  split
  · rfl
  · rw [List.take_append_of_le_length (by rw [List.length_take]; omega), List.take_take]
    congr 1; omega
theorem laid_len (hu : prev = l.b + u) (hn : u ≤ l.es.length) : u + es.length ≤ (laidF l prev es).length := by
  rcases Nat.eq_zero_or_pos es.length with h0 | h0
  · have := congrArg List.length (laid_take (es := es) hu hn)
    rw [List.length_take, List.length_take] at this
    omega
  · obtain ⟨y, hy, _⟩ := laid_get (es := es) hu hn (i := es.length - 1) (x := es[es.length - 1]) (List.getElem?_eq_getElem _)
    have := (List.getElem?_eq_some_iff.1 hy).1
    omega
theorem laid_same (hu : prev = l.b + u) (h : ∀ i x, es[i]? = some x → ∃ y, l.es[u + i]? = some y ∧ y.t = x.t) : laidF l prev es = l.es := by
  rw [laid_eq hu, if_pos]
  refine sameN_eq (fun j hj => ?_) (fun x y _ hy => ?_)
  · obtain ⟨y, h1, h2⟩ := h j es[j] (List.getElem?_eq_getElem hj)
    exact ⟨y, es[j], by rw [List.getElem?_drop]; exact h1, List.getElem?_eq_getElem hj, h2⟩
  · exact absurd (List.getElem?_eq_some_iff.1 hy).1 (by omega)
/-- Once more: nothing changes. -/
theorem laid_again (hu : prev = l.b + u) (hn : u ≤ l.es.length) {m : LgL} (hm : m = { l with es := laidF l prev es }) : laidF m prev es = m.es := by
  subst hm
  exact laid_same (l := { l with es := laidF l prev es }) (u := u) hu (fun i x hx => laid_get hu hn hx)
theorem term_take {a b : LgL} {i : Int} (hb : a.b = b.b) (ht : a.t = b.t) (hi : a.b ≤ i) (h : ∀ k : Nat, i = a.b + 1 + k → (a.es[k]?).map EnL.t = (b.es[k]?).map EnL.t) : termF a i = termF b i := by
  by_cases h0 : i = a.b
  · subst h0; rw [termF_base, hb, termF_base, ht]
  · obtain ⟨k, hk⟩ : ∃ k : Nat, i = a.b + 1 + k := ⟨(i - a.b - 1).toNat, by omega⟩
    have := h k hk
    cases ha : a.es[k]? with
    | none =>
      rw [ha] at this
      cases hb2 : b.es[k]? with
      | none =>
        rw [List.getElem?_eq_none_iff] at ha hb2
        rw [termF_out (.inr (by unfold lastF; omega)), termF_out (.inr (by unfold lastF; omega))]
      | some y => rw [hb2] at this; cases this
    | some x =>
      rw [ha] at this
      cases hb2 : b.es[k]? with
      | none => rw [hb2] at this; cases this
      | some y =>
        rw [hb2] at this
        have e : x.t = y.t := Option.some.inj this
        rw [termF_in hk ha, termF_in (by omega) hb2, e]
/-- Behind a merge the term at prev is as it was. -/
theorem laid_term (hu : prev = l.b + u) (hn : u ≤ l.es.length) : termF { l with es := laidF l prev es } prev = termF l prev := by
  refine term_take rfl rfl (by show l.b ≤ _; omega) (fun k hk => ?_)
  have hk : prev = l.b + 1 + k := hk
  have h2 := laid_take (es := es) hu hn
  have e : (laidF l prev es)[k]? = l.es[k]? := by
    have h3 := congrArg (fun z => z[k]?) h2
    simp only [List.getElem?_take] at h3
    rwa [if_pos (by omega), if_pos (by omega)] at h3
  show ((laidF l prev es)[k]?).map _ = _
  rw [e]
end
theorem laid_max {l : LgL} {prev : Int} {es : List EnL} {u : Nat} (hu : prev = l.b + u) (hn : u ≤ l.es.length) : (laidF l prev es).length ≤ max l.es.length (u + es.length) := by
  rw [laid_eq hu]
  have := sameN_le (l.es.drop u) es
  split
  · omega
  · rw [List.length_append, List.length_take, List.length_drop]; omega
/-- A merge into a log that begins at 0. -/
theorem join_no {l : LgL} {u : Nat} {tm : Int} {m : Nat} (hb : l.b = 0) (h : joinB l u tm m = false) : (!(termF l u).2 || (termF l u).1 != tm) = true := by
  unfold joinB at h
  rw [termF_is] at h ⊢
  cases h2 : decide (l.b ≤ (u : Int) ∧ (u : Int) ≤ lastF l) with
  | false => rfl
  | true =>
    have h3 := of_decide_eq_true h2
    rw [h2, decide_eq_true (by omega), Bool.true_and, Bool.not_true, Bool.false_or, beq_eq_false_iff_ne] at h
    rw [Bool.not_true, Bool.false_or, bne_iff_ne]
    exact h
theorem merge_twice {l : LgL} {u : Nat} {tm : Int} {es : List EnL} (hb : l.b = 0) (hj : joinB l u tm es.length = true) :
    ∃ m : LgL, mergeF l u tm es = (m, (u : Int) + es.length, true) ∧ mergeF m u tm es = (m, (u : Int) + es.length, true) ∧ m.b = 0 ∧ u + es.length ≤ m.es.length ∧ m.es.length ≤ max l.es.length (u + es.length) ∧
      (∀ i x, es[i]? = some x → ∃ y, m.es[u + i]? = some y ∧ y.t = x.t) ∧ ((∀ i x, es[i]? = some x → ∃ y, l.es[u + i]? = some y ∧ y.t = x.t) → m = l) ∧ m.es.take u = l.es.take u ∧ u ≤ l.es.length ∧ m.t = l.t := by
  have hu : (u : Int) = l.b + u := by omega
  have hn : u ≤ l.es.length := by
    unfold joinB lastF at hj
    have := (Bool.and_eq_true_iff.1 hj).1
    have := of_decide_eq_true this
    omega
  have hl := laid_len (es := es) hu hn
  refine ⟨{ l with es := laidF l u es }, by unfold mergeF; rw [if_pos hj], ?_, hb, hl, laid_max hu hn, fun i x hx => laid_get hu hn hx, fun h => ?_, laid_take hu hn, hn, rfl⟩
  · have h2 : joinB { l with es := laidF l u es } u tm es.length = true := by
      unfold joinB at hj ⊢
      rw [laid_term hu hn]
      refine Bool.and_eq_true_iff.2 ⟨decide_eq_true ?_, (Bool.and_eq_true_iff.1 hj).2⟩
      show 0 ≤ (u : Int) ∧ (u : Int) ≤ l.b + ((laidF l u es).length : Int) ∧ l.b ≤ (u : Int) + es.length
      omega
    unfold mergeF
    rw [if_pos h2, laid_again (m := { l with es := laidF l u es }) hu hn rfl]
  · rw [laid_same hu h]
/-- Whether so many terms behind u are the same. -/
def smB (l : LgL) (u : Nat) (es : List EnL) : Nat → Bool
  | 0 => true
  | i + 1 => smB l u es i && ((termF l ((u : Int) + 1 + i)).2 && (termF l ((u : Int) + 1 + i)).1 == (es.getD i zE).t)
theorem smB_all {l : LgL} {u : Nat} {es : List EnL} (hb : l.b = 0) : ∀ {n : Nat}, smB l u es n = true → ∀ i x, i < n → es[i]? = some x → ∃ y, l.es[u + i]? = some y ∧ y.t = x.t
  | 0, _, i, x, hi, _ => by omega
  | n + 1, h, i, x, hi, hx => by
    obtain ⟨h1, h2⟩ := Bool.and_eq_true_iff.1 h
    by_cases hin : i < n
    · exact smB_all hb h1 i x hin hx
    · obtain rfl : i = n := by omega
      obtain ⟨h3, h4⟩ := Bool.and_eq_true_iff.1 h2
      rw [termF_is] at h3
      have h5 := of_decide_eq_true h3
      unfold lastF at h5
      have hlt : u + i < l.es.length := by omega
      refine ⟨l.es[u + i], List.getElem?_eq_getElem hlt, ?_⟩
      rw [termF_in (k := u + i) (by omega) (List.getElem?_eq_getElem hlt), beq_iff_eq] at h4
      refine (show l.es[u + i].t = _ from h4).trans ?_
      rw [List.getD_eq_getElem?_getD, hx]; rfl
theorem sliceF_len (l : LgL) (a : Int) (q : Nat) : (sliceF l a q).length ≤ q := by unfold sliceF; rw [List.length_take]; omega
end Go.Proofs.Yteadkgjikaikjaa.lg
