/- What follows of compacting, and of sending a log piece by piece, as plain values. It speaks of no program. -/
import Derived.Test.YteadkgjikaikjaaMg12
import Derived.Test.YteadkgjikaikjaaMd12
namespace Go.Proofs.Yteadkgjikaikjaa.lg
open Go Go.Proofs.Yteadkgjikaikjaa.cf
set_option linter.unusedVariables false
/-- A log that begins at 0, cut at u. -/
def cutL (l : LgL) (u : Nat) : LgL := ⟨u, (termF l u).1, confF l.j (l.es.take u), l.es.drop u⟩
section
variable {l : LgL} {u : Nat}
theorem compact_cut (hb : l.b = 0) (hu : u ≤ l.es.length) : compactF l u = (cutL l u, 0) := by
  unfold compactF
  rw [if_pos (by rw [termF_is]; exact decide_eq_true (by unfold lastF; omega)), hb, show ((u : Int) - 0).toNat = u by omega]; rfl
theorem cut_last (hb : l.b = 0) (hu : u ≤ l.es.length) : lastF (cutL l u) = (l.es.length : Int) := by
  show (u : Int) + ((l.es.drop u).length : Int) = _
  rw [List.length_drop]; omega
theorem cut_conf : confF (cutL l u).j (cutL l u).es = confF l.j l.es := by
  show confF (confF l.j (l.es.take u)) (l.es.drop u) = _
  unfold confF
  rw [← List.foldl_append, List.take_append_drop]
theorem cut_term (hb : l.b = 0) (hu : u ≤ l.es.length) {i : Nat} (h1 : u ≤ i) (h2 : i ≤ l.es.length) : termF (cutL l u) i = termF l i := by
  by_cases h0 : i = u
  · subst h0
    rw [show ((i : Nat) : Int) = (cutL l i).b from rfl, termF_base]
    refine Prod.ext rfl ?_
    show true = (termF l (i : Int)).2
    rw [termF_is]; exact (decide_eq_true (by unfold lastF; omega)).symm
  · have hx : l.es[i - 1]? = some l.es[i - 1] := List.getElem?_eq_getElem (by omega)
    rw [termF_in (k := i - 1) (by omega) hx]
    refine termF_in (k := i - 1 - u) (by show (i : Int) = (u : Int) + 1 + _; omega) ?_
    show (l.es.drop u)[i - 1 - u]? = _
    rw [List.getElem?_drop, ← hx]; congr 1; omega
theorem made_term {s : List Int} (hs : s.length ≤ 40) {i : Nat} (hi : i ≤ s.length) : 0 ≤ (termF (madeL 0 0 s) i).1 ∧ (termF (madeL 0 0 s) i).1 ≤ 81 := by
  by_cases h0 : i = 0
  · subst h0
    rw [show ((0 : Nat) : Int) = (madeL 0 0 s).b from rfl, termF_base]; exact ⟨Int.le_refl (0 : Int), show (0 : Int) ≤ 81 by decide⟩
  · have hx := madeE_get (t := max 0 1) (l := s) (i := i - 1) (by omega)
    rw [termF_in (k := i - 1) (by show (i : Int) = 0 + 1 + _; omega) (show (madeL 0 0 s).es[i - 1]? = _ from hx)]
    have := riseT_le (t := max 0 1) (l := s.take (i - 1 + 1))
    rw [List.length_take] at this
    dsimp only
    omega
/-- A merge at p or behind it, and the same of the log that was cut. -/
theorem cut_merge (hb : l.b = 0) {p : Nat} (h1 : u ≤ p) (h2 : p ≤ l.es.length) (es : List EnL) :
    ∃ m : LgL, mergeF l p (termF l p).1 es = (m, (p : Int) + es.length, true) ∧ mergeF (cutL l u) p (termF l p).1 es = (cutL m u, (p : Int) + es.length, true) ∧ m.b = 0 ∧ p + es.length ≤ m.es.length ∧ m.es.length ≤ max l.es.length (p + es.length) := by
  have hu : u ≤ l.es.length := by omega
  have hj : joinB l p (termF l p).1 es.length = true := by
    unfold joinB
    rw [beq_self_eq_true, Bool.or_true, Bool.and_true]
    exact decide_eq_true (by unfold lastF; omega)
  have hj2 : joinB (cutL l u) p (termF l p).1 es.length = true := by
    unfold joinB
    rw [cut_term hb hu h1 h2, beq_self_eq_true, Bool.or_true, Bool.and_true]
    refine decide_eq_true ?_
    rw [cut_last hb hu]
    show 0 ≤ (p : Int) ∧ (p : Int) ≤ _ ∧ (u : Int) ≤ _
    omega
  obtain ⟨m, hm, _, hm0, hm1, hm2, _, _, hm3, _, hmt⟩ := merge_twice hb hj
  have hmm : m = { l with es := laidF l p es } := by
    have := hm
    unfold mergeF at this
    rw [if_pos hj] at this
    exact (congrArg Prod.fst this).symm
  refine ⟨m, hm, ?_, hm0, hm1, hm2⟩
  unfold mergeF
  rw [if_pos hj2]
  refine Prod.ext ?_ rfl
  show ({ cutL l u with es := laidF (cutL l u) p es } : LgL) = cutL m u
  have htk : m.es.take u = l.es.take u := by
    have := congrArg (List.take u) hm3
    rwa [List.take_take, List.take_take, Nat.min_eq_left h1] at this
  have ht : termF m u = termF l u := by
    refine term_take (by rw [hm0, hb]) hmt (by rw [hm0]; omega) (fun k hk => ?_)
    rw [hm0] at hk
    have h3 := congrArg (fun z => z[k]?) htk
    simp only [List.getElem?_take] at h3
    rw [if_pos (by omega), if_pos (by omega)] at h3
    rw [h3]
  have hlaid : laidF (cutL l u) p es = m.es.drop u := by
    rw [hmm]
    show _ = (laidF l p es).drop u
    rw [laid_eq (l := cutL l u) (u := p - u) (by show (p : Int) = (u : Int) + _; omega), laid_eq (l := l) (u := p) (by omega)]
    have hd : (cutL l u).es.drop (p - u) = l.es.drop p := by
      show (l.es.drop u).drop (p - u) = _
      rw [List.drop_drop]; congr 1; omega
    rw [hd]
    have hk := sameN_le (l.es.drop p) es
    rw [List.length_drop] at hk
    split
    · rfl
    · rw [List.drop_append_of_le_length (by rw [List.length_take]; omega)]
      congr 1
      show (l.es.drop u).take _ = _
      rw [List.drop_take]; congr 1; omega
  rw [hlaid]
  unfold cutL
  rw [ht, htk, hmm]
end
/-- Two logs that have the same terms, up to k. -/
def Agr (a b : LgL) (k : Nat) : Prop := ∀ j, j < k → ∃ x y, a.es[j]? = some x ∧ b.es[j]? = some y ∧ x.t = y.t
theorem Agr.le {a b : LgL} {k : Nat} (h : Agr a b k) : k ≤ a.es.length ∧ k ≤ b.es.length := by
  rcases Nat.eq_zero_or_pos k with h0 | h0
  · omega
  · obtain ⟨x, y, h1, h2, _⟩ := h (k - 1) (by omega)
    have := (List.getElem?_eq_some_iff.1 h1).1
    have := (List.getElem?_eq_some_iff.1 h2).1
    omega
/-- One piece more. -/
theorem agr_piece {l o : LgL} {k q : Nat} (hb : l.b = 0) (ho : o.b = 0) (ht : l.t = o.t) (h : Agr l o k) :
    (sliceF o ((k : Int) + 1) q).length = min q (o.es.length - k) ∧ joinB l k (termF o k).1 (sliceF o ((k : Int) + 1) q).length = true ∧ ∃ m : LgL, mergeF l k (termF o k).1 (sliceF o ((k : Int) + 1) q) = (m, (k : Int) + (sliceF o ((k : Int) + 1) q).length, true) ∧ m.b = 0 ∧ m.t = o.t ∧ m.es.length ≤ max l.es.length o.es.length ∧ Agr m o (k + (sliceF o ((k : Int) + 1) q).length) := by
  obtain ⟨h1, h2⟩ := h.le
  have hs : sliceF o ((k : Int) + 1) q = (o.es.drop k).take q := by
    unfold sliceF
    rw [ho, show (max ((k : Int) + 1) (0 + 1) - 0 - 1).toNat = k by omega, Int.toNat_natCast]
  have hlen : (sliceF o ((k : Int) + 1) q).length = min q (o.es.length - k) := by rw [hs, List.length_take, List.length_drop]
  have hterm : termF l k = termF o k := by
    refine term_take (by rw [hb, ho]) ht (by rw [hb]; omega) (fun j hj => ?_)
    rw [hb] at hj
    obtain ⟨x, y, e1, e2, e3⟩ := h j (by omega)
    rw [e1, e2]
    show some x.t = some y.t
    rw [e3]
  have hj : joinB l k (termF o k).1 (sliceF o ((k : Int) + 1) q).length = true := by
    unfold joinB
    rw [hterm, beq_self_eq_true, Bool.or_true, Bool.and_true]
    exact decide_eq_true (by unfold lastF; omega)
  obtain ⟨m, hm, _, hm0, hm1, hm2, hm4, _, hm3, _, hmt⟩ := merge_twice hb hj
  refine ⟨hlen, hj, m, hm, hm0, by rw [hmt, ht], by omega, fun j hj2 => ?_⟩
  by_cases hjk : j < k
  · obtain ⟨x, y, e1, e2, e3⟩ := h j hjk
    refine ⟨x, y, ?_, e2, e3⟩
    have h3 := congrArg (fun z => z[j]?) hm3
    simp only [List.getElem?_take] at h3
    rw [if_pos hjk, if_pos hjk] at h3
    rw [h3, e1]
  · have hx : (sliceF o ((k : Int) + 1) q)[j - k]? = some ((sliceF o ((k : Int) + 1) q)[j - k]'(by omega)) := List.getElem?_eq_getElem _
    obtain ⟨y, e1, e2⟩ := hm4 _ _ hx
    refine ⟨y, _, by rw [← e1]; congr 1; omega, ?_, e2⟩
    rw [← hx, hs, List.getElem?_take, if_pos (by omega), List.getElem?_drop]
    congr 1; omega
end Go.Proofs.Yteadkgjikaikjaa.lg
