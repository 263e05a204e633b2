/- Logs that are made out of steps, as plain values. It speaks of no program. -/
import Derived.Test.YteadkgjikaikjaaLg
import Derived.Test.YteadkgjikaikjaaNums
import Derived.Laws.BytesArg
namespace Go.Proofs.Yteadkgjikaikjaa.lg
open Go Go.Proofs.Yteadkgjikaikjaa.cf Go.Proofs.Yteadkgjikaikjaa.nums
set_option linter.unusedVariables false
/-- The term behind so many steps. -/
def riseT (t : Int) (l : List Int) : Int := l.foldl (fun a x => a + x % 3) t
theorem riseT_snoc {t : Int} {l : List Int} {i : Nat} (h : i < l.length) : riseT t (l.take (i + 1)) = riseT t (l.take i) + l.getD i 0 % 3 := by
  rw [List.take_succ_eq_append_getElem h, riseT, List.foldl_append]
  simp [riseT, List.getD, h]
theorem riseT_le {t : Int} : ∀ {l : List Int}, t ≤ riseT t l ∧ riseT t l ≤ t + 2 * l.length
  | [] => by simp [riseT]
  | x :: l => by
    have h := riseT_le (t := t + x % 3) (l := l)
    have : riseT t (x :: l) = riseT (t + x % 3) l := rfl
    rw [this, List.length_cons]
    omega
/-- The entries of a log that is made. -/
def madeE : Int → List Int → List EnL
  | _, [] => []
  | t, x :: l => ⟨t + x % 3, 1, strOfNums [x], zeroJ⟩ :: madeE (t + x % 3) l
theorem madeE_length : ∀ (t : Int) (l : List Int), (madeE t l).length = l.length
  | _, [] => rfl
  | t, x :: l => by simp [madeE, madeE_length _ l]
theorem madeE_get : ∀ {t : Int} {l : List Int} {i : Nat}, i < l.length → (madeE t l)[i]? = some ⟨riseT t (l.take (i + 1)), 1, strOfNums [l.getD i 0], zeroJ⟩
  | t, [], i, h => by simp at h
  | t, x :: l, 0, h => by simp [madeE, riseT]
  | t, x :: l, i + 1, h => by
    have := madeE_get (t := t + x % 3) (l := l) (i := i) (by simpa using h)
    simpa [madeE, riseT] using this
theorem madeE_snoc {t : Int} {l : List Int} {i : Nat} (h : i < l.length) : (madeE t l).take (i + 1) = (madeE t l).take i ++ [⟨riseT t (l.take (i + 1)), 1, strOfNums [l.getD i 0], zeroJ⟩] := by
  have hg := madeE_get (t := t) h
  obtain ⟨h1, h2⟩ := List.getElem?_eq_some_iff.1 hg
  rw [List.take_succ_eq_append_getElem h1, h2]
/-- A log that is made. -/
def madeL (b t : Int) (l : List Int) : LgL := ⟨b, t, zeroJ, madeE (max t 1) l⟩
theorem made_may {b t : Int} {l : List Int} (hb : 0 ≤ b ∧ b ≤ 1099511627776) (ht : 0 ≤ t ∧ t ≤ 1000000) (hl : l.length ≤ 1000) : mayF (madeL b t l) = true := by
  have h : ∀ (l : List Int) (q : Int), q + 2 * l.length ≤ 1099511627776 → mayE q (madeE q l) = true := by
    intro l
    induction l with
    | nil => intro q _; rfl
    | cons x l ih =>
      intro q hq
      rw [List.length_cons] at hq
      exact Bool.and_eq_true_iff.2 ⟨Bool.and_eq_true_iff.2 ⟨decide_eq_true (by show q ≤ q + x % 3; omega), decide_eq_true (by show q + x % 3 ≤ 1099511627776; omega)⟩, ih (q + x % 3) (by omega)⟩
  exact Bool.and_eq_true_iff.2 ⟨Bool.and_eq_true_iff.2 ⟨decide_eq_true hb.1, decide_eq_true hb.2⟩, Bool.and_eq_true_iff.2 ⟨Bool.and_eq_true_iff.2 ⟨decide_eq_true ht.1, decide_eq_true (by show t ≤ _; omega)⟩, h l (max t 1) (by omega)⟩⟩
end Go.Proofs.Yteadkgjikaikjaa.lg
