/- Logs as plain values: which may be, what they tell, what becomes of them when they are pushed, merged, compacted. It speaks of no program. -/
import Derived.Test.YteadkgjikaikjaaCf
import Derived.Laws.StructEq
namespace Go.Proofs.Yteadkgjikaikjaa.lg
open Go Go.Proofs.Yteadkgjikaikjaa.cf
set_option linter.unusedVariables false

/-- An entry: term, kind, text, configuration. -/
structure EnL where
  t : Int
  k : Int
  d : ByteArray
  j : JtL
def zE : EnL := ⟨0, 0, ⟨#[]⟩, zeroJ⟩
/-- A log: the number and the term that it begins behind, the configuration there, the entries. -/
structure LgL where
  b : Int
  t : Int
  j : JtL
  es : List EnL
def zL : LgL := ⟨0, 0, zeroJ, []⟩
/-- Two entries that are the same. -/
def eqE (x y : EnL) : Bool := x.t == y.t && (x.k == y.k && (x.d.toList == y.d.toList && decide (x.j = y.j)))
theorem eqE_iff (x y : EnL) : eqE x y = true ↔ x = y := by
  obtain ⟨a, b, c, d⟩ := x
  obtain ⟨a', b', c', d'⟩ := y
  simp only [eqE, Bool.and_eq_true, beq_iff_eq, decide_eq_true_eq, EnL.mk.injEq, ByteArray.toList_eq]
  constructor
  · rintro ⟨h1, h2, h3, h4⟩
    refine ⟨h1, h2, ?_, h4⟩
    obtain ⟨⟨u⟩⟩ := c
    obtain ⟨⟨v⟩⟩ := c'
    simpa using h3
  · rintro ⟨h1, h2, h3, h4⟩
    exact ⟨h1, h2, by rw [h3], h4⟩
theorem eqE_self (x : EnL) : eqE x x = true := (eqE_iff x x).2 rfl
def eqEs : List EnL → List EnL → Bool
  | [], [] => true
  | x :: a, y :: b => eqE x y && eqEs a b
  | _, _ => false
theorem eqEs_iff : ∀ (a b : List EnL), eqEs a b = true ↔ a = b
  | [], [] => by simp [eqEs]
  | [], y :: b => by simp [eqEs]
  | x :: a, [] => by simp [eqEs]
  | x :: a, y :: b => by simp [eqEs, eqE_iff, eqEs_iff a b]
theorem eqEs_self (a : List EnL) : eqEs a a = true := (eqEs_iff a a).2 rfl
theorem eqEs_len {a b : List EnL} (h : a.length ≠ b.length) : eqEs a b = false := by
  rw [Bool.eq_false_iff]; intro hh; exact h (by rw [(eqEs_iff a b).1 hh])
theorem eqEs_drop {a b : List EnL} {i : Nat} {x y : EnL} (hx : a[i]? = some x) (hy : b[i]? = some y) : eqEs (a.drop i) (b.drop i) = (eqE x y && eqEs (a.drop (i + 1)) (b.drop (i + 1))) := by
  obtain ⟨h1, rfl⟩ := List.getElem?_eq_some_iff.1 hx
  obtain ⟨h2, rfl⟩ := List.getElem?_eq_some_iff.1 hy
  rw [List.drop_eq_getElem_cons h1, List.drop_eq_getElem_cons h2]; rfl
def eqL (a b : LgL) : Bool := a.b == b.b && (a.t == b.t && (decide (a.j = b.j) && eqEs a.es b.es))
theorem eqL_iff (a b : LgL) : eqL a b = true ↔ a = b := by
  obtain ⟨b1, t1, j1, e1⟩ := a
  obtain ⟨b2, t2, j2, e2⟩ := b
  simp [eqL, eqEs_iff]
theorem eqL_self (a : LgL) : eqL a a = true := (eqL_iff a a).2 rfl
/-- A number from a least one to 2^40. -/
def withB (n m : Int) : Bool := decide (m ≤ n) && decide (n ≤ 1099511627776)
/-- The terms never fall. -/
def mayE : Int → List EnL → Bool
  | _, [] => true
  | t, e :: es => withB e.t t && mayE e.t es
theorem mayE_drop {t : Int} {es : List EnL} {i : Nat} {x : EnL} (h : es[i]? = some x) : mayE t (es.drop i) = (withB x.t t && mayE x.t (es.drop (i + 1))) := by
  obtain ⟨h1, rfl⟩ := List.getElem?_eq_some_iff.1 h
  rw [List.drop_eq_getElem_cons h1]; rfl
def mayF (l : LgL) : Bool := withB l.b 0 && (withB l.t 0 && mayE (max l.t 1) l.es)
theorem mayF_b {l : LgL} (h : mayF l = true) : 0 ≤ l.b ∧ l.b ≤ 1099511627776 := by
  simp [mayF, withB] at h; exact h.1
theorem mayF_t {l : LgL} (h : mayF l = true) : 0 ≤ l.t ∧ l.t ≤ 1099511627776 := by
  simp [mayF, withB] at h; exact h.2.1
/-- What is told of the numbers. -/
def lastF (l : LgL) : Int := l.b + l.es.length
def atF (l : LgL) (i : Int) : EnL × Bool := if l.b < i ∧ i ≤ lastF l then (l.es.getD (i - l.b - 1).toNat zE, true) else (zE, false)
def termF (l : LgL) (i : Int) : Int × Bool := if i = l.b then (l.t, true) else ((atF l i).1.t, (atF l i).2)
theorem atF_in {l : LgL} {i : Int} {k : Nat} {x : EnL} (hi : i = l.b + 1 + k) (hx : l.es[k]? = some x) : atF l i = (x, true) := by
  obtain ⟨h1, rfl⟩ := List.getElem?_eq_some_iff.1 hx
  unfold atF lastF
  rw [if_pos (by omega), show (i - l.b - 1).toNat = k by omega, List.getD_eq_getElem?_getD, hx]; rfl
theorem atF_out {l : LgL} {i : Int} (h : i ≤ l.b ∨ lastF l < i) : atF l i = (zE, false) := by
  unfold atF; rw [if_neg (by omega)]
theorem termF_base (l : LgL) : termF l l.b = (l.t, true) := by simp [termF]
theorem termF_in {l : LgL} {i : Int} {k : Nat} {x : EnL} (hi : i = l.b + 1 + k) (hx : l.es[k]? = some x) : termF l i = (x.t, true) := by
  unfold termF; rw [if_neg (by omega), atF_in hi hx]
theorem termF_out {l : LgL} {i : Int} (h : i < l.b ∨ lastF l < i) : termF l i = (0, false) := by
  unfold termF; rw [if_neg (by unfold lastF at h; omega), atF_out (by omega)]; rfl
theorem termF_is (l : LgL) (i : Int) : (termF l i).2 = decide (l.b ≤ i ∧ i ≤ lastF l) := by
  unfold termF
  by_cases h : i = l.b
  · rw [if_pos h]; simp; unfold lastF; omega
  · rw [if_neg h]
    unfold atF
    by_cases h2 : l.b < i ∧ i ≤ lastF l
    · rw [if_pos h2]; simp; omega
    · rw [if_neg h2]; simp; omega
def sliceF (l : LgL) (a n : Int) : List EnL := (l.es.drop (max a (l.b + 1) - l.b - 1).toNat).take n.toNat
def pushF (l : LgL) (e : EnL) : LgL := { l with es := l.es ++ [e] }
/-- How many entries at the beginning have the same terms. -/
def sameN : List EnL → List EnL → Nat
  | x :: a, y :: b => if x.t = y.t then sameN a b + 1 else 0
  | _, _ => 0
theorem sameN_le : ∀ (a b : List EnL), sameN a b ≤ a.length ∧ sameN a b ≤ b.length
  | [], b => by cases b <;> simp [sameN]
  | x :: a, [] => by simp [sameN]
  | x :: a, y :: b => by
    have := sameN_le a b
    unfold sameN
    split <;> simp <;> omega
theorem sameN_eq : ∀ {a b : List EnL} {m : Nat}, (∀ j, j < m → ∃ x y, a[j]? = some x ∧ b[j]? = some y ∧ x.t = y.t) → (∀ x y, a[m]? = some x → b[m]? = some y → x.t ≠ y.t) → sameN a b = m
  | [], b, 0, _, _ => by cases b <;> rfl
  | x :: a, [], 0, _, _ => rfl
  | x :: a, y :: b, 0, _, h => by
    have := h x y rfl rfl
    simp [sameN, this]
  | [], b, m + 1, h, _ => by obtain ⟨x, y, h1, _⟩ := h 0 (by omega); simp at h1
  | x :: a, [], m + 1, h, _ => by obtain ⟨x, y, _, h1, _⟩ := h 0 (by omega); simp at h1
  | x :: a, y :: b, m + 1, h, h2 => by
    obtain ⟨x', y', h3, h4, h5⟩ := h 0 (by omega)
    simp at h3 h4
    subst h3 h4
    have := sameN_eq (a := a) (b := b) (m := m) (fun j hj => by simpa using h (j + 1) (by omega)) (fun x y hx hy => h2 x y (by simpa using hx) (by simpa using hy))
    simp [sameN, h5, this]
theorem sameN_get : ∀ {a b : List EnL} {j : Nat}, j < sameN a b → ∃ x y, a[j]? = some x ∧ b[j]? = some y ∧ x.t = y.t
  | [], b, j, h => by cases b <;> simp [sameN] at h
  | x :: a, [], j, h => by simp [sameN] at h
  | x :: a, y :: b, j, h => by
    unfold sameN at h
    split at h
    · rename_i he
      rcases j with _ | j
      · exact ⟨x, y, rfl, rfl, he⟩
      · simpa using sameN_get (a := a) (b := b) (j := j) (by omega)
    · omega
theorem sameN_stop : ∀ {a b : List EnL} {x y : EnL}, a[sameN a b]? = some x → b[sameN a b]? = some y → x.t ≠ y.t
  | [], b, x, y, h, _ => by simp at h
  | x :: a, [], u, v, _, h => by simp at h
  | x :: a, y :: b, u, v, h1, h2 => by
    unfold sameN at h1 h2
    split at h1
    · rename_i he
      rw [if_pos he] at h2
      exact sameN_stop (a := a) (b := b) (by simpa using h1) (by simpa using h2)
    · rename_i he
      rw [if_neg he] at h2
      simp at h1 h2
      subst h1 h2
      exact he
/-- Whether so many entries behind prev can be laid on the log. -/
def joinB (l : LgL) (prev term : Int) (n : Nat) : Bool := decide (0 ≤ prev ∧ prev ≤ lastF l ∧ l.b ≤ prev + n) && (!(termF l prev).2 || (termF l prev).1 == term)
/-- The entries that come of a merge: s is where they begin to be laid on. -/
def laidF (l : LgL) (prev : Int) (es : List EnL) : List EnL :=
  let k := sameN (l.es.drop (max prev l.b - l.b).toNat) (es.drop (max prev l.b - prev).toNat)
  if k = (es.drop (max prev l.b - prev).toNat).length then l.es else l.es.take ((max prev l.b - l.b).toNat + k) ++ (es.drop (max prev l.b - prev).toNat).drop k
def mergeF (l : LgL) (prev term : Int) (es : List EnL) : LgL × Int × Bool :=
  if joinB l prev term es.length = true then ({ l with es := laidF l prev es }, prev + es.length, true) else (l, 0, false)
/-- The configuration in force behind the entries. -/
def confF (j : JtL) (es : List EnL) : JtL := es.foldl (fun a e => if e.k = 2 then e.j else a) j
theorem confF_snoc {j : JtL} {es : List EnL} {i : Nat} {x : EnL} (h : es[i]? = some x) : confF j (es.take (i + 1)) = if x.k = 2 then x.j else confF j (es.take i) := by
  obtain ⟨h1, rfl⟩ := List.getElem?_eq_some_iff.1 h
  rw [List.take_succ_eq_append_getElem h1, confF, List.foldl_append]; rfl
theorem confF_all (j : JtL) (es : List EnL) : confF j (es.take es.length) = confF j es := by rw [List.take_length]
def compactF (l : LgL) (to : Int) : LgL × Int :=
  if (termF l to).2 = true then (⟨to, (termF l to).1, confF l.j (l.es.take (to - l.b).toNat), l.es.drop (to - l.b).toNat⟩, 0) else (zL, 1)
def newerF (l : LgL) (last term : Int) : Bool := if term = (termF l (lastF l)).1 then decide (lastF l ≤ last) else decide ((termF l (lastF l)).1 < term)
/-- A log whose numbers stay far from the ends of an int. -/
def Fit (l : LgL) : Prop := 0 ≤ l.b ∧ l.b ≤ 2199023255552 ∧ l.es.length ≤ 1000000
theorem fit_may {l : LgL} (h : mayF l = true) (hn : l.es.length ≤ 1000000) : Fit l := by
  have := mayF_b h
  exact ⟨by omega, by omega, hn⟩
end Go.Proofs.Yteadkgjikaikjaa.lg
