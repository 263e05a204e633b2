/- Plain numbers for stamps, attempts and clocks. It speaks of no program. -/
import Derived.Test.YtodpaeaeigjmdaaDoorNums
namespace Go.Proofs.YtodpaeaeigjmdaaDoor.st
open Go.Proofs.YtodpaeaeigjmdaaDoor.nums
set_option linter.unusedVariables false

/-- A stamp. -/
structure StL where
  wall : Int
  tie : Int
deriving DecidableEq
/-- An attempt. -/
structure TrL where
  node : Int
  life : Int
  seq : Int
  att : Int
deriving DecidableEq
def lessF (a b : StL) : Bool := decide (a.wall < b.wall) || (decide (a.wall = b.wall) && decide (a.tie < b.tie))
def maxF (a b : StL) : StL := if lessF a b then b else a
def lessT (a b : TrL) : Bool :=
  if a.node ≠ b.node then decide (a.node < b.node) else if a.life ≠ b.life then decide (a.life < b.life) else if a.seq ≠ b.seq then decide (a.seq < b.seq) else decide (a.att < b.att)
/-- Stamps stand in a line. -/
theorem less_irr (a b : StL) : (decide (a = b) = (!lessF a b && !lessF b a)) := by
  obtain ⟨p, q⟩ := a
  obtain ⟨r, s⟩ := b
  unfold lessF
  by_cases h1 : p < r
  · have h2 : ¬ p = r := by omega
    simp [h1, h2]
  · by_cases h3 : r < p
    · have h2 : ¬ p = r := by omega
      have h4 : ¬ r = p := by omega
      simp [h1, h2, h3]
    · obtain rfl : p = r := by omega
      by_cases h5 : q < s
      · have : ¬ q = s := by omega
        simp [h5, this]
      · by_cases h6 : s < q
        · have : ¬ q = s := by omega
          simp [h6, this]
        · obtain rfl : q = s := by omega
          simp
def TrL.row (a : TrL) : List Int := [a.node, a.life, a.seq, a.att]
theorem lessT_at (a b : TrL) (j : Nat) (hj : j < 4) (h : ∀ k, k < j → a.row.getD k 0 = b.row.getD k 0) (hne : a.row.getD j 0 ≠ b.row.getD j 0) : lessT a b = decide (a.row.getD j 0 < b.row.getD j 0) := by
  obtain ⟨a0, a1, a2, a3⟩ := a
  obtain ⟨b0, b1, b2, b3⟩ := b
  unfold lessT
  dsimp only
  rcases j with _ | _ | _ | _ | j
  · have h0 : ¬ a0 = b0 := hne
    rw [if_pos h0]; rfl
  · have h0 : a0 = b0 := h 0 (by omega)
    have h1 : ¬ a1 = b1 := hne
    rw [if_neg (by simp [h0]), if_pos h1]; rfl
  · have h0 : a0 = b0 := h 0 (by omega)
    have h1 : a1 = b1 := h 1 (by omega)
    have h2 : ¬ a2 = b2 := hne
    rw [if_neg (by simp [h0]), if_neg (by simp [h1]), if_pos h2]; rfl
  · have h0 : a0 = b0 := h 0 (by omega)
    have h1 : a1 = b1 := h 1 (by omega)
    have h2 : a2 = b2 := h 2 (by omega)
    rw [if_neg (by simp [h0]), if_neg (by simp [h1]), if_neg (by simp [h2])]; rfl
  · omega
theorem lessT_end (a b : TrL) (h : ∀ k, k < 4 → a.row.getD k 0 = b.row.getD k 0) : lessT a b = false := by
  obtain ⟨a0, a1, a2, a3⟩ := a
  obtain ⟨b0, b1, b2, b3⟩ := b
  obtain rfl : a0 = b0 := h 0 (by omega)
  obtain rfl : a1 = b1 := h 1 (by omega)
  obtain rfl : a2 = b2 := h 2 (by omega)
  obtain rfl : a3 = b3 := h 3 (by omega)
  simp [lessT]
/-- The ties there are not. -/
def tieBad (n l s a : Int) : Prop := n < 1 ∨ 9 < n ∨ a < 0 ∨ 15 < a ∨ l < 0 ∨ 1048576 ≤ l ∨ s < 0 ∨ 16777216 ≤ s
instance (n l s a : Int) : Decidable (tieBad n l s a) := by unfold tieBad; infer_instance
def tieF (n l s a : Int) : Int := if tieBad n l s a then 0 else ((n * 1048576 + l) * 16777216 + s) * 16 + a
def tieE (n l s a : Int) : Int := if tieBad n l s a then 1 else 0
def limBad (w o : Int) : Prop := w < 0 ∨ o < 0 ∨ 4611686018427387904 ≤ w ∨ 4611686018427387903 - w < o
instance (w o : Int) : Decidable (limBad w o) := by unfold limBad; infer_instance
def limF (w o : Int) : Int := if limBad w o then 0 else w + o + 1
def limE (w o : Int) : Int := if limBad w o then 5 else 0
def readF (w r : Int) : Int := max w (min (max r 0) 1125899906842624)
/-- No two ties are alike. -/
theorem tie_inj {n l s a n' l' s' a' : Int} (h : ¬ tieBad n l s a) (h' : ¬ tieBad n' l' s' a') (he : tieF n l s a = tieF n' l' s' a') : n = n' ∧ l = l' ∧ s = s' ∧ a = a' := by
  unfold tieF at he
  rw [if_neg h, if_neg h'] at he
  unfold tieBad at h h'
  omega
/-- The stamp that bytes are, and the error. -/
def takeF (l : List Int) : StL := if l.length = 16 then ⟨beV (l.take 8) - 9223372036854775808, beV (l.drop 8) - 9223372036854775808⟩ else ⟨0, 0⟩
def takeE (l : List Int) : Int := if l.length < 16 then 2 else if 16 < l.length then 3 else 0
def I64 (x : Int) : Prop := -9223372036854775808 ≤ x ∧ x ≤ 9223372036854775807
def StL.ok (a : StL) : Prop := I64 a.wall ∧ I64 a.tie
def TrL.ok (a : TrL) : Prop := I64 a.node ∧ I64 a.life ∧ I64 a.seq ∧ I64 a.att
instance (x : Int) : Decidable (I64 x) := by unfold I64; infer_instance
instance (a : StL) : Decidable a.ok := by unfold StL.ok; infer_instance
instance (a : TrL) : Decidable a.ok := by unfold TrL.ok; infer_instance
/-- The bytes of a stamp. -/
def stB (a : StL) : List Int := beB (a.wall + 9223372036854775808) 8 ++ beB (a.tie + 9223372036854775808) 8
end Go.Proofs.YtodpaeaeigjmdaaDoor.st
