/- Plain values of rows: what was written is read again. It speaks of no program. -/
import Derived.Test.YtodpaeaeigjmdaaDoorVa
namespace Go.Proofs.YtodpaeaeigjmdaaDoor.va
open Go Go.Proofs.YtodpaeaeigjmdaaDoor.nums Go.Proofs.YtodpaeaeigjmdaaDoor.st
set_option linter.unusedVariables false

theorem tkT_esc : ∀ (t s : List Int) (i : Int) (rest : List Int), s.length + t.length ≤ 64 → tkT (esc t ++ ([0, 1] ++ rest)) s i = (⟨3, 0, s ++ t⟩, i + (esc t).length + 2, 0)
  | [], s, i, rest, _ => by simp [esc, tkT]
  | x :: t, s, i, rest, h => by
    have h64 : ¬ s.length = 64 := by simp at h; omega
    by_cases h0 : x = 0
    · subst h0
      have ih := tkT_esc t (s ++ [0]) (i + 2) rest (by simp at h ⊢; omega)
      simp only [esc, if_true, List.cons_append]
      unfold tkT
      simp only [if_true, show ¬ (255 : Int) = 1 by decide, if_false, ne_eq, not_true_eq_false, h64]
      simp only [List.cons_append, List.nil_append] at ih ⊢
      rw [ih]
      simp
      omega
    · have ih := tkT_esc t (s ++ [x]) (i + 1) rest (by simp at h ⊢; omega)
      simp only [esc, h0, if_false, List.cons_append]
      unfold tkT
      simp only [h0, if_false, h64]
      simp only [List.cons_append, List.nil_append] at ih ⊢
      rw [ih]
      simp
      omega
theorem tkF_key (v : VaL) (hv : v.ok) (m : mayP v) (rest : List Int) : tkF (keyF v ++ rest) = (v, ((keyF v).length : Int), 0) := by
  unfold keyF
  rw [if_pos m]
  obtain ⟨k, n, s⟩ := v
  obtain ⟨hk, hn, hs⟩ := hv
  unfold mayP at m
  unfold keyT
  dsimp only at *
  rcases m with ⟨rfl, rfl, rfl⟩ | ⟨rfl, h, rfl⟩ | ⟨rfl, rfl⟩ | ⟨rfl, rfl, h⟩
  · simp [tkF, zeroV]
  · have : ¬ (1 : Int) < n := by omega
    simp [tkF, this]
  · have h1 : ¬ (2 : Int) = 0 := by decide
    have h2 : ¬ (2 : Int) = 1 := by decide
    have hl := beB_length (n + 9223372036854775808) 8
    have hb := beV_beB8 (n + 9223372036854775808) (by unfold I64 at hn; omega) (by unfold I64 at hn; omega)
    simp only [if_neg h2, if_true, tkF, if_neg h1, List.cons_append]
    generalize beB (n + 9223372036854775808) 8 = q at *
    rw [if_neg (by rw [List.length_append]; omega), List.take_append_of_le_length (by omega), List.take_of_length_le (by omega), hb]
    simp [hl]
  · have h1 : ¬ (3 : Int) = 0 := by decide
    have h2 : ¬ (3 : Int) = 1 := by decide
    have h3 : ¬ (3 : Int) = 2 := by decide
    have h4 := tkT_esc s [] 1 rest (by simpa using h)
    simp only [if_neg h2, if_neg h3, if_true, tkF, if_neg h1, List.cons_append, List.append_assoc]
    simp only [List.cons_append, List.nil_append] at h4 ⊢
    rw [h4]
    simp
    omega
theorem tpF_plain (v : VaL) (hv : v.ok) (m : mayP v) (rest : List Int) : tpF (plainF v ++ rest) = (v, ((plainF v).length : Int), 0) := by
  unfold plainF
  rw [if_pos m]
  obtain ⟨k, n, s⟩ := v
  obtain ⟨hk, hn, hs⟩ := hv
  unfold mayP at m
  unfold plainT
  dsimp only at *
  rcases m with ⟨rfl, rfl, rfl⟩ | ⟨rfl, h, rfl⟩ | ⟨rfl, rfl⟩ | ⟨rfl, rfl, h⟩
  · simp [tpF, tkF, zeroV]
  · have : ¬ (1 : Int) < n := by omega
    simp [tpF, tkF, this]
  · have h1 : ¬ ((2 : Int) = 0 ∨ (2 : Int) = 1) := by decide
    have h2 : ¬ (2 : Int) = 1 := by decide
    have hz : 0 ≤ zigF n ∧ zigF n ≤ 18446744073709551615 := by unfold zigF; unfold I64 at hn; split <;> omega
    have ht := takeV_varB hz.1 hz.2 rest
    simp only [if_neg h2, if_true, tpF, if_neg h1, List.cons_append]
    rw [ht]
    simp [zag_zig]
  · have h1 : ¬ ((3 : Int) = 0 ∨ (3 : Int) = 1) := by decide
    have h2 : ¬ (3 : Int) = 1 := by decide
    have h3 : ¬ (3 : Int) = 2 := by decide
    have ht := takeV_varB (u := s.length) (by omega) (by omega) (s ++ rest)
    obtain ⟨t1, t2, t3⟩ := t_ok ht (by omega) (by simp)
    rw [List.drop_left, List.take_left] at t3
    simp only [if_neg h2, if_neg h3, if_true, tpF, if_neg h1, List.cons_append, List.append_assoc]
    rw [t1, t2, t3]
    have h5 : ¬ 64 < s.length := by omega
    simp [h5]
theorem byt_cons {x : Int} {l : List Int} (h0 : 0 ≤ x ∧ x ≤ 255) (h : Byt l) : Byt (x :: l) := fun y hy => by
  rcases List.mem_cons.1 hy with rfl | hy
  · exact h0
  · exact h y hy
theorem byt_nil : Byt [] := fun x hx => by cases hx
theorem byt_esc : ∀ l : List Int, Byt l → Byt (esc l)
  | [], _ => byt_nil
  | y :: l, h => by
    have h1 := h y (by simp)
    have h2 := byt_esc l (fun z hz => h z (List.mem_cons_of_mem _ hz))
    by_cases h0 : y = 0
    · simp only [esc, h0, if_true]
      exact byt_cons (by omega) (byt_cons (by omega) h2)
    · simp only [esc, h0, if_false]
      exact byt_cons h1 h2
theorem esc_length (s : List Int) : (esc s).length ≤ 2 * s.length := by
  induction s with
  | nil => simp [esc]
  | cons x s ih => by_cases h : x = 0 <;> simp [esc, h] <;> omega
theorem keyF_byt (v : VaL) (hv : v.ok) : Byt (keyF v) ∧ (keyF v).length ≤ 131 := by
  unfold keyF
  by_cases m : mayP v
  · rw [if_pos m]
    obtain ⟨k, n, s⟩ := v
    obtain ⟨hk, hn, hs⟩ := hv
    unfold mayP at m
    unfold keyT
    dsimp only at *
    rcases m with ⟨rfl, rfl, rfl⟩ | ⟨rfl, h, rfl⟩ | ⟨rfl, rfl⟩ | ⟨rfl, rfl, h⟩
    · exact ⟨byt_cons (by omega) byt_nil, by decide⟩
    · exact ⟨byt_cons (by omega) (byt_cons (by omega) byt_nil), by simp⟩
    · rw [if_neg (by decide), if_pos rfl]
      exact ⟨byt_cons (by omega) (beB_byt _ _), by rw [List.length_cons, beB_length]; omega⟩
    · rw [if_neg (by decide), if_neg (by decide), if_pos rfl]
      have hl := esc_length s
      exact ⟨byt_cons (by omega) ((byt_esc s hs).append (byt_cons (by omega) (byt_cons (by omega) byt_nil))), by simp; omega⟩
  · rw [if_neg m]
    exact ⟨byt_nil, by simp⟩
theorem plainF_byt (v : VaL) (hv : v.ok) : Byt (plainF v) ∧ (plainF v).length ≤ 131 := by
  unfold plainF
  by_cases m : mayP v
  · rw [if_pos m]
    obtain ⟨k, n, s⟩ := v
    obtain ⟨hk, hn, hs⟩ := hv
    unfold mayP at m
    unfold plainT
    dsimp only at *
    rcases m with ⟨rfl, rfl, rfl⟩ | ⟨rfl, h, rfl⟩ | ⟨rfl, rfl⟩ | ⟨rfl, rfl, h⟩
    · exact ⟨byt_cons (by omega) byt_nil, by decide⟩
    · exact ⟨byt_cons (by omega) (byt_cons (by omega) byt_nil), by simp⟩
    · rw [if_neg (by decide), if_pos rfl]
      have hz : 0 ≤ zigF n := by unfold zigF; split <;> omega
      have hl := (varB_length (zigF n)).2
      exact ⟨byt_cons (by omega) (varB_byt hz), by rw [List.length_cons]; omega⟩
    · rw [if_neg (by decide), if_neg (by decide), if_pos rfl]
      have hl := (varB_length (s.length : Int)).2
      exact ⟨byt_cons (by omega) ((varB_byt (by omega)).append hs), by rw [List.length_cons, List.length_append]; omega⟩
  · rw [if_neg m]
    exact ⟨byt_nil, by simp⟩
end Go.Proofs.YtodpaeaeigjmdaaDoor.va
