/- What the document's May and Compare (antipoderef7) come to. Conditions: those that each theorem names. -/
import Derived.Test.YtodpaeaeigjmdaaDoorProg
import Derived.Test.YtodpaeaeigjmdaaDoorKit
import Derived.Test.YtodpaeaeigjmdaaDoorVa
import Derived.Outline
import Derived.Handy
namespace Go.Proofs.YtodpaeaeigjmdaaDoor.ref7
open Go Go.RowKit Go.Proofs.YtodpaeaeigjmdaaDoor.kit Go.Proofs.YtodpaeaeigjmdaaDoor.nums Go.Proofs.YtodpaeaeigjmdaaDoor.st Go.Proofs.YtodpaeaeigjmdaaDoor.va
set_option linter.unusedVariables false

def vaV (a : VaL) : Value := .agg #[.int .i64 a.kind, .int .i64 a.n, .string (strOfNums a.s)]
theorem str_empty (s : List Int) : ((strOfNums s).toList == []) = decide (s = []) := by
  rw [ByteArray.toList_eq]
  cases s with
  | nil => rfl
  | cons x s => simp [strOfNums]
theorem str_eq (l m : List Int) (hl : Byt l) (hm : Byt m) : ((strOfNums l).toList == (strOfNums m).toList) = decide (l = m) := by
  by_cases h : l = m
  · subst h; simp
  · rw [str_beq_ne (fun e => h (str_inj hl hm e))]; simp [h]
theorem str_less (l m : List Int) (hl : Byt l) (hm : Byt m) : Op.bytesLess (strOfNums l).toList (strOfNums m).toList = lexB l m := by
  rw [ByteArray.toList_eq, ByteArray.toList_eq]
  exact bytesLess_lex l m hl hm
set_option maxHeartbeats 1000000 in
theorem may_any (a : VaL) (hl : a.s.length ≤ 1099511627776) (w : World) :
    Calls Tryd.prog 17 #[vaV a] w fun e w' => e = .returned (.bool (decide (mayP a))) ∧ Below w.heap.size w w' := by
  obtain ⟨k, n, s⟩ := a
  have HB : Hid (Below w.heap.size w (w.alloc (.cells #[.int .i64 k, .int .i64 n, .string (strOfNums s)] 24))) := (Below.refl _ _).alloc (Nat.le_refl _) _
  unfold vaV mayP
  dsimp only at hl ⊢
  have hz := strOfNums_size s
  have he := str_empty s
  generalize strOfNums s = T at *
  by_cases h0 : k = 0
  · subst h0
    by_cases h1 : n = 0
    · subst h1
      go_enter Tryd.func17, Tryd.ntmps17
      go_wp2_with fail
      go_ret
      exact ⟨by simp, HB.out⟩
    · have h1' : (n == 0) = false := by simpa using h1
      go_enter Tryd.func17, Tryd.ntmps17
      go_wp2_with fail
      go_ret
      exact ⟨by simp [h1], HB.out⟩
  by_cases h1 : k = 1
  · subst h1
    by_cases h2 : n = 0
    · subst h2
      go_enter Tryd.func17, Tryd.ntmps17
      go_wp2_with fail
      go_ret
      exact ⟨by simp, HB.out⟩
    by_cases h3 : n = 1
    · subst h3
      go_enter Tryd.func17, Tryd.ntmps17
      go_wp2_with fail
      go_ret
      exact ⟨by simp, HB.out⟩
    have h2' : (n == 0) = false := by simpa using h2
    have h3' : (n == 1) = false := by simpa using h3
    go_enter Tryd.func17, Tryd.ntmps17
    go_wp2_with fail
    go_ret
    exact ⟨by simp [h2, h3], HB.out⟩
  by_cases h2 : k = 2
  · subst h2
    go_enter Tryd.func17, Tryd.ntmps17
    go_wp2_with fail
    go_ret
    exact ⟨by simp, HB.out⟩
  by_cases h3 : k = 3
  · subst h3
    by_cases h4 : n = 0
    · subst h4
      by_cases h5 : s.length ≤ 64
      · go_enter Tryd.func17, Tryd.ntmps17
        go_wp2_with fail
        go_ret
        exact ⟨by simp [h5]; omega, HB.out⟩
      · go_enter Tryd.func17, Tryd.ntmps17
        go_wp2_with fail
        go_ret
        exact ⟨by simp [h5]; omega, HB.out⟩
    · have h4' : (n == 0) = false := by simpa using h4
      go_enter Tryd.func17, Tryd.ntmps17
      go_wp2_with fail
      go_ret
      exact ⟨by simp [h4], HB.out⟩
  have h0' : (k == 0) = false := by simpa using h0
  have h1' : (k == 1) = false := by simpa using h1
  have h2' : (k == 2) = false := by simpa using h2
  have h3' : (k == 3) = false := by simpa using h3
  go_enter Tryd.func17, Tryd.ntmps17
  go_wp2_with fail
  go_ret
  exact ⟨by simp [h0, h1, h2, h3], HB.out⟩
theorem sign_any (b : Bool) (w : World) : Calls Tryd.prog 55 #[.bool b] w fun e w' => e = .returned (.int .i64 (sgn b)) ∧ w = w' := by
  rcases b with _ | _
  all_goals
    go_enter Tryd.func55, Tryd.ntmps55
    go_wp2_with fail
    go_ret
    exact ⟨rfl, rfl⟩
set_option maxHeartbeats 1000000 in
theorem cmp_any (a b : VaL) (ha : a.ok) (hb : b.ok) (w : World) :
    Calls Tryd.prog 26 #[vaV a, vaV b] w fun e w' => e = .returned (.int .i64 (cmpV a b)) ∧ Below w.heap.size w w' := by
  have SG := Lib.hid sign_any
  obtain ⟨k, n, s⟩ := a
  obtain ⟨k', n', s'⟩ := b
  have HB : Hid (Below w.heap.size w ((w.alloc (.cells #[.int .i64 k, .int .i64 n, .string (strOfNums s)] 24)).alloc (.cells #[.int .i64 k', .int .i64 n', .string (strOfNums s')] 24))) := ((Below.refl _ _).alloc (Nat.le_refl _) _).alloc (by simp) _
  have he := str_eq s s' ha.2.2 hb.2.2
  have hL := str_less s s' ha.2.2 hb.2.2
  clear ha hb
  have HC : Hid (cmpV ⟨k, n, s⟩ ⟨k', n', s'⟩ = if k ≠ k' then sgn (decide (k < k')) else if n ≠ n' then sgn (decide (n < n')) else if s ≠ s' then sgn (lexB s s') else 0) := Lib.hid rfl
  unfold vaV
  dsimp only at he hL ⊢
  generalize cmpV ⟨k, n, s⟩ ⟨k', n', s'⟩ = z at *
  generalize strOfNums s = T at *
  generalize strOfNums s' = T' at *
  by_cases h0 : k = k'
  · subst h0
    by_cases h1 : n = n'
    · subst h1
      by_cases h2 : s = s'
      · rw [show decide (s = s') = true by simp [h2]] at he
        have hz : Hid (z = 0) := by rw [HC.out]; simp [h2, Hid]
        clear HC hL h2
        go_enter Tryd.func26, Tryd.ntmps26
        go_wp2_with fail
        go_ret
        exact ⟨by rw [hz.out]; rfl, HB.out⟩
      · rw [show decide (s = s') = false by simp [h2]] at he
        have hz : Hid (z = sgn (lexB s s')) := by rw [HC.out]; simp [h2, Hid]
        clear HC h2
        go_enter Tryd.func26, Tryd.ntmps26
        go_wp2_with fail
        refine (SG.out _ _).mono ?_
        rintro e w2 ⟨rfl, rfl⟩
        go_wp2_with fail
        go_ret
        exact ⟨by rw [hz.out]; rfl, HB.out⟩
    · have h1' : (n == n') = false := by simpa using h1
      have hz : Hid (z = sgn (decide (n < n'))) := by rw [HC.out]; simp [h1, Hid]
      clear HC
      go_enter Tryd.func26, Tryd.ntmps26
      go_wp2_with fail
      refine (SG.out _ _).mono ?_
      rintro e w2 ⟨rfl, rfl⟩
      go_wp2_with fail
      go_ret
      exact ⟨by rw [hz.out]; rfl, HB.out⟩
  · have h0' : (k == k') = false := by simpa using h0
    have hz : Hid (z = sgn (decide (k < k'))) := by rw [HC.out]; simp [h0, Hid]
    clear HC
    go_enter Tryd.func26, Tryd.ntmps26
    go_wp2_with fail
    refine (SG.out _ _).mono ?_
    rintro e w2 ⟨rfl, rfl⟩
    go_wp2_with fail
    go_ret
    exact ⟨by rw [hz.out]; rfl, HB.out⟩
end Go.Proofs.YtodpaeaeigjmdaaDoor.ref7
