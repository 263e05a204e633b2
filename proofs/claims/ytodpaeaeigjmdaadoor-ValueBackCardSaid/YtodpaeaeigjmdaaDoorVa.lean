/- Plain values of rows: which may be, how they are written and read, how they stand. It speaks of no program. -/
import Derived.Test.YtodpaeaeigjmdaaDoorLex
import Derived.Test.YtodpaeaeigjmdaaDoorArith
namespace Go.Proofs.YtodpaeaeigjmdaaDoor.va
open Go Go.Proofs.YtodpaeaeigjmdaaDoor.nums Go.Proofs.YtodpaeaeigjmdaaDoor.st
set_option linter.unusedVariables false

/-- A value; its text by bytes. -/
structure VaL where
  kind : Int
  n : Int
  s : List Int
deriving DecidableEq
def zeroV : VaL := ⟨0, 0, []⟩
def VaL.ok (a : VaL) : Prop := I64 a.kind ∧ I64 a.n ∧ Byt a.s
/-- Which may be. -/
def mayP (a : VaL) : Prop := (a.kind = 0 ∧ a.n = 0 ∧ a.s = []) ∨ (a.kind = 1 ∧ (a.n = 0 ∨ a.n = 1) ∧ a.s = []) ∨ (a.kind = 2 ∧ a.s = []) ∨ (a.kind = 3 ∧ a.n = 0 ∧ a.s.length ≤ 64)
instance (a : VaL) : Decidable (mayP a) := by unfold mayP; infer_instance
def esc : List Int → List Int
  | [] => []
  | x :: l => if x = 0 then 0 :: 255 :: esc l else x :: esc l
/-- What a value that may be is written as behind its kind, in order and plainly. -/
def keyT (a : VaL) : List Int := if a.kind = 1 then [a.n] else if a.kind = 2 then beB (a.n + 9223372036854775808) 8 else if a.kind = 3 then esc a.s ++ [0, 1] else []
def plainT (a : VaL) : List Int := if a.kind = 1 then [a.n] else if a.kind = 2 then varB (zigF a.n) else if a.kind = 3 then varB a.s.length ++ a.s else []
def keyF (a : VaL) : List Int := if mayP a then a.kind :: keyT a else []
def plainF (a : VaL) : List Int := if mayP a then a.kind :: plainT a else []
/-- The text that a key's bytes are, behind s; the place is i. -/
def tkT : List Int → List Int → Int → VaL × Int × Int
  | [], _, _ => (zeroV, 0, 2)
  | x :: r, s, i =>
    if x = 0 then
      match r with
      | [] => (zeroV, 0, 2)
      | y :: r' => if y = 1 then (⟨3, 0, s⟩, i + 2, 0) else if y ≠ 255 then (zeroV, 0, 9) else if s.length = 64 then (zeroV, 0, 3) else tkT r' (s ++ [0]) (i + 2)
    else if s.length = 64 then (zeroV, 0, 3) else tkT r (s ++ [x]) (i + 1)
def tkF : List Int → VaL × Int × Int
  | [] => (zeroV, 0, 2)
  | x :: r =>
    if x = 0 then (zeroV, 1, 0)
    else if x = 1 then (match r with | [] => (zeroV, 0, 2) | y :: _ => if 1 < y then (zeroV, 0, 9) else (⟨1, y, []⟩, 2, 0))
    else if x = 2 then (if r.length < 8 then (zeroV, 0, 2) else (⟨2, beV (r.take 8) - 9223372036854775808, []⟩, 9, 0))
    else if x = 3 then tkT r [] 1
    else (zeroV, 0, 9)
def tpF : List Int → VaL × Int × Int
  | [] => (zeroV, 0, 2)
  | x :: r =>
    if x = 0 ∨ x = 1 then tkF (x :: r)
    else if x = 2 then (if (takeV r).2.2 ≠ 0 then (zeroV, 0, (takeV r).2.2) else (⟨2, zagF (takeV r).1, []⟩, (takeV r).2.1 + 1, 0))
    else if x = 3 then (if tErr r ≠ 0 then (zeroV, 0, tErr r) else if 64 < (tTxt r).length then (zeroV, 0, 3) else (⟨3, 0, tTxt r⟩, tEnd r + 1, 0))
    else (zeroV, 0, 9)
/-- Bytes in the order of texts. -/
def lexB : List Int → List Int → Bool
  | _, [] => false
  | [], _ :: _ => true
  | x :: l, y :: m => decide (x < y) || (decide (x = y) && lexB l m)
def sgn (b : Bool) : Int := if b then -1 else 1
def cmpV (a b : VaL) : Int := if a.kind ≠ b.kind then sgn (decide (a.kind < b.kind)) else if a.n ≠ b.n then sgn (decide (a.n < b.n)) else if a.s ≠ b.s then sgn (lexB a.s b.s) else 0
/-- Digits of a number, the lowest last. -/
def digN : Nat → Int → List Int
  | 0, _ => []
  | k + 1, u => if u = 0 then [] else digN k (u / 10) ++ [48 + u % 10]
def digF (v : Int) : List Int := if v = 0 then [48] else if v < 0 then 45 :: digN 20 (-v) else digN 20 v
def quo : List Int → List Int
  | [] => []
  | x :: l => if x = 39 then 39 :: 39 :: quo l else x :: quo l
def showF (a : VaL) : List Int :=
  if mayP a then (if a.kind = 0 then [78, 85, 76, 76] else if a.kind = 1 then (if a.n = 1 then [84, 82, 85, 69] else [70, 65, 76, 83, 69]) else if a.kind = 2 then digF a.n else 39 :: (quo a.s ++ [39])) else []

theorem bytesLess_lex : ∀ (l m : List Int), Byt l → Byt m → Op.bytesLess (l.map (fun n => UInt8.ofNat n.toNat)) (m.map (fun n => UInt8.ofNat n.toNat)) = lexB l m
  | [], [], _, _ => rfl
  | _ :: _, [], _, _ => rfl
  | [], _ :: _, _, _ => rfl
  | x :: l, y :: m, hl, hm => by
    have hx := hl x (by simp)
    have hy := hm y (by simp)
    show (decide (UInt8.ofNat x.toNat < UInt8.ofNat y.toNat) || (UInt8.ofNat x.toNat == UInt8.ofNat y.toNat && _)) = _
    rw [u8_lt hx hy, u8_eq hx hy, bytesLess_lex l m (fun z hz => hl z (List.mem_cons_of_mem _ hz)) (fun z hz => hm z (List.mem_cons_of_mem _ hz))]
    rfl
/-- l stands ahead of m by a byte in which they part. -/
def Ahead (l m : List Int) : Prop := ∃ p c d r t, l = p ++ c :: r ∧ m = p ++ d :: t ∧ c < d
theorem Ahead.cons {l m : List Int} (h : Ahead l m) (x : Int) : Ahead (x :: l) (x :: m) := by
  obtain ⟨p, c, d, r, t, rfl, rfl, hc⟩ := h
  exact ⟨x :: p, c, d, r, t, rfl, rfl, hc⟩
theorem Ahead.more {l m : List Int} (h : Ahead l m) (r t : List Int) : Ahead (l ++ r) (m ++ t) := by
  obtain ⟨p, c, d, r', t', rfl, rfl, hc⟩ := h
  exact ⟨p, c, d, r' ++ r, t' ++ t, by simp, by simp, hc⟩
theorem lexB_pre (p l m : List Int) : lexB (p ++ l) (p ++ m) = lexB l m := by
  induction p with
  | nil => rfl
  | cons x p ih => simp [lexB, ih]
theorem Ahead.lex {l m : List Int} (h : Ahead l m) : lexB l m = true ∧ lexB m l = false ∧ l ≠ m ∧ ∀ n, n = min l.length m.length → l.take n ≠ m.take n := by
  obtain ⟨p, c, d, r, t, rfl, rfl, hc⟩ := h
  have hd : ¬ d < c := by omega
  have hne : ¬ d = c := by omega
  refine ⟨by rw [lexB_pre]; simp [lexB, hc], by rw [lexB_pre]; simp [lexB, hd, hne], fun he => ?_, fun n hn he => ?_⟩
  · have := List.append_cancel_left he
    simp only [List.cons.injEq] at this
    omega
  · have h1 : p.length < n := by simp at hn; omega
    have e1 : (p ++ c :: r).take n = p ++ (c :: r).take (n - p.length) := by rw [List.take_append, List.take_of_length_le (by omega)]
    have e2 : (p ++ d :: t).take n = p ++ (d :: t).take (n - p.length) := by rw [List.take_append, List.take_of_length_le (by omega)]
    rw [e1, e2] at he
    have he := List.append_cancel_left he
    obtain ⟨k, hk⟩ : ∃ k, n - p.length = k + 1 := ⟨n - p.length - 1, by omega⟩
    rw [hk, List.take_succ_cons, List.take_succ_cons] at he
    simp only [List.cons.injEq] at he
    omega
theorem ahead_len : ∀ (l m : List Int), l.length = m.length → lexB l m = true → Ahead l m
  | [], [], _, h => by cases h
  | [], _ :: _, h, _ => by cases h
  | _ :: _, [], h, _ => by cases h
  | x :: l, y :: m, hl, h => by
    simp only [lexB, Bool.or_eq_true, decide_eq_true_eq, Bool.and_eq_true] at h
    rcases h with h | ⟨rfl, h⟩
    · exact ⟨[], x, y, l, m, rfl, rfl, h⟩
    · exact (ahead_len l m (by simpa using hl) h).cons x
theorem esc_ahead : ∀ (s t : List Int), Byt s → Byt t → lexB s t = true → Ahead (esc s ++ [0, 1]) (esc t ++ [0, 1])
  | _, [], _, _, h => by simp [lexB] at h
  | [], y :: t, _, ht, _ => by
    have hy := ht y (by simp)
    by_cases h0 : y = 0
    · subst h0
      exact ⟨[0], 1, 255, [], esc t ++ [0, 1], rfl, by simp [esc], by omega⟩
    · exact ⟨[], 0, y, [1], esc t ++ [0, 1], rfl, by simp [esc, h0], by omega⟩
  | x :: s, y :: t, hs, ht, h => by
    have hx := hs x (by simp)
    have hy := ht y (by simp)
    simp only [lexB, Bool.or_eq_true, decide_eq_true_eq, Bool.and_eq_true] at h
    rcases h with h | ⟨rfl, h⟩
    · have hy0 : ¬ y = 0 := by omega
      by_cases h0 : x = 0
      · subst h0
        exact ⟨[], 0, y, 255 :: (esc s ++ [0, 1]), esc t ++ [0, 1], by simp [esc], by simp [esc, hy0], h⟩
      · exact ⟨[], x, y, esc s ++ [0, 1], esc t ++ [0, 1], by simp [esc, h0], by simp [esc, hy0], h⟩
    · have ih := esc_ahead s t (fun z hz => hs z (List.mem_cons_of_mem _ hz)) (fun z hz => ht z (List.mem_cons_of_mem _ hz)) h
      by_cases h0 : x = 0
      · subst h0
        have := (ih.cons 255).cons 0
        simpa [esc] using this
      · have := ih.cons x
        simpa [esc, h0] using this
theorem lexB_irr : ∀ l : List Int, lexB l l = false
  | [] => rfl
  | x :: l => by simp [lexB, lexB_irr l]
theorem lexB_or : ∀ l m : List Int, l ≠ m → lexB l m = true ∨ lexB m l = true
  | [], [], h => absurd rfl h
  | [], _ :: _, _ => .inl rfl
  | _ :: _, [], _ => .inr rfl
  | x :: l, y :: m, h => by
    rcases Int.lt_trichotomy x y with h1 | h1 | h1
    · left; simp [lexB, h1]
    · subst h1
      have hlm : l ≠ m := fun e => h (by rw [e])
      rcases lexB_or l m hlm with h2 | h2
      · left; simp [lexB, h2]
      · right; simp [lexB, h2]
    · right; simp [lexB, h1]
theorem lexB_asym : ∀ l m : List Int, lexB l m = true → lexB m l = false
  | [], [], _ => rfl
  | [], _ :: _, _ => rfl
  | _ :: _, [], h => by cases h
  | x :: l, y :: m, h => by
    simp only [lexB, Bool.or_eq_true, decide_eq_true_eq, Bool.and_eq_true] at h
    rcases h with h | ⟨rfl, h⟩
    · have h1 : ¬ y < x := by omega
      have h2 : ¬ y = x := by omega
      simp [lexB, h1, h2]
    · simp [lexB, lexB_asym l m h]
theorem lexB_trans : ∀ l m k : List Int, lexB l m = true → lexB m k = true → lexB l k = true
  | _, [], _, h, _ => by simp [lexB] at h
  | _, _ :: _, [], _, h => by simp [lexB] at h
  | [], _ :: _, _ :: _, _, _ => rfl
  | x :: l, y :: m, z :: k, h1, h2 => by
    simp only [lexB, Bool.or_eq_true, decide_eq_true_eq, Bool.and_eq_true] at h1 h2 ⊢
    rcases h1 with h1 | ⟨rfl, h1⟩
    · rcases h2 with h2 | ⟨rfl, h2⟩
      · left; omega
      · left; exact h1
    · rcases h2 with h2 | ⟨rfl, h2⟩
      · left; exact h2
      · right; exact ⟨rfl, lexB_trans l m k h1 h2⟩
/-- How two values stand. -/
theorem cmp_way (a b : VaL) : (a = b ∧ cmpV a b = 0) ∨
    ((a.kind < b.kind ∨ (a.kind = b.kind ∧ a.n < b.n) ∨ (a.kind = b.kind ∧ a.n = b.n ∧ lexB a.s b.s = true)) ∧ cmpV a b = -1 ∧ cmpV b a = 1) ∨
    ((b.kind < a.kind ∨ (b.kind = a.kind ∧ b.n < a.n) ∨ (b.kind = a.kind ∧ b.n = a.n ∧ lexB b.s a.s = true)) ∧ cmpV a b = 1 ∧ cmpV b a = -1) := by
  obtain ⟨k, n, s⟩ := a
  obtain ⟨k', n', s'⟩ := b
  unfold cmpV
  dsimp only
  rcases Int.lt_trichotomy k k' with h | h | h
  · right; left
    have h1 : k ≠ k' := by omega
    have h2 : k' ≠ k := by omega
    have h3 : ¬ k' < k := by omega
    exact ⟨.inl h, by rw [if_pos h1]; simp [sgn, h], by rw [if_pos h2]; simp [sgn, h3]⟩
  · subst h
    rcases Int.lt_trichotomy n n' with h | h | h
    · right; left
      have h1 : n ≠ n' := by omega
      have h2 : n' ≠ n := by omega
      have h3 : ¬ n' < n := by omega
      exact ⟨.inr (.inl ⟨rfl, h⟩), by simp [h1, sgn, h], by simp [h2, sgn, h3]⟩
    · subst h
      by_cases hs : s = s'
      · subst hs
        left
        exact ⟨rfl, by simp⟩
      · have hs' : ¬ s' = s := fun h => hs h.symm
        rcases lexB_or s s' hs with h | h
        · right; left
          exact ⟨.inr (.inr ⟨rfl, rfl, h⟩), by simp [hs, sgn, h], by simp [hs', sgn, lexB_asym _ _ h]⟩
        · right; right
          exact ⟨.inr (.inr ⟨rfl, rfl, h⟩), by simp [hs, sgn, lexB_asym _ _ h], by simp [hs', sgn, h]⟩
    · right; right
      have h1 : n ≠ n' := by omega
      have h2 : n' ≠ n := by omega
      have h3 : ¬ n < n' := by omega
      exact ⟨.inr (.inl ⟨rfl, h⟩), by simp [h1, sgn, h3], by simp [h2, sgn, h]⟩
  · right; right
    have h1 : k ≠ k' := by omega
    have h2 : k' ≠ k := by omega
    have h3 : ¬ k < k' := by omega
    exact ⟨.inl h, by rw [if_pos h1]; simp [sgn, h3], by rw [if_pos h2]; simp [sgn, h]⟩
theorem cmp_line (a b c : VaL) : (cmpV a b = -1 ∨ cmpV a b = 0 ∨ cmpV a b = 1) ∧ cmpV b a = - cmpV a b ∧ ¬ (cmpV a b ≤ 0 ∧ cmpV b c ≤ 0 ∧ 0 < cmpV a c) := by
  rcases cmp_way a b with ⟨rfl, h1⟩ | ⟨h0, h1, h2⟩ | ⟨h0, h1, h2⟩
  · exact ⟨by omega, by omega, fun h => by omega⟩
  · refine ⟨by omega, by omega, fun ⟨_, h3, h4⟩ => ?_⟩
    rcases cmp_way b c with ⟨rfl, h5⟩ | ⟨g0, h5, h6⟩ | ⟨g0, h5, h6⟩
    · omega
    · rcases cmp_way a c with ⟨rfl, h7⟩ | ⟨k0, h7, h8⟩ | ⟨k0, h7, h8⟩
      · omega
      · omega
      · rcases h0 with h0 | ⟨e0, h0⟩ | ⟨e0, e0', h0⟩ <;> rcases g0 with g0 | ⟨e1, g0⟩ | ⟨e1, e1', g0⟩ <;> rcases k0 with k0 | ⟨e2, k0⟩ | ⟨e2, e2', k0⟩ <;> try omega
        have h9 := lexB_trans _ _ _ h0 g0
        have h10 := lexB_asym _ _ h9
        rw [k0] at h10
        cases h10
    · omega
  · exact ⟨by omega, by omega, fun h => by omega⟩
theorem key_ahead (a b : VaL) (ha : a.ok) (hb : b.ok) (ma : mayP a) (mb : mayP b) (h : a.kind < b.kind ∨ (a.kind = b.kind ∧ a.n < b.n) ∨ (a.kind = b.kind ∧ a.n = b.n ∧ lexB a.s b.s = true)) : Ahead (keyF a) (keyF b) := by
  unfold keyF
  rw [if_pos ma, if_pos mb]
  obtain ⟨k, n, s⟩ := a
  obtain ⟨k', n', s'⟩ := b
  obtain ⟨hk, hn, hs⟩ := ha
  obtain ⟨hk', hn', hs'⟩ := hb
  dsimp only at *
  rcases h with h | ⟨rfl, h⟩ | ⟨rfl, rfl, h⟩
  · exact ⟨[], k, k', _, _, rfl, rfl, h⟩
  · refine Ahead.cons ?_ k
    unfold mayP at ma mb
    dsimp only at ma mb
    unfold keyT
    dsimp only
    by_cases h1 : k = 1
    · rw [if_pos h1, if_pos h1]
      exact ⟨[], n, n', [], [], rfl, rfl, h⟩
    · by_cases h2 : k = 2
      · rw [if_neg h1, if_pos h2, if_neg h1, if_pos h2]
        refine ahead_len _ _ (by rw [beB_length, beB_length]) ?_
        have h3 := less_beV (beB (n + 9223372036854775808) 8) (beB (n' + 9223372036854775808) 8) (beB_byt _ _) (beB_byt _ _) (by rw [beB_length, beB_length])
        rw [bytesLess_lex _ _ (beB_byt _ _) (beB_byt _ _), beV_beB8 _ (by unfold I64 at hn; omega) (by unfold I64 at hn; omega), beV_beB8 _ (by unfold I64 at hn'; omega) (by unfold I64 at hn'; omega)] at h3
        rw [h3]
        simp
        omega
      · omega
  · refine Ahead.cons ?_ k
    unfold mayP at ma mb
    dsimp only at ma mb
    have h3 : k = 3 := by
      rcases ma with ⟨h1, _, h2⟩ | ⟨h1, _, h2⟩ | ⟨h1, h2⟩ | ⟨h1, _⟩
      · rcases mb with ⟨_, _, g2⟩ | ⟨g1, _⟩ | ⟨g1, _⟩ | ⟨g1, _⟩
        · rw [h2, g2] at h; cases h
        · omega
        · omega
        · omega
      · rcases mb with ⟨g1, _⟩ | ⟨_, _, g2⟩ | ⟨g1, _⟩ | ⟨g1, _⟩
        · omega
        · rw [h2, g2] at h; cases h
        · omega
        · omega
      · rcases mb with ⟨g1, _⟩ | ⟨g1, _⟩ | ⟨_, g2⟩ | ⟨g1, _⟩
        · omega
        · omega
        · rw [h2, g2] at h; cases h
        · omega
      · exact h1
    subst h3
    have e1 : ∀ n s, keyT ⟨3, n, s⟩ = esc s ++ [0, 1] := fun n s => rfl
    rw [e1, e1]
    exact esc_ahead s s' hs hs' h
/-- Keys stand in the order of their values, and none is the beginning of another one. -/
theorem keys_line (a b : VaL) (ha : a.ok) (hb : b.ok) (ma : mayP a) (mb : mayP b) :
    (decide (cmpV a b < 0) = lexB (keyF a) (keyF b)) ∧ (decide (cmpV a b = 0) = decide (keyF a = keyF b)) ∧ (decide (cmpV a b = 0) = decide (a = b)) ∧ (a = b ∨ ∀ n, n = min (keyF a).length (keyF b).length → (keyF a).take n ≠ (keyF b).take n) := by
  rcases cmp_way a b with ⟨rfl, h1⟩ | ⟨h0, h1, h2⟩ | ⟨h0, h1, h2⟩
  · rw [h1]
    exact ⟨by simp [lexB_irr], by simp, by simp, .inl rfl⟩
  · obtain ⟨g1, g2, g3, g4⟩ := (key_ahead a b ha hb ma mb h0).lex
    have hne : a ≠ b := fun e => g3 (by rw [e])
    rw [h1]
    exact ⟨by rw [g1]; simp, by simp [g3], by simp [hne], .inr g4⟩
  · obtain ⟨g1, g2, g3, g4⟩ := (key_ahead b a hb ha mb ma h0).lex
    have hne : a ≠ b := fun e => g3 (by rw [e])
    rw [h1]
    exact ⟨by rw [g2]; simp, by simp [g3.symm], by simp [hne], .inr (fun n hn e => g4 n (by rw [hn]; omega) e.symm)⟩
end Go.Proofs.YtodpaeaeigjmdaaDoor.va
