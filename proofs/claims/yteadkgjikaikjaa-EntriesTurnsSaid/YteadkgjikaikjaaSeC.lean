/- How many nodes sets have; sets of so many nodes that meet or do not. It speaks of no program. -/
import Derived.Test.YteadkgjikaikjaaSeR
namespace Go.Proofs.Yteadkgjikaikjaa.se
open Go.RowKit Go.Proofs.Yteadkgjikaikjaa.nums
set_option linter.unusedVariables false

/-- A set's nodes from 1 to k. -/
def lowF (x k : Nat) : Nat := x % 2 ^ (k + 1) - x % 2
theorem lowF_zero (x : Nat) : lowF x 0 = 0 := by simp [lowF]
theorem lowF_lt (x k : Nat) : lowF x k < 2 ^ (k + 1) := Nat.lt_of_le_of_lt (Nat.sub_le _ _) (Nat.mod_lt _ (Nat.two_pow_pos _))
theorem lowF_succ (x k : Nat) (hk : k < 9) : lowF x (k + 1) = if x.testBit (k + 1) then withF (lowF x k) ((k + 1 : Nat) : Int) else lowF x k := by
  have hm : x % 2 ≤ x % 2 ^ (k + 1) := by
    have := sumL_to x k (by omega)
    omega
  have hno : hasF (lowF x k) ((k + 1 : Nat) : Int) = false := by
    rw [hasF_node (by omega) (by omega)]; exact Nat.testBit_lt_two_pow (lowF_lt x k)
  rw [withF_add hno, bitF_node (by omega) (by omega)]
  unfold lowF
  rw [mod_succ x (k + 1)]
  cases x.testBit (k + 1)
  · simp
  · simp only [Bool.toNat_true, Nat.mul_one, if_true]
    omega
theorem lowF_all (x : Nat) : lowF x 9 = x &&& 1022 := (and_1022 x).symm
/-- How many nodes from 1 to k a set has. -/
def cntTo (s : Nat) : Nat → Nat
  | 0 => 0
  | k + 1 => cntTo s k + (s.testBit (k + 1)).toNat
def cntF (s : Nat) : Nat := cntTo s 9
theorem cntTo_list (s k : Nat) : (listTo s k).length = cntTo s k := by
  induction k with
  | zero => rfl
  | succ k ih =>
    simp only [listTo, cntTo]
    cases s.testBit (k + 1) <;> simp [ih]
theorem cntF_list (s : Nat) : (listF s).length = cntF s := cntTo_list s 9
theorem cntTo_le (s k : Nat) : cntTo s k ≤ k := by rw [← cntTo_list]; exact listTo_le s k
theorem cntF_le (s : Nat) : cntF s ≤ 9 := cntTo_le s 9
theorem cnt_join (a b k : Nat) : cntTo (a ||| b) k + cntTo (a &&& b) k = cntTo a k + cntTo b k := by
  induction k with
  | zero => rfl
  | succ k ih =>
    simp only [cntTo, Nat.testBit_or, Nat.testBit_and]
    cases a.testBit (k + 1) <;> cases b.testBit (k + 1) <;> simp <;> omega
theorem cnt_zero (k : Nat) : cntTo 0 k = 0 := by
  induction k with
  | zero => rfl
  | succ k ih => simp [cntTo, ih]
theorem cnt_mono {a b : Nat} (h : a &&& b = a) (k : Nat) : cntTo a k ≤ cntTo b k := by
  induction k with
  | zero => exact Nat.le_refl _
  | succ k ih =>
    have h1 : (a &&& b).testBit (k + 1) = a.testBit (k + 1) := by rw [h]
    rw [Nat.testBit_and] at h1
    simp only [cntTo]
    revert h1
    cases a.testBit (k + 1) <;> cases b.testBit (k + 1) <;> simp <;> omega
/-- A set and what it has of another, and what it has not. -/
theorem cnt_split (a b k : Nat) : cntTo (a &&& b) k + cntTo (a ^^^ (a &&& b)) k = cntTo a k := by
  induction k with
  | zero => rfl
  | succ k ih =>
    simp only [cntTo, Nat.testBit_xor, Nat.testBit_and]
    cases a.testBit (k + 1) <;> cases b.testBit (k + 1) <;> simp <;> omega
/-- Any number of a set's nodes can be picked. -/
theorem cnt_pick (s : Nat) : ∀ (k m : Nat), m ≤ cntTo s k → ∃ t, t &&& s = t ∧ t < 2 ^ (k + 1) ∧ t % 2 = 0 ∧ cntTo t k = m := by
  intro k
  induction k with
  | zero => intro m hm; exact ⟨0, by simp, by simp, rfl, by simp [cntTo] at hm ⊢; omega⟩
  | succ k ih =>
    intro m hm
    have hp : 2 ^ (k + 2) = 2 ^ (k + 1) * 2 := Nat.pow_succ ..
    have hq : 2 ^ (k + 1) = 2 ^ k * 2 := Nat.pow_succ ..
    simp only [cntTo] at hm
    by_cases h : m ≤ cntTo s k
    · obtain ⟨t, h1, h2, h3, h4⟩ := ih m h
      refine ⟨t, h1, by omega, h3, ?_⟩
      simp only [cntTo, Nat.testBit_lt_two_pow h2, h4]
      rfl
    · cases hb : s.testBit (k + 1)
      · rw [hb] at hm; simp at hm; omega
      · rw [hb] at hm
        simp at hm
        obtain ⟨t, h1, h2, h3, h4⟩ := ih (m - 1) (by omega)
        have hn : t.testBit (k + 1) = false := Nat.testBit_lt_two_pow h2
        have hlow : ∀ i, (t + 2 ^ (k + 1)).testBit i = (t.testBit i || decide (k + 1 = i)) := fun i => by rw [add_bit hn, Nat.testBit_or, Nat.testBit_two_pow]
        have hc : ∀ j, j ≤ k → cntTo (t + 2 ^ (k + 1)) j = cntTo t j := by
          intro j
          induction j with
          | zero => intro _; rfl
          | succ j ihj =>
            intro hj
            simp only [cntTo, hlow]
            rw [ihj (by omega)]
            simp [show k ≠ j by omega]
        refine ⟨t + 2 ^ (k + 1), ?_, by omega, by omega, ?_⟩
        · apply Nat.eq_of_testBit_eq
          intro i
          rw [Nat.testBit_and, hlow]
          have h5 : (t &&& s).testBit i = t.testBit i := by rw [h1]
          rw [Nat.testBit_and] at h5
          by_cases e : k + 1 = i
          · subst e; simp [hb]
          · rw [show decide (k + 1 = i) = false from by simp [e], Bool.or_false]; exact h5
        · simp only [cntTo]
          rw [hc k (Nat.le_refl _), hlow, h4]
          simp
          omega
/-- Sets of so many nodes of two sets that have no node in common: there are some just where the numbers leave room. -/
theorem apart_iff (a b e c : Nat) : (∃ x y, x &&& a = x ∧ y &&& b = y ∧ cntF x = e ∧ cntF y = c ∧ cntF (x &&& y) = 0) ↔
    e ≤ cntF a ∧ c ≤ cntF b ∧ (e - cntF (a ^^^ (a &&& b))) + (c - cntF (b ^^^ (b &&& a))) ≤ cntF (a &&& b) := by
  unfold cntF
  constructor
  · rintro ⟨x, y, hx, hy, rfl, rfl, hd⟩
    refine ⟨cnt_mono hx 9, cnt_mono hy 9, ?_⟩
    -- what of x lies in b, and what of y lies in a, lie apart in both
    have sx := cnt_split x b 9
    have sy := cnt_split y a 9
    have mx : cntTo (x ^^^ (x &&& b)) 9 ≤ cntTo (a ^^^ (a &&& b)) 9 := by
      refine cnt_mono ?_ 9
      apply Nat.eq_of_testBit_eq
      intro i
      have h : (x &&& a).testBit i = x.testBit i := by rw [hx]
      simp only [Nat.testBit_and, Nat.testBit_xor] at h ⊢
      revert h
      cases x.testBit i <;> cases a.testBit i <;> cases b.testBit i <;> simp
    have my : cntTo (y ^^^ (y &&& a)) 9 ≤ cntTo (b ^^^ (b &&& a)) 9 := by
      refine cnt_mono ?_ 9
      apply Nat.eq_of_testBit_eq
      intro i
      have h : (y &&& b).testBit i = y.testBit i := by rw [hy]
      simp only [Nat.testBit_and, Nat.testBit_xor] at h ⊢
      revert h
      cases y.testBit i <;> cases a.testBit i <;> cases b.testBit i <;> simp
    have hj := cnt_join (x &&& b) (y &&& a) 9
    have h0 : cntTo ((x &&& b) &&& (y &&& a)) 9 ≤ cntTo (x &&& y) 9 := by
      refine cnt_mono ?_ 9
      apply Nat.eq_of_testBit_eq
      intro i
      simp only [Nat.testBit_and]
      cases x.testBit i <;> cases y.testBit i <;> cases a.testBit i <;> cases b.testBit i <;> simp
    have hm : cntTo ((x &&& b) ||| (y &&& a)) 9 ≤ cntTo (a &&& b) 9 := by
      refine cnt_mono ?_ 9
      apply Nat.eq_of_testBit_eq
      intro i
      have h : (x &&& a).testBit i = x.testBit i := by rw [hx]
      have h' : (y &&& b).testBit i = y.testBit i := by rw [hy]
      simp only [Nat.testBit_and, Nat.testBit_or] at h h' ⊢
      revert h h'
      cases x.testBit i <;> cases y.testBit i <;> cases a.testBit i <;> cases b.testBit i <;> simp
    omega
  · rintro ⟨h1, h2, h3⟩
    have sa := cnt_split a b 9
    have sb := cnt_split b a 9
    rw [Nat.and_comm b a] at sb h3
    obtain ⟨p1, q1, q2, _, q3⟩ := cnt_pick (a ^^^ (a &&& b)) 9 (min e (cntTo (a ^^^ (a &&& b)) 9)) (Nat.min_le_right _ _)
    obtain ⟨p2, r1, r2, _, r3⟩ := cnt_pick (b ^^^ (a &&& b)) 9 (min c (cntTo (b ^^^ (a &&& b)) 9)) (Nat.min_le_right _ _)
    obtain ⟨p3, s1, s2, _, s3⟩ := cnt_pick (a &&& b) 9 (e - cntTo (a ^^^ (a &&& b)) 9) (by omega)
    have st := cnt_split (a &&& b) p3 9
    have st2 : (a &&& b) &&& p3 = p3 := by rw [Nat.and_comm]; exact s1
    rw [st2] at st
    obtain ⟨p4, t1, t2, _, t3⟩ := cnt_pick ((a &&& b) ^^^ p3) 9 (c - cntTo (b ^^^ (a &&& b)) 9) (by omega)
    have Q : ∀ i, (p1.testBit i = true → a.testBit i = true ∧ b.testBit i = false) ∧ (p2.testBit i = true → a.testBit i = false ∧ b.testBit i = true) ∧ (p3.testBit i = true → a.testBit i = true ∧ b.testBit i = true) ∧ (p4.testBit i = true → a.testBit i = true ∧ b.testBit i = true ∧ p3.testBit i = false) := by
      intro i
      have e1 : (p1 &&& (a ^^^ (a &&& b))).testBit i = p1.testBit i := by rw [q1]
      have e2 : (p2 &&& (b ^^^ (a &&& b))).testBit i = p2.testBit i := by rw [r1]
      have e3 : (p3 &&& (a &&& b)).testBit i = p3.testBit i := by rw [s1]
      have e4 : (p4 &&& ((a &&& b) ^^^ p3)).testBit i = p4.testBit i := by rw [t1]
      simp only [Nat.testBit_and, Nat.testBit_xor] at e1 e2 e3 e4
      revert e1 e2 e3 e4
      cases p1.testBit i <;> cases p2.testBit i <;> cases p3.testBit i <;> cases p4.testBit i <;> cases a.testBit i <;> cases b.testBit i <;> simp
    have j1 := cnt_join p1 p3 9
    have j2 := cnt_join p2 p4 9
    have z1 : p1 &&& p3 = 0 := by
      apply Nat.eq_of_testBit_eq
      intro i
      obtain ⟨g1, g2, g3, g4⟩ := Q i
      rw [Nat.testBit_and, Nat.zero_testBit]
      revert g1 g3
      cases p1.testBit i <;> cases p3.testBit i <;> cases a.testBit i <;> cases b.testBit i <;> simp
    have z2 : p2 &&& p4 = 0 := by
      apply Nat.eq_of_testBit_eq
      intro i
      obtain ⟨g1, g2, g3, g4⟩ := Q i
      rw [Nat.testBit_and, Nat.zero_testBit]
      revert g2 g4
      cases p2.testBit i <;> cases p4.testBit i <;> cases a.testBit i <;> cases b.testBit i <;> simp
    rw [z1, cnt_zero] at j1
    rw [z2, cnt_zero] at j2
    refine ⟨p1 ||| p3, p2 ||| p4, ?_, ?_, by omega, by omega, ?_⟩
    · apply Nat.eq_of_testBit_eq
      intro i
      obtain ⟨g1, g2, g3, g4⟩ := Q i
      rw [Nat.testBit_and, Nat.testBit_or]
      revert g1 g3
      cases p1.testBit i <;> cases p3.testBit i <;> cases a.testBit i <;> simp
    · apply Nat.eq_of_testBit_eq
      intro i
      obtain ⟨g1, g2, g3, g4⟩ := Q i
      rw [Nat.testBit_and, Nat.testBit_or]
      revert g2 g4
      cases p2.testBit i <;> cases p4.testBit i <;> cases b.testBit i <;> simp
    · have : (p1 ||| p3) &&& (p2 ||| p4) = 0 := by
        apply Nat.eq_of_testBit_eq
        intro i
        obtain ⟨g1, g2, g3, g4⟩ := Q i
        rw [Nat.testBit_and, Nat.testBit_or, Nat.testBit_or, Nat.zero_testBit]
        revert g1 g2 g3 g4
        cases p1.testBit i <;> cases p2.testBit i <;> cases p3.testBit i <;> cases p4.testBit i <;> cases a.testBit i <;> cases b.testBit i <;> simp
      rw [this, cnt_zero]
end Go.Proofs.Yteadkgjikaikjaa.se
