/- More of sets as numbers: what the operators of uint16 do to nodes' bits; the least greater subset by '(x - s) & s'; a walk over all numbers. It speaks of no program. -/
import Derived.Test.YteadkgjikaikjaaSeP
namespace Go.Proofs.Yteadkgjikaikjaa.se
open Go.RowKit Go.Proofs.Yteadkgjikaikjaa.nums
set_option linter.unusedVariables false

theorem andNot_bv (x y : BitVec 16) : x &&& ~~~y = x ^^^ (x &&& y) := by
  ext i hi
  simp only [BitVec.getElem_and, BitVec.getElem_not, BitVec.getElem_xor]
  cases x[i] <;> cases y[i] <;> rfl
theorem bits_andNot_u16_nat (a b : Nat) (ha : a < 65536) (hb : b < 65536) : bits .andNot .u16 (a : Int) (b : Int) = ((a ^^^ (a &&& b) : Nat) : Int) := by
  show IntKind.u16.wrap ((BitVec.ofInt 16 (a : Int) &&& ~~~BitVec.ofInt 16 (b : Int)).toNat : Int) = _
  rw [andNot_bv, BitVec.toNat_xor, BitVec.toNat_and, bv_nat16 a ha, bv_nat16 b hb, wrap_u16_nat _ (Nat.xor_lt_two_pow (n := 16) ha (Nat.lt_of_le_of_lt Nat.and_le_left ha))]
theorem and_bit (s : Nat) (n : Int) : s &&& bitF n = if hasF s n then bitF n else 0 := by
  cases hn : nodeB n
  · rw [bitF_not hn, hasF_not hn]; simp
  · obtain ⟨k, rfl, h1, h9⟩ := nodeB_nat hn
    rw [bitF_node h1 h9, hasF_node h1 h9]
    apply Nat.eq_of_testBit_eq
    intro i
    rw [Nat.testBit_and, Nat.testBit_two_pow]
    by_cases he : k = i
    · subst he
      cases h : s.testBit k <;> simp
    · cases h : s.testBit k <;> simp [he]
theorem and_bit_zero (s : Nat) (n : Int) : (s &&& bitF n = 0) ↔ hasF s n = false := by
  rw [and_bit]
  cases h : hasF s n
  · simp
  · have := bitF_pos.2 (has_node h)
    simp; omega
theorem less_xor (s : Nat) (n : Int) : s ^^^ (s &&& bitF n) = lessF s n := by
  rw [and_bit]
  unfold lessF
  cases h : hasF s n
  · simp
  · rw [if_pos rfl, if_pos rfl]
    obtain ⟨k, rfl, h1, h9⟩ := nodeB_nat (has_node h)
    rw [hasF_node h1 h9] at h
    rw [bitF_node h1 h9]
    apply Nat.eq_of_testBit_eq
    intro i
    rw [Nat.testBit_xor, less_bit h, Nat.testBit_two_pow]
    by_cases he : i = k
    · subst he; simp [h]
    · simp [he, show k ≠ i from fun e => he e.symm]
theorem may_xor (s : Nat) : (s ^^^ (s &&& 1022) = 0) ↔ mayF s = true := by
  rw [may_of, decide_eq_true_eq]
  constructor
  · intro h
    have := congrArg (fun x => s ^^^ x) h
    simp only [Nat.xor_zero, ← Nat.xor_assoc, Nat.xor_self, Nat.zero_xor] at this
    exact this
  · intro h
    rw [h, Nat.xor_self]
/-- What a subset of the nodes' bits is. -/
theorem subTo_has {s k : Nat} : ∀ {x}, x < 2 ^ (k + 1) → x % 2 = 0 → x &&& s = x → x ∈ subTo s k := by
  induction k with
  | zero => intro x h1 h2 h3; simp [subTo]; have : (2 : Nat) ^ (0 + 1) = 2 := rfl; omega
  | succ k ih =>
    intro x h1 h2 h3
    have hp : 2 ^ (k + 2) = 2 ^ (k + 1) * 2 := Nat.pow_succ ..
    have hq : 2 ^ (k + 1) = 2 ^ k * 2 := Nat.pow_succ ..
    simp only [subTo]
    cases hx : x.testBit (k + 1)
    · have hlt : x < 2 ^ (k + 1) := by
        have e := Nat.mod_eq_of_lt h1
        rw [show k + 1 + 1 = (k + 1) + 1 from rfl, mod_succ, hx] at e
        have := Nat.mod_lt x (Nat.two_pow_pos (k + 1))
        simp at e
        omega
      have := ih hlt h2 h3
      split
      · exact List.mem_append.2 (.inl this)
      · exact this
    · have hs : s.testBit (k + 1) = true := by
        have : (x &&& s).testBit (k + 1) = true := by rw [h3]; exact hx
        rw [Nat.testBit_and, hx] at this
        simpa using this
      rw [hs, if_pos rfl]
      refine List.mem_append.2 (.inr (List.mem_map.2 ⟨x - 2 ^ (k + 1), ih ?_ ?_ ?_, ?_⟩))
      · omega
      · have := bit_le hx; omega
      · apply Nat.eq_of_testBit_eq
        intro i
        have h4 : (x &&& s).testBit i = x.testBit i := by rw [h3]
        rw [Nat.testBit_and] at h4
        rw [Nat.testBit_and, less_bit hx]
        revert h4
        cases x.testBit i <;> cases s.testBit i <;> simp
      · have := bit_le hx; omega
theorem subL_iff {s x : Nat} : x ∈ subL s ↔ x &&& (s &&& 1022) = x := by
  constructor
  · exact fun h => (subL_mem h).2
  · intro h
    have h2 : x ≤ 1022 := by
      have : x &&& (s &&& 1022) ≤ 1022 := Nat.le_trans Nat.and_le_right Nat.and_le_right
      omega
    have h3 : x &&& 1022 = x := by rw [← h, Nat.and_assoc, Nat.and_assoc, Nat.and_self]
    have h4 : x &&& s = x := by
      rw [← h, Nat.and_assoc]
      congr 1
      rw [Nat.and_assoc, Nat.and_comm 1022 s, ← Nat.and_assoc, Nat.and_self]
    have h5 := and_1022 x
    rw [h3] at h5
    refine subTo_has ?_ ?_ h4
    · show x < 1024; omega
    · omega
theorem half_and (a b : Nat) : (a &&& b) / 2 = (a / 2) &&& (b / 2) := Nat.and_div_two ..
theorem low_and (a b : Nat) : (a &&& b) % 2 = a % 2 * (b % 2) := by
  have := Nat.and_mod_two_pow (a := a) (b := b) (n := 1)
  simp only [Nat.pow_one] at this
  rw [this]
  rcases Nat.mod_two_eq_zero_or_one a with e1 | e1 <;> rcases Nat.mod_two_eq_zero_or_one b with e2 | e2 <;> rw [e1, e2] <;> rfl
/-- Adding the bits that s has not, and taking s's of it, turns nothing. -/
theorem no_carry (k : Nat) : ∀ (s x : Nat), s < 2 ^ k → x &&& s = x → (x + (2 ^ k - (s + 1))) &&& s = x := by
  induction k with
  | zero =>
    intro s x h1 h2
    have : s = 0 := by simpa using h1
    subst this
    simp at h2 ⊢
    exact h2
  | succ k ih =>
    intro s x h1 h2
    have hp : 2 ^ (k + 1) = 2 * 2 ^ k := by rw [Nat.pow_succ, Nat.mul_comm]
    have hx : (x / 2) &&& (s / 2) = x / 2 := by rw [← half_and, h2]
    have hx2 : x % 2 * (s % 2) = x % 2 := by rw [← low_and, h2]
    have r := ih (s / 2) (x / 2) (by omega) hx
    obtain ⟨y, hy⟩ : ∃ y, (x + (2 ^ (k + 1) - (s + 1))) &&& s = y := ⟨_, rfl⟩
    have hyd : y / 2 = (x + (2 ^ (k + 1) - (s + 1))) / 2 &&& (s / 2) := by rw [← hy, half_and]
    have hym : y % 2 = (x + (2 ^ (k + 1) - (s + 1))) % 2 * (s % 2) := by rw [← hy, low_and]
    rw [hy]
    have hh : (x + (2 ^ (k + 1) - (s + 1))) / 2 = x / 2 + (2 ^ k - (s / 2 + 1)) := by
      rcases Nat.mod_two_eq_zero_or_one s with e | e
      · rw [e] at hx2; omega
      · omega
    rw [hh, r] at hyd
    rcases Nat.mod_two_eq_zero_or_one s with e | e
    · rw [e] at hx2 hym; omega
    · rw [e] at hym; omega
/-- The least subset above x. -/
theorem ripple (k : Nat) : ∀ (s x : Nat), s < 2 ^ k → x &&& s = x → x ≠ s →
    ((x + (2 ^ k - s)) % 2 ^ k) &&& s &&& s = ((x + (2 ^ k - s)) % 2 ^ k) &&& s ∧ x < ((x + (2 ^ k - s)) % 2 ^ k) &&& s ∧ ∀ z, z &&& s = z → x < z → ((x + (2 ^ k - s)) % 2 ^ k) &&& s ≤ z := by
  induction k with
  | zero => intro s x h1 h2 h3; have : s = 0 := by simpa using h1
            subst this; simp at h2; omega
  | succ k ih =>
    intro s x h1 h2 h3
    refine ⟨by rw [Nat.and_assoc, Nat.and_self], ?_⟩
    have hp : 2 ^ (k + 1) = 2 * 2 ^ k := by rw [Nat.pow_succ, Nat.mul_comm]
    -- halves
    have H : ∀ a b : Nat, (a &&& b) / 2 = (a / 2) &&& (b / 2) := fun a b => Nat.and_div_two ..
    have L : ∀ a b : Nat, (a &&& b) % 2 = a % 2 * (b % 2) := fun a b => by
      have := Nat.and_mod_two_pow (a := a) (b := b) (n := 1)
      simp only [Nat.pow_one] at this
      rw [this]
      rcases Nat.mod_two_eq_zero_or_one a with e1 | e1 <;> rcases Nat.mod_two_eq_zero_or_one b with e2 | e2 <;> rw [e1, e2] <;> rfl
    have hx : (x / 2) &&& (s / 2) = x / 2 := by rw [← H, h2]
    have hx2 : x % 2 * (s % 2) = x % 2 := by rw [← L, h2]
    have hs : s / 2 < 2 ^ k := by omega
    have hle : x ≤ s := by rw [← h2]; exact Nat.and_le_right
    obtain ⟨y, hy⟩ : ∃ y, ((x + (2 ^ (k + 1) - s)) % 2 ^ (k + 1)) &&& s = y := ⟨_, rfl⟩
    have hyd : y / 2 = ((x + (2 ^ (k + 1) - s)) % 2 ^ (k + 1)) / 2 &&& (s / 2) := by rw [← hy, H]
    have hym : y % 2 = ((x + (2 ^ (k + 1) - s)) % 2 ^ (k + 1)) % 2 * (s % 2) := by rw [← hy, L]
    rw [hy]
    have hmd : ((x + (2 ^ (k + 1) - s)) % 2 ^ (k + 1)) / 2 = ((x + (2 ^ (k + 1) - s)) / 2) % 2 ^ k := by rw [hp, Nat.mod_mul_right_div_self]
    have hmm : ((x + (2 ^ (k + 1) - s)) % 2 ^ (k + 1)) % 2 = (x + (2 ^ (k + 1) - s)) % 2 := by rw [hp, Nat.mod_mul_right_mod]
    rw [hmd] at hyd
    rw [hmm] at hym
    have hz : ∀ z, z &&& s = z → (z / 2) &&& (s / 2) = z / 2 ∧ z % 2 * (s % 2) = z % 2 := fun z e => ⟨by rw [← H, e], by rw [← L, e]⟩
    rcases Nat.mod_two_eq_zero_or_one s with e | e
    · have hx0 : x % 2 = 0 := by rw [e] at hx2; omega
      have hne : x / 2 ≠ s / 2 := by omega
      obtain ⟨_, r2, r3⟩ := ih (s / 2) (x / 2) hs hx hne
      have hh : (x + (2 ^ (k + 1) - s)) / 2 = x / 2 + (2 ^ k - s / 2) := by omega
      rw [hh] at hyd
      rw [e] at hym
      rw [← hyd] at r2 r3
      refine ⟨by omega, fun z hz1 hz2 => ?_⟩
      obtain ⟨z1, z2⟩ := hz z hz1
      rw [e] at z2
      have := r3 (z / 2) z1 (by omega)
      omega
    · rw [e, Nat.mul_one] at hym
      rcases Nat.mod_two_eq_zero_or_one x with f | f
      · have hh : (x + (2 ^ (k + 1) - s)) / 2 = x / 2 + (2 ^ k - s / 2 - 1) := by omega
        have hy1 : y % 2 = 1 := by omega
        -- no carry: the upper part keeps
        have hu : (x / 2 + (2 ^ k - s / 2 - 1)) % 2 ^ k &&& (s / 2) = x / 2 := by
          have hxs : x / 2 ≤ s / 2 := by omega
          rw [Nat.mod_eq_of_lt (by omega)]
          have c : 2 ^ k - s / 2 - 1 = 2 ^ k - (s / 2 + 1) := by omega
          rw [c]
          exact no_carry k (s / 2) (x / 2) hs hx
        rw [hh, hu] at hyd
        refine ⟨by omega, fun z hz1 hz2 => ?_⟩
        omega
      · have hne : x / 2 ≠ s / 2 := by omega
        obtain ⟨_, r2, r3⟩ := ih (s / 2) (x / 2) hs hx hne
        have hh : (x + (2 ^ (k + 1) - s)) / 2 = x / 2 + (2 ^ k - s / 2) := by omega
        rw [hh] at hyd
        rw [← hyd] at r2 r3
        have hy0 : y % 2 = 0 := by omega
        refine ⟨by omega, fun z hz1 hz2 => ?_⟩
        obtain ⟨z1, z2⟩ := hz z hz1
        have := r3 (z / 2) z1 (by omega)
        omega
/-- The subset behind the i-th. -/
theorem subL_step {s i x : Nat} (hx : (subL s)[i]? = some x) (hne : x ≠ s &&& 1022) :
    (subL s)[i + 1]? = some (((x + (65536 - (s &&& 1022))) % 65536) &&& (s &&& 1022)) := by
  have hm := (subL_mem (List.mem_of_getElem? hx)).2
  have hS : s &&& 1022 < 2 ^ 16 := Nat.lt_of_le_of_lt Nat.and_le_right (by omega)
  obtain ⟨r1, r2, r3⟩ := ripple 16 (s &&& 1022) x hS hm hne
  rw [show (2 : Nat) ^ 16 = 65536 from rfl] at r1 r2 r3
  generalize ((x + (65536 - (s &&& 1022))) % 65536) &&& (s &&& 1022) = y at *
  obtain ⟨j, hj, hjy⟩ := List.mem_iff_getElem.1 (subL_iff.2 r1)
  obtain ⟨hi, hix⟩ := List.getElem?_eq_some_iff.1 hx
  have hr := List.pairwise_iff_getElem.1 (subTo_rise s 9)
  have hij : i < j := by
    rcases Nat.lt_trichotomy i j with h | h | h
    · exact h
    · subst h; omega
    · have := hr j i hj hi h
      change (subL s)[j] < (subL s)[i] at this
      omega
  have hi1 : i + 1 < (subL s).length := by omega
  have hz : (subL s)[i + 1] &&& (s &&& 1022) = (subL s)[i + 1] := (subL_mem (List.getElem_mem hi1)).2
  have hlt := hr i (i + 1) hi hi1 (by omega)
  change (subL s)[i] < (subL s)[i + 1] at hlt
  have hle := r3 _ hz (by omega)
  by_cases e : i + 1 = j
  · subst e
    rw [List.getElem?_eq_getElem hi1, hjy]
  · have := hr (i + 1) j hi1 hj (by omega)
    change (subL s)[i + 1] < (subL s)[j] at this
    omega
theorem subL_zero (s : Nat) : (subL s)[0]? = some 0 := by
  have H : ∀ k, (subTo s k)[0]? = some 0 := by
    intro k
    induction k with
    | zero => rfl
    | succ k ih =>
      simp only [subTo]
      split
      · rw [List.getElem?_append_left (by have := (List.getElem?_eq_some_iff.1 ih).1; omega)]; exact ih
      · exact ih
  exact H 9
/-- The last of the subsets is the set. -/
theorem subL_last {s i x : Nat} (hx : (subL s)[i]? = some x) : i + 1 = (subL s).length ↔ x = s &&& 1022 := by
  obtain ⟨hi, hix⟩ := List.getElem?_eq_some_iff.1 hx
  constructor
  · intro h
    refine Classical.byContradiction fun hne => ?_
    have := (List.getElem?_eq_some_iff.1 (subL_step hx hne)).1
    omega
  · intro h
    refine Classical.byContradiction fun hne => ?_
    have hi1 : i + 1 < (subL s).length := by omega
    have h1 := (subL_mem (List.getElem_mem hi1)).2
    have h2 : (subL s)[i + 1] ≤ s &&& 1022 := by rw [← h1]; exact Nat.and_le_right
    have h3 := List.pairwise_iff_getElem.1 (subTo_rise s 9) i (i + 1) hi hi1 (by omega)
    change (subL s)[i] < (subL s)[i + 1] at h3
    omega
/-- A walk over all numbers below 1024: i subsets lie below v. -/
theorem subL_walk {s v i : Nat} (h : ∀ j x, (subL s)[j]? = some x → (x < v ↔ j < i)) (hi : i ≤ (subL s).length) :
    (v &&& (s &&& 1022) = v → (subL s)[i]? = some v ∧ ∀ j x, (subL s)[j]? = some x → (x < v + 1 ↔ j < i + 1)) ∧ (v &&& (s &&& 1022) ≠ v → ∀ j x, (subL s)[j]? = some x → (x < v + 1 ↔ j < i)) := by
  have hr := List.pairwise_iff_getElem.1 (subTo_rise s 9)
  constructor
  · intro hv
    obtain ⟨j, hj, hjv⟩ := List.mem_iff_getElem.1 (subL_iff.2 hv)
    have h1 := h j v (by rw [List.getElem?_eq_getElem hj, hjv])
    have hji : i ≤ j := by omega
    have hij : i = j := by
      refine Classical.byContradiction fun hne => ?_
      have h2 := hr i j (by show i < (subL s).length; omega) hj (by omega)
      change (subL s)[i]'(by omega) < (subL s)[j] at h2
      have h3 := h i ((subL s)[i]'(by omega)) (List.getElem?_eq_getElem _)
      omega
    subst hij
    refine ⟨by rw [List.getElem?_eq_getElem hj, hjv], fun q x hq => ?_⟩
    obtain ⟨hq1, rfl⟩ := List.getElem?_eq_some_iff.1 hq
    rcases Nat.lt_trichotomy q i with e | e | e
    · have := hr q i hq1 hj e
      change (subL s)[q] < (subL s)[i] at this
      omega
    · subst e; omega
    · have := hr i q hj hq1 e
      change (subL s)[i] < (subL s)[q] at this
      omega
  · intro hv j x hx
    have h1 := h j x hx
    have h2 := (subL_mem (List.mem_of_getElem? hx)).2
    have : x ≠ v := fun e => hv (by rw [← e]; exact h2)
    omega
end Go.Proofs.Yteadkgjikaikjaa.se
