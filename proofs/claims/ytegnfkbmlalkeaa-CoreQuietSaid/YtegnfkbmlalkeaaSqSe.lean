/- Sets of the nodes 1 to 9 as numbers below 65536, their bits, and bits of uint16 values. It speaks of no program. -/
import Derived.WalkKit
import Derived.WalkLawsBesides
import Derived.Laws.Bits64
import Derived.Test.YtegnfkbmlalkeaaSqJ0
namespace Go.Proofs.Ytegnfkbmlalkeaa.se
open Go.RowKit Go.Proofs.Ytegnfkbmlalkeaa.nums
set_option linter.unusedVariables false
theorem bv_nat16 (n : Nat) (h : n < 65536) : (BitVec.ofInt 16 (n : Int)).toNat = n := by
 rw [BitVec.ofInt_natCast, BitVec.toNat_ofNat]; exact Nat.mod_eq_of_lt h
theorem wrap_u16_nat (n : Nat) (h : n < 65536) : IntKind.u16.wrap (n : Int) = n := by
 simp [IntKind.wrap, IntKind.bits, IntKind.signed]; omega
theorem bits_and_u16_nat (a b : Nat) (ha : a < 65536) (hb : b < 65536) : bits .and .u16 (a : Int) (b : Int) = ((a &&& b : Nat) : Int) := by
 show IntKind.u16.wrap ((BitVec.ofInt 16 (a : Int) &&& BitVec.ofInt 16 (b : Int)).toNat : Int) = _
 rw [BitVec.toNat_and, bv_nat16 a ha, bv_nat16 b hb, wrap_u16_nat _ (Nat.lt_of_le_of_lt Nat.and_le_left ha)]
theorem bits_or_u16_nat (a b : Nat) (ha : a < 65536) (hb : b < 65536) : bits .or .u16 (a : Int) (b : Int) = ((a ||| b : Nat) : Int) := by
 show IntKind.u16.wrap ((BitVec.ofInt 16 (a : Int) ||| BitVec.ofInt 16 (b : Int)).toNat : Int) = _
 rw [BitVec.toNat_or, bv_nat16 a ha, bv_nat16 b hb, wrap_u16_nat _ (Nat.or_lt_two_pow (n := 16) ha hb)]
def nodeB (n : Int) : Bool := decide (1 ≤ n) && decide (n ≤ 9)
theorem nodeB_nat {n : Int} (h : nodeB n = true) : ∃ k : Nat, n = (k : Int) ∧ 1 ≤ k ∧ k ≤ 9 := by
 simp only [nodeB, Bool.and_eq_true, decide_eq_true_eq] at h
 exact ⟨n.toNat, by omega, by omega, by omega⟩
theorem nodeB_not {n : Int} (h : nodeB n = false) : n < 1 ∨ 9 < n := by
 by_cases h1 : 1 ≤ n
 · by_cases h2 : n ≤ 9
   · simp [nodeB, h1, h2] at h
   · omega
 · omega
theorem nodeB_of (k : Nat) (h1 : 1 ≤ k) (h9 : k ≤ 9) : nodeB (k : Int) = true := by
 simp [nodeB]; omega
def bitF (n : Int) : Nat := if nodeB n then 2 ^ n.toNat else 0
theorem bitF_node {k : Nat} (h1 : 1 ≤ k) (h9 : k ≤ 9) : bitF (k : Int) = 2 ^ k := by simp [bitF, nodeB_of k h1 h9]
theorem bitF_not {n : Int} (h : nodeB n = false) : bitF n = 0 := by simp [bitF, h]
theorem pow_le9 {k : Nat} (h9 : k ≤ 9) : 2 ^ k ≤ 512 := Nat.pow_le_pow_right (n := 2) (by omega) h9
theorem bitF_le (n : Int) : bitF n ≤ 512 := by
 cases h : nodeB n
 · rw [bitF_not h]; omega
 · obtain ⟨k, rfl, h1, h9⟩ := nodeB_nat h
   rw [bitF_node h1 h9]; exact pow_le9 h9
theorem bitF_pos {n : Int} : 0 < bitF n ↔ nodeB n = true := by
 cases h : nodeB n
 · simp [bitF_not h]
 · obtain ⟨k, rfl, h1, h9⟩ := nodeB_nat h
   rw [bitF_node h1 h9]; simp [Nat.two_pow_pos]
def hasF (s : Nat) (n : Int) : Bool := nodeB n && s.testBit n.toNat
theorem hasF_node {s k : Nat} (h1 : 1 ≤ k) (h9 : k ≤ 9) : hasF s (k : Int) = s.testBit k := by simp [hasF, nodeB_of k h1 h9]
theorem hasF_not {s : Nat} {n : Int} (h : nodeB n = false) : hasF s n = false := by simp [hasF, h]
theorem hasF_div {s : Nat} {n : Int} (h : nodeB n = true) : hasF s n = decide (s / bitF n % 2 = 1) := by
 obtain ⟨k, rfl, h1, h9⟩ := nodeB_nat h
 rw [hasF_node h1 h9, bitF_node h1 h9, Nat.testBit_eq_decide_div_mod_eq]
theorem mod_succ (s k : Nat) : s % 2 ^ (k + 1) = s % 2 ^ k + 2 ^ k * (s.testBit k).toNat := by rw [Nat.mod_pow_succ, Nat.toNat_testBit]
theorem add_bit {s k : Nat} (h : s.testBit k = false) : s + 2 ^ k = s ||| 2 ^ k := by
 apply Nat.eq_of_testBit_eq
 intro i
 rw [Nat.testBit_or, Nat.testBit_two_pow]
 have hs : s = 2 ^ (k + 1) * (s / 2 ^ (k + 1)) + s % 2 ^ k := by
   have e := Nat.div_add_mod s (2 ^ (k + 1))
   rw [mod_succ, h] at e
   simpa using e.symm
 have hl : s % 2 ^ k < 2 ^ k := Nat.mod_lt _ (Nat.two_pow_pos k)
 have hl1 : s % 2 ^ k < 2 ^ (k + 1) := by rw [Nat.pow_succ]; omega
 have hl2 : s % 2 ^ k + 2 ^ k < 2 ^ (k + 1) := by rw [Nat.pow_succ]; omega
 generalize s / 2 ^ (k + 1) = a at *
 generalize s % 2 ^ k = c at *
 subst hs
 rw [Nat.add_assoc, Nat.testBit_two_pow_mul_add _ hl2, Nat.testBit_two_pow_mul_add _ hl1]
 by_cases hi : i < k + 1
 · rw [if_pos hi, if_pos hi, Nat.add_comm c]
   by_cases he : k = i
   · subst he
     rw [Nat.testBit_two_pow_add_eq]
     rw [Nat.testBit_lt_two_pow hl]; simp
   · rw [Nat.testBit_two_pow_add_gt (by omega)]; simp [he]
 · rw [if_neg hi, if_neg hi]
   have : k ≠ i := by omega
   simp [this]
def withF (s : Nat) (n : Int) : Nat := s ||| bitF n
def lessF (s : Nat) (n : Int) : Nat := if hasF s n then s - bitF n else s
theorem withF_has {s : Nat} {n : Int} (h : hasF s n = true) : withF s n = s := by
 have hn : nodeB n = true := by cases hn : nodeB n with | true => rfl | false => simp [hasF, hn] at h
 obtain ⟨k, rfl, h1, h9⟩ := nodeB_nat hn
 rw [hasF_node h1 h9] at h
 rw [withF, bitF_node h1 h9]
 apply Nat.eq_of_testBit_eq
 intro i
 rw [Nat.testBit_or, Nat.testBit_two_pow]
 by_cases he : k = i
 · subst he; simp [h]
 · simp [he]
theorem withF_add {s : Nat} {n : Int} (h : hasF s n = false) : withF s n = s + bitF n := by
 cases hn : nodeB n
 · rw [withF, bitF_not hn]; simp
 · obtain ⟨k, rfl, h1, h9⟩ := nodeB_nat hn
   rw [hasF_node h1 h9] at h
   rw [withF, bitF_node h1 h9, add_bit h]
theorem withF_lt {s : Nat} (n : Int) (hs : s < 65536) : withF s n < 65536 :=
 Nat.or_lt_two_pow (n := 16) hs (Nat.lt_of_le_of_lt (bitF_le n) (by omega))
theorem bit_le {s k : Nat} (h : s.testBit k = true) : 2 ^ k ≤ s := Nat.ge_two_pow_of_testBit h
theorem has_node {s : Nat} {n : Int} (h : hasF s n = true) : nodeB n = true := by
 cases hn : nodeB n with | true => rfl | false => simp [hasF, hn] at h
theorem lessF_le (s : Nat) (n : Int) : lessF s n ≤ s := by unfold lessF; split <;> omega
theorem less_bit {s k : Nat} (h : s.testBit k = true) (i : Nat) : (s - 2 ^ k).testBit i = (s.testBit i && decide (i ≠ k)) := by
 have hk := bit_le h
 have e : (s - 2 ^ k) + 2 ^ k = s := by omega
 have hb : (s - 2 ^ k).testBit k = false := by
   have h2 := Nat.testBit_two_pow_add_eq (s - 2 ^ k) k
   rw [Nat.add_comm, e, h] at h2
   revert h2
   cases (s - 2 ^ k).testBit k <;> simp
 have e2 := add_bit hb
 rw [e] at e2
 by_cases he : i = k
 · subst he; simp [hb]
 · rw [e2, Nat.testBit_or, Nat.testBit_two_pow]
   have : k ≠ i := fun x => he x.symm
   rw [← e2]; simp [he, this]
def listTo (s : Nat) : Nat → List Int
 | 0 => []
 | k + 1 => if s.testBit (k + 1) then listTo s k ++ [((k + 1 : Nat) : Int)] else listTo s k
def listF (s : Nat) : List Int := listTo s 9
theorem listTo_le (s k : Nat) : (listTo s k).length ≤ k := by
 induction k with
 | zero => simp [listTo]
 | succ k ih =>
   simp only [listTo]
   split
   · rw [List.length_append]; simp; exact ih
   · omega
theorem listTo_mem {s k : Nat} {n : Int} (h : n ∈ listTo s k) (hk : k ≤ 9) : ∃ j : Nat, n = (j : Int) ∧ 1 ≤ j ∧ j ≤ k ∧ s.testBit j = true := by
 induction k with
 | zero => simp [listTo] at h
 | succ k ih =>
   simp only [listTo] at h
   by_cases hb : s.testBit (k + 1) = true
   · rw [if_pos hb] at h
     rcases List.mem_append.1 h with h | h
     · obtain ⟨j, e, h1, h2, h3⟩ := ih h (by omega); exact ⟨j, e, h1, by omega, h3⟩
     · simp at h; exact ⟨k + 1, by omega, by omega, by omega, hb⟩
   · rw [if_neg hb] at h
     obtain ⟨j, e, h1, h2, h3⟩ := ih h (by omega); exact ⟨j, e, h1, by omega, h3⟩
def mayF (s : Nat) : Bool := decide (s % 1024 - s % 2 = s)
theorem and_1022 (s : Nat) : s &&& 1022 = s % 1024 - s % 2 := by
 have h1 : s % 1024 - s % 2 = 2 * (s / 2 % 512) := by omega
 rw [h1]
 apply Nat.eq_of_testBit_eq
 intro i
 cases i with
 | zero => simp
 | succ i =>
   rw [Nat.testBit_and, Nat.testBit_succ, Nat.testBit_succ, Nat.testBit_succ, Nat.mul_div_cancel_left _ (by omega), show 1022 / 2 = 2 ^ 9 - 1 from rfl, Nat.testBit_two_pow_sub_one, show (512 : Nat) = 2 ^ 9 from rfl, Nat.testBit_mod_two_pow, Bool.and_comm]
def sumL (l : List Int) : Nat := (l.map bitF).sum
theorem sumL_snoc (l : List Int) (n : Int) : sumL (l ++ [n]) = sumL l + bitF n := by simp [sumL]
theorem sumL_to (s k : Nat) (hk : k ≤ 9) : sumL (listTo s k) + s % 2 = s % 2 ^ (k + 1) := by
 induction k with
 | zero => simp [listTo, sumL]
 | succ k ih =>
   have ih := ih (by omega)
   rw [mod_succ, ← ih]
   simp only [listTo]
   cases hb : s.testBit (k + 1)
   · simp
   · rw [if_pos rfl, sumL_snoc, bitF_node (by omega) hk]; simp; omega
def ofF : Nat → List Int → Option Nat
 | s, [] => some s
 | s, n :: l => if nodeB n then ofF (withF s n) l else none
theorem ofF_snoc (l : List Int) (n : Int) : ∀ s, ofF s (l ++ [n]) = (ofF s l).bind fun t => if nodeB n then some (withF t n) else none := by
 induction l with
 | nil => intro s; simp [ofF]
 | cons m l ih =>
   intro s
   simp only [List.cons_append, ofF]
   cases nodeB m
   · rfl
   · rw [if_pos rfl, if_pos rfl]; exact ih _
theorem ofF_to (s k : Nat) (hk : k ≤ 9) : ofF 0 (listTo s k) = some (s % 2 ^ (k + 1) - s % 2) := by
 induction k with
 | zero => simp [listTo, ofF]
 | succ k ih =>
   have ih := ih (by omega)
   have hS := sumL_to s k (by omega)
   have hS1 := sumL_to s (k + 1) hk
   simp only [listTo]
   simp only [listTo] at hS1
   cases hb : s.testBit (k + 1)
   · rw [hb] at hS1
     rw [if_neg (by decide)]
     rw [ih]
     simp only [Bool.false_eq_true, if_false] at hS1
     congr 1; omega
   · rw [hb, if_pos rfl, sumL_snoc] at hS1
     rw [if_pos rfl, ofF_snoc, ih]
     have hn : nodeB (((k + 1 : Nat)) : Int) = true := nodeB_of _ (by omega) hk
     have hlt : s % 2 ^ (k + 1) - s % 2 < 2 ^ (k + 1) := Nat.lt_of_le_of_lt (Nat.sub_le _ _) (Nat.mod_lt _ (Nat.two_pow_pos _))
     have hno : hasF (s % 2 ^ (k + 1) - s % 2) ((k + 1 : Nat) : Int) = false := by
       rw [hasF_node (by omega) hk]; exact Nat.testBit_lt_two_pow hlt
     simp only [Option.bind_some, hn, if_true]
     rw [withF_add hno]
     congr 1; omega
theorem ofF_list (s : Nat) : ofF 0 (listF s) = some (s &&& 1022) := by
 rw [and_1022]; exact ofF_to s 9 (by omega)
theorem may_of (s : Nat) : mayF s = decide (s &&& 1022 = s) := by rw [and_1022]; rfl
end Go.Proofs.Ytegnfkbmlalkeaa.se
