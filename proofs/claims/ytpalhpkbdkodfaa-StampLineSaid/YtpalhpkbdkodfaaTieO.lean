/- Plain numbers for Tie: fields that are or-ed into one number, in any order, are the number of the document. It speaks of no program. -/
import Derived.Test.YtpalhpkbdkodfaaSt
import Derived.WalkKit
import Derived.Laws.Bits64
namespace Go.Proofs.Ytpalhpkbdkodfaa.tie
open Go Go.RowKit Go.Proofs.Ytpalhpkbdkodfaa.nums Go.Proofs.Ytpalhpkbdkodfaa.st
set_option linter.unusedVariables false

def lo : Nat → Int
  | 0 => 1
  | _ => 0
def hi : Nat → Int
  | 0 => 9
  | 1 => 1048575
  | 2 => 16777215
  | _ => 15
def sh : Nat → Nat
  | 0 => 48
  | 1 => 28
  | 2 => 4
  | _ => 0
def fits (V : Nat → Int) (i : Nat) : Prop := lo i ≤ V i ∧ V i ≤ hi i
/-- The four numbers. -/
def four (n l s a : Int) : Nat → Int
  | 0 => n
  | 1 => l
  | 2 => s
  | _ => a
theorem bad_of (n l s a : Int) (i : Nat) (h4 : i < 4) (h : ¬ fits (four n l s a) i) : tieBad n l s a := by
  unfold tieBad
  rcases i with _ | _ | _ | _ | i
  · have : ¬ (1 ≤ n ∧ n ≤ 9) := h
    omega
  · have : ¬ (0 ≤ l ∧ l ≤ 1048575) := h
    omega
  · have : ¬ (0 ≤ s ∧ s ≤ 16777215) := h
    omega
  · have : ¬ (0 ≤ a ∧ a ≤ 15) := h
    omega
  · omega
theorem good_of (n l s a : Int) (h : ∀ i, i < 4 → fits (four n l s a) i) : ¬ tieBad n l s a := by
  have h0 : 1 ≤ n ∧ n ≤ 9 := h 0 (by omega)
  have h1 : 0 ≤ l ∧ l ≤ 1048575 := h 1 (by omega)
  have h2 : 0 ≤ s ∧ s ≤ 16777215 := h 2 (by omega)
  have h3 : 0 ≤ a ∧ a ≤ 15 := h 3 (by omega)
  unfold tieBad
  omega
/-- A field in its place. -/
def part (V : Nat → Int) (i : Nat) : Nat := (V i).toNat * 2 ^ sh i
/-- The fields of d, or-ed together. -/
def acc (V : Nat → Int) (d : List Nat) : Nat := d.foldr (fun i x => x ||| part V i) 0
theorem part_eq (V : Nat → Int) (i : Nat) (h : fits V i) : ((part V i : Nat) : Int) = V i * 2 ^ sh i := by
  have h0 : 0 ≤ V i := by
    have := h.1
    unfold lo at this
    split at this <;> omega
  unfold part
  rw [Int.natCast_mul, Int.natCast_pow, Int.toNat_of_nonneg h0]
  rfl
theorem part_lt (V : Nat → Int) (i : Nat) (h : fits V i) : part V i < 2 ^ 52 := by
  have h2 := h.2
  unfold part
  rcases i with _ | _ | _ | i
  · have : V 0 ≤ 9 := h2
    have : (V 0).toNat ≤ 9 := by omega
    show (V 0).toNat * 2 ^ 48 < _
    omega
  · have : V 1 ≤ 1048575 := h2
    have : (V 1).toNat ≤ 1048575 := by omega
    show (V 1).toNat * 2 ^ 28 < _
    omega
  · have : V 2 ≤ 16777215 := h2
    have : (V 2).toNat ≤ 16777215 := by omega
    show (V 2).toNat * 2 ^ 4 < _
    omega
  · have : V (i + 3) ≤ 15 := h2
    have : (V (i + 3)).toNat ≤ 15 := by omega
    show (V (i + 3)).toNat * 2 ^ 0 < _
    omega
theorem acc_lt (V : Nat → Int) : ∀ (d : List Nat), (∀ i ∈ d, fits V i) → acc V d < 2 ^ 52
  | [], _ => by simp [acc]
  | i :: d, h => Nat.or_lt_two_pow (acc_lt V d fun j hj => h j (List.mem_cons_of_mem _ hj)) (part_lt V i (h i (by simp)))
theorem bit_acc (V : Nat → Int) (j : Nat) : ∀ d : List Nat, (acc V d).testBit j = d.any fun i => (part V i).testBit j
  | [] => by simp [acc]
  | i :: d => by
    show (acc V d ||| part V i).testBit j = _
    rw [Nat.testBit_or, bit_acc V j d, List.any_cons, Bool.or_comm]
theorem acc_all (V : Nat → Int) (d : List Nat) (h : ∀ i, i ∈ d ↔ i < 4) : acc V d = acc V [3, 2, 1, 0].reverse.reverse := by
  apply Nat.eq_of_testBit_eq
  intro j
  rw [bit_acc, bit_acc, Bool.eq_iff_iff, List.any_eq_true, List.any_eq_true]
  have hm : ∀ i, i ∈ [3, 2, 1, 0].reverse.reverse ↔ i < 4 := fun i => by
    simp
    omega
  exact ⟨fun ⟨i, h1, h2⟩ => ⟨i, (hm i).2 ((h i).1 h1), h2⟩, fun ⟨i, h1, h2⟩ => ⟨i, (h i).2 ((hm i).1 h1), h2⟩⟩
theorem join (k v u : Nat) (h : u < 2 ^ k) : (v * 2 ^ k) ||| u = v * 2 ^ k + u := by
  rw [Nat.mul_comm, Nat.two_pow_add_eq_or_of_lt h]
theorem part_at (V : Nat → Int) (i v k : Nat) (h1 : V i = (v : Int)) (h2 : sh i = k) : part V i = v * 2 ^ k := by
  unfold part
  rw [h1, h2, Int.toNat_natCast]
theorem acc_four (V : Nat → Int) : acc V [3, 2, 1, 0] = (((0 ||| part V 0) ||| part V 1) ||| part V 2) ||| part V 3 := by
  unfold acc
  rw [List.foldr_cons, List.foldr_cons, List.foldr_cons, List.foldr_cons, List.foldr_nil]
theorem or_four (n l s a : Nat) (h1 : l < 1048576) (h2 : s < 16777216) (h3 : a < 16) : (((n * 2 ^ 48) ||| l * 2 ^ 28) ||| s * 2 ^ 4) ||| a = n * 281474976710656 + (l * 268435456 + (s * 16 + a)) := by
  have a2 : s * 2 ^ 4 + a < 2 ^ 28 := by omega
  have a3 : l * 2 ^ 28 + (s * 2 ^ 4 + a) < 2 ^ 48 := by omega
  rw [Nat.or_assoc, Nat.or_assoc, join 4 s a h3, join 28 l _ a2, join 48 n _ a3]
theorem acc_full (n l s a : Int) (d : List Nat) (h : ∀ i, i ∈ d ↔ i < 4) (hf : ∀ i, i < 4 → fits (four n l s a) i) : ((acc (four n l s a) d : Nat) : Int) = ((n * 1048576 + l) * 16777216 + s) * 16 + a := by
  rw [acc_all _ d h, List.reverse_reverse, acc_four, Nat.zero_or]
  have h0 : 1 ≤ n ∧ n ≤ 9 := hf 0 (by omega)
  have h1 : 0 ≤ l ∧ l ≤ 1048575 := hf 1 (by omega)
  have h2 : 0 ≤ s ∧ s ≤ 16777215 := hf 2 (by omega)
  have h3 : 0 ≤ a ∧ a ≤ 15 := hf 3 (by omega)
  clear hf h
  have f0 : four n l s a 0 = ((n.toNat : Nat) : Int) := (Int.toNat_of_nonneg (show 0 ≤ n by omega)).symm
  have f1 : four n l s a 1 = ((l.toNat : Nat) : Int) := (Int.toNat_of_nonneg h1.1).symm
  have f2 : four n l s a 2 = ((s.toNat : Nat) : Int) := (Int.toNat_of_nonneg h2.1).symm
  have f3 : four n l s a 3 = ((a.toNat : Nat) : Int) := (Int.toNat_of_nonneg h3.1).symm
  rw [part_at _ 0 n.toNat 48 f0 rfl, part_at _ 1 l.toNat 28 f1 rfl, part_at _ 2 s.toNat 4 f2 rfl, part_at _ 3 a.toNat 0 f3 rfl]
  rw [Nat.pow_zero, Nat.mul_one, or_four _ _ _ _ (by omega) (by omega) (by omega)]
  omega
theorem bits_or_nat (a b : Nat) (ha : a < 2 ^ 52) (hb : b < 2 ^ 52) : bits .or .i64 (a : Int) (b : Int) = ((a ||| b : Nat) : Int) := by
  have hbv : ∀ n : Nat, n < 2 ^ 52 → (BitVec.ofInt 64 (n : Int)).toNat = n := fun n hn => by
    rw [BitVec.ofInt_natCast, BitVec.toNat_ofNat]; exact Nat.mod_eq_of_lt (by omega)
  show IntKind.i64.wrap ((BitVec.ofInt 64 (a : Int) ||| BitVec.ofInt 64 (b : Int)).toNat : Int) = _
  rw [BitVec.toNat_or, hbv a ha, hbv b hb]
  have h := Nat.or_lt_two_pow (n := 52) ha hb
  generalize a ||| b = c at *
  simp [IntKind.wrap, IntKind.bits, IntKind.signed]
  omega
theorem or_step (V : Nat → Int) (i : Nat) (d : List Nat) (hi : fits V i) (hd : ∀ j ∈ d, fits V j) : bits .or .i64 ((acc V d : Nat) : Int) (V i * 2 ^ sh i) = ((acc V (i :: d) : Nat) : Int) := by
  rw [← part_eq V i hi, bits_or_nat _ _ (acc_lt V d hd) (part_lt V i hi)]
  rfl
theorem shl_in (V : Nat → Int) (i : Nat) (hi : fits V i) : 0 ≤ V i * 2 ^ sh i ∧ V i * 2 ^ sh i < 4503599627370496 := by
  rw [← part_eq V i hi]
  have h := part_lt V i hi
  have e : (2 : Nat) ^ 52 = 4503599627370496 := by decide
  rw [e] at h
  omega
end Go.Proofs.Ytpalhpkbdkodfaa.tie
