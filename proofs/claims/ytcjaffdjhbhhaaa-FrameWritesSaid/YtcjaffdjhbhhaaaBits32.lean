/- Bits of uint32 and uint8 values, as numbers. It speaks of no program. -/
import Derived.WalkKit
import Derived.WalkLawsBesides
import Derived.Laws.Bits64
namespace Go.Proofs.Ytcjaffdjhbhhaaa.nums
open Go.RowKit

theorem bv_nat (k n : Nat) (h : n < 2 ^ k) : (BitVec.ofInt k (n : Int)).toNat = n := by
  rw [BitVec.ofInt_natCast, BitVec.toNat_ofNat]; exact Nat.mod_eq_of_lt h
theorem wrap_u32_nat (n : Nat) (h : n < 4294967296) : IntKind.u32.wrap (n : Int) = n := by
  simp [IntKind.wrap, IntKind.bits, IntKind.signed]; omega
theorem wrap_u8_nat (n : Nat) (h : n < 256) : IntKind.u8.wrap (n : Int) = n := by
  simp [IntKind.wrap, IntKind.bits, IntKind.signed]; omega
theorem bits_and_u32_nat (a b : Nat) (ha : a < 4294967296) (hb : b < 4294967296) : bits .and .u32 (a : Int) (b : Int) = ((a &&& b : Nat) : Int) := by
  show IntKind.u32.wrap ((BitVec.ofInt 32 (a : Int) &&& BitVec.ofInt 32 (b : Int)).toNat : Int) = _
  rw [BitVec.toNat_and, bv_nat 32 a ha, bv_nat 32 b hb, wrap_u32_nat _ (Nat.lt_of_le_of_lt Nat.and_le_left ha)]
theorem bits_xor_u32_nat (a b : Nat) (ha : a < 4294967296) (hb : b < 4294967296) : bits .xor .u32 (a : Int) (b : Int) = ((a ^^^ b : Nat) : Int) := by
  show IntKind.u32.wrap ((BitVec.ofInt 32 (a : Int) ^^^ BitVec.ofInt 32 (b : Int)).toNat : Int) = _
  rw [BitVec.toNat_xor, bv_nat 32 a ha, bv_nat 32 b hb, wrap_u32_nat _ (Nat.xor_lt_two_pow (n := 32) ha hb)]
theorem bits_or_u32_nat (a b : Nat) (ha : a < 4294967296) (hb : b < 4294967296) : bits .or .u32 (a : Int) (b : Int) = ((a ||| b : Nat) : Int) := by
  show IntKind.u32.wrap ((BitVec.ofInt 32 (a : Int) ||| BitVec.ofInt 32 (b : Int)).toNat : Int) = _
  rw [BitVec.toNat_or, bv_nat 32 a ha, bv_nat 32 b hb, wrap_u32_nat _ (Nat.or_lt_two_pow (n := 32) ha hb)]
theorem bits_xor_u8_nat (a b : Nat) (ha : a < 256) (hb : b < 256) : bits .xor .u8 (a : Int) (b : Int) = ((a ^^^ b : Nat) : Int) := by
  show IntKind.u8.wrap ((BitVec.ofInt 8 (a : Int) ^^^ BitVec.ofInt 8 (b : Int)).toNat : Int) = _
  rw [BitVec.toNat_xor, bv_nat 8 a ha, bv_nat 8 b hb, wrap_u8_nat _ (Nat.xor_lt_two_pow (n := 8) ha hb)]
/-- 'x & 1' of a uint32. -/
theorem and_one_u32 (a : Nat) (ha : a < 4294967296) : bits .and .u32 (a : Int) 1 = ((a % 2 : Nat) : Int) := by
  have := bits_and_u32_nat a 1 ha (by omega)
  rwa [Nat.and_one_is_mod] at this
theorem div_pow_cast (a j : Nat) : (a : Int) / 2 ^ j = ((a / 2 ^ j : Nat) : Int) := by
  rw [Int.natCast_ediv, Int.natCast_pow]; rfl
end Go.Proofs.Ytcjaffdjhbhhaaa.nums
