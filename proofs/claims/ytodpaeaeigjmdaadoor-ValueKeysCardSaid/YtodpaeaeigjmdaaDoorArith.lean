/- Plain numbers for package bits: signs laid aside and back, sums and products of 64 bits. It speaks of no program. -/
import Derived.RowKit
import Derived.IntWalk
import Derived.Laws.Bits64
import Derived.Lib.Zigzag
namespace Go.Proofs.YtodpaeaeigjmdaaDoor.nums
open Go.RowKit

theorem bits_xor_i64 (x y : Int) : bits .xor .i64 x y = (BitVec.ofInt 64 x ^^^ BitVec.ofInt 64 y).toInt := by
  show IntKind.i64.wrap ((BitVec.ofInt 64 x ^^^ BitVec.ofInt 64 y).toNat : Int) = _
  rw [IntKind.wrap_i64, BitVec.toInt_eq_toNat_bmod, Int.bmod_def]
  have := (BitVec.ofInt 64 x ^^^ BitVec.ofInt 64 y).isLt
  split <;> omega
theorem bits_and_i64 (x y : Int) : bits .and .i64 x y = (BitVec.ofInt 64 x &&& BitVec.ofInt 64 y).toInt := by
  show IntKind.i64.wrap ((BitVec.ofInt 64 x &&& BitVec.ofInt 64 y).toNat : Int) = _
  rw [IntKind.wrap_i64, BitVec.toInt_eq_toNat_bmod, Int.bmod_def]
  have := (BitVec.ofInt 64 x &&& BitVec.ofInt 64 y).isLt
  split <;> omega

def InI (x : Int) : Prop := -9223372036854775808 ≤ x ∧ x ≤ 9223372036854775807
theorem msb_in (x : Int) (h : InI x) : (BitVec.ofInt 64 x).msb = decide (x < 0) := by
  rw [BitVec.msb_eq_toInt, BitVec.toInt_ofInt, Int.bmod_def]
  unfold InI at h
  congr 1
  rw [eq_iff_iff]
  split <;> omega

/-- Only a sum that wrapped round differs in sign from both numbers. -/
theorem add_sign (a b : Int) (ha : InI a) (hb : InI b) :
    (bits .and .i64 (bits .xor .i64 (wrap64 (a + b)) a) (bits .xor .i64 (wrap64 (a + b)) b) < 0) ↔ ¬ InI (a + b) := by
  have hs : InI (wrap64 (a + b)) := by unfold InI wrap64; omega
  have hm : ∀ x : BitVec 64, x.toInt < 0 ↔ x.msb = true := fun x => by rw [BitVec.msb_eq_toInt]; simp
  rw [bits_and_i64, hm, BitVec.msb_and, bits_xor_i64, bits_xor_i64, BitVec.ofInt_toInt, BitVec.ofInt_toInt, BitVec.msb_xor, BitVec.msb_xor, msb_in _ hs, msb_in _ ha, msb_in _ hb]
  simp only [Bool.and_eq_true, bne_iff_ne, ne_eq, decide_eq_decide]
  unfold InI wrap64 at *
  by_cases h1 : a < 0 <;> by_cases h2 : b < 0 <;> simp [h1, h2] <;> omega

theorem mul_in (a b : Int) (h0 : a ≠ 0) (hb : InI b) (h : InI (a * b)) : wrap64 ((wrap64 (a * b)).tdiv a) = b := by
  have e1 : wrap64 (a * b) = a * b := by unfold wrap64; unfold InI at h; omega
  rw [e1, Int.mul_tdiv_cancel_left _ h0]
  unfold wrap64; unfold InI at hb; omega
theorem mul_in_not (b : Int) (h : InI (-1 * b)) : b ≠ -9223372036854775808 := by
  unfold InI at h; omega
theorem mul_out (a b : Int) (h0 : a ≠ 0) (ha : InI a) (hb : InI b) (h : ¬ InI (a * b)) (hn : ¬ (a = -1 ∧ b = -9223372036854775808)) : wrap64 ((wrap64 (a * b)).tdiv a) ≠ b := by
  intro he
  have hp : InI (wrap64 (a * b)) := by unfold InI wrap64; omega
  obtain ⟨k, hk⟩ : ∃ k : Int, wrap64 (a * b) = a * b + 18446744073709551616 * k := by
    refine ⟨-((a * b + 9223372036854775808) / 18446744073709551616), ?_⟩
    unfold wrap64; omega
  generalize wrap64 (a * b) = p at *
  have hq := Int.mul_tdiv_add_tmod p a
  have hlt : (p.tmod a).natAbs < a.natAbs := by
    rw [Int.natAbs_tmod]
    exact Nat.mod_lt _ (by omega)
  have hqa : (p.tdiv a).natAbs ≤ p.natAbs := by rw [Int.natAbs_tdiv]; exact Nat.div_le_self _ _
  unfold InI at *
  by_cases hw : wrap64 (p.tdiv a) = p.tdiv a
  · rw [hw] at he
    rw [he] at hq
    generalize p.tmod a = r at *
    generalize a * b = m at *
    omega
  · -- only p = least and a = -1 give a quotient that is none
    have h1 : p = -9223372036854775808 ∧ p.tdiv a = 9223372036854775808 := by
      unfold wrap64 at hw
      omega
    obtain ⟨h1, h2⟩ := h1
    have h3 : a = -1 := by
      rw [h2] at hq
      omega
    subst h3
    omega

/-- The number without its sign. -/
def mag (a : Int) : Int := if a < 0 then -a else a
theorem mag_neg {a : Int} (h : a < 0) : mag a = -a := if_pos h
theorem mag_pos {a : Int} (h : 0 ≤ a) : mag a = a := if_neg (by omega)
theorem mul_least {a b x : Int} (h : 0 < a) : x / a < b ↔ x < b * a := Int.ediv_lt_iff_lt_mul h
/-- 'x > most / y' tells just the products that are none. -/
theorem mul_ref (a b : Int) (ha : a ≠ 0) (hb : b ≠ 0) : ((if decide (a < 0) = decide (b < 0) then (9223372036854775807 : Int) else 9223372036854775808) / mag b < mag a) ↔ ¬ InI (a * b) := by
  have hmb : 0 < mag b := by unfold mag; split <;> omega
  rw [mul_least hmb]
  unfold InI mag
  by_cases h1 : a < 0 <;> by_cases h2 : b < 0
  · have : (-a) * (-b) = a * b := by rw [Int.neg_mul_neg]
    have hp : 0 < a * b := by rw [← this]; exact Int.mul_pos (by omega) (by omega)
    simp only [h1, h2, decide_true, if_true, this]
    generalize a * b = m at *
    omega
  · have e : (-a) * b = -(a * b) := Int.neg_mul a b
    have hp : 0 < (-a) * b := Int.mul_pos (by omega) (by omega)
    rw [e] at hp
    simp only [h1, h2, decide_true, decide_false, if_true, if_false, e]
    generalize a * b = m at *
    simp
    omega
  · have e : a * (-b) = -(a * b) := Int.mul_neg a b
    have hp : 0 < a * (-b) := Int.mul_pos (by omega) (by omega)
    rw [e] at hp
    simp only [h1, h2, decide_true, decide_false, if_true, if_false, e]
    generalize a * b = m at *
    simp
    omega
  · have hp : 0 < a * b := Int.mul_pos (by omega) (by omega)
    simp only [h1, h2, decide_false, if_true, if_false]
    generalize a * b = m at *
    simp
    omega

/-- The small unsigned number for a number near 0. -/
def zigF (v : Int) : Int := if 0 ≤ v then 2 * v else -2 * v - 1
def zagF (u : Int) : Int := if u % 2 = 0 then u / 2 else -(u / 2) - 1
theorem zigF_in {v : Int} (h : InI v) : 0 ≤ zigF v ∧ zigF v ≤ 18446744073709551615 := by unfold zigF; unfold InI at h; split <;> omega
theorem zagF_in {u : Int} (h0 : 0 ≤ u) (h1 : u ≤ 18446744073709551615) : InI (zagF u) := by unfold zagF InI; split <;> omega
theorem zag_zig (v : Int) : zagF (zigF v) = v := by unfold zagF zigF; split <;> split <;> omega
theorem zig_zag (u : Int) (h : 0 ≤ u) : zigF (zagF u) = u := by unfold zagF zigF; split <;> split <;> omega
theorem zig_bits (v : Int) (h : InI v) : bits .xor .u64 (IntKind.u64.wrap (IntKind.u64.wrap v * 2)) (IntKind.u64.wrap (v / 9223372036854775808)) = zigF v := by
  unfold InI at h
  by_cases h0 : 0 ≤ v
  · have e1 : IntKind.u64.wrap (IntKind.u64.wrap v * 2) = (((2 * v).toNat : Nat) : Int) := by rw [IntKind.wrap_u64, IntKind.wrap_u64]; omega
    have e2 : IntKind.u64.wrap (v / 9223372036854775808) = ((0 : Nat) : Int) := by rw [IntKind.wrap_u64]; omega
    rw [e1, e2, bits_xor_u64_nat _ _ (by omega) (by omega), Nat.xor_zero]
    unfold zigF; rw [if_pos h0]; omega
  · have e1 : IntKind.u64.wrap (IntKind.u64.wrap v * 2) = (((2 * v + 18446744073709551616).toNat : Nat) : Int) := by rw [IntKind.wrap_u64, IntKind.wrap_u64]; omega
    have e2 : IntKind.u64.wrap (v / 9223372036854775808) = ((2 ^ 64 - 1 : Nat) : Int) := by rw [IntKind.wrap_u64]; omega
    rw [e1, e2, bits_xor_u64_nat _ _ (by omega) (by decide), Nat.xor_comm, Lib.xor_ones64 _ (by omega)]
    unfold zigF; rw [if_neg h0]; omega
theorem i64_xor_zero (x : Int) (h : InI x) : bits .xor .i64 x 0 = x := by
  rw [bits_xor_i64]
  have : (BitVec.ofInt 64 0 : BitVec 64) = 0#64 := by decide
  rw [this, BitVec.xor_zero, BitVec.toInt_ofInt, Int.bmod_def]
  unfold InI at h
  split <;> omega
theorem i64_xor_ones (x : Int) (h0 : 0 ≤ x) (h1 : x ≤ 9223372036854775807) : bits .xor .i64 x (-1) = -x - 1 := by
  have e : bits .xor .i64 x (-1) = bits .xor .i64 (-1) x := by rw [bits_xor_i64, bits_xor_i64, BitVec.xor_comm]
  obtain ⟨n, rfl⟩ := Int.eq_ofNat_of_zero_le h0
  rw [e, Lib.i64_not n (by omega)]
theorem zag_bits (u : Int) (h0 : 0 ≤ u) (h1 : u ≤ 18446744073709551615) : bits .xor .i64 (u / 2) (wrap64 (-wrap64 (bits .and .u64 u 1))) = zagF u := by
  rw [Lib.u64_and1 u h0 (by omega)]
  unfold zagF
  by_cases h : u % 2 = 0
  · rw [if_pos h, h, show wrap64 (-wrap64 0) = 0 by unfold wrap64; omega]
    exact i64_xor_zero _ (by unfold InI; omega)
  · rw [if_neg h, show u % 2 = 1 by omega, show wrap64 (-wrap64 1) = -1 by unfold wrap64; omega]
    exact i64_xor_ones _ (by omega) (by omega)
theorem order_bits (v : Int) (h : InI v) : IntKind.u64.wrap (IntKind.u64.wrap v + 9223372036854775808) = v + 9223372036854775808 := by
  unfold InI at h; rw [IntKind.wrap_u64, IntKind.wrap_u64]; omega
theorem back_bits (u : Int) (h0 : 0 ≤ u) (h1 : u ≤ 18446744073709551615) : wrap64 (IntKind.u64.wrap (u - 9223372036854775808)) = u - 9223372036854775808 := by
  rw [IntKind.wrap_u64]; unfold wrap64; omega
end Go.Proofs.YtodpaeaeigjmdaaDoor.nums
