/- What the document's CRC-32C (antipoderef2) comes to: xor, Bytes, More. Conditions: the registers are below 2^32; the bytes are at most 2^40. -/
import Derived.Test.YtafdgibkhefplaaProg
import Derived.Test.YtafdgibkhefplaaJoin1
import Derived.Test.YtafdgibkhefplaaJoin0
import Derived.Outline
namespace Go.Proofs.Ytafdgibkhefplaa.ref2
open Go.RowKit Go.Proofs.Ytafdgibkhefplaa.kit Go.Proofs.Ytafdgibkhefplaa.nums Go.Proofs.Ytafdgibkhefplaa.crc
set_option linter.unusedVariables false

theorem ret_u32 {a b : Int} (h : a = b) : Ending.returned (.int .u32 a) = .returned (.int .u32 b) := by rw [h]
theorem sum_odd (a b : Nat) : ((a : Int) + b) % 2 = (((a ^^^ b) % 2 : Nat) : Int) := by
  rw [xor_mod2]
  omega
theorem cast_half (a : Nat) : ((a / 2 : Nat) : Int) = (a : Int) / 2 := by omega
/-- The lowest bits, one more. -/
theorem low_step (x i : Nat) : x % 2 ^ (i + 1) = x % 2 ^ i + 2 ^ i * (x / 2 ^ i % 2) := Nat.mod_pow_succ
theorem div_xor (a b i : Nat) : (a ^^^ b) / 2 ^ i = a / 2 ^ i ^^^ b / 2 ^ i := by
  have := Nat.shiftRight_xor_distrib (a := a) (b := b) (i := i)
  simpa [Nat.shiftRight_eq_div_pow] using this
theorem div_half (a i : Nat) : a / 2 ^ i / 2 = a / 2 ^ (i + 1) := by rw [Nat.div_div_eq_div_mul, Nat.pow_succ]

set_option maxHeartbeats 400000 in
theorem xor_any (a b : Nat) (w : World) (ha : a < 4294967296) (hb : b < 4294967296) :
    Calls Try.prog 83 #[.int .u32 a, .int .u32 b] w fun e w' => e = .returned (.int .u32 ((a ^^^ b : Nat) : Int)) ∧ w = w' := by
  go_enter Try.func83, Try.ntmps83
  go_wp2_with fail
  go_loop [0, 1, 5, 6, 7] (fun x y v u i => ∃ j : Nat, j ≤ 32 ∧ i = .int .i64 j ∧ x = .int .u32 ((a / 2 ^ j : Nat) : Int) ∧ y = .int .u32 ((b / 2 ^ j : Nat) : Int) ∧ v = .int .u32 (((a ^^^ b) % 2 ^ j : Nat) : Int) ∧ u = .int .u32 ((2 ^ j % 4294967296 : Nat) : Int)) (fun _ _ _ _ i => 32 - (intOf i).toNat)
  case atStart => exact ⟨0, by omega, rfl, by simp, by simp, by simp [Nat.mod_one], by simp⟩
  case round =>
    obtain ⟨j, hj, rfl, rfl, rfl, rfl, rfl⟩ := hrel
    by_cases hlt : j < 32
    · have hp : (2 : Nat) ^ j ≤ 2147483648 := (Nat.pow_le_pow_right (by decide) (by omega : j ≤ 31))
      have hA : a / 2 ^ j < 4294967296 := Nat.lt_of_le_of_lt (Nat.div_le_self _ _) ha
      have hB : b / 2 ^ j < 4294967296 := Nat.lt_of_le_of_lt (Nat.div_le_self _ _) hb
      have hV : (a ^^^ b) % 2 ^ j < 2147483648 := Nat.lt_of_lt_of_le (Nat.mod_lt _ (Nat.two_pow_pos j)) hp
      have hU : 2 ^ j % 4294967296 = 2 ^ j := Nat.mod_eq_of_lt (by omega)
      have hU2 : ((2 ^ j * 2 % 4294967296 : Nat) : Int) = (((2 ^ j : Nat) : Int) * 2) % 4294967296 := by omega
      have HA := Lib.hid (div_half a j)
      have HB := Lib.hid (div_half b j)
      have HL := Lib.hid (low_step (a ^^^ b) j)
      have HO := Lib.hid (sum_odd (a / 2 ^ j) (b / 2 ^ j))
      have HX := Lib.hid (div_xor a b j)
      have HP := Lib.hid (Nat.pow_succ (n := 2) (m := j))
      rw [hU]
      clear hU
      have HU2 := Lib.hid hU2
      clear hU2
      have ho := HO.out
      rw [← HX.out] at ho
      generalize a / 2 ^ j = x at *
      generalize b / 2 ^ j = y at *
      generalize (2 : Nat) ^ j = u at *
      generalize (a ^^^ b) % u = v at *
      rcases Nat.mod_two_eq_zero_or_one ((a ^^^ b) / u) with h2 | h2
      · rw [h2] at ho
        have HL2 := HL.out
        rw [h2] at HL2
        have HL3 := Lib.hid HL2
        have ho2 : (((x : Int) + y) % 2 == 1) = false := by rw [ho]; rfl
        clear HL2 HL HO HX h2 ho
        go_wp2_with fail
        go_round
        case rel => exact ⟨j + 1, by omega, by go_num, by rw [← HA.out, cast_half], by rw [← HB.out, cast_half], by rw [HL3.out, Nat.mul_zero, Nat.add_zero], by rw [HP.out, HU2.out]⟩
        case measure => simp [intOf]; omega
      · rw [h2] at ho
        have HL2 := HL.out
        rw [h2] at HL2
        have HL3 := Lib.hid HL2
        have ho2 : (((x : Int) + y) % 2 == 1) = true := by rw [ho]; rfl
        clear HL2 HL HO HX h2 ho
        go_wp2_with fail
        go_round
        case rel => exact ⟨j + 1, by omega, by go_num, by rw [← HA.out, cast_half], by rw [← HB.out, cast_half], by rw [HL3.out, Nat.mul_one, Int.natCast_add], by rw [HP.out, HU2.out]⟩
        case measure => simp [intOf]; omega
    · obtain rfl : j = 32 := by omega
      have HV := Lib.hid (show (a ^^^ b) % 2 ^ 32 = a ^^^ b from Nat.mod_eq_of_lt (xor_lt ha hb))
      go_wp2_with fail
      go_ret
      exact ⟨ret_u32 (by have := HV.out; omega), rfl⟩

theorem step_even {c x : Nat} (h : (c ^^^ x) % 2 = 0) : stepC (c ^^^ x) = c / 2 ^^^ x / 2 := by
  unfold stepC; rw [if_neg (by omega), xor_div2]
theorem step_odd {c x : Nat} (h : (c ^^^ x) % 2 = 1) : stepC (c ^^^ x) = (c / 2 ^^^ poly) ^^^ x / 2 := by
  unfold stepC; rw [if_pos h, xor_div2, Nat.xor_assoc, Nat.xor_assoc, Nat.xor_comm poly]
theorem stepsC_last (k : Nat) : ∀ c, stepsC (k + 1) c = stepC (stepsC k c) := by
  induction k with
  | zero => intro c; rfl
  | succ k ih => intro c; rw [stepsC_succ, ih]; rfl

theorem xor_poly (a : Nat) (w : World) (ha : a < 4294967296) :
    Calls Try.prog 83 #[.int .u32 ((a : Int) / 2), .int .u32 2197175160] w fun e w' => e = .returned (.int .u32 ((a / 2 ^^^ poly : Nat) : Int)) ∧ w = w' := by
  have := xor_any (a / 2) poly w (by omega) (by decide)
  rwa [cast_half, show ((poly : Nat) : Int) = 2197175160 from rfl] at this

set_option maxHeartbeats 1000000 in
theorem bytes_any (c0 : Nat) (A : Option Addr) (n cap : Nat) (l : List Int) (w : World) (B : Nat) (hR : Rd w B A n l) (hY : Byt l) (hb : n ≤ 1099511627776) (hc : c0 < 4294967296) :
    Calls Try.prog 78 #[.int .u32 c0, .slice A n cap] w fun e w' => e = .returned (.int .u32 ((runC c0 l : Nat) : Int)) ∧ w = w' := by
  have HL := Lib.hid hR.1
  have HC := Lib.hid (show ∀ j, j < n → ∃ b o, A = some ⟨b, o, none⟩ ∧ w.cell? ⟨b, o + j, none⟩ = some (.int .u8 (l.getD j 0)) from fun j hj => by
    obtain ⟨b, o, e, _, hcl⟩ := hR.2 (by omega)
    exact ⟨b, o, e, hcl j hj⟩)
  clear hR
  go_enter Try.func78, Try.ntmps78
  go_wp2_with fail
  go_loop [0, 5] (fun c i => ∃ j : Nat, j ≤ n ∧ i = .int .i64 j ∧ c = .int .u32 ((runC c0 (l.take j) : Nat) : Int)) (fun _ i => n - (intOf i).toNat)
  case atStart => exact ⟨0, by omega, rfl, rfl⟩
  case round =>
    obtain ⟨j, hj, rfl, rfl⟩ := hrel
    by_cases hlt : j < n
    · obtain ⟨b, o, rfl, hx⟩ := HC.out j hlt
      have hx0 := (hY.at_ j).1
      have hx1 := (hY.at_ j).2
      have hcc := runC_lt (l.take j) hc (hY.take j)
      have HN := Lib.hid (show runC c0 (l.take (j + 1)) = stepsC 8 (runC c0 (l.take j) ^^^ (l.getD j 0).toNat) by
        rw [take_getD l j (by have := HL.out; omega), runC_append]; rfl)
      generalize runC c0 (l.take j) = cc at *
      generalize l.getD j 0 = xi at *
      obtain ⟨x, rfl⟩ := Int.eq_ofNat_of_zero_le hx0
      rw [Int.toNat_natCast] at HN
      go_wp2_with fail
      go_loop [0, 6, 7] (fun c y i => ∃ (k a z : Nat), k ≤ 8 ∧ i = .int .i64 k ∧ c = .int .u32 a ∧ y = .int .u32 z ∧ a < 4294967296 ∧ z ≤ 255 ∧ Hid (z = x / 2 ^ k) ∧ Hid (a ^^^ z = stepsC k (cc ^^^ x))) (fun _ _ i => 8 - (intOf i).toNat)
      case atStart => exact ⟨0, cc, x, by omega, rfl, rfl, rfl, hcc, by omega, by show _ = _; simp, rfl⟩
      case round =>
        obtain ⟨k, a, z, hk, rfl, rfl, rfl, ha, hz, HZ, HS⟩ := hrel
        by_cases hk8 : k < 8
        · have HZ2 : Hid (z / 2 = x / 2 ^ (k + 1)) := by show _ = _; rw [HZ.out, div_half]
          have HO := sum_odd a z
          rcases Nat.mod_two_eq_zero_or_one (a ^^^ z) with h2 | h2
          · have HS2 : Hid (a / 2 ^^^ z / 2 = stepsC (k + 1) (cc ^^^ x)) := by show _ = _; rw [stepsC_last, ← HS.out, step_even h2]
            have ho2 : (((a : Int) + z) % 2 == 1) = false := by rw [HO, h2]; rfl
            clear HO h2
            go_wp2_with fail
            go_round
            case rel => exact ⟨k + 1, a / 2, z / 2, by omega, by go_num, by rw [cast_half], by rw [cast_half], by omega, by omega, HZ2, HS2⟩
            case measure => simp [intOf]; omega
          · have HS2 : Hid ((a / 2 ^^^ poly) ^^^ z / 2 = stepsC (k + 1) (cc ^^^ x)) := by show _ = _; rw [stepsC_last, ← HS.out, step_odd h2]
            have ho2 : (((a : Int) + z) % 2 == 1) = true := by rw [HO, h2]; rfl
            have CX := Lib.hid (xor_poly a w ha)
            have hap := xor_lt (show a / 2 < 4294967296 by omega) (show poly < 4294967296 by decide)
            clear HO h2
            go_wp2_with fail
            refine CX.out.mono ?_
            rintro e w2 ⟨rfl, rfl⟩
            go_wp2_with fail
            go_round
            case rel => exact ⟨k + 1, a / 2 ^^^ poly, z / 2, by omega, by go_num, rfl, by rw [cast_half], hap, by omega, HZ2, HS2⟩
            case measure => simp [intOf]; omega
        · obtain rfl : k = 8 := by omega
          have hz8 : z = 0 := by have := HZ.out; omega
          have HA8 : Hid (runC c0 (l.take (j + 1)) = a) := by show _ = _; rw [HN.out, ← HS.out, hz8, Nat.xor_zero]
          subst hz8
          go_wp2_with fail
          go_round
          case rel => exact ⟨j + 1, by omega, by go_num, by rw [HA8.out]⟩
          case measure => simp [intOf]; omega
    · obtain rfl : j = n := by omega
      have HV := Lib.hid (show l.take j = l from List.take_of_length_le (by rw [HL.out]; exact Nat.le_refl _))
      go_wp2_with fail
      go_ret
      exact ⟨ret_u32 (by rw [HV.out]), rfl⟩

theorem not_ones {c : Nat} (h : c < 4294967296) : c ^^^ ones = 4294967295 - c := by
  have e : ones = 2 ^ 32 - 1 := rfl
  have e2 : 4294967295 - c = 2 ^ 32 - (c + 1) := by omega
  apply Nat.eq_of_testBit_eq
  intro i
  rw [Nat.testBit_xor, e, Nat.testBit_two_pow_sub_one, e2, Nat.testBit_two_pow_sub_succ (by omega)]
  by_cases hi : i < 32
  · simp [hi]
  · have : c.testBit i = false := Nat.testBit_lt_two_pow (Nat.lt_of_lt_of_le (show c < 2 ^ 32 by omega) (Nat.pow_le_pow_right (by decide) (by omega)))
    simp [hi, this]
theorem not_ones_int {c : Nat} (h : c < 4294967296) : (4294967295 : Int) - c = ((c ^^^ ones : Nat) : Int) := by rw [not_ones h]; omega

set_option maxHeartbeats 400000 in
theorem of_any (A : Option Addr) (n cap : Nat) (L : List (List Int)) (w : World) (B : Nat) (hR : RdS w B A n L) (hY : AllB L) (hb : n ≤ 1099511627776) :
    Calls Try.prog 63 #[.slice A n cap] w fun e w' => e = .returned (.int .u32 ((ofC L.flatten : Nat) : Int)) ∧ w = w' := by
  have HL := Lib.hid hR.len
  have HC := Lib.hid (show ∀ j, j < n → _ from fun j hj => hR.at_ hj)
  clear hR
  go_enter Try.func63, Try.ntmps63
  go_wp2_with fail
  go_loop [3, 4] (fun c i => ∃ (j r : Nat), j ≤ n ∧ i = .int .i64 j ∧ c = .int .u32 r ∧ r < 4294967296 ∧ Hid (r = runC ones (L.take j).flatten)) (fun _ i => n - (intOf i).toNat)
  case atStart => exact ⟨0, ones, by omega, rfl, rfl, by decide, rfl⟩
  case round =>
    obtain ⟨j, r, hj, rfl, rfl, hr, HR⟩ := hrel
    by_cases hlt : j < n
    · obtain ⟨b, o, Aj, cj, l, rfl, hLj, hx, hl1, hl2, hRj⟩ := HC.out j hlt
      have hm := hY l (List.mem_of_getElem? hLj)
      have C := Lib.hid (bytes_any r Aj l.length cj l w B hRj hm.1 hm.2 hr)
      have HN : Hid (runC r l = runC ones (L.take (j + 1)).flatten) := by show _ = _; rw [flat_take hLj, runC_append, ← HR.out]
      have hr2 := runC_lt l hr hm.1
      clear hRj hLj hm
      generalize runC r l = r2 at *
      go_wp2_with fail
      refine C.out.mono ?_
      rintro e w2 ⟨rfl, rfl⟩
      go_wp2_with fail
      go_round
      case rel => exact ⟨j + 1, r2, by omega, by go_num, rfl, hr2, HN⟩
      case measure => simp [intOf]; omega
    · obtain rfl : j = n := by omega
      have HV : Hid ((4294967295 : Int) - r = ((ofC L.flatten : Nat) : Int)) := by
        show _ = _
        have e : L.take j = L := List.take_of_length_le (by rw [HL.out]; exact Nat.le_refl _)
        rw [not_ones_int hr, HR.out, e]
        show _ = ((runC (0 ^^^ ones) L.flatten ^^^ ones : Nat) : Int)
        rw [Nat.zero_xor]
      go_wp2_with fail
      go_ret
      exact ⟨ret_u32 (by rw [HV.out]), rfl⟩
end Go.Proofs.Ytafdgibkhefplaa.ref2
