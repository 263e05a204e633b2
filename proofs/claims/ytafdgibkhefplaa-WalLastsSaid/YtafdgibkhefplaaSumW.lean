/- What the program's sum comes to: eight, More, Of. Conditions: the registers are below 2^32; the bytes, and the parts, are at most 2^40. -/
import Derived.Test.YtafdgibkhefplaaRef2W
import Derived.Test.YtafdgibkhefplaaJoin0
namespace Go.Proofs.Ytafdgibkhefplaa.sum
open Go.RowKit Go.Proofs.Ytafdgibkhefplaa.kit Go.Proofs.Ytafdgibkhefplaa.nums Go.Proofs.Ytafdgibkhefplaa.crc Go.Proofs.Ytafdgibkhefplaa.ref2
set_option linter.unusedVariables false

/-- One step without a branch: the bit that goes out makes the mask. -/
theorem step_mask (a : Nat) (ha : a < 4294967296) :
    bits .xor .u32 ((a : Int) / 2) (bits .and .u32 2197175160 (-bits .and .u32 (a : Int) 1 % 4294967296)) = ((stepC a : Nat) : Int) := by
  rw [and_one_u32 a ha, ← cast_half]
  have hp : (2197175160 : Int) = ((poly : Nat) : Int) := rfl
  have hlt : a / 2 < 4294967296 := by omega
  unfold stepC
  rcases Nat.mod_two_eq_zero_or_one a with h | h
  · rw [if_neg (by omega), h, show (-((0 : Nat) : Int) % 4294967296) = ((0 : Nat) : Int) from rfl, hp, bits_and_u32_nat _ _ (by decide) (by decide), Nat.and_zero, bits_xor_u32_nat _ _ hlt (by decide), Nat.xor_zero]
  · rw [if_pos h, h, show (-((1 : Nat) : Int) % 4294967296) = ((4294967295 : Nat) : Int) from rfl, hp, bits_and_u32_nat _ _ (by decide) (by decide), show poly &&& 4294967295 = poly from by decide, bits_xor_u32_nat _ _ hlt (by decide)]

theorem eight_any (r : Nat) (w : World) (hr : r < 4294967296) :
    Calls Try.prog 86 #[.int .u32 r] w fun e w' => e = .returned (.int .u32 ((stepsC 8 r : Nat) : Int)) ∧ w = w' := by
  go_enter Try.func86, Try.ntmps86
  go_wp2_with fail
  go_loop [0, 3] (fun c i => ∃ (k a : Nat), k ≤ 8 ∧ i = .int .i64 k ∧ c = .int .u32 a ∧ a < 4294967296 ∧ Hid (a = stepsC k r)) (fun _ i => 8 - (intOf i).toNat)
  case atStart => exact ⟨0, r, by omega, rfl, rfl, hr, rfl⟩
  case round =>
    obtain ⟨k, a, hk, rfl, rfl, ha, HA⟩ := hrel
    by_cases hk8 : k < 8
    · go_wp2_with fail
      go_round
      case rel => exact ⟨k + 1, stepC a, by omega, by go_num, by rw [step_mask a ha], stepC_lt ha, by show _ = _; rw [stepsC_last, ← HA.out]⟩
      case measure => simp [intOf]; omega
    · obtain rfl : k = 8 := by omega
      go_wp2_with fail
      go_ret
      exact ⟨ret_u32 (by rw [HA.out]), rfl⟩

theorem max_xor {c : Nat} (h : c < 4294967296) : bits .xor .u32 IntKind.u32.max (c : Int) = ((c ^^^ ones : Nat) : Int) := by
  rw [show IntKind.u32.max = ((ones : Nat) : Int) from rfl, bits_xor_u32_nat _ _ (by decide) h, Nat.xor_comm]
theorem eight_xor (r x : Nat) (w : World) (hr : r < 4294967296) (hx : x < 4294967296) :
    Calls Try.prog 86 #[.int .u32 (bits .xor .u32 (r : Int) (x : Int))] w fun e w' => e = .returned (.int .u32 ((byteC r x : Nat) : Int)) ∧ w = w' := by
  rw [bits_xor_u32_nat r x hr hx]
  exact eight_any (r ^^^ x) w (xor_lt hr hx)

set_option maxHeartbeats 400000 in
theorem more_pure (c : Nat) (A : Option Addr) (n cap : Nat) (l : List Int) (w : World) (B : Nat) (hR : Rd w B A n l) (hY : Byt l) (hb : n ≤ 1099511627776) (hc : c < 4294967296) :
    Calls Try.prog 85 #[.int .u32 c, .slice A n cap] w fun e w' => e = .returned (.int .u32 ((moreC c l : Nat) : Int)) ∧ w = w' := by
  have HL := Lib.hid hR.1
  have HC := Lib.hid (show ∀ j, j < n → ∃ b o, A = some ⟨b, o, none⟩ ∧ w.cell? ⟨b, o + j, none⟩ = some (.int .u8 (l.getD j 0)) from fun j hj => by
    obtain ⟨b, o, e, _, hcl⟩ := hR.2 (by omega)
    exact ⟨b, o, e, hcl j hj⟩)
  have H0 := Lib.hid (max_xor hc)
  clear hR
  go_enter Try.func85, Try.ntmps85
  go_wp2_with fail
  go_loop [5, 12] (fun r i => ∃ (j a : Nat), j ≤ n ∧ i = .int .i64 j ∧ r = .int .u32 a ∧ a < 4294967296 ∧ Hid (a = runC (c ^^^ ones) (l.take j))) (fun _ i => n - (intOf i).toNat)
  case atStart => exact ⟨0, c ^^^ ones, by omega, rfl, by rw [H0.out], xor_lt hc (by decide), rfl⟩
  case round =>
    obtain ⟨j, a, hj, rfl, rfl, ha, HA⟩ := hrel
    by_cases hlt : j < n
    · obtain ⟨b, o, rfl, hx⟩ := HC.out j hlt
      have hx0 := (hY.at_ j).1
      have hx1 := (hY.at_ j).2
      have HN := Lib.hid (show runC (c ^^^ ones) (l.take (j + 1)) = byteC (runC (c ^^^ ones) (l.take j)) (l.getD j 0).toNat by
        rw [take_getD l j (by have := HL.out; omega), runC_append]; rfl)
      generalize l.getD j 0 = xi at *
      obtain ⟨x, rfl⟩ := Int.eq_ofNat_of_zero_le hx0
      rw [Int.toNat_natCast] at HN
      have C := Lib.hid (eight_xor a x w ha (by omega))
      go_wp2_with fail
      refine C.out.mono ?_
      rintro e w2 ⟨rfl, rfl⟩
      go_wp2_with fail
      go_round
      case rel => exact ⟨j + 1, byteC a x, by omega, by go_num, rfl, stepsC_lt 8 (xor_lt ha (by omega)), by show _ = _; rw [HN.out, HA.out]⟩
      case measure => simp [intOf]; omega
    · obtain rfl : j = n := by omega
      have HV : Hid (bits .xor .u32 IntKind.u32.max (a : Int) = ((moreC c l : Nat) : Int)) := by
        show _ = _
        have e : l.take j = l := List.take_of_length_le (by rw [HL.out]; exact Nat.le_refl _)
        rw [max_xor ha, HA.out, e]
        rfl
      go_wp2_with fail
      go_ret
      exact ⟨ret_u32 (by rw [HV.out]), rfl⟩
theorem more_any (c : Nat) (A : Option Addr) (n cap : Nat) (l : List Int) (w : World) (hR : Rd w w.heap.size A n l) (hY : Byt l) (hb : n ≤ 1099511627776) (hc : c < 4294967296) :
    Calls Try.prog 85 #[.int .u32 c, .slice A n cap] w fun e w' => e = .returned (.int .u32 ((moreC c l : Nat) : Int)) ∧ Below w.heap.size w w' :=
  (more_pure c A n cap l w _ hR hY hb hc).mono (by rintro e w2 ⟨rfl, rfl⟩; exact ⟨rfl, Below.refl _ _⟩)

set_option maxHeartbeats 400000 in
theorem of_pure (A : Option Addr) (n cap : Nat) (L : List (List Int)) (w : World) (B : Nat) (hR : RdS w B A n L) (hY : AllB L) (hb : n ≤ 1099511627776) :
    Calls Try.prog 81 #[.slice A n cap] w fun e w' => e = .returned (.int .u32 ((ofC L.flatten : Nat) : Int)) ∧ w = w' := by
  have HL := Lib.hid hR.len
  have HC := Lib.hid (show ∀ j, j < n → _ from fun j hj => hR.at_ hj)
  clear hR
  go_enter Try.func81, Try.ntmps81
  go_wp2_with fail
  go_loop [3, 8] (fun c i => ∃ (j r : Nat), j ≤ n ∧ i = .int .i64 j ∧ c = .int .u32 r ∧ r < 4294967296 ∧ Hid (r = moreC 0 (L.take j).flatten)) (fun _ i => n - (intOf i).toNat)
  case atStart => exact ⟨0, 0, by omega, rfl, rfl, by decide, (moreC_nil 0).symm⟩
  case round =>
    obtain ⟨j, r, hj, rfl, rfl, hr, HR⟩ := hrel
    by_cases hlt : j < n
    · obtain ⟨b, o, Aj, cj, l, rfl, hLj, hx, hl1, hl2, hRj⟩ := HC.out j hlt
      have hm := hY l (List.mem_of_getElem? hLj)
      have C := Lib.hid (more_pure r Aj l.length cj l w B hRj hm.1 hm.2 hr)
      have HN : Hid (moreC r l = moreC 0 (L.take (j + 1)).flatten) := by show _ = _; rw [flat_take hLj, moreC_append, ← HR.out]
      have hr2 := moreC_lt hr hm.1
      clear hRj hLj hm
      generalize moreC r l = r2 at *
      go_wp2_with fail
      refine C.out.mono ?_
      rintro e w2 ⟨rfl, rfl⟩
      go_wp2_with fail
      go_round
      case rel => exact ⟨j + 1, r2, by omega, by go_num, rfl, hr2, HN⟩
      case measure => simp [intOf]; omega
    · obtain rfl : j = n := by omega
      have HV : Hid (r = ofC L.flatten) := by
        show _ = _
        have e : L.take j = L := List.take_of_length_le (by rw [HL.out]; exact Nat.le_refl _)
        rw [HR.out, e]
        rfl
      go_wp2_with fail
      go_ret
      exact ⟨ret_u32 (by rw [HV.out]), rfl⟩
theorem of_any (A : Option Addr) (n cap : Nat) (L : List (List Int)) (w : World) (hR : RdS w w.heap.size A n L) (hY : AllB L) (hb : n ≤ 1099511627776) :
    Calls Try.prog 81 #[.slice A n cap] w fun e w' => e = .returned (.int .u32 ((ofC L.flatten : Nat) : Int)) ∧ Below w.heap.size w w' :=
  (of_pure A n cap L w _ hR hY hb).mono (by rintro e w2 ⟨rfl, rfl⟩; exact ⟨rfl, Below.refl _ _⟩)
end Go.Proofs.Ytafdgibkhefplaa.sum
