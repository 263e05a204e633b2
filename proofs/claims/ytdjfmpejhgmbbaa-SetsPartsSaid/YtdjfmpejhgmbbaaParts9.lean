/- All subsets are told, rising, each once, until the function tells false (antipodelaw9.SetsParts). -/
import Derived.Test.YtdjfmpejhgmbbaaBegun9
namespace Go.Proofs.Ytdjfmpejhgmbbaa.law9
open Go Go.RowKit Go.Proofs.Ytdjfmpejhgmbbaa.kit Go.Proofs.Ytdjfmpejhgmbbaa.nums Go.Proofs.Ytdjfmpejhgmbbaa.se Go.Proofs.Ytdjfmpejhgmbbaa.ref9 Go.Proofs.Ytdjfmpejhgmbbaa.seti
set_option linter.unusedVariables false

set_option maxHeartbeats 2000000 in
theorem parts_nat (s : Nat) (stop : Int) (w : World) (hs : s < 65536) (h0 : -9223372036854775808 ≤ stop) (h1 : stop ≤ 9223372036854775807) :
    Calls Try.prog 5 #[.int .u16 (s : Int), .int .i64 stop] w fun e w' => e = .returned (.bool true) ∧ Below w.heap.size w w' := by
  have hmf : ∀ (fn : Fn) (first cap : Array Value) (w : World), (Instr.makeFunc fn first cap).run Try.prog w = .ok (.func fn first cap) w := fun _ _ _ _ => rfl
  have HX : bits .and .u16 (s : Int) 1022 = ((s &&& 1022 : Nat) : Int) := bits_and_u16_nat s 1022 hs (by omega)
  have CB := Lib.hid begun_any
  have CN := Lib.hid (fun w => seti.count_any s w hs)
  have HL := subL_len s
  have hle := list_len s
  have CT := Lib.hid (fun p w wq => count_told s p stop w wq hs)
  have CZ := Lib.hid (fun w => seti.subsets_nil s w hs)
  generalize s &&& 1022 = al at *
  generalize (subL s).length = K at *
  generalize (listF s).length = k at *
  have hK : K ≤ 512 := by rw [HL]; exact Nat.pow_le_pow_right (n := 2) (by omega) hle
  have hK1 : 1 ≤ K := by rw [HL]; exact Nat.two_pow_pos _
  have HKK := Lib.hid HL
  clear HL
  go_enter Try.func5, Try.ntmps5
  go_wp2_with fail
  refine (CB.out _).mono ?_
  rintro e w1 ⟨rfl, hB1⟩
  go_wp2_with fail
  go_loopw [6, 7] (fun v iv wr => ∃ (j a : Nat), j ≤ k ∧ iv = .int .i64 j ∧ v = .int .i64 a ∧ a ≤ 512 ∧ Hid (a = 2 ^ j) ∧ Below w.heap.size w wr) (fun _ iv _ => k - (intOf iv).toNat)
  case atStart => exact ⟨0, 1, by omega, rfl, rfl, by omega, rfl, hB1⟩
  case round =>
    obtain ⟨j, a, hj, rfl, rfl, ha, HA, hBr⟩ := hrel
    have hsr := hBr.size
    by_cases hlt : j < k
    · have hA2 : a * 2 = 2 ^ (j + 1) := by rw [HA.out, Nat.pow_succ]
      have hA3 : a * 2 ≤ 512 := by rw [hA2]; exact pow_le9 (by omega)
      go_wp2_with fail
      refine (CN.out _).mono ?_
      rintro e w2 ⟨rfl, hB2⟩
      have hB12 := hBr.trans (hB2.mono hsr)
      clear hB2
      go_wp2_with fail
      go_roundw
      case rel => exact ⟨j + 1, a * 2, by omega, by go_num, by go_num, hA3, hA2, hB12⟩
      case measure => simp [intOf]; omega
    · obtain rfl : j = k := by omega
      obtain rfl : a = K := by rw [HA.out, HKK.out]
      clear HA HKK hB1
      go_wp2_with fail
      refine (CN.out _).mono ?_
      rintro e w2 ⟨rfl, hB2⟩
      have hB := hBr.trans (hB2.mono hsr)
      clear hB2 hBr hsr
      have kc : Blk 38 (w2.alloc (.cells #[.int .i64 0, .int .i64 (-1), .int .i64 stop, .bool true, .int .u16 (al : Int)] 38)) w2.heap.size (cellsN 0 (-1) stop al) := heap_alloc_new w2 _
      have C2 := Lib.hid (CT.out w2.heap.size w2 _ kc ((Below.refl _ _).alloc (Nat.le_refl _) _))
      clear CT
      go_wp2_with (rw [hmf])
      refine C2.out.mono ?_
      rintro e w3 ⟨rfl, m, last, ht, k3, hB3⟩
      have hm := told_num ht hK1
      have hB13 := hB.trans (hB3.mono hB.size)
      clear hB3 ht C2 kc hB
      go_wp2_with fail
      refine (CZ.out _).mono ?_
      rintro e w4 ⟨rfl, hB4⟩
      have k4 := k3.below hB4 k3.lt
      have hB14 := hB13.trans (hB4.mono hB13.size)
      clear k3 hB13 hB4
      have c0 := k4.cell 0
      have c3 := k4.cell 3
      simp only [cellsN, List.getElem?_cons_zero, List.getElem?_cons_succ] at c0 c3
      by_cases hs1 : 1 ≤ stop
      · by_cases hs2 : stop ≤ a
        · rw [if_pos ⟨hs1, hs2⟩] at hm
          rw [hm] at c0
          go_wp2_with fail
          go_ret
          exact ⟨rfl, hB14⟩
        · rw [if_neg (by omega)] at hm
          rw [hm] at c0
          go_wp2_with fail
          go_ret
          exact ⟨rfl, hB14⟩
      · rw [if_neg (by omega)] at hm
        rw [hm] at c0
        go_wp2_with fail
        go_ret
        exact ⟨rfl, hB14⟩
theorem parts_walk (s stop : Int) (w : World) (w0 : (Lit.int .u16 s).wf = true) (w1 : (Lit.int .i64 stop).wf = true) :
    Calls Try.prog 5 #[.int .u16 s, .int .i64 stop] w fun e w' => e = .returned (.bool true) ∧ Below w.heap.size w w' := by
  have b : 0 ≤ s ∧ s ≤ 65535 := by simpa [Lit.wf, IntKind.min, IntKind.max, IntKind.signed, IntKind.bits] using w0
  have b1 : -9223372036854775808 ≤ stop ∧ stop ≤ 9223372036854775807 := by simpa [Lit.wf, IntKind.min, IntKind.max, IntKind.signed, IntKind.bits] using w1
  obtain ⟨t, rfl⟩ := Int.eq_ofNat_of_zero_le b.1
  exact parts_nat t stop w (by omega) b1.1 b1.2
end Go.Proofs.Ytdjfmpejhgmbbaa.law9
