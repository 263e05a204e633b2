/- A set is that of its list; what is put in is in, what is taken out is not, and nothing else is turned (antipodelaw9.SetsBack). -/
import Derived.Test.YtdjfmpejhgmbbaaBegun9
namespace Go.Proofs.Ytdjfmpejhgmbbaa.law9
open Go Go.RowKit Go.Proofs.Ytdjfmpejhgmbbaa.kit Go.Proofs.Ytdjfmpejhgmbbaa.nums Go.Proofs.Ytdjfmpejhgmbbaa.se Go.Proofs.Ytdjfmpejhgmbbaa.ref9 Go.Proofs.Ytdjfmpejhgmbbaa.seti
set_option linter.unusedVariables false

theorem own_rd {w : World} {b : Nat} {A : Option Addr} {c : Nat} {l : List Int} (h : OwnV 3 w b (.slice A l.length c) (i64s l)) : RdV w w.heap.size A l.length (i64s l) := by
  obtain ⟨A', c', e, _, _, hR⟩ := h.slice
  rw [i64s_length] at e hR
  injection e with e1 _ _
  subst e1
  exact hR
theorem list_ints (s : Nat) : Ints (listF s) := fun n hn => by have := list_node hn; omega
theorem has_with_self (s : Nat) (n : Int) : hasF (withF s n) n = nodeB n := by
  rw [hasF_with]
  cases h : nodeB n
  · rw [hasF_not h]; rfl
  · simp
theorem has_less_self (s : Nat) (n : Int) : hasF (lessF s n) n = false := by rw [hasF_less]; simp
theorem has_with_other (s : Nat) {n m : Int} (h : m ≠ n) : hasF (withF s n) m = hasF s m := by rw [hasF_with]; simp [h]
theorem has_less_other (s : Nat) {n m : Int} (h : m ≠ n) : hasF (lessF s n) m = hasF s m := by rw [hasF_less]; simp [h]
set_option maxHeartbeats 4000000 in
theorem back_nat (s : Nat) (n m : Int) (w : World) (hs : s < 65536) (n0 : -9223372036854775808 ≤ n) (n1 : n ≤ 9223372036854775807) (m0 : -9223372036854775808 ≤ m) (m1 : m ≤ 9223372036854775807) :
    Calls Try.prog 4 #[.int .u16 (s : Int), .int .i64 n, .int .i64 m] w fun e w' => e = .returned (.bool true) ∧ Below w.heap.size w w' := by
  have HX : bits .and .u16 (s : Int) 1022 = ((s &&& 1022 : Nat) : Int) := bits_and_u16_nat s 1022 hs (by omega)
  have hS : s &&& 1022 < 65536 := Nat.lt_of_le_of_lt Nat.and_le_left hs
  have hM := may_and s
  have CB := Lib.hid begun_any
  generalize s &&& 1022 = S at *
  have HO : ofF 0 (listF S) = some S := by
    rw [ofF_list]
    rw [may_of, decide_eq_true_eq] at hM
    rw [hM]
  have CL := Lib.hid (fun w => seti.list_any S w hS)
  have CO := Lib.hid (fun A c w b (h : OwnV 3 w b (.slice A (listF S).length c) (i64s (listF S))) => seti.of_any A (listF S).length c (listF S) w _ (own_rd h) (list_ints S) (by have := list_len S; omega))
  rw [HO] at CO
  unfold ofV at CO
  have hl := list_len S
  have hWl := withF_lt n hS
  have hLl := Nat.lt_of_le_of_lt (lessF_le S n) hS
  have CW := Lib.hid (fun w => seti.with_any S n w hS n0 n1)
  have CE := Lib.hid (fun w => seti.less_any S n w hS n0 n1)
  have CWn := Lib.hid (fun w => seti.has_any (withF S n) n w hWl n0 n1)
  have CEn := Lib.hid (fun w => seti.has_any (lessF S n) n w hLl n0 n1)
  have CWm := Lib.hid (fun (h : m ≠ n) w => has_with_other S h ▸ seti.has_any (withF S n) m w hWl m0 m1)
  have CEm := Lib.hid (fun (h : m ≠ n) w => has_less_other S h ▸ seti.has_any (lessF S n) m w hLl m0 m1)
  have CSm := Lib.hid (fun w => seti.has_any S m w hS m0 m1)
  have CMW := Lib.hid (fun w => seti.may_any (withF S n) w hWl)
  have CME := Lib.hid (fun w => seti.may_any (lessF S n) w hLl)
  rw [may_with n hM] at CMW
  rw [may_less n hM] at CME
  rw [has_with_self] at CWn
  rw [has_less_self] at CEn
  clear HO hM
  generalize withF S n = a at *
  generalize lessF S n = b at *
  generalize hasF S m = y at *
  generalize listF S = l at *
  unfold IsIs at CL
  have hcase : (nodeB n = true ∧ 1 ≤ n ∧ n ≤ 9) ∨ (nodeB n = false ∧ n < 1) ∨ (nodeB n = false ∧ 1 ≤ n ∧ decide (n ≤ 9) = false) := by
    unfold nodeB
    by_cases h1 : 1 ≤ n
    · by_cases h2 : n ≤ 9
      · left; simp [h1, h2]
      · right; right; simp [h1, h2]
    · right; left; simp [h1]; omega
  go_enter Try.func4, Try.ntmps4
  go_wp2_with fail
  refine (CB.out _).mono ?_
  rintro e w1 ⟨rfl, hB⟩
  go_wp2_with fail
  refine (CL.out _).mono ?_
  rintro e w2 ⟨A, c, rfl, hO, hB2⟩
  have hB := hB.trans (hB2.mono hB.size)
  clear hB2
  have C0 := Lib.hid (CO.out A c _ _ hO)
  clear hO
  go_wp2_with fail
  refine C0.out.mono ?_
  rintro e w3 ⟨rfl, hB2⟩
  have hB := hB.trans (hB2.mono hB.size)
  clear hB2 C0 CL CO CB
  rcases hcase with ⟨hn, q1, q2⟩ | ⟨hn, q1⟩ | ⟨hn, q1, q2⟩
  all_goals
    rw [hn] at CWn
    go_wp2_with fail
    refine (CW.out _).mono ?_
    rintro e w4 ⟨rfl, hB2⟩
    have hB := hB.trans (hB2.mono hB.size)
    clear hB2
    go_wp2_with fail
    refine (CE.out _).mono ?_
    rintro e w5 ⟨rfl, hB2⟩
    have hB := hB.trans (hB2.mono hB.size)
    clear hB2
    go_wp2_with fail
    refine (CWn.out _).mono ?_
    rintro e w6 ⟨rfl, hB2⟩
    have hB := hB.trans (hB2.mono hB.size)
    clear hB2
    go_wp2_with fail
    refine (CEn.out _).mono ?_
    rintro e w7 ⟨rfl, hB2⟩
    have hB := hB.trans (hB2.mono hB.size)
    clear hB2
    by_cases hmn : m = n
    · subst hmn
      go_wp2_with fail
      refine (CMW.out _).mono ?_
      rintro e w8 ⟨rfl, hB2⟩
      have hB := hB.trans (hB2.mono hB.size)
      clear hB2
      go_wp2_with fail
      refine (CME.out _).mono ?_
      rintro e w9 ⟨rfl, hB2⟩
      have hB := hB.trans (hB2.mono hB.size)
      clear hB2
      go_wp2_with fail
      go_ret
      exact ⟨rfl, hB⟩
    · have K1 := Lib.hid (CWm.out hmn)
      have K2 := Lib.hid (CEm.out hmn)
      clear CWm CEm
      have hmn' : (m == n) = false := by simpa using hmn
      go_wp2_with fail
      refine (K1.out _).mono ?_
      rintro e w8 ⟨rfl, hB2⟩
      have hB := hB.trans (hB2.mono hB.size)
      clear hB2
      go_wp2_with fail
      refine (CSm.out _).mono ?_
      rintro e w9 ⟨rfl, hB2⟩
      have hB := hB.trans (hB2.mono hB.size)
      clear hB2
      go_wp2_with fail
      refine (K2.out _).mono ?_
      rintro e w10 ⟨rfl, hB2⟩
      have hB := hB.trans (hB2.mono hB.size)
      clear hB2
      go_wp2_with fail
      refine (CSm.out _).mono ?_
      rintro e w11 ⟨rfl, hB2⟩
      have hB := hB.trans (hB2.mono hB.size)
      clear hB2
      go_wp2_with fail
      refine (CMW.out _).mono ?_
      rintro e w12 ⟨rfl, hB2⟩
      have hB := hB.trans (hB2.mono hB.size)
      clear hB2
      go_wp2_with fail
      refine (CME.out _).mono ?_
      rintro e w13 ⟨rfl, hB2⟩
      have hB := hB.trans (hB2.mono hB.size)
      clear hB2
      go_wp2_with fail
      go_ret
      exact ⟨rfl, hB⟩
end Go.Proofs.Ytdjfmpejhgmbbaa.law9
