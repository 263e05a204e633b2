/- BitsApart answers true: no varint is the beginning of another one, and Order keeps the order. Conditions: the numbers are of their kinds. -/
import Derived.Test.YtdadhpghdblgnaaBegun
import Derived.Test.YtdadhpghdblgnaaVarW
import Derived.Test.YtdadhpghdblgnaaStr
import Derived.Deep.Cut
import Derived.Deep.DeepCutAuto
import Derived.Deep.RegionWith
import Derived.Deep.QuietTactic
import Derived.BigQuiet
namespace Go.Proofs.Ytdadhpghdblgnaa.apart
open Go.RowKit Go.Proofs.Ytdadhpghdblgnaa.kit Go.Proofs.Ytdadhpghdblgnaa.nums
set_option linter.unusedVariables false

/-- What Var of nothing ends in: a slice whose text is known in every later world. -/
def PostV (u : Int) (w : World) (e : Ending) (w' : World) : Prop :=
  ∃ A n c, e = .returned (.slice A n c) ∧ Below w.heap.size w w' ∧ Below w'.heap.size w' w' ∧ (∀ wx, Below w'.heap.size w' wx → (convert 22 9 (.slice A n c)).run Try.prog wx = .ok (.string (strOfNums (varB u))) wx)
theorem var_text (u : Int) (w : World) (h0 : 0 ≤ u) (h1 : u ≤ 18446744073709551615) :
    Calls Try.prog 14 #[.slice none 0 0, .int .u64 u] w (PostV u w) := by
  refine (bytes.var_any none 0 0 [] u w (Rd.nil _ _ _) (by omega) h0 h1).mono ?_
  rintro e w' ⟨A, c, rfl, hl, hO, hB⟩
  obtain ⟨A', c', hv, _, _, hR⟩ := hO.slice
  rw [hl] at hv hR
  simp only [Value.slice.injEq] at hv
  obtain ⟨rfl, -, rfl⟩ := hv
  refine ⟨A, _, c, rfl, hB, Below.refl _ _, fun wx hx => ?_⟩
  exact run_string_rd wx 22 5 9 Try.underlying22 Try.underlying5 Try.underlying9 w'.heap.size A _ c _ (hR.below hx)

theorem order_q (v : Int) (w : World) (h0 : -9223372036854775808 ≤ v) (h1 : v ≤ 9223372036854775807) :
    Calls Try.prog 29 #[.int .i64 v] w fun e w' => e = .returned (.int .u64 (v + 9223372036854775808)) ∧ w' = w :=
  (ints.order_any v w h0 h1).mono fun _ _ ⟨he, hw⟩ => ⟨he, hw.symm⟩

theorem cut_at (s : ByteArray) (n : Nat) (h : n ≤ s.size) (w : World) : (Instr.slice 9 (.string s) none (some (.int .i64 (n : Int))) none).run Try.prog w = .ok (.string (s.extract 0 n)) w := by
  have := run_slice_string_h (P := Try.prog) (w := w) (t := 9) (s := s) Try.underlying9 .i64 n (by omega) (by omega)
  simpa using this

set_option maxHeartbeats 400000 in
theorem walk (a0 a1 a2 a3 : Int) (w : World) (w0 : (Lit.int .u64 a0).wf = true) (w1 : (Lit.int .u64 a1).wf = true) (w2 : (Lit.int .i64 a2).wf = true) (w3 : (Lit.int .i64 a3).wf = true) :
    Calls Try.prog 6 #[.int .u64 a0, .int .u64 a1, .int .i64 a2, .int .i64 a3] w fun e w' => e = .returned (.bool true) ∧ Below w.heap.size w w' := by
  have b0 : 0 ≤ a0 ∧ a0 ≤ 18446744073709551615 := by simpa [Lit.wf, IntKind.min, IntKind.max, IntKind.signed, IntKind.bits] using w0
  have b1 : 0 ≤ a1 ∧ a1 ≤ 18446744073709551615 := by simpa [Lit.wf, IntKind.min, IntKind.max, IntKind.signed, IntKind.bits] using w1
  have b2 : -9223372036854775808 ≤ a2 ∧ a2 ≤ 9223372036854775807 := by simpa [Lit.wf, IntKind.min, IntKind.max, IntKind.signed, IntKind.bits] using w2
  have b3 : -9223372036854775808 ≤ a3 ∧ a3 ≤ 9223372036854775807 := by simpa [Lit.wf, IntKind.min, IntKind.max, IntKind.signed, IntKind.bits] using w3
  have c0 := Lib.hid fun w => var_text a0 w b0.1 b0.2
  have c1 := Lib.hid fun w => var_text a1 w b1.1 b1.2
  have c2 := Lib.hid fun w => order_q a2 w b2.1 b2.2
  have c3 := Lib.hid fun w => order_q a3 w b3.1 b3.2
  clear w0 w1 w2 w3
  go_enter Try.func6, Try.ntmps6
  go_wp2_with fail
  refine (bytes.begun_any _).mono ?_
  rintro e v1 ⟨rfl, hB⟩
  go_upto_region 3 with (fail)
  go_cut [9, 10] (fun s t wx => s = .string (strOfNums (varB a0)) ∧ t = .string (strOfNums (varB a1)) ∧ Below w.heap.size w wx)
  case first =>
    go_region_with (first
      | (go_at_call_of 14 a0; refine (c0.out _).mono ?_; rintro e v2 ⟨A0, n0, d0, rfl, hB0, hr0, hv0⟩)
      | (go_at_call_of 14 a1; refine (c1.out _).mono ?_; rintro e v3 ⟨A1, n1, d1, rfl, hB1, hr1, hv1⟩))
    all_goals (go_wp2_with fail; go_meet; exact ⟨rfl, rfl, (hB.drew.trans (hB0.mono hB.size)).trans (hB1.mono (Nat.le_trans hB.size hB0.size))⟩)
  case rest =>
    obtain ⟨rfl, rfl, hB2⟩ := hcut
    have p0 : 0 < (strOfNums (varB a0)).size := by rw [strOfNums_size]; exact (varB_length a0).1
    have p1 : (strOfNums (varB a0)).size ≤ 10 := by rw [strOfNums_size]; exact (varB_length a0).2
    have q0 : 0 < (strOfNums (varB a1)).size := by rw [strOfNums_size]; exact (varB_length a1).1
    have q1 : (strOfNums (varB a1)).size ≤ 10 := by rw [strOfNums_size]; exact (varB_length a1).2
    have o0 : decide (a2 + 9223372036854775808 < a3 + 9223372036854775808) = decide (a2 < a3) := by rw [decide_eq_decide]; omega
    have O0 := Lib.hid o0
    by_cases hab : a0 = a1
    · subst hab
      clear c0 c1 o0
      generalize strOfNums (varB a0) = P at *
      go_upto_region 5 with (fail)
      go_quiet (first | (go_at_call_of 29 a2; exact Calls.quiet_of_same (c2.out _)) | (go_at_call_of 29 a3; exact Calls.quiet_of_same (c3.out _)))
      go_wp2_with fail
      go_ret
      exact ⟨rfl, below_drewN hB2 _⟩
    · have hne := str_ne b0.1 b0.2 b1.1 b1.2 hab
      have hab2 : (a0 == a1) = false := beq_eq_false_iff_ne.2 hab
      clear c0 c1 o0 hab b0 b1
      generalize strOfNums (varB a0) = P at *
      generalize strOfNums (varB a1) = Q at *
      by_cases hsz : Q.size < P.size
      · have hn1 : ((P.extract 0 Q.size).toList == Q.toList) = false := by have := str_beq_ne (hne Q.size (by omega)); rw [show Q.extract 0 Q.size = Q by simp] at this; exact this
        have hs1 := fun wx => cut_at P Q.size (by omega) wx
        have hs2 := fun wx => cut_at Q Q.size (by omega) wx
        clear hne
        go_upto_region 5 with (fail)
        go_quiet (first | (go_at_call_of 29 a2; exact Calls.quiet_of_same (c2.out _)) | (go_at_call_of 29 a3; exact Calls.quiet_of_same (c3.out _)))
        go_wp2_with fail
        go_ret
        exact ⟨rfl, below_drewN hB2 _⟩
      · have hn1 : (P.toList == (Q.extract 0 P.size).toList) = false := by have := str_beq_ne (hne P.size (by omega)); rw [show P.extract 0 P.size = P by simp] at this; exact this
        have hs1 := fun wx => cut_at P P.size (by omega) wx
        have hs2 := fun wx => cut_at Q P.size (by omega) wx
        clear hne
        go_upto_region 5 with (fail)
        go_quiet (first | (go_at_call_of 29 a2; exact Calls.quiet_of_same (c2.out _)) | (go_at_call_of 29 a3; exact Calls.quiet_of_same (c3.out _)))
        go_wp2_with fail
        go_ret
        exact ⟨rfl, below_drewN hB2 _⟩
end Go.Proofs.Ytdadhpghdblgnaa.apart
