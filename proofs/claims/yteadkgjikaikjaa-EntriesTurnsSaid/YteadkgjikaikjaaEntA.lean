/- The landed entries: within, Last, behind, upTo, At, Term. Conditions: the log's numbers stay far from the ends of an int. -/
import Derived.Test.YteadkgjikaikjaaKitLg
import Derived.Test.YteadkgjikaikjaaTk
import Derived.Deep.RegionHeld3
import Derived.Deep.Cut
import Derived.Lib.Hide
namespace Go.Proofs.Yteadkgjikaikjaa.enti
open Go Go.RowKit Go.Proofs.Yteadkgjikaikjaa.kit Go.Proofs.Yteadkgjikaikjaa.nums Go.Proofs.Yteadkgjikaikjaa.cf Go.Proofs.Yteadkgjikaikjaa.lg
set_option linter.unusedVariables false

theorem wrap_sm {z : Int} (h1 : -9000000000000000000 ≤ z) (h2 : z ≤ 9000000000000000000) : IntKind.i64.wrap z = z := by rw [IntKind.wrap_i64]; omega
theorem within_any (n m : Int) (w : World) : Calls Try.prog 39 #[.int .i64 n, .int .i64 m] w fun e w' => e = .returned (.bool (withB n m)) ∧ w = w' := by
  unfold withB
  by_cases h1 : m ≤ n
  · by_cases h2 : n ≤ 1099511627776
    · go_enter Try.func39, Try.ntmps39
      go_wp2_with fail
      go_ret
      exact ⟨by simp <;> omega, rfl⟩
    · go_enter Try.func39, Try.ntmps39
      go_wp2_with fail
      go_ret
      exact ⟨by simp <;> omega, rfl⟩
  · go_enter Try.func39, Try.ntmps39
    go_wp2_with fail
    go_ret
    exact ⟨by simp <;> omega, rfl⟩

theorem last_any (L : LgL) (A : Option Addr) (n c : Nat) (w : World) (hn : L.es.length = n) (hf : Fit L) : Calls Try.prog 17 #[lgV L (.slice A n c)] w fun e w' => e = .returned (.int .i64 (lastF L)) ∧ Below w.heap.size w w' := by
  obtain ⟨h0, h1, h2⟩ := hf
  have u1 : IntKind.i64.wrap (L.b + (n : Int)) = L.b + (n : Int) := enti.wrap_sm (by omega) (by omega)
  have hl : lastF L = L.b + (n : Int) := by unfold lastF; rw [hn]
  rw [hl]
  unfold lgV
  obtain ⟨b, t, j, es⟩ := L
  dsimp only at *
  clear hl hn
  have k0 : Blk 30 (w.alloc (.cells #[.int .i64 b, .int .i64 t, j0 j, j1 j, j2 j, j3 j, j4 j, j5 j, j6 j, j7 j, j8 j, j9 j, j10 j, .slice A n c] 30)) w.heap.size [.int .i64 b, .int .i64 t, j0 j, j1 j, j2 j, j3 j, j4 j, j5 j, j6 j, j7 j, j8 j, j9 j, j10 j, .slice A n c] := (heap_alloc_new w (.cells #[.int .i64 b, .int .i64 t, j0 j, j1 j, j2 j, j3 j, j4 j, j5 j, j6 j, j7 j, j8 j, j9 j, j10 j, .slice A n c] 30))
  have hB : Below w.heap.size w (w.alloc (.cells #[.int .i64 b, .int .i64 t, j0 j, j1 j, j2 j, j3 j, j4 j, j5 j, j6 j, j7 j, j8 j, j9 j, j10 j, .slice A n c] 30)) := ((Below.refl w.heap.size w).alloc (by first | exact Nat.le_refl _ | simp) (.cells #[.int .i64 b, .int .i64 t, j0 j, j1 j, j2 j, j3 j, j4 j, j5 j, j6 j, j7 j, j8 j, j9 j, j10 j, .slice A n c] 30))
  have HB := Lib.hid hB
  clear hB
  go_enter Try.func17, Try.ntmps17
  go_wp2_with fail
  go_ret
  exact ⟨rfl, HB.out⟩

theorem behind_any (L : LgL) (A : Option Addr) (n c k : Nat) (i : Int) (w : World) (B : Nat) (hR : RdE w B A n L.es) (hB : B ≤ w.heap.size) (hc : n ≤ c) (hf : Fit L) (hi : i = L.b + k) (hk : k ≤ n) : Calls Try.prog 40 #[lgV L (.slice A n c), .int .i64 i] w fun e w' => ∃ A' c', e = .returned (.slice A' (n - k) c') ∧ RdE w' B A' (n - k) (L.es.drop k) ∧ (n - k) ≤ c' ∧ c' ≤ c ∧ Below w.heap.size w w' := by
  obtain ⟨h0, h1, h2⟩ := hf
  have hl := hR.1
  have u1 : IntKind.i64.wrap (i - L.b) = (k : Int) := by rw [enti.wrap_sm (by omega) (by omega)]; omega
  have HR := Lib.hid hR
  have hBs := hB
  clear hi hR hB
  unfold lgV
  obtain ⟨b, t, j, es⟩ := L
  dsimp only at *
  clear h0 h1 h2 hl
  have k0 : Blk 30 (w.alloc (.cells #[.int .i64 b, .int .i64 t, j0 j, j1 j, j2 j, j3 j, j4 j, j5 j, j6 j, j7 j, j8 j, j9 j, j10 j, .slice A n c] 30)) w.heap.size [.int .i64 b, .int .i64 t, j0 j, j1 j, j2 j, j3 j, j4 j, j5 j, j6 j, j7 j, j8 j, j9 j, j10 j, .slice A n c] := (heap_alloc_new w (.cells #[.int .i64 b, .int .i64 t, j0 j, j1 j, j2 j, j3 j, j4 j, j5 j, j6 j, j7 j, j8 j, j9 j, j10 j, .slice A n c] 30))
  have hB : Below w.heap.size w (w.alloc (.cells #[.int .i64 b, .int .i64 t, j0 j, j1 j, j2 j, j3 j, j4 j, j5 j, j6 j, j7 j, j8 j, j9 j, j10 j, .slice A n c] 30)) := ((Below.refl w.heap.size w).alloc (by first | exact Nat.le_refl _ | simp) (.cells #[.int .i64 b, .int .i64 t, j0 j, j1 j, j2 j, j3 j, j4 j, j5 j, j6 j, j7 j, j8 j, j9 j, j10 j, .slice A n c] 30))
  have HB := Lib.hid hB
  clear hB
  go_enter Try.func40, Try.ntmps40
  go_wp2_with (with_reducible refine wpList_slice_lE rfl _ _ rfl A n c B es rfl (HR.out.on (HB.out.mono hBs) (Nat.le_refl _)) .i64 _ k rfl rfl hk hc ?_)
  intro A' c' hR2 hc1 hc2
  have HR2 := Lib.hid hR2
  clear hR2
  go_wp2_with fail
  go_ret
  exact ⟨A', c', rfl, HR2.out, by omega, by omega, HB.out⟩

theorem upTo_any (L : LgL) (A : Option Addr) (n c k : Nat) (i : Int) (w : World) (B : Nat) (hR : RdE w B A n L.es) (hB : B ≤ w.heap.size) (hc : n ≤ c) (hf : Fit L) (hi : i = L.b + k) (hk : k ≤ n) : Calls Try.prog 48 #[lgV L (.slice A n c), .int .i64 i] w fun e w' => ∃ A' c', e = .returned (.slice A' k c') ∧ RdE w' B A' k (L.es.take k) ∧ k ≤ c' ∧ c' ≤ c ∧ Below w.heap.size w w' := by
  obtain ⟨h0, h1, h2⟩ := hf
  have hl := hR.1
  have u1 : IntKind.i64.wrap (i - L.b) = (k : Int) := by rw [enti.wrap_sm (by omega) (by omega)]; omega
  have HR := Lib.hid hR
  have hBs := hB
  clear hi hR hB
  unfold lgV
  obtain ⟨b, t, j, es⟩ := L
  dsimp only at *
  clear h0 h1 h2 hl
  have k0 : Blk 30 (w.alloc (.cells #[.int .i64 b, .int .i64 t, j0 j, j1 j, j2 j, j3 j, j4 j, j5 j, j6 j, j7 j, j8 j, j9 j, j10 j, .slice A n c] 30)) w.heap.size [.int .i64 b, .int .i64 t, j0 j, j1 j, j2 j, j3 j, j4 j, j5 j, j6 j, j7 j, j8 j, j9 j, j10 j, .slice A n c] := (heap_alloc_new w (.cells #[.int .i64 b, .int .i64 t, j0 j, j1 j, j2 j, j3 j, j4 j, j5 j, j6 j, j7 j, j8 j, j9 j, j10 j, .slice A n c] 30))
  have hB : Below w.heap.size w (w.alloc (.cells #[.int .i64 b, .int .i64 t, j0 j, j1 j, j2 j, j3 j, j4 j, j5 j, j6 j, j7 j, j8 j, j9 j, j10 j, .slice A n c] 30)) := ((Below.refl w.heap.size w).alloc (by first | exact Nat.le_refl _ | simp) (.cells #[.int .i64 b, .int .i64 t, j0 j, j1 j, j2 j, j3 j, j4 j, j5 j, j6 j, j7 j, j8 j, j9 j, j10 j, .slice A n c] 30))
  have HB := Lib.hid hB
  clear hB
  go_enter Try.func48, Try.ntmps48
  go_wp2_with (with_reducible refine wpList_slice_hE rfl _ _ rfl A n c B es rfl (HR.out.on (HB.out.mono hBs) (Nat.le_refl _)) .i64 _ k rfl rfl hk hc ?_)
  intro A' c' hR2 hc1 hc2
  have HR2 := Lib.hid hR2
  clear hR2
  go_wp2_with fail
  go_ret
  exact ⟨A', c', rfl, HR2.out, by omega, by omega, HB.out⟩

end Go.Proofs.Yteadkgjikaikjaa.enti
