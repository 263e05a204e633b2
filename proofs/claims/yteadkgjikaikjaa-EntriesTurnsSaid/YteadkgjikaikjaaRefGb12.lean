/- The document's entries: Alike. Conditions: the log's numbers stay far from the ends of an int. -/
import Derived.BigQuiet
import Derived.Test.YteadkgjikaikjaaEqE12
import Derived.Test.YteadkgjikaikjaaEntA
import Derived.Test.YteadkgjikaikjaaKitLg
import Derived.Test.YteadkgjikaikjaaTk
import Derived.Deep.RegionHeld3
import Derived.Deep.Cut
import Derived.Lib.Hide
namespace Go.Proofs.Yteadkgjikaikjaa.ref12
open Go Go.RowKit Go.Proofs.Yteadkgjikaikjaa.kit Go.Proofs.Yteadkgjikaikjaa.nums Go.Proofs.Yteadkgjikaikjaa.cf Go.Proofs.Yteadkgjikaikjaa.lg
set_option linter.unusedVariables false
set_option maxHeartbeats 2000000 in
theorem ralike_any (A : Option Addr) (n c : Nat) (es : List EnL) (A2 : Option Addr) (n2 c2 : Nat) (es2 : List EnL) (w : World) (B B2 : Nat) (hR : RdE w B A n es) (hB : B ≤ w.heap.size) (hR2 : RdE w B2 A2 n2 es2) (hB2 : B2 ≤ w.heap.size) (hn : n ≤ 1099511627776) : Calls Try.prog 19 #[.slice A n c, .slice A2 n2 c2] w fun e w' => e = .returned (.bool (eqEs es es2)) ∧ Below w.heap.size w w' := by
  have HR := Lib.hid hR
  have HR2 := Lib.hid hR2
  have HE : Hid (n ≠ n2 → eqEs es es2 = false) := fun h => eqEs_len (by rw [hR.1, hR2.1]; exact h)
  have HD : Hid (∀ (i : Nat) (x y : EnL), es[i]? = some x → es2[i]? = some y → eqEs (es.drop i) (es2.drop i) = (eqE x y && eqEs (es.drop (i + 1)) (es2.drop (i + 1)))) := fun i x y h1 h2 => eqEs_drop h1 h2
  have HZ : Hid (n = n2 → eqEs (es.drop n) (es2.drop n) = true) := fun h => by rw [List.drop_of_length_le (by rw [hR.1]; exact Nat.le_refl _), List.drop_of_length_le (by rw [hR2.1, h]; exact Nat.le_refl _)]; rfl
  have H0 : Hid (eqEs es es2 = eqEs (es.drop 0) (es2.drop 0)) := rfl
  clear hR hR2
  generalize eqEs es es2 = RES at *
  by_cases hne : n = n2
  · subst hne
    have HZ2 := Lib.hid (HZ.out rfl)
    clear HZ HE
    go_enter Try.func19, Try.ntmps19
    go_wp2_with fail
    go_loopw [5] (fun iv wr => ∃ i : Nat, i ≤ n ∧ iv = .int .i64 (i : Int) ∧ Hid (RES = eqEs (es.drop i) (es2.drop i)) ∧ Hid (Below w.heap.size w wr)) (fun iv _ => n - (intOf iv).toNat)
    case atStart => exact ⟨0, Nat.zero_le _, rfl, H0, Lib.hid (Below.refl _ _)⟩
    case round =>
      obtain ⟨i, hi, rfl, HG, HBr⟩ := hrel
      by_cases hin : i < n
      · obtain ⟨b1, o1, x, rfl, hl1, hx, hA⟩ := (HR.out.on (HBr.out.mono hB) (Nat.le_refl _)).at_ (j := i) hin
        obtain ⟨b2, o2, y, rfl, hl2, hy, hA2⟩ := (HR2.out.on (HBr.out.mono hB2) (Nat.le_refl _)).at_ (j := i) hin
        have c1 := at14 hA
        have c2 := at14 hA2
        have hDx := Lib.hid (HD.out i x y hx hy)
        have hin1 : (i : Int) < (n : Int) := by omega
        have hq := fun w => neq_en x y w
        unfold enV at hq
        clear hA hA2 hx hy HD HZ2
        rcases hxy : eqE x y with _ | _
        · have hFr2 : Hid (RES = false) := by show _ = _; rw [HG.out, hDx.out, hxy]; rfl
          rw [hxy] at hq
          clear HG hDx hxy
          go_wp2_with fail
          go_quiet (fail)
          go_wp2_with fail
          go_ret
          exact ⟨by rw [hFr2.out]; rfl, below_drewN HBr.out _⟩
        · have hFr2 : Hid (RES = eqEs (es.drop (i + 1)) (es2.drop (i + 1))) := by show _ = _; rw [HG.out, hDx.out, hxy]; rfl
          rw [hxy] at hq
          clear HG hDx hxy
          go_wp2_with fail
          go_quiet (fail)
          go_wp2_with fail
          go_roundw
          case rel => exact ⟨i + 1, by omega, by go_num, hFr2, Lib.hid (below_drewN HBr.out _)⟩
          case measure => simp [intOf] <;> omega
      · obtain rfl : i = n := by omega
        have hFr2 : Hid (RES = true) := by show _ = _; rw [HG.out, HZ2.out]
        clear HG HZ2 HD
        go_wp2_with fail
        go_ret
        exact ⟨by rw [hFr2.out]; rfl, HBr.out⟩
  · have HF := Lib.hid (HE.out hne)
    clear HE HZ HD H0
    have hne2 : ((n : Int) != (n2 : Int)) = true := by rw [bne_iff_ne]; omega
    go_enter Try.func19, Try.ntmps19
    go_wp2_with fail
    go_ret
    exact ⟨by rw [HF.out]; rfl, Below.refl _ _⟩
end Go.Proofs.Yteadkgjikaikjaa.ref12
