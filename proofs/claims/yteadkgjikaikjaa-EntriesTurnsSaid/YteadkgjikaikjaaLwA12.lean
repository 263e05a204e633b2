/- What the statements' small and Light come to. Conditions: those that each theorem names. -/
import Derived.Test.YteadkgjikaikjaaKitLg
import Derived.Test.YteadkgjikaikjaaTk
import Derived.Deep.RegionHeld3
import Derived.Deep.Cut
import Derived.Lib.Hide
namespace Go.Proofs.Yteadkgjikaikjaa.law12
open Go Go.RowKit Go.Proofs.Yteadkgjikaikjaa.kit Go.Proofs.Yteadkgjikaikjaa.nums Go.Proofs.Yteadkgjikaikjaa.cf Go.Proofs.Yteadkgjikaikjaa.lg
set_option linter.unusedVariables false
set_option maxHeartbeats 1000000 in
theorem small_any (A : Option Addr) (n c : Nat) (es : List EnL) (w : World) (B : Nat) (hR : RdE w B A n es) (hn : n ≤ 1000000) : Calls Try.prog 38 #[.slice A n c] w fun e w' => ∃ bl, e = .returned (.bool bl) ∧ w = w' := by
  have HR := Lib.hid hR
  clear hR
  go_enter Try.func38, Try.ntmps38
  go_wp2_with fail
  go_loopw [3] (fun iv wr => ∃ i : Nat, i ≤ n ∧ iv = .int .i64 (i : Int) ∧ wr = w) (fun iv _ => n - (intOf iv).toNat)
  case atStart => exact ⟨0, Nat.zero_le _, rfl, rfl⟩
  case round =>
    obtain ⟨i, hi, rfl, rfl⟩ := hrel
    by_cases hin : i < n
    · obtain ⟨bb, oo, x, rfl, hlt, hx, hA⟩ := HR.out.at_ (j := i) hin
      have c2 := hA 2 _ rfl
      have hin1 : (i : Int) < (n : Int) := by omega
      clear hA hx
      by_cases h2 : x.d.size ≤ 200
      · have h3 : ¬ ((200 : Int) < (x.d.size : Int)) := by omega
        go_wp2_with fail
        go_roundw
        case rel => exact ⟨i + 1, by omega, by go_num, trivial⟩
        case measure => simp [intOf] <;> omega
      · have h3 : (200 : Int) < (x.d.size : Int) := by omega
        go_wp2_with fail
        go_ret
        exact ⟨false, rfl, rfl⟩
    · obtain rfl : i = n := by omega
      go_wp2_with fail
      go_ret
      exact ⟨true, rfl, rfl⟩

set_option maxHeartbeats 1000000 in
theorem light_any (L : LgL) (A : Option Addr) (n c : Nat) (A2 : Option Addr) (n2 c2 : Nat) (es2 : List EnL) (w : World) (B B2 : Nat) (hR : RdE w B A n L.es) (hB : B ≤ w.heap.size) (hE : RdE w B2 A2 n2 es2) (hB2 : B2 ≤ w.heap.size) : Calls Try.prog 10 #[lgV L (.slice A n c), .slice A2 n2 c2] w fun e w' => ∃ bl, e = .returned (.bool bl) ∧ Hid (bl = true → n ≤ 60 ∧ n2 ≤ 60) ∧ Below w.heap.size w w' := by
  have HR := Lib.hid hR
  have HE := Lib.hid hE
  have hBs := Lib.hid hB
  have hBt := Lib.hid hB2
  clear hR hE hB hB2
  unfold lgV at *
  obtain ⟨b, t, j, es⟩ := L
  dsimp only at *
  have k0 : Blk 30 (w.alloc (.cells #[.int .i64 b, .int .i64 t, j0 j, j1 j, j2 j, j3 j, j4 j, j5 j, j6 j, j7 j, j8 j, j9 j, j10 j, .slice A n c] 30)) w.heap.size [.int .i64 b, .int .i64 t, j0 j, j1 j, j2 j, j3 j, j4 j, j5 j, j6 j, j7 j, j8 j, j9 j, j10 j, .slice A n c] := (heap_alloc_new w (.cells #[.int .i64 b, .int .i64 t, j0 j, j1 j, j2 j, j3 j, j4 j, j5 j, j6 j, j7 j, j8 j, j9 j, j10 j, .slice A n c] 30))
  have hB : Below w.heap.size w (w.alloc (.cells #[.int .i64 b, .int .i64 t, j0 j, j1 j, j2 j, j3 j, j4 j, j5 j, j6 j, j7 j, j8 j, j9 j, j10 j, .slice A n c] 30)) := ((Below.refl w.heap.size w).alloc (by first | exact Nat.le_refl _ | (simp; done) | (simp; omega)) (.cells #[.int .i64 b, .int .i64 t, j0 j, j1 j, j2 j, j3 j, j4 j, j5 j, j6 j, j7 j, j8 j, j9 j, j10 j, .slice A n c] 30))
  have HB := Lib.hid hB
  have HS : Hid (∀ wq, Below (w.alloc (.cells #[.int .i64 b, .int .i64 t, j0 j, j1 j, j2 j, j3 j, j4 j, j5 j, j6 j, j7 j, j8 j, j9 j, j10 j, .slice A n c] 30)).heap.size (w.alloc (.cells #[.int .i64 b, .int .i64 t, j0 j, j1 j, j2 j, j3 j, j4 j, j5 j, j6 j, j7 j, j8 j, j9 j, j10 j, .slice A n c] 30)) wq → (wq.cell? ⟨w.heap.size, 0, none⟩ = some (.int .i64 b) ∧ wq.cell? ⟨w.heap.size, 1, none⟩ = some (.int .i64 t) ∧ wq.cell? ⟨w.heap.size, 2, none⟩ = some (j0 j) ∧ wq.cell? ⟨w.heap.size, 3, none⟩ = some (j1 j) ∧ wq.cell? ⟨w.heap.size, 4, none⟩ = some (j2 j) ∧ wq.cell? ⟨w.heap.size, 5, none⟩ = some (j3 j) ∧ wq.cell? ⟨w.heap.size, 6, none⟩ = some (j4 j) ∧ wq.cell? ⟨w.heap.size, 7, none⟩ = some (j5 j) ∧ wq.cell? ⟨w.heap.size, 8, none⟩ = some (j6 j) ∧ wq.cell? ⟨w.heap.size, 9, none⟩ = some (j7 j) ∧ wq.cell? ⟨w.heap.size, 10, none⟩ = some (j8 j) ∧ wq.cell? ⟨w.heap.size, 11, none⟩ = some (j9 j) ∧ wq.cell? ⟨w.heap.size, 12, none⟩ = some (j10 j) ∧ wq.cell? ⟨w.heap.size, 13, none⟩ = some (.slice A n c))) := fun wq hq => blk14 (k0.below hq k0.lt)
  have q0 := Below.refl (w.alloc (.cells #[.int .i64 b, .int .i64 t, j0 j, j1 j, j2 j, j3 j, j4 j, j5 j, j6 j, j7 j, j8 j, j9 j, j10 j, .slice A n c] 30)).heap.size (w.alloc (.cells #[.int .i64 b, .int .i64 t, j0 j, j1 j, j2 j, j3 j, j4 j, j5 j, j6 j, j7 j, j8 j, j9 j, j10 j, .slice A n c] 30))
  have K0 := Lib.hid k0
  clear hB k0
  by_cases h1 : n ≤ 60
  · by_cases h2 : n2 ≤ 60
    · have h3 : ¬ ((60 : Int) < (n : Int)) := by omega
      have h4 : ¬ ((60 : Int) < (n2 : Int)) := by omega
      go_enter Try.func10, Try.ntmps10
      go_upto_region 1 with (fail)
      generalize (w.alloc (.cells #[.int .i64 b, .int .i64 t, j0 j, j1 j, j2 j, j3 j, j4 j, j5 j, j6 j, j7 j, j8 j, j9 j, j10 j, .slice A n c] 30)) = w1 at *
      have HR1 := Lib.hid (HR.out.on (HB.out.mono hBs.out) (Nat.le_trans hBs.out HB.out.size))
      have HE1 := Lib.hid (HE.out.on (HB.out.mono hBt.out) (Nat.le_trans hBt.out HB.out.size))
      have r0 := HS.out _ q0
      go_wp2_with fail
      refine (small_any A n c es w1 w1.heap.size HR1.out (by omega)).mono ?_
      rintro e y1 ⟨bl, rfl, rfl⟩
      cases bl
      · go_wp2_with fail
        go_ret
        first | exact ⟨false, rfl, (Lib.hid (fun h => by cases h)), HB.out⟩ | exact .inl ⟨rfl, Lib.hid trivial, HB.out⟩
      · go_wp2_with fail
        refine (small_any A2 n2 c2 es2 w1 w1.heap.size HE1.out (by omega)).mono ?_
        rintro e y1 ⟨bl, rfl, rfl⟩
        go_wp2_with fail
        go_ret
        exact ⟨bl, by first | rfl | simp, (Lib.hid (fun _ => ⟨h1, h2⟩)), HB.out⟩
    · have h3 : ¬ ((60 : Int) < (n : Int)) := by omega
      have h4 : (60 : Int) < (n2 : Int) := by omega
      clear h1 h2
      go_enter Try.func10, Try.ntmps10
      go_upto_region 1 with (fail)
      generalize (w.alloc (.cells #[.int .i64 b, .int .i64 t, j0 j, j1 j, j2 j, j3 j, j4 j, j5 j, j6 j, j7 j, j8 j, j9 j, j10 j, .slice A n c] 30)) = w1 at *
      have HR1 := Lib.hid (HR.out.on (HB.out.mono hBs.out) (Nat.le_trans hBs.out HB.out.size))
      have HE1 := Lib.hid (HE.out.on (HB.out.mono hBt.out) (Nat.le_trans hBt.out HB.out.size))
      have r0 := HS.out _ q0
      go_wp2_with fail
      go_ret
      first | exact ⟨false, rfl, (Lib.hid (fun h => by cases h)), HB.out⟩ | exact .inl ⟨rfl, Lib.hid trivial, HB.out⟩
  · have h3 : (60 : Int) < (n : Int) := by omega
    clear h1
    go_enter Try.func10, Try.ntmps10
    go_upto_region 1 with (fail)
    generalize (w.alloc (.cells #[.int .i64 b, .int .i64 t, j0 j, j1 j, j2 j, j3 j, j4 j, j5 j, j6 j, j7 j, j8 j, j9 j, j10 j, .slice A n c] 30)) = w1 at *
    have HR1 := Lib.hid (HR.out.on (HB.out.mono hBs.out) (Nat.le_trans hBs.out HB.out.size))
    have HE1 := Lib.hid (HE.out.on (HB.out.mono hBt.out) (Nat.le_trans hBt.out HB.out.size))
    have r0 := HS.out _ q0
    go_wp2_with fail
    go_ret
    first | exact ⟨false, rfl, (Lib.hid (fun h => by cases h)), HB.out⟩ | exact .inl ⟨rfl, Lib.hid trivial, HB.out⟩
end Go.Proofs.Yteadkgjikaikjaa.law12
