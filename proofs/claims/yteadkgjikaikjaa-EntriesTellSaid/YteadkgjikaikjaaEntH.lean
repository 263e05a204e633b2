/- The landed entries: May. Conditions: the log's numbers stay far from the ends of an int. -/
import Derived.Test.YteadkgjikaikjaaEntD
import Derived.BigQuiet
import Derived.Test.YteadkgjikaikjaaKitLg
import Derived.Test.YteadkgjikaikjaaTk
import Derived.Deep.RegionHeld3
import Derived.Deep.Cut
import Derived.Lib.Hide
namespace Go.Proofs.Yteadkgjikaikjaa.enti
open Go Go.RowKit Go.Proofs.Yteadkgjikaikjaa.kit Go.Proofs.Yteadkgjikaikjaa.nums Go.Proofs.Yteadkgjikaikjaa.cf Go.Proofs.Yteadkgjikaikjaa.lg
set_option linter.unusedVariables false
set_option maxHeartbeats 2000000 in
theorem may_any (L : LgL) (A : Option Addr) (n c : Nat) (w : World) (B : Nat) (hR : RdE w B A n L.es) (hB : B ≤ w.heap.size) (hn : n ≤ 1099511627776) : Calls Try.prog 12 #[lgV L (.slice A n c)] w fun e w' => e = .returned (.bool (mayF L)) ∧ Below w.heap.size w w' := by
  have HR := Lib.hid hR
  have hl := hR.1
  have hBs := Lib.hid hB
  have HD : Hid (∀ (q : Int) (i : Nat) (x : EnL), L.es[i]? = some x → mayE q (L.es.drop i) = (withB x.t q && mayE x.t (L.es.drop (i + 1)))) := fun q i x h => mayE_drop h
  have HE : Hid (∀ q, mayE q (L.es.drop n) = true) := fun q => by rw [List.drop_of_length_le (by rw [hl]; exact Nat.le_refl _)]; rfl
  have HZ : Hid (∀ q, mayE q L.es = mayE q (L.es.drop 0)) := fun q => rfl
  have hFr : mayF L = (withB L.b 0 && (withB L.t 0 && mayE (max L.t 1) L.es)) := rfl
  generalize mayF L = RES at *
  clear hR hB hl
  unfold lgV at *
  obtain ⟨b, t, j, es⟩ := L
  dsimp only at *
  have k0 : Blk 30 (w.alloc (.cells #[.int .i64 b, .int .i64 t, j0 j, j1 j, j2 j, j3 j, j4 j, j5 j, j6 j, j7 j, j8 j, j9 j, j10 j, .slice A n c] 30)) w.heap.size [.int .i64 b, .int .i64 t, j0 j, j1 j, j2 j, j3 j, j4 j, j5 j, j6 j, j7 j, j8 j, j9 j, j10 j, .slice A n c] := (heap_alloc_new w (.cells #[.int .i64 b, .int .i64 t, j0 j, j1 j, j2 j, j3 j, j4 j, j5 j, j6 j, j7 j, j8 j, j9 j, j10 j, .slice A n c] 30))
  have hB : Below w.heap.size w (w.alloc (.cells #[.int .i64 b, .int .i64 t, j0 j, j1 j, j2 j, j3 j, j4 j, j5 j, j6 j, j7 j, j8 j, j9 j, j10 j, .slice A n c] 30)) := ((Below.refl w.heap.size w).alloc (by first | exact Nat.le_refl _ | simp) (.cells #[.int .i64 b, .int .i64 t, j0 j, j1 j, j2 j, j3 j, j4 j, j5 j, j6 j, j7 j, j8 j, j9 j, j10 j, .slice A n c] 30))
  have HB := Lib.hid hB
  have HS : Hid (∀ wq, Below (w.alloc (.cells #[.int .i64 b, .int .i64 t, j0 j, j1 j, j2 j, j3 j, j4 j, j5 j, j6 j, j7 j, j8 j, j9 j, j10 j, .slice A n c] 30)).heap.size (w.alloc (.cells #[.int .i64 b, .int .i64 t, j0 j, j1 j, j2 j, j3 j, j4 j, j5 j, j6 j, j7 j, j8 j, j9 j, j10 j, .slice A n c] 30)) wq → (wq.cell? ⟨w.heap.size, 0, none⟩ = some (.int .i64 b) ∧ wq.cell? ⟨w.heap.size, 1, none⟩ = some (.int .i64 t) ∧ wq.cell? ⟨w.heap.size, 2, none⟩ = some (j0 j) ∧ wq.cell? ⟨w.heap.size, 3, none⟩ = some (j1 j) ∧ wq.cell? ⟨w.heap.size, 4, none⟩ = some (j2 j) ∧ wq.cell? ⟨w.heap.size, 5, none⟩ = some (j3 j) ∧ wq.cell? ⟨w.heap.size, 6, none⟩ = some (j4 j) ∧ wq.cell? ⟨w.heap.size, 7, none⟩ = some (j5 j) ∧ wq.cell? ⟨w.heap.size, 8, none⟩ = some (j6 j) ∧ wq.cell? ⟨w.heap.size, 9, none⟩ = some (j7 j) ∧ wq.cell? ⟨w.heap.size, 10, none⟩ = some (j8 j) ∧ wq.cell? ⟨w.heap.size, 11, none⟩ = some (j9 j) ∧ wq.cell? ⟨w.heap.size, 12, none⟩ = some (j10 j) ∧ wq.cell? ⟨w.heap.size, 13, none⟩ = some (.slice A n c))) := fun wq hq => blk14 (k0.below hq k0.lt)
  have q0 := Below.refl (w.alloc (.cells #[.int .i64 b, .int .i64 t, j0 j, j1 j, j2 j, j3 j, j4 j, j5 j, j6 j, j7 j, j8 j, j9 j, j10 j, .slice A n c] 30)).heap.size (w.alloc (.cells #[.int .i64 b, .int .i64 t, j0 j, j1 j, j2 j, j3 j, j4 j, j5 j, j6 j, j7 j, j8 j, j9 j, j10 j, .slice A n c] 30))
  have K0 := Lib.hid k0
  clear hB k0
  rcases hb0 : withB b 0 with _ | _
  · rw [hb0, Bool.false_and] at hFr
    have hFr := Lib.hid hFr
    go_enter Try.func12, Try.ntmps12
    go_upto_region 1 with (fail)
    generalize (w.alloc (.cells #[.int .i64 b, .int .i64 t, j0 j, j1 j, j2 j, j3 j, j4 j, j5 j, j6 j, j7 j, j8 j, j9 j, j10 j, .slice A n c] 30)) = w1 at *
    have HR1 := Lib.hid (HR.out.on (HB.out.mono hBs.out) (Nat.le_trans hBs.out HB.out.size))
    have r0 := HS.out _ q0
    go_wp2_with fail
    refine (within_any _ _ _).mono ?_
    rintro e y1 ⟨rfl, rfl⟩
    go_wp2_with fail
    go_ret
    exact ⟨by rw [hFr.out]; rfl, HB.out⟩
  · rcases hb1 : withB t 0 with _ | _
    · rw [hb0, hb1, Bool.false_and, Bool.and_false] at hFr
      have hFr := Lib.hid hFr
      go_enter Try.func12, Try.ntmps12
      go_upto_region 1 with (fail)
      generalize (w.alloc (.cells #[.int .i64 b, .int .i64 t, j0 j, j1 j, j2 j, j3 j, j4 j, j5 j, j6 j, j7 j, j8 j, j9 j, j10 j, .slice A n c] 30)) = w1 at *
      have HR1 := Lib.hid (HR.out.on (HB.out.mono hBs.out) (Nat.le_trans hBs.out HB.out.size))
      have r0 := HS.out _ q0
      go_wp2_with fail
      refine (within_any _ _ _).mono ?_
      rintro e y1 ⟨rfl, rfl⟩
      go_wp2_with fail
      refine (within_any _ _ _).mono ?_
      rintro e y1 ⟨rfl, rfl⟩
      go_wp2_with fail
      go_ret
      exact ⟨by rw [hFr.out]; rfl, HB.out⟩
    · rw [hb0, hb1, Bool.true_and, Bool.true_and, HZ.out] at hFr
      by_cases c1 : t < 1
      · have c1 : t < 1 := c1
        rw [show max t 1 = 1 by omega] at hFr
        have hFr := Lib.hid hFr
        clear HZ
        go_enter Try.func12, Try.ntmps12
        go_upto_region 1 with (fail)
        generalize (w.alloc (.cells #[.int .i64 b, .int .i64 t, j0 j, j1 j, j2 j, j3 j, j4 j, j5 j, j6 j, j7 j, j8 j, j9 j, j10 j, .slice A n c] 30)) = w1 at *
        have HR1 := Lib.hid (HR.out.on (HB.out.mono hBs.out) (Nat.le_trans hBs.out HB.out.size))
        have r0 := HS.out _ q0
        go_wp2_with fail
        refine (within_any _ _ _).mono ?_
        rintro e y1 ⟨rfl, rfl⟩
        go_wp2_with fail
        refine (within_any _ _ _).mono ?_
        rintro e y1 ⟨rfl, rfl⟩
        go_wp2_with fail
        go_loopw [3, 22] (fun tv iv wr => ∃ (i : Nat) (q : Int), i ≤ n ∧ tv = .int .i64 q ∧ iv = .int .i64 (i : Int) ∧ Hid (RES = mayE q (es.drop i)) ∧ Below w1.heap.size w1 wr) (fun _ iv _ => n - (intOf iv).toNat)
        case atStart => exact ⟨0, 1, Nat.zero_le _, rfl, rfl, hFr, Below.refl _ _⟩
        case round =>
          obtain ⟨i, q, hi, rfl, rfl, HG, hbr⟩ := hrel
          have hbr := Lib.hid hbr
          by_cases hin : i < n
          · obtain ⟨bb, oo, x, rfl, hlt, hx, hA⟩ := HR1.out.at_ (j := i) hin
            have c14 := at14 (hA.below hlt hbr.out)
            have hDx := Lib.hid (HD.out q i x hx)
            have hin1 : (i : Int) < (n : Int) := by omega
            clear hA hx HD HE
            have hb2 := Lib.hid (hbr.out.alloc hbr.out.size (.cells #[.int .i64 x.t, .int .i64 x.k, .string x.d, j0 x.j, j1 x.j, j2 x.j, j3 x.j, j4 x.j, j5 x.j, j6 x.j, j7 x.j, j8 x.j, j9 x.j, j10 x.j] 37))
            rcases hw : withB x.t q with _ | _
            · have hFr2 : Hid (RES = false) := by show _ = _; rw [HG.out, hDx.out, hw]; rfl
              clear HG hDx
              go_wp2_with fail
              refine (within_any _ _ _).mono ?_
              rintro e y1 ⟨rfl, rfl⟩
              go_wp2_with fail
              go_ret
              exact ⟨by rw [hFr2.out]; rfl, HB.out.trans (hb2.out.mono HB.out.size)⟩
            · have hFr2 : Hid (RES = mayE x.t (es.drop (i + 1))) := by show _ = _; rw [HG.out, hDx.out, hw]; rfl
              clear HG hDx
              go_wp2_with fail
              refine (within_any _ _ _).mono ?_
              rintro e y1 ⟨rfl, rfl⟩
              go_wp2_with fail
              go_roundw
              case rel => exact ⟨i + 1, x.t, by omega, rfl, by go_num, hFr2, hb2.out⟩
              case measure => simp [intOf] <;> omega
          · obtain rfl : i = n := by omega
            have hFr2 : Hid (RES = true) := by show _ = _; rw [HG.out, HE.out]
            clear HG HE HD
            go_wp2_with fail
            go_ret
            exact ⟨by rw [hFr2.out]; rfl, HB.out.trans (hbr.out.mono HB.out.size)⟩
      · have c1 : ¬ (t < 1) := c1
        rw [show max t 1 = t by omega] at hFr
        have hFr := Lib.hid hFr
        clear HZ
        go_enter Try.func12, Try.ntmps12
        go_upto_region 1 with (fail)
        generalize (w.alloc (.cells #[.int .i64 b, .int .i64 t, j0 j, j1 j, j2 j, j3 j, j4 j, j5 j, j6 j, j7 j, j8 j, j9 j, j10 j, .slice A n c] 30)) = w1 at *
        have HR1 := Lib.hid (HR.out.on (HB.out.mono hBs.out) (Nat.le_trans hBs.out HB.out.size))
        have r0 := HS.out _ q0
        go_wp2_with fail
        refine (within_any _ _ _).mono ?_
        rintro e y1 ⟨rfl, rfl⟩
        go_wp2_with fail
        refine (within_any _ _ _).mono ?_
        rintro e y1 ⟨rfl, rfl⟩
        go_wp2_with fail
        go_loopw [3, 22] (fun tv iv wr => ∃ (i : Nat) (q : Int), i ≤ n ∧ tv = .int .i64 q ∧ iv = .int .i64 (i : Int) ∧ Hid (RES = mayE q (es.drop i)) ∧ Below w1.heap.size w1 wr) (fun _ iv _ => n - (intOf iv).toNat)
        case atStart => exact ⟨0, t, Nat.zero_le _, rfl, rfl, hFr, Below.refl _ _⟩
        case round =>
          obtain ⟨i, q, hi, rfl, rfl, HG, hbr⟩ := hrel
          have hbr := Lib.hid hbr
          by_cases hin : i < n
          · obtain ⟨bb, oo, x, rfl, hlt, hx, hA⟩ := HR1.out.at_ (j := i) hin
            have c14 := at14 (hA.below hlt hbr.out)
            have hDx := Lib.hid (HD.out q i x hx)
            have hin1 : (i : Int) < (n : Int) := by omega
            clear hA hx HD HE
            have hb2 := Lib.hid (hbr.out.alloc hbr.out.size (.cells #[.int .i64 x.t, .int .i64 x.k, .string x.d, j0 x.j, j1 x.j, j2 x.j, j3 x.j, j4 x.j, j5 x.j, j6 x.j, j7 x.j, j8 x.j, j9 x.j, j10 x.j] 37))
            rcases hw : withB x.t q with _ | _
            · have hFr2 : Hid (RES = false) := by show _ = _; rw [HG.out, hDx.out, hw]; rfl
              clear HG hDx
              go_wp2_with fail
              refine (within_any _ _ _).mono ?_
              rintro e y1 ⟨rfl, rfl⟩
              go_wp2_with fail
              go_ret
              exact ⟨by rw [hFr2.out]; rfl, HB.out.trans (hb2.out.mono HB.out.size)⟩
            · have hFr2 : Hid (RES = mayE x.t (es.drop (i + 1))) := by show _ = _; rw [HG.out, hDx.out, hw]; rfl
              clear HG hDx
              go_wp2_with fail
              refine (within_any _ _ _).mono ?_
              rintro e y1 ⟨rfl, rfl⟩
              go_wp2_with fail
              go_roundw
              case rel => exact ⟨i + 1, x.t, by omega, rfl, by go_num, hFr2, hb2.out⟩
              case measure => simp [intOf] <;> omega
          · obtain rfl : i = n := by omega
            have hFr2 : Hid (RES = true) := by show _ = _; rw [HG.out, HE.out]
            clear HG HE HD
            go_wp2_with fail
            go_ret
            exact ⟨by rw [hFr2.out]; rfl, HB.out.trans (hbr.out.mono HB.out.size)⟩
end Go.Proofs.Yteadkgjikaikjaa.enti
