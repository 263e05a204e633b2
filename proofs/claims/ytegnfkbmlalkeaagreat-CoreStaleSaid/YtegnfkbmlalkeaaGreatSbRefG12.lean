/- The document's entries: May. Conditions: the log's numbers stay far from the ends of an int. -/
import Derived.BigQuiet
import Derived.Deep.RegionHeld3
import Derived.Deep.Cut
import Derived.Lib.Hide
import Derived.Test.YtegnfkbmlalkeaaGreatSbJ2
import Derived.Test.YtegnfkbmlalkeaaGreatSbKitLg
import Derived.Test.YtegnfkbmlalkeaaGreatSbJ0
namespace Go.Proofs.YtegnfkbmlalkeaaGreat.ref12
open Go Go.RowKit Go.Proofs.YtegnfkbmlalkeaaGreat.kit Go.Proofs.YtegnfkbmlalkeaaGreat.nums Go.Proofs.YtegnfkbmlalkeaaGreat.cf Go.Proofs.YtegnfkbmlalkeaaGreat.lg
set_option linter.unusedVariables false
set_option linter.unusedSimpArgs false
set_option maxHeartbeats 2000000 in
theorem rmay_any (L : LgL) (A : Option Addr) (n c : Nat) (w : World) (B : Nat) (hR : RdE w B A n L.es) (hB : B ≤ w.heap.size) (hn : n ≤ 1099511627776) : Calls Tryz.prog 107 #[lgV L (.slice A n c)] w fun e w' => e = .returned (.bool (mayF L)) ∧ Below w.heap.size w w' := by
 have HR := Lib.hid hR
 have hl := hR.1
 have hBs := Lib.hid hB
 have HD : Hid (∀ (q : Int) (i : Nat) (x : EnL), L.es[i]? = some x → mayE q (L.es.drop i) = (withB x.t q && mayE x.t (L.es.drop (i + 1)))) := fun q i x h => mayE_drop h
 have HE : Hid (∀ q, mayE q (L.es.drop n) = true) := fun q => by rw [List.drop_of_length_le (by rw [hl]; exact Nat.le_refl _)]; rfl
 have HZ : Hid (∀ q, mayE q L.es = mayE q (L.es.drop 0)) := fun q => rfl
 have hFr : mayF L = (withB L.b 0 && (withB L.t 0 && mayE (max L.t 1) L.es)) := rfl
 generalize mayF L = RES at *
 clear hR hB hl
 unfold lgV at *
 obtain ⟨b, t, j, es⟩ := L
 dsimp only at *
 have k0 : Blk 30 (w.alloc (.cells #[.int .i64 b, .int .i64 t, j0 j, j1 j, j2 j, j3 j, j4 j, j5 j, j6 j, j7 j, j8 j, j9 j, j10 j, .slice A n c] 30)) w.heap.size [.int .i64 b, .int .i64 t, j0 j, j1 j, j2 j, j3 j, j4 j, j5 j, j6 j, j7 j, j8 j, j9 j, j10 j, .slice A n c] := (heap_alloc_new w (.cells #[.int .i64 b, .int .i64 t, j0 j, j1 j, j2 j, j3 j, j4 j, j5 j, j6 j, j7 j, j8 j, j9 j, j10 j, .slice A n c] 30))
 have hB : Below w.heap.size w (w.alloc (.cells #[.int .i64 b, .int .i64 t, j0 j, j1 j, j2 j, j3 j, j4 j, j5 j, j6 j, j7 j, j8 j, j9 j, j10 j, .slice A n c] 30)) := ((Below.refl w.heap.size w).alloc (by first | exact Nat.le_refl _ | (simp; done) | (simp; omega)) (.cells #[.int .i64 b, .int .i64 t, j0 j, j1 j, j2 j, j3 j, j4 j, j5 j, j6 j, j7 j, j8 j, j9 j, j10 j, .slice A n c] 30))
 have HB := Lib.hid hB
 have HS : Hid (∀ wq, Below (w.alloc (.cells #[.int .i64 b, .int .i64 t, j0 j, j1 j, j2 j, j3 j, j4 j, j5 j, j6 j, j7 j, j8 j, j9 j, j10 j, .slice A n c] 30)).heap.size (w.alloc (.cells #[.int .i64 b, .int .i64 t, j0 j, j1 j, j2 j, j3 j, j4 j, j5 j, j6 j, j7 j, j8 j, j9 j, j10 j, .slice A n c] 30)) wq → (wq.cell? ⟨w.heap.size, 0, none⟩ = some (.int .i64 b) ∧ wq.cell? ⟨w.heap.size, 1, none⟩ = some (.int .i64 t) ∧ wq.cell? ⟨w.heap.size, 2, none⟩ = some (j0 j) ∧ wq.cell? ⟨w.heap.size, 3, none⟩ = some (j1 j) ∧ wq.cell? ⟨w.heap.size, 4, none⟩ = some (j2 j) ∧ wq.cell? ⟨w.heap.size, 5, none⟩ = some (j3 j) ∧ wq.cell? ⟨w.heap.size, 6, none⟩ = some (j4 j) ∧ wq.cell? ⟨w.heap.size, 7, none⟩ = some (j5 j) ∧ wq.cell? ⟨w.heap.size, 8, none⟩ = some (j6 j) ∧ wq.cell? ⟨w.heap.size, 9, none⟩ = some (j7 j) ∧ wq.cell? ⟨w.heap.size, 10, none⟩ = some (j8 j) ∧ wq.cell? ⟨w.heap.size, 11, none⟩ = some (j9 j) ∧ wq.cell? ⟨w.heap.size, 12, none⟩ = some (j10 j) ∧ wq.cell? ⟨w.heap.size, 13, none⟩ = some (.slice A n c))) := fun wq hq => blk14 (k0.below hq k0.lt)
 have q0 := Below.refl (w.alloc (.cells #[.int .i64 b, .int .i64 t, j0 j, j1 j, j2 j, j3 j, j4 j, j5 j, j6 j, j7 j, j8 j, j9 j, j10 j, .slice A n c] 30)).heap.size (w.alloc (.cells #[.int .i64 b, .int .i64 t, j0 j, j1 j, j2 j, j3 j, j4 j, j5 j, j6 j, j7 j, j8 j, j9 j, j10 j, .slice A n c] 30))
 have K0 := Lib.hid k0
 clear hB k0
 by_cases c0 : b < 0
 · have hb : withB b 0 = false := by simp [withB]; omega
   rw [hb] at hFr; simp only [Bool.false_and, Bool.and_false] at hFr
   have HF := Lib.hid hFr
   clear hFr
   go_enter Tryz.func107, Tryz.ntmps107
   go_upto_region 1 with (fail)
   generalize (w.alloc (.cells #[.int .i64 b, .int .i64 t, j0 j, j1 j, j2 j, j3 j, j4 j, j5 j, j6 j, j7 j, j8 j, j9 j, j10 j, .slice A n c] 30)) = w1 at *
   have HR1 := Lib.hid (HR.out.on (HB.out.mono hBs.out) (Nat.le_trans hBs.out HB.out.size))
   have r0 := HS.out _ q0
   go_wp2_with fail
   go_ret
   exact ⟨by rw [HF.out]; rfl, HB.out⟩
 · skip
   by_cases c1 : 1099511627776 < b
   · have hb : withB b 0 = false := by simp [withB]; omega
     rw [hb] at hFr; simp only [Bool.false_and, Bool.and_false] at hFr
     have HF := Lib.hid hFr
     clear hFr
     go_enter Tryz.func107, Tryz.ntmps107
     go_upto_region 1 with (fail)
     generalize (w.alloc (.cells #[.int .i64 b, .int .i64 t, j0 j, j1 j, j2 j, j3 j, j4 j, j5 j, j6 j, j7 j, j8 j, j9 j, j10 j, .slice A n c] 30)) = w1 at *
     have HR1 := Lib.hid (HR.out.on (HB.out.mono hBs.out) (Nat.le_trans hBs.out HB.out.size))
     have r0 := HS.out _ q0
     go_wp2_with fail
     go_ret
     exact ⟨by rw [HF.out]; rfl, HB.out⟩
   · skip
     by_cases c2 : t < 0
     · have hb : withB t 0 = false := by simp [withB]; omega
       rw [hb] at hFr; simp only [Bool.false_and, Bool.and_false] at hFr
       have HF := Lib.hid hFr
       clear hFr
       go_enter Tryz.func107, Tryz.ntmps107
       go_upto_region 1 with (fail)
       generalize (w.alloc (.cells #[.int .i64 b, .int .i64 t, j0 j, j1 j, j2 j, j3 j, j4 j, j5 j, j6 j, j7 j, j8 j, j9 j, j10 j, .slice A n c] 30)) = w1 at *
       have HR1 := Lib.hid (HR.out.on (HB.out.mono hBs.out) (Nat.le_trans hBs.out HB.out.size))
       have r0 := HS.out _ q0
       go_wp2_with fail
       go_ret
       exact ⟨by rw [HF.out]; rfl, HB.out⟩
     · skip
       by_cases c3 : 1099511627776 < t
       · have hb : withB t 0 = false := by simp [withB]; omega
         rw [hb] at hFr; simp only [Bool.false_and, Bool.and_false] at hFr
         have HF := Lib.hid hFr
         clear hFr
         go_enter Tryz.func107, Tryz.ntmps107
         go_upto_region 1 with (fail)
         generalize (w.alloc (.cells #[.int .i64 b, .int .i64 t, j0 j, j1 j, j2 j, j3 j, j4 j, j5 j, j6 j, j7 j, j8 j, j9 j, j10 j, .slice A n c] 30)) = w1 at *
         have HR1 := Lib.hid (HR.out.on (HB.out.mono hBs.out) (Nat.le_trans hBs.out HB.out.size))
         have r0 := HS.out _ q0
         go_wp2_with fail
         go_ret
         exact ⟨by rw [HF.out]; rfl, HB.out⟩
       · skip
         rw [show withB b 0 = true by simp [withB]; omega, show withB t 0 = true by simp [withB]; omega, Bool.true_and, Bool.true_and, HZ.out] at hFr
         by_cases c9 : t < 1
         · have c9 : t < 1 := c9
           rw [show max t 1 = 1 by omega] at hFr
           replace hFr := Lib.hid hFr
           clear HZ
           go_enter Tryz.func107, Tryz.ntmps107
           go_upto_region 1 with (fail)
           generalize (w.alloc (.cells #[.int .i64 b, .int .i64 t, j0 j, j1 j, j2 j, j3 j, j4 j, j5 j, j6 j, j7 j, j8 j, j9 j, j10 j, .slice A n c] 30)) = w1 at *
           have HR1 := Lib.hid (HR.out.on (HB.out.mono hBs.out) (Nat.le_trans hBs.out HB.out.size))
           have r0 := HS.out _ q0
           go_wp2_with fail
           go_loopw [3, 4] (fun tv iv wr => ∃ (i : Nat) (q : Int), i ≤ n ∧ tv = .int .i64 q ∧ iv = .int .i64 (i : Int) ∧ Hid (RES = mayE q (es.drop i)) ∧ wr = w1) (fun _ iv _ => n - (intOf iv).toNat)
           case atStart => exact ⟨0, 1, Nat.zero_le _, rfl, rfl, hFr, rfl⟩
           case round =>
             obtain ⟨i, q, hi, rfl, rfl, HG, rfl⟩ := hrel
             by_cases hin : i < n
             · obtain ⟨bb, oo, x, rfl, hlt, hx, hA⟩ := HR1.out.at_ (j := i) hin
               have c14 := (at14 hA).1
               have hDx := Lib.hid (HD.out q i x hx)
               have hin1 : (i : Int) < (n : Int) := by omega
               clear hA hx HD HE
               by_cases d1 : x.t < q
               · have hFr2 : Hid (RES = false) := by show _ = _; rw [HG.out, hDx.out, show withB x.t q = false by simp [withB]; omega]; rfl
                 clear HG hDx
                 go_wp2_with fail
                 go_ret
                 exact ⟨by rw [hFr2.out]; rfl, HB.out⟩
               · by_cases d2 : 1099511627776 < x.t
                 · have hFr2 : Hid (RES = false) := by show _ = _; rw [HG.out, hDx.out, show withB x.t q = false by simp [withB]; omega]; rfl
                   clear HG hDx
                   go_wp2_with fail
                   go_ret
                   exact ⟨by rw [hFr2.out]; rfl, HB.out⟩
                 · have hFr2 : Hid (RES = mayE x.t (es.drop (i + 1))) := by show _ = _; rw [HG.out, hDx.out, show withB x.t q = true by simp [withB]; omega]; rfl
                   clear HG hDx
                   go_wp2_with fail
                   go_roundw
                   case rel => exact ⟨i + 1, x.t, by omega, rfl, by go_num, hFr2, trivial⟩
                   case measure => simp [intOf] <;> omega
             · obtain rfl : i = n := by omega
               have hFr2 : Hid (RES = true) := by show _ = _; rw [HG.out, HE.out]
               clear HG HE HD
               go_wp2_with fail
               go_ret
               exact ⟨by rw [hFr2.out]; rfl, HB.out⟩
         · have c9 : ¬ (t < 1) := c9
           rw [show max t 1 = t by omega] at hFr
           replace hFr := Lib.hid hFr
           clear HZ
           go_enter Tryz.func107, Tryz.ntmps107
           go_upto_region 1 with (fail)
           generalize (w.alloc (.cells #[.int .i64 b, .int .i64 t, j0 j, j1 j, j2 j, j3 j, j4 j, j5 j, j6 j, j7 j, j8 j, j9 j, j10 j, .slice A n c] 30)) = w1 at *
           have HR1 := Lib.hid (HR.out.on (HB.out.mono hBs.out) (Nat.le_trans hBs.out HB.out.size))
           have r0 := HS.out _ q0
           go_wp2_with fail
           go_loopw [3, 4] (fun tv iv wr => ∃ (i : Nat) (q : Int), i ≤ n ∧ tv = .int .i64 q ∧ iv = .int .i64 (i : Int) ∧ Hid (RES = mayE q (es.drop i)) ∧ wr = w1) (fun _ iv _ => n - (intOf iv).toNat)
           case atStart => exact ⟨0, t, Nat.zero_le _, rfl, rfl, hFr, rfl⟩
           case round =>
             obtain ⟨i, q, hi, rfl, rfl, HG, rfl⟩ := hrel
             by_cases hin : i < n
             · obtain ⟨bb, oo, x, rfl, hlt, hx, hA⟩ := HR1.out.at_ (j := i) hin
               have c14 := (at14 hA).1
               have hDx := Lib.hid (HD.out q i x hx)
               have hin1 : (i : Int) < (n : Int) := by omega
               clear hA hx HD HE
               by_cases d1 : x.t < q
               · have hFr2 : Hid (RES = false) := by show _ = _; rw [HG.out, hDx.out, show withB x.t q = false by simp [withB]; omega]; rfl
                 clear HG hDx
                 go_wp2_with fail
                 go_ret
                 exact ⟨by rw [hFr2.out]; rfl, HB.out⟩
               · by_cases d2 : 1099511627776 < x.t
                 · have hFr2 : Hid (RES = false) := by show _ = _; rw [HG.out, hDx.out, show withB x.t q = false by simp [withB]; omega]; rfl
                   clear HG hDx
                   go_wp2_with fail
                   go_ret
                   exact ⟨by rw [hFr2.out]; rfl, HB.out⟩
                 · have hFr2 : Hid (RES = mayE x.t (es.drop (i + 1))) := by show _ = _; rw [HG.out, hDx.out, show withB x.t q = true by simp [withB]; omega]; rfl
                   clear HG hDx
                   go_wp2_with fail
                   go_roundw
                   case rel => exact ⟨i + 1, x.t, by omega, rfl, by go_num, hFr2, trivial⟩
                   case measure => simp [intOf] <;> omega
             · obtain rfl : i = n := by omega
               have hFr2 : Hid (RES = true) := by show _ = _; rw [HG.out, HE.out]
               clear HG HE HD
               go_wp2_with fail
               go_ret
               exact ⟨by rw [hFr2.out]; rfl, HB.out⟩
end Go.Proofs.YtegnfkbmlalkeaaGreat.ref12
