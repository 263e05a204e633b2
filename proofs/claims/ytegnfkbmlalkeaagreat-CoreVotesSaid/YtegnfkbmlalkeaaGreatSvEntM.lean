/- The landed entries: Slice. Conditions: the log's numbers stay far from the ends of an int. -/
import Derived.Deep.RegionHeld3
import Derived.Deep.Cut
import Derived.Lib.Hide
import Derived.Test.YtegnfkbmlalkeaaGreatSvEntJ
import Derived.Test.YtegnfkbmlalkeaaGreatSvEntD
import Derived.Test.YtegnfkbmlalkeaaGreatSvEntE
import Derived.Test.YtegnfkbmlalkeaaGreatSvKitLg
import Derived.Test.YtegnfkbmlalkeaaGreatSvJ0
namespace Go.Proofs.YtegnfkbmlalkeaaGreat.enti
open Go Go.RowKit Go.Proofs.YtegnfkbmlalkeaaGreat.kit Go.Proofs.YtegnfkbmlalkeaaGreat.nums Go.Proofs.YtegnfkbmlalkeaaGreat.cf Go.Proofs.YtegnfkbmlalkeaaGreat.lg
set_option linter.unusedVariables false
set_option maxHeartbeats 2000000 in
theorem slice_any (L : LgL) (A : Option Addr) (n c : Nat) (a q : Int) (w : World) (B : Nat) (hR : RdE w B A n L.es) (hB : B ≤ w.heap.size) (hc : n ≤ c) (hf : Fit L) (ha : In64 a) (hq : In64 q) : Calls Tryz.prog 166 #[lgV L (.slice A n c), .int .i64 a, .int .i64 q] w fun e w' => ∃ A' n' c', e = .returned (.slice A' n' c') ∧ n' = (sliceF L a q).length ∧ OwnE w' w.heap.size (.slice A' n' c') (sliceF L a q) ∧ Below w.heap.size w w' := by
 have HR := Lib.hid hR
 have hl := hR.1
 have HF := Lib.hid hf
 have hBs := Lib.hid hB
 have hlast : lastF L = L.b + n := by unfold lastF; rw [hl]
 obtain ⟨f0, f1, f2⟩ := hf
 rw [hl] at f2
 have hle := Lib.hid hl
 have HSl : Hid (∀ (k m : Nat), (max a (L.b + 1) - L.b - 1).toNat = k → q.toNat = m → sliceF L a q = (L.es.drop k).take m) := fun k m h1 h2 => by unfold sliceF; rw [h1, h2]
 generalize sliceF L a q = RES at *
 clear hR hB hl
 unfold lgV at *
 obtain ⟨b, t, j, es⟩ := L
 dsimp only at *
 have k0 : Blk 30 (w.alloc (.cells #[.int .i64 b, .int .i64 t, j0 j, j1 j, j2 j, j3 j, j4 j, j5 j, j6 j, j7 j, j8 j, j9 j, j10 j, .slice A n c] 30)) w.heap.size [.int .i64 b, .int .i64 t, j0 j, j1 j, j2 j, j3 j, j4 j, j5 j, j6 j, j7 j, j8 j, j9 j, j10 j, .slice A n c] := (heap_alloc_new w (.cells #[.int .i64 b, .int .i64 t, j0 j, j1 j, j2 j, j3 j, j4 j, j5 j, j6 j, j7 j, j8 j, j9 j, j10 j, .slice A n c] 30))
 have hB : Below w.heap.size w (w.alloc (.cells #[.int .i64 b, .int .i64 t, j0 j, j1 j, j2 j, j3 j, j4 j, j5 j, j6 j, j7 j, j8 j, j9 j, j10 j, .slice A n c] 30)) := ((Below.refl w.heap.size w).alloc (by first | exact Nat.le_refl _ | (simp; done) | (simp; omega)) (.cells #[.int .i64 b, .int .i64 t, j0 j, j1 j, j2 j, j3 j, j4 j, j5 j, j6 j, j7 j, j8 j, j9 j, j10 j, .slice A n c] 30))
 have HB := Lib.hid hB
 have HS : Hid (∀ wq, Below (w.alloc (.cells #[.int .i64 b, .int .i64 t, j0 j, j1 j, j2 j, j3 j, j4 j, j5 j, j6 j, j7 j, j8 j, j9 j, j10 j, .slice A n c] 30)).heap.size (w.alloc (.cells #[.int .i64 b, .int .i64 t, j0 j, j1 j, j2 j, j3 j, j4 j, j5 j, j6 j, j7 j, j8 j, j9 j, j10 j, .slice A n c] 30)) wq → (wq.cell? ⟨w.heap.size, 0, none⟩ = some (.int .i64 b) ∧ wq.cell? ⟨w.heap.size, 1, none⟩ = some (.int .i64 t) ∧ wq.cell? ⟨w.heap.size, 2, none⟩ = some (j0 j) ∧ wq.cell? ⟨w.heap.size, 3, none⟩ = some (j1 j) ∧ wq.cell? ⟨w.heap.size, 4, none⟩ = some (j2 j) ∧ wq.cell? ⟨w.heap.size, 5, none⟩ = some (j3 j) ∧ wq.cell? ⟨w.heap.size, 6, none⟩ = some (j4 j) ∧ wq.cell? ⟨w.heap.size, 7, none⟩ = some (j5 j) ∧ wq.cell? ⟨w.heap.size, 8, none⟩ = some (j6 j) ∧ wq.cell? ⟨w.heap.size, 9, none⟩ = some (j7 j) ∧ wq.cell? ⟨w.heap.size, 10, none⟩ = some (j8 j) ∧ wq.cell? ⟨w.heap.size, 11, none⟩ = some (j9 j) ∧ wq.cell? ⟨w.heap.size, 12, none⟩ = some (j10 j) ∧ wq.cell? ⟨w.heap.size, 13, none⟩ = some (.slice A n c))) := fun wq hq => blk14 (k0.below hq k0.lt)
 have q0 := Below.refl (w.alloc (.cells #[.int .i64 b, .int .i64 t, j0 j, j1 j, j2 j, j3 j, j4 j, j5 j, j6 j, j7 j, j8 j, j9 j, j10 j, .slice A n c] 30)).heap.size (w.alloc (.cells #[.int .i64 b, .int .i64 t, j0 j, j1 j, j2 j, j3 j, j4 j, j5 j, j6 j, j7 j, j8 j, j9 j, j10 j, .slice A n c] 30))
 have K0 := Lib.hid k0
 clear hB k0
 by_cases c1 : b + (n : Int) < a
 · have hE : Hid (RES = []) := by show _ = _; rw [HSl.out (max a (b + 1) - b - 1).toNat q.toNat rfl rfl, List.drop_of_length_le (by have := hle.out; omega), List.take_nil]
   clear HSl
   go_enter Tryz.func166, Tryz.ntmps166
   go_upto_region 1 with (fail)
   generalize (w.alloc (.cells #[.int .i64 b, .int .i64 t, j0 j, j1 j, j2 j, j3 j, j4 j, j5 j, j6 j, j7 j, j8 j, j9 j, j10 j, .slice A n c] 30)) = w1 at *
   have HR1 := Lib.hid (HR.out.on (HB.out.mono hBs.out) (Nat.le_trans hBs.out HB.out.size))
   have CL := Lib.hid (fun w' (hb : Below w1.heap.size w1 w') => last_any ⟨b, t, j, es⟩ A n c w' HR1.out.1 HF.out)
   unfold lgV at CL
   dsimp only at CL
   rw [hlast] at CL
   clear hlast
   have r0 := HS.out _ q0
   go_wp2_with fail
   refine (CL.out _ q0).mono ?_
   rintro e y1 ⟨rfl, hY1⟩
   have q1 := q0.trans (hY1.mono q0.size)
   clear r0
   have r1 := HS.out _ q1
   go_wp2_with fail
   go_ret
   exact ⟨none, 0, 0, rfl, by rw [hE.out]; rfl, by rw [hE.out]; exact OwnE.nil _ _, HB.out.trans (q1.mono HB.out.size)⟩
 · by_cases c2 : q < 0
   · have hE : Hid (RES = []) := by show _ = _; rw [HSl.out (max a (b + 1) - b - 1).toNat 0 rfl (by omega), List.take_zero]
     clear HSl
     go_enter Tryz.func166, Tryz.ntmps166
     go_upto_region 1 with (fail)
     generalize (w.alloc (.cells #[.int .i64 b, .int .i64 t, j0 j, j1 j, j2 j, j3 j, j4 j, j5 j, j6 j, j7 j, j8 j, j9 j, j10 j, .slice A n c] 30)) = w1 at *
     have HR1 := Lib.hid (HR.out.on (HB.out.mono hBs.out) (Nat.le_trans hBs.out HB.out.size))
     have CL := Lib.hid (fun w' (hb : Below w1.heap.size w1 w') => last_any ⟨b, t, j, es⟩ A n c w' HR1.out.1 HF.out)
     unfold lgV at CL
     dsimp only at CL
     rw [hlast] at CL
     clear hlast
     have r0 := HS.out _ q0
     go_wp2_with fail
     refine (CL.out _ q0).mono ?_
     rintro e y1 ⟨rfl, hY1⟩
     have q1 := q0.trans (hY1.mono q0.size)
     clear r0
     have r1 := HS.out _ q1
     go_wp2_with fail
     go_ret
     exact ⟨none, 0, 0, rfl, by rw [hE.out]; rfl, by rw [hE.out]; exact OwnE.nil _ _, HB.out.trans (q1.mono HB.out.size)⟩
   · by_cases c3 : b < a
     · obtain ⟨k, hk, hkn⟩ : ∃ k : Nat, a = b + 1 + k ∧ k ≤ n := ⟨(a - b - 1).toNat, by omega, by omega⟩
       have hE : Hid (RES = (es.drop k).take (min q ((n - k : Nat) : Int)).toNat) := by
         show _ = _
         rw [HSl.out k q.toNat (by omega) rfl]
         by_cases h : q ≤ ((n - k : Nat) : Int)
         · rw [show min q ((n - k : Nat) : Int) = q by omega]
         · rw [List.take_of_length_le (by rw [List.length_drop, hle.out]; omega), List.take_of_length_le (by rw [List.length_drop, hle.out]; omega)]
       clear HSl
       go_enter Tryz.func166, Tryz.ntmps166
       go_upto_region 1 with (fail)
       generalize (w.alloc (.cells #[.int .i64 b, .int .i64 t, j0 j, j1 j, j2 j, j3 j, j4 j, j5 j, j6 j, j7 j, j8 j, j9 j, j10 j, .slice A n c] 30)) = w1 at *
       have HR1 := Lib.hid (HR.out.on (HB.out.mono hBs.out) (Nat.le_trans hBs.out HB.out.size))
       have CL := Lib.hid (fun w' (hb : Below w1.heap.size w1 w') => last_any ⟨b, t, j, es⟩ A n c w' HR1.out.1 HF.out)
       unfold lgV at CL
       dsimp only at CL
       rw [hlast] at CL
       clear hlast
       have r0 := HS.out _ q0
       have CB := Lib.hid (fun w' (hb : Below w1.heap.size w1 w') (i : Int) (hi : i = b + (k : Nat)) => behind_any ⟨b, t, j, es⟩ A n c k i w' w1.heap.size (HR1.out.below hb) hb.size hc HF.out hi hkn)
       unfold lgV at CB
       dsimp only at CB
       go_wp2_with fail
       refine (CL.out _ q0).mono ?_
       rintro e y1 ⟨rfl, hY1⟩
       have q1 := q0.trans (hY1.mono q0.size)
       clear r0
       have r1 := HS.out _ q1
       go_wp2_with fail
       refine (CB.out _ q1 _ (by omega)).mono ?_
       rintro e y2 ⟨A2, c2, rfl, hR2, hc2, hc3, hY2⟩
       have q2 := q1.trans (hY2.mono q1.size)
       clear r1
       have r2 := HS.out _ q2
       have HR2 := Lib.hid (hR2.on (Below.refl _ _) q2.size)
       clear hR2
       go_wp2_with fail
       have hm : (min q (((n - k : Nat) : Int) : Int)).toNat ≤ (n - k) := by omega
       generalize (min q (((n - k : Nat) : Int) : Int)).toNat = m at *
       have kl : Blk 28 (y2.alloc (.cells #[.slice A2 m c2] 28)) y2.heap.size [.slice A2 m c2] := heap_alloc_new y2 _
       have q3 := q2.alloc q2.size (.cells #[.slice A2 m c2] 28)
       have RX := (HR2.out.take hm).on ((Below.refl y2.heap.size y2).alloc (Nat.le_refl _) (.cells #[.slice A2 m c2] 28)) (show y2.heap.size ≤ (y2.alloc (.cells #[.slice A2 m c2] 28)).heap.size by simp)
       clear r2
       generalize (y2.alloc (.cells #[.slice A2 m c2] 28)) = w2 at *
       have hf2 : flatP [⟨A2, m, c2, (es.drop k).take m⟩] = (es.drop k).take m := by simp [flatP]
       have CC := concat_any [⟨A2, m, c2, (es.drop k).take m⟩] (some ⟨y2.heap.size, 0, none⟩) 1 1 w2 w2.heap.size (rdv1 kl) (fun p hp => by rw [List.mem_singleton] at hp; subst hp; exact RX) (Nat.le_refl _) (by rw [hf2, RX.1]; omega) (by omega)
       rw [hf2, RX.1] at CC
       clear hf2
       refine CC.mono ?_
       rintro e y4 ⟨A4, c4, rfl, hO, hY4⟩
       have q4 := Lib.hid (q3.trans (hY4.mono q3.size))
       have hm2 := Lib.hid RX.1
       have hO := Lib.hid (hO.more (Nat.le_trans HB.out.size q3.size))
       clear CC kl RX hY4
       go_wp2_with fail
       go_ret
       exact ⟨A4, m, c4, rfl, by rw [hE.out]; exact hm2.out.symm, by rw [hE.out]; exact hO.out, HB.out.trans (q4.out.mono HB.out.size)⟩
     · have hE : Hid (RES = es.take (min q (n : Int)).toNat) := by
         show _ = _
         rw [HSl.out 0 q.toNat (by omega) rfl, List.drop_zero]
         by_cases h : q ≤ (n : Int)
         · rw [show min q (n : Int) = q by omega]
         · rw [List.take_of_length_le (by rw [hle.out]; omega), List.take_of_length_le (by rw [hle.out]; omega)]
       clear HSl
       go_enter Tryz.func166, Tryz.ntmps166
       go_upto_region 1 with (fail)
       generalize (w.alloc (.cells #[.int .i64 b, .int .i64 t, j0 j, j1 j, j2 j, j3 j, j4 j, j5 j, j6 j, j7 j, j8 j, j9 j, j10 j, .slice A n c] 30)) = w1 at *
       have HR1 := Lib.hid (HR.out.on (HB.out.mono hBs.out) (Nat.le_trans hBs.out HB.out.size))
       have CL := Lib.hid (fun w' (hb : Below w1.heap.size w1 w') => last_any ⟨b, t, j, es⟩ A n c w' HR1.out.1 HF.out)
       unfold lgV at CL
       dsimp only at CL
       rw [hlast] at CL
       clear hlast
       have r0 := HS.out _ q0
       go_wp2_with fail
       refine (CL.out _ q0).mono ?_
       rintro e y1 ⟨rfl, hY1⟩
       have q1 := q0.trans (hY1.mono q0.size)
       clear r0
       have r1 := HS.out _ q1
       go_wp2_with fail
       have HR2 := Lib.hid (HR1.out.on q1 q1.size)
       have hm : (min q (n : Int)).toNat ≤ n := by omega
       generalize (min q (n : Int)).toNat = m at *
       have kl : Blk 28 (y1.alloc (.cells #[.slice A m c] 28)) y1.heap.size [.slice A m c] := heap_alloc_new y1 _
       have q3 := q1.alloc q1.size (.cells #[.slice A m c] 28)
       have RX := (HR2.out.take hm).on ((Below.refl y1.heap.size y1).alloc (Nat.le_refl _) (.cells #[.slice A m c] 28)) (show y1.heap.size ≤ (y1.alloc (.cells #[.slice A m c] 28)).heap.size by simp)
       clear r1
       generalize (y1.alloc (.cells #[.slice A m c] 28)) = w2 at *
       have hf2 : flatP [⟨A, m, c, es.take m⟩] = es.take m := by simp [flatP]
       have CC := concat_any [⟨A, m, c, es.take m⟩] (some ⟨y1.heap.size, 0, none⟩) 1 1 w2 w2.heap.size (rdv1 kl) (fun p hp => by rw [List.mem_singleton] at hp; subst hp; exact RX) (Nat.le_refl _) (by rw [hf2, RX.1]; omega) (by omega)
       rw [hf2, RX.1] at CC
       clear hf2
       refine CC.mono ?_
       rintro e y4 ⟨A4, c4, rfl, hO, hY4⟩
       have q4 := Lib.hid (q3.trans (hY4.mono q3.size))
       have hm2 := Lib.hid RX.1
       have hO := Lib.hid (hO.more (Nat.le_trans HB.out.size q3.size))
       clear CC kl RX hY4
       go_wp2_with fail
       go_ret
       exact ⟨A4, m, c4, rfl, by rw [hE.out]; exact hm2.out.symm, by rw [hE.out]; exact hO.out, HB.out.trans (q4.out.mono HB.out.size)⟩
end Go.Proofs.YtegnfkbmlalkeaaGreat.enti
