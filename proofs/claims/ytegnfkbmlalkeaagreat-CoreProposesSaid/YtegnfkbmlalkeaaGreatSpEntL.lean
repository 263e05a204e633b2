/- The landed entries: Compact. Conditions: the log's numbers stay far from the ends of an int. -/
import Derived.Deep.CutBlock
import Derived.BigQuiet
import Derived.Deep.RegionHeld3
import Derived.Deep.Cut
import Derived.Lib.Hide
import Derived.Test.YtegnfkbmlalkeaaGreatSpEntD
import Derived.Test.YtegnfkbmlalkeaaGreatSpEntJ
import Derived.Test.YtegnfkbmlalkeaaGreatSpKitLg
import Derived.Test.YtegnfkbmlalkeaaGreatSpJ0
set_option linter.unusedVariables false
set_option maxHeartbeats 16000000
set_option maxRecDepth 10000
namespace Go.Proofs.YtegnfkbmlalkeaaGreat.enti
open Go Go.RowKit kit nums cf lg
theorem compact_any (L : LgL) (A : Option Addr) (n c : Nat) (zt : Int) (w : World) (B : Nat) (hR : RdE w B A n L.es) (hB : B ≤ w.heap.size) (hc : n ≤ c) (hf : Fit L) : Calls Tryz.prog 95 #[lgV L (.slice A n c), .int .i64 zt] w fun e w' => ∃ A' n' c', e = .returned (.tuple #[lgV (compactF L zt).1 (.slice A' n' c'), .int .i64 (compactF L zt).2]) ∧ n' = (compactF L zt).1.es.length ∧ OwnE w' w.heap.size (.slice A' n' c') (compactF L zt).1.es ∧ Below w.heap.size w w' := by
 have HR := Lh hR
 have hl := hR.1
 have HF := Lh hf
 have hBs := Lh hB
 obtain ⟨f0, f1, f2⟩ := hf
 rw [hl] at f2
 have HC1 : Hid ((termF L zt).2 = false → compactF L zt = (zL, 1)) := fun h => by unfold compactF; rw [h]; rfl
 have HC2 : Hid (∀ (k : Nat), (zt - L.b).toNat = k → (termF L zt).2 = true → compactF L zt = (⟨zt, (termF L zt).1, confF L.j (L.es.take k), L.es.drop k⟩, 0)) := fun k hk h => by unfold compactF; rw [if_pos h, hk]
 have HIs := termF_is L zt
 have hlast : lastF L = L.b + n := by unfold lastF; rw [hl]
 rw [hlast] at HIs
 clear hlast
 generalize compactF L zt = RES at *
 generalize hTT : termF L zt = TT at *
 obtain ⟨tv, tb⟩ := TT
 dsimp only at HIs HC1 HC2
 have hlh := Lh hl
 clear hR hB hl
 unfold lgV at *
 obtain ⟨b, t, j, es⟩ := L
 dsimp only at *
 have k0 : Blk 30 (w.alloc (.cells #[.int .i64 b, .int .i64 t, j0 j, j1 j, j2 j, j3 j, j4 j, j5 j, j6 j, j7 j, j8 j, j9 j, j10 j, .slice A n c] 30)) w.heap.size [.int .i64 b, .int .i64 t, j0 j, j1 j, j2 j, j3 j, j4 j, j5 j, j6 j, j7 j, j8 j, j9 j, j10 j, .slice A n c] := (heap_alloc_new w (.cells #[.int .i64 b, .int .i64 t, j0 j, j1 j, j2 j, j3 j, j4 j, j5 j, j6 j, j7 j, j8 j, j9 j, j10 j, .slice A n c] 30))
 replace k0 : Blk 30 ((w.alloc (.cells #[.int .i64 b, .int .i64 t, j0 j, j1 j, j2 j, j3 j, j4 j, j5 j, j6 j, j7 j, j8 j, j9 j, j10 j, .slice A n c] 30)).alloc (.cells #[.int .i64 0, .int .i64 0, .int .u16 0, .int .u16 0, .int .u16 0, .int .i64 0, .int .i64 0, .int .u16 0, .int .u16 0, .int .u16 0, .int .i64 0, .int .i64 0, .bool false, .slice none 0 0] 30)) w.heap.size [.int .i64 b, .int .i64 t, j0 j, j1 j, j2 j, j3 j, j4 j, j5 j, j6 j, j7 j, j8 j, j9 j, j10 j, .slice A n c] := k0.alloc _
 have k1 : Blk 30 ((w.alloc (.cells #[.int .i64 b, .int .i64 t, j0 j, j1 j, j2 j, j3 j, j4 j, j5 j, j6 j, j7 j, j8 j, j9 j, j10 j, .slice A n c] 30)).alloc (.cells #[.int .i64 0, .int .i64 0, .int .u16 0, .int .u16 0, .int .u16 0, .int .i64 0, .int .i64 0, .int .u16 0, .int .u16 0, .int .u16 0, .int .i64 0, .int .i64 0, .bool false, .slice none 0 0] 30)) (w.heap.size + 1) [.int .i64 0, .int .i64 0, .int .u16 0, .int .u16 0, .int .u16 0, .int .i64 0, .int .i64 0, .int .u16 0, .int .u16 0, .int .u16 0, .int .i64 0, .int .i64 0, .bool false, .slice none 0 0] := (by have h := heap_alloc_new (w.alloc (.cells #[.int .i64 b, .int .i64 t, j0 j, j1 j, j2 j, j3 j, j4 j, j5 j, j6 j, j7 j, j8 j, j9 j, j10 j, .slice A n c] 30)) (.cells #[.int .i64 0, .int .i64 0, .int .u16 0, .int .u16 0, .int .u16 0, .int .i64 0, .int .i64 0, .int .u16 0, .int .u16 0, .int .u16 0, .int .i64 0, .int .i64 0, .bool false, .slice none 0 0] 30); rwa [show (w.alloc (.cells #[.int .i64 b, .int .i64 t, j0 j, j1 j, j2 j, j3 j, j4 j, j5 j, j6 j, j7 j, j8 j, j9 j, j10 j, .slice A n c] 30)).heap.size = w.heap.size + 1 by simp] at h)
 have hB : Below w.heap.size w ((w.alloc (.cells #[.int .i64 b, .int .i64 t, j0 j, j1 j, j2 j, j3 j, j4 j, j5 j, j6 j, j7 j, j8 j, j9 j, j10 j, .slice A n c] 30)).alloc (.cells #[.int .i64 0, .int .i64 0, .int .u16 0, .int .u16 0, .int .u16 0, .int .i64 0, .int .i64 0, .int .u16 0, .int .u16 0, .int .u16 0, .int .i64 0, .int .i64 0, .bool false, .slice none 0 0] 30)) := (((Below.refl w.heap.size w).alloc (by first | exact Nat.le_refl _ | (simp; done) | (simp; omega)) (.cells #[.int .i64 b, .int .i64 t, j0 j, j1 j, j2 j, j3 j, j4 j, j5 j, j6 j, j7 j, j8 j, j9 j, j10 j, .slice A n c] 30)).alloc (by first | exact Nat.le_refl _ | (simp; done) | (simp; omega)) (.cells #[.int .i64 0, .int .i64 0, .int .u16 0, .int .u16 0, .int .u16 0, .int .i64 0, .int .i64 0, .int .u16 0, .int .u16 0, .int .u16 0, .int .i64 0, .int .i64 0, .bool false, .slice none 0 0] 30))
 have HB := Lh hB
 have HS : Hid (∀ wq, Below ((w.alloc (.cells #[.int .i64 b, .int .i64 t, j0 j, j1 j, j2 j, j3 j, j4 j, j5 j, j6 j, j7 j, j8 j, j9 j, j10 j, .slice A n c] 30)).alloc (.cells #[.int .i64 0, .int .i64 0, .int .u16 0, .int .u16 0, .int .u16 0, .int .i64 0, .int .i64 0, .int .u16 0, .int .u16 0, .int .u16 0, .int .i64 0, .int .i64 0, .bool false, .slice none 0 0] 30)).heap.size ((w.alloc (.cells #[.int .i64 b, .int .i64 t, j0 j, j1 j, j2 j, j3 j, j4 j, j5 j, j6 j, j7 j, j8 j, j9 j, j10 j, .slice A n c] 30)).alloc (.cells #[.int .i64 0, .int .i64 0, .int .u16 0, .int .u16 0, .int .u16 0, .int .i64 0, .int .i64 0, .int .u16 0, .int .u16 0, .int .u16 0, .int .i64 0, .int .i64 0, .bool false, .slice none 0 0] 30)) wq → (wq.cell? ⟨w.heap.size, 0, none⟩ = some (.int .i64 b) ∧ wq.cell? ⟨w.heap.size, 1, none⟩ = some (.int .i64 t) ∧ wq.cell? ⟨w.heap.size, 2, none⟩ = some (j0 j) ∧ wq.cell? ⟨w.heap.size, 3, none⟩ = some (j1 j) ∧ wq.cell? ⟨w.heap.size, 4, none⟩ = some (j2 j) ∧ wq.cell? ⟨w.heap.size, 5, none⟩ = some (j3 j) ∧ wq.cell? ⟨w.heap.size, 6, none⟩ = some (j4 j) ∧ wq.cell? ⟨w.heap.size, 7, none⟩ = some (j5 j) ∧ wq.cell? ⟨w.heap.size, 8, none⟩ = some (j6 j) ∧ wq.cell? ⟨w.heap.size, 9, none⟩ = some (j7 j) ∧ wq.cell? ⟨w.heap.size, 10, none⟩ = some (j8 j) ∧ wq.cell? ⟨w.heap.size, 11, none⟩ = some (j9 j) ∧ wq.cell? ⟨w.heap.size, 12, none⟩ = some (j10 j) ∧ wq.cell? ⟨w.heap.size, 13, none⟩ = some (.slice A n c)) ∧ (wq.cell? ⟨(w.heap.size + 1), 0, none⟩ = some (.int .i64 0) ∧ wq.cell? ⟨(w.heap.size + 1), 1, none⟩ = some (.int .i64 0) ∧ wq.cell? ⟨(w.heap.size + 1), 2, none⟩ = some (.int .u16 0) ∧ wq.cell? ⟨(w.heap.size + 1), 3, none⟩ = some (.int .u16 0) ∧ wq.cell? ⟨(w.heap.size + 1), 4, none⟩ = some (.int .u16 0) ∧ wq.cell? ⟨(w.heap.size + 1), 5, none⟩ = some (.int .i64 0) ∧ wq.cell? ⟨(w.heap.size + 1), 6, none⟩ = some (.int .i64 0) ∧ wq.cell? ⟨(w.heap.size + 1), 7, none⟩ = some (.int .u16 0) ∧ wq.cell? ⟨(w.heap.size + 1), 8, none⟩ = some (.int .u16 0) ∧ wq.cell? ⟨(w.heap.size + 1), 9, none⟩ = some (.int .u16 0) ∧ wq.cell? ⟨(w.heap.size + 1), 10, none⟩ = some (.int .i64 0) ∧ wq.cell? ⟨(w.heap.size + 1), 11, none⟩ = some (.int .i64 0) ∧ wq.cell? ⟨(w.heap.size + 1), 12, none⟩ = some (.bool false) ∧ wq.cell? ⟨(w.heap.size + 1), 13, none⟩ = some (.slice none 0 0))) := fun wq hq => ⟨blk14 (k0.below hq k0.lt), blk14 (k1.below hq k1.lt)⟩
 have q0 := Below.refl ((w.alloc (.cells #[.int .i64 b, .int .i64 t, j0 j, j1 j, j2 j, j3 j, j4 j, j5 j, j6 j, j7 j, j8 j, j9 j, j10 j, .slice A n c] 30)).alloc (.cells #[.int .i64 0, .int .i64 0, .int .u16 0, .int .u16 0, .int .u16 0, .int .i64 0, .int .i64 0, .int .u16 0, .int .u16 0, .int .u16 0, .int .i64 0, .int .i64 0, .bool false, .slice none 0 0] 30)).heap.size ((w.alloc (.cells #[.int .i64 b, .int .i64 t, j0 j, j1 j, j2 j, j3 j, j4 j, j5 j, j6 j, j7 j, j8 j, j9 j, j10 j, .slice A n c] 30)).alloc (.cells #[.int .i64 0, .int .i64 0, .int .u16 0, .int .u16 0, .int .u16 0, .int .i64 0, .int .i64 0, .int .u16 0, .int .u16 0, .int .u16 0, .int .i64 0, .int .i64 0, .bool false, .slice none 0 0] 30))
 have K0 := Lh k0
 have K1 := Lh k1
 clear hB k0 k1
 rcases tb with _ | _
 ·
  have HM2 := Lh (HC1.out rfl)
  clear HC1 HC2 HIs
  go_enter Tryz.func95, Tryz.ntmps95
  go_upto_region 1 with (fail)
  generalize ((w.alloc (.cells #[.int .i64 b, .int .i64 t, j0 j, j1 j, j2 j, j3 j, j4 j, j5 j, j6 j, j7 j, j8 j, j9 j, j10 j, .slice A n c] 30)).alloc (.cells #[.int .i64 0, .int .i64 0, .int .u16 0, .int .u16 0, .int .u16 0, .int .i64 0, .int .i64 0, .int .u16 0, .int .u16 0, .int .u16 0, .int .i64 0, .int .i64 0, .bool false, .slice none 0 0] 30)) = w1 at *
  have HR1 := Lh (HR.out.on (HB.out.mono hBs.out) (Nat.le_trans hBs.out HB.out.size))
  have CT := Lh (fun w' (hb : Below w1.heap.size w1 w') => term_any ⟨b, t, j, es⟩ A n c zt w' w1.heap.size (HR1.out.below hb) hb.size hc HF.out)
  unfold lgV at CT
  dsimp only at CT
  rw [hTT] at CT
  clear hTT
  have r0 := HS.out _ q0
  go_wp2_with fail
  refine (CT.out _ q0).mono ?_
  rintro e y1 ⟨rfl, hY1⟩
  have q1 := q0.trans (hY1.mono q0.size)
  clear r0
  have r1 := HS.out _ q1
  have df := fun i => (K1.out.below q1 K1.out.lt).frozen i
  go_wp2_with fail
  have sF := put14 (.int .i64 0) (.int .i64 0) (.int .u16 0) (.int .u16 0) (.int .u16 0) (.int .i64 0) (.int .i64 0) (.int .u16 0) (.int .u16 0) (.int .u16 0) (.int .i64 0) (.int .i64 0) (.bool false) (.slice none 0 0) (K1.out.below q1 K1.out.lt)
  have bF := below14 (g := w.heap.size + 1) (.int .i64 0) (.int .i64 0) (.int .u16 0) (.int .u16 0) (.int .u16 0) (.int .i64 0) (.int .i64 0) (.int .u16 0) (.int .u16 0) (.int .u16 0) (.int .i64 0) (.int .i64 0) (.bool false) (.slice none 0 0) (HB.out.trans (q1.mono HB.out.size)) (by first | omega | simp)
  generalize ((((((((((((((y1.setCell ⟨w.heap.size + 1, 0, none⟩ (.int .i64 0)).setCell ⟨w.heap.size + 1, 1, none⟩ (.int .i64 0)).setCell ⟨w.heap.size + 1, 2, none⟩ (.int .u16 0)).setCell ⟨w.heap.size + 1, 3, none⟩ (.int .u16 0)).setCell ⟨w.heap.size + 1, 4, none⟩ (.int .u16 0)).setCell ⟨w.heap.size + 1, 5, none⟩ (.int .i64 0)).setCell ⟨w.heap.size + 1, 6, none⟩ (.int .i64 0)).setCell ⟨w.heap.size + 1, 7, none⟩ (.int .u16 0)).setCell ⟨w.heap.size + 1, 8, none⟩ (.int .u16 0)).setCell ⟨w.heap.size + 1, 9, none⟩ (.int .u16 0)).setCell ⟨w.heap.size + 1, 10, none⟩ (.int .i64 0)).setCell ⟨w.heap.size + 1, 11, none⟩ (.int .i64 0)).setCell ⟨w.heap.size + 1, 12, none⟩ (.bool false)).setCell ⟨w.heap.size + 1, 13, none⟩ (.slice none 0 0)) = wf at *
  (try simp only [Exit.inBlock, Exit.then])
  refine bodyPost_ret (res2 Tryz.results95 rfl rfl (aggL _) (sizeL _) (ld14 sF)) rfl ?_
  exact ⟨none, 0, 0, by rw [HM2.out]; rfl, by rw [HM2.out]; rfl, by rw [HM2.out]; exact OwnE.nil _ _, bF⟩
 ·
  have hin : b ≤ zt ∧ zt ≤ b + (n : Int) := of_decide_eq_true HIs.symm
  obtain ⟨i1, i2⟩ := hin
  obtain ⟨k, hk, hkn⟩ : ∃ k : Nat, zt = b + k ∧ k ≤ n := ⟨(zt - b).toNat, by omega, by omega⟩
  have HM2 := Lh (HC2.out k (by omega) rfl)
  clear HC1 HC2 HIs
  replace hk := Lh hk
  go_enter Tryz.func95, Tryz.ntmps95
  go_upto_region 1 with (fail)
  generalize ((w.alloc (.cells #[.int .i64 b, .int .i64 t, j0 j, j1 j, j2 j, j3 j, j4 j, j5 j, j6 j, j7 j, j8 j, j9 j, j10 j, .slice A n c] 30)).alloc (.cells #[.int .i64 0, .int .i64 0, .int .u16 0, .int .u16 0, .int .u16 0, .int .i64 0, .int .i64 0, .int .u16 0, .int .u16 0, .int .u16 0, .int .i64 0, .int .i64 0, .bool false, .slice none 0 0] 30)) = w1 at *
  have HR1 := Lh (HR.out.on (HB.out.mono hBs.out) (Nat.le_trans hBs.out HB.out.size))
  have CT := Lh (fun w' (hb : Below w1.heap.size w1 w') => term_any ⟨b, t, j, es⟩ A n c zt w' w1.heap.size (HR1.out.below hb) hb.size hc HF.out)
  unfold lgV at CT
  dsimp only at CT
  rw [hTT] at CT
  clear hTT
  have r0 := HS.out _ q0
  go_wp2_with fail
  refine (CT.out _ q0).mono ?_
  rintro e y1 ⟨rfl, hY1⟩
  have q1 := q0.trans (hY1.mono q0.size)
  clear r0
  have r1 := HS.out _ q1
  go_wp2_with fail
  go_upto_region 4 with (fail)
  have CU := Lh (fun w' (hb : Below w1.heap.size w1 w') => upTo_any ⟨b, t, j, es⟩ A n c k zt w' w1.heap.size (HR1.out.below hb) hb.size hc HF.out hk.out hkn)
  have CB := Lh (fun w' (hb : Below w1.heap.size w1 w') => behind_any ⟨b, t, j, es⟩ A n c k zt w' w1.heap.size (HR1.out.below hb) hb.size hc HF.out hk.out hkn)
  have CI := Lh (fun w' (hb : Below w1.heap.size w1 w') A5 c5 (hR : RdE w' w1.heap.size A5 k (es.take k)) (h5 : k ≤ c5) => inForce_any j A5 k c5 (es.take k) w' w1.heap.size hR hb.size h5 (by omega))
  unfold lgV at CU CB
  dsimp only at CU CB
  unfold jV at CI
  have q1h := Lh q1
  clear r1
  go_cut [8] from 200 (fun pv wx => ∃ g, pv = .pointer (some ⟨g, 0, none⟩) ∧ w1.heap.size ≤ g ∧ Blk 30 wx g [.int .i64 zt, .int .i64 tv, j0 (confF j (es.take k)), j1 (confF j (es.take k)), j2 (confF j (es.take k)), j3 (confF j (es.take k)), j4 (confF j (es.take k)), j5 (confF j (es.take k)), j6 (confF j (es.take k)), j7 (confF j (es.take k)), j8 (confF j (es.take k)), j9 (confF j (es.take k)), j10 (confF j (es.take k)), .slice none 0 0] ∧ Hid (Below w1.heap.size w1 wx))
  case first =>
   have pc := q1.drew
   clear q1
   refine wp_region_held_drew (S := fun wq => (wq.cell? ⟨w.heap.size, 0, none⟩ = some (.int .i64 b) ∧ wq.cell? ⟨w.heap.size, 1, none⟩ = some (.int .i64 t) ∧ wq.cell? ⟨w.heap.size, 2, none⟩ = some (j0 j) ∧ wq.cell? ⟨w.heap.size, 3, none⟩ = some (j1 j) ∧ wq.cell? ⟨w.heap.size, 4, none⟩ = some (j2 j) ∧ wq.cell? ⟨w.heap.size, 5, none⟩ = some (j3 j) ∧ wq.cell? ⟨w.heap.size, 6, none⟩ = some (j4 j) ∧ wq.cell? ⟨w.heap.size, 7, none⟩ = some (j5 j) ∧ wq.cell? ⟨w.heap.size, 8, none⟩ = some (j6 j) ∧ wq.cell? ⟨w.heap.size, 9, none⟩ = some (j7 j) ∧ wq.cell? ⟨w.heap.size, 10, none⟩ = some (j8 j) ∧ wq.cell? ⟨w.heap.size, 11, none⟩ = some (j9 j) ∧ wq.cell? ⟨w.heap.size, 12, none⟩ = some (j10 j) ∧ wq.cell? ⟨w.heap.size, 13, none⟩ = some (.slice A n c)) ∧ (wq.cell? ⟨(w.heap.size + 1), 0, none⟩ = some (.int .i64 0) ∧ wq.cell? ⟨(w.heap.size + 1), 1, none⟩ = some (.int .i64 0) ∧ wq.cell? ⟨(w.heap.size + 1), 2, none⟩ = some (.int .u16 0) ∧ wq.cell? ⟨(w.heap.size + 1), 3, none⟩ = some (.int .u16 0) ∧ wq.cell? ⟨(w.heap.size + 1), 4, none⟩ = some (.int .u16 0) ∧ wq.cell? ⟨(w.heap.size + 1), 5, none⟩ = some (.int .i64 0) ∧ wq.cell? ⟨(w.heap.size + 1), 6, none⟩ = some (.int .i64 0) ∧ wq.cell? ⟨(w.heap.size + 1), 7, none⟩ = some (.int .u16 0) ∧ wq.cell? ⟨(w.heap.size + 1), 8, none⟩ = some (.int .u16 0) ∧ wq.cell? ⟨(w.heap.size + 1), 9, none⟩ = some (.int .u16 0) ∧ wq.cell? ⟨(w.heap.size + 1), 10, none⟩ = some (.int .i64 0) ∧ wq.cell? ⟨(w.heap.size + 1), 11, none⟩ = some (.int .i64 0) ∧ wq.cell? ⟨(w.heap.size + 1), 12, none⟩ = some (.bool false) ∧ wq.cell? ⟨(w.heap.size + 1), 13, none⟩ = some (.slice none 0 0))) (by kernel_rfl) ?s_lc4 (fun hHeld => ?_)
   case s_lc4 => exact HS.out _ pc
   iterate 3 (refine tx 0 _ ?_; try simp only [Act.put, ka, kb, kc])
   iterate 2 (refine tx 4 _ ?_; try simp only [Act.put, ka, kb, kc])
   refine tj 3 _ ?_
   try simp only [Act.put, ka, kb, kc]
   refine rr [6, 9] ?_
   refine rc (fun KQ hKQ => ?_) (rc (fun KQ hKQ => ?_) (AllReadyH.nil))
   ·
    go_simp
    refine (CU.out _ pc).mono ?_
    rintro e y5 ⟨A5, c5, rfl, hR5, hc5, hc5b, hY5⟩
    have pn := pc.trans (hY5.mono pc.size)
    clear pc
    have pc := pn
    clear pn
    (try have kz := kz.below hY5 kz.lt)
    have s5 := HS.out _ pc
    go_wp2_with fail
    refine hKQ.out _ _ (s5) (fun _ => ?_)
    clear hKQ KQ
    try simp only [Act.put, ka, kb, kc]
    refine rr [7, 9] ?_
    refine rc (fun KQ hKQ => ?_) (rc (fun KQ hKQ => ?_) (AllReadyH.nil))
    ·
     go_simp
     refine (CI.out _ pc _ _ hR5 hc5).mono ?_
     rintro e y6 ⟨rfl, hY6⟩
     have pn := pc.trans (hY6.mono pc.size)
     clear pc hR5
     have pc := pn
     clear pn
     (try have kz := kz.below hY6 kz.lt)
     have s6 := HS.out _ pc
     go_wp2_with fail
     refine hKQ.out _ _ (s6) (fun _ => ?_)
     clear hKQ KQ
     try simp only [Act.put, ka, kb, kc]
     refine tj 8 _ ?_
     try simp only [Act.put, ka, kb, kc]
     refine rr [9] ?_
     refine rc (fun KQ hKQ => ?_) AllReadyH.nil
     go_simp
     first | (have kz : Blk 30 (y6.alloc (.cells #[.int .i64 0, .int .i64 0, .int .u16 0, .int .u16 0, .int .u16 0, .int .i64 0, .int .i64 0, .int .u16 0, .int .u16 0, .int .u16 0, .int .i64 0, .int .i64 0, .bool false, .slice none 0 0] 30)) y6.heap.size [.int .i64 0, .int .i64 0, .int .u16 0, .int .u16 0, .int .u16 0, .int .i64 0, .int .i64 0, .int .u16 0, .int .u16 0, .int .u16 0, .int .i64 0, .int .i64 0, .bool false, .slice none 0 0] := heap_alloc_new y6 _; have hgz := pc.size; have pn := pc.alloc hgz (.cells #[.int .i64 0, .int .i64 0, .int .u16 0, .int .u16 0, .int .u16 0, .int .i64 0, .int .i64 0, .int .u16 0, .int .u16 0, .int .u16 0, .int .i64 0, .int .i64 0, .bool false, .slice none 0 0] 30); (try have hR5 := hR5.below (((Below.refl y6.heap.size y6).alloc (Nat.le_refl _) (.cells #[.int .i64 0, .int .i64 0, .int .u16 0, .int .u16 0, .int .u16 0, .int .i64 0, .int .i64 0, .int .u16 0, .int .u16 0, .int .u16 0, .int .i64 0, .int .i64 0, .bool false, .slice none 0 0] 30)).mono pc.size)); generalize y6.heap.size = gz at *; generalize y6.alloc (.cells #[.int .i64 0, .int .i64 0, .int .u16 0, .int .u16 0, .int .u16 0, .int .i64 0, .int .i64 0, .int .u16 0, .int .u16 0, .int .u16 0, .int .i64 0, .int .i64 0, .bool false, .slice none 0 0] 30) = za at *) | (have kz : Blk 30 (y5.alloc (.cells #[.int .i64 0, .int .i64 0, .int .u16 0, .int .u16 0, .int .u16 0, .int .i64 0, .int .i64 0, .int .u16 0, .int .u16 0, .int .u16 0, .int .i64 0, .int .i64 0, .bool false, .slice none 0 0] 30)) y5.heap.size [.int .i64 0, .int .i64 0, .int .u16 0, .int .u16 0, .int .u16 0, .int .i64 0, .int .i64 0, .int .u16 0, .int .u16 0, .int .u16 0, .int .i64 0, .int .i64 0, .bool false, .slice none 0 0] := heap_alloc_new y5 _; have hgz := pc.size; have pn := pc.alloc hgz (.cells #[.int .i64 0, .int .i64 0, .int .u16 0, .int .u16 0, .int .u16 0, .int .i64 0, .int .i64 0, .int .u16 0, .int .u16 0, .int .u16 0, .int .i64 0, .int .i64 0, .bool false, .slice none 0 0] 30); (try have hR5 := hR5.below (((Below.refl y5.heap.size y5).alloc (Nat.le_refl _) (.cells #[.int .i64 0, .int .i64 0, .int .u16 0, .int .u16 0, .int .u16 0, .int .i64 0, .int .i64 0, .int .u16 0, .int .u16 0, .int .u16 0, .int .i64 0, .int .i64 0, .bool false, .slice none 0 0] 30)).mono pc.size)); generalize y5.heap.size = gz at *; generalize y5.alloc (.cells #[.int .i64 0, .int .i64 0, .int .u16 0, .int .u16 0, .int .u16 0, .int .i64 0, .int .i64 0, .int .u16 0, .int .u16 0, .int .u16 0, .int .i64 0, .int .i64 0, .bool false, .slice none 0 0] 30) = za at *) | (have kz : Blk 30 ((y1.alloc (.cells #[.int .i64 0, .int .i64 0, .int .u16 0, .int .u16 0, .int .u16 0, .int .i64 0, .int .i64 0, .int .u16 0, .int .u16 0, .int .u16 0, .int .i64 0, .int .i64 0, .bool false, .slice none 0 0] 30)).drew) y1.heap.size [.int .i64 0, .int .i64 0, .int .u16 0, .int .u16 0, .int .u16 0, .int .i64 0, .int .i64 0, .int .u16 0, .int .u16 0, .int .u16 0, .int .i64 0, .int .i64 0, .bool false, .slice none 0 0] := Blk.drew (show Blk 30 (y1.alloc (.cells #[.int .i64 0, .int .i64 0, .int .u16 0, .int .u16 0, .int .u16 0, .int .i64 0, .int .i64 0, .int .u16 0, .int .u16 0, .int .u16 0, .int .i64 0, .int .i64 0, .bool false, .slice none 0 0] 30)) y1.heap.size [.int .i64 0, .int .i64 0, .int .u16 0, .int .u16 0, .int .u16 0, .int .i64 0, .int .i64 0, .int .u16 0, .int .u16 0, .int .u16 0, .int .i64 0, .int .i64 0, .bool false, .slice none 0 0] from heap_alloc_new y1 _); have hgz : w1.heap.size ≤ y1.heap.size := q1h.out.size; have pn := (q1h.out.alloc hgz (.cells #[.int .i64 0, .int .i64 0, .int .u16 0, .int .u16 0, .int .u16 0, .int .i64 0, .int .i64 0, .int .u16 0, .int .u16 0, .int .u16 0, .int .i64 0, .int .i64 0, .bool false, .slice none 0 0] 30)).drew; generalize hge : y1.heap.size = gz at *; generalize (y1.alloc (.cells #[.int .i64 0, .int .i64 0, .int .u16 0, .int .u16 0, .int .u16 0, .int .i64 0, .int .i64 0, .int .u16 0, .int .u16 0, .int .u16 0, .int .i64 0, .int .i64 0, .bool false, .slice none 0 0] 30)).drew = za at *)
     clear pc
     have pc := pn
     clear pn
     have s9 := HS.out _ pc
     refine hKQ.out _ _ (s9) (fun _ => ?_)
     clear hKQ KQ
     try simp only [Act.put, ka, kb, kc]
     refine rr [10] ?_
     refine rc (fun KQ hKQ => ?_) AllReadyH.nil
     have cz := blk14 kz
     have dfz := fun i => kz.frozen i
     go_simp
     have sF := put14 (.int .i64 zt) (.int .i64 tv) (j0 (confF j (es.take k))) (j1 (confF j (es.take k))) (j2 (confF j (es.take k))) (j3 (confF j (es.take k))) (j4 (confF j (es.take k))) (j5 (confF j (es.take k))) (j6 (confF j (es.take k))) (j7 (confF j (es.take k))) (j8 (confF j (es.take k))) (j9 (confF j (es.take k))) (j10 (confF j (es.take k))) (.slice none 0 0) kz
     have bF := below14 (g := gz) (.int .i64 zt) (.int .i64 tv) (j0 (confF j (es.take k))) (j1 (confF j (es.take k))) (j2 (confF j (es.take k))) (j3 (confF j (es.take k))) (j4 (confF j (es.take k))) (j5 (confF j (es.take k))) (j6 (confF j (es.take k))) (j7 (confF j (es.take k))) (j8 (confF j (es.take k))) (j9 (confF j (es.take k))) (j10 (confF j (es.take k))) (.slice none 0 0) pc hgz
     first | generalize ((((((((((((((za.setCell ⟨gz, 0, none⟩ (.int .i64 zt)).setCell ⟨gz, 1, none⟩ (.int .i64 tv)).setCell ⟨gz, 2, none⟩ (j0 (confF j (es.take k)))).setCell ⟨gz, 3, none⟩ (j1 (confF j (es.take k)))).setCell ⟨gz, 4, none⟩ (j2 (confF j (es.take k)))).setCell ⟨gz, 5, none⟩ (j3 (confF j (es.take k)))).setCell ⟨gz, 6, none⟩ (j4 (confF j (es.take k)))).setCell ⟨gz, 7, none⟩ (j5 (confF j (es.take k)))).setCell ⟨gz, 8, none⟩ (j6 (confF j (es.take k)))).setCell ⟨gz, 9, none⟩ (j7 (confF j (es.take k)))).setCell ⟨gz, 10, none⟩ (j8 (confF j (es.take k)))).setCell ⟨gz, 11, none⟩ (j9 (confF j (es.take k)))).setCell ⟨gz, 12, none⟩ (j10 (confF j (es.take k)))).setCell ⟨gz, 13, none⟩ (.slice none 0 0)) = wf at * | skip
     first | generalize ((((((((((((((y6.setCell ⟨gz, 0, none⟩ (.int .i64 zt)).setCell ⟨gz, 1, none⟩ (.int .i64 tv)).setCell ⟨gz, 2, none⟩ (j0 (confF j (es.take k)))).setCell ⟨gz, 3, none⟩ (j1 (confF j (es.take k)))).setCell ⟨gz, 4, none⟩ (j2 (confF j (es.take k)))).setCell ⟨gz, 5, none⟩ (j3 (confF j (es.take k)))).setCell ⟨gz, 6, none⟩ (j4 (confF j (es.take k)))).setCell ⟨gz, 7, none⟩ (j5 (confF j (es.take k)))).setCell ⟨gz, 8, none⟩ (j6 (confF j (es.take k)))).setCell ⟨gz, 9, none⟩ (j7 (confF j (es.take k)))).setCell ⟨gz, 10, none⟩ (j8 (confF j (es.take k)))).setCell ⟨gz, 11, none⟩ (j9 (confF j (es.take k)))).setCell ⟨gz, 12, none⟩ (j10 (confF j (es.take k)))).setCell ⟨gz, 13, none⟩ (.slice none 0 0)) = wf at * | skip
     have sS := HS.out _ bF
     refine hKQ.out _ _ (sS) (fun _ => ?_)
     clear hKQ KQ
     try simp only [Act.put]
     refine wpAnyH_done (by kernel_rfl) ?_ _
     go_wp2_with fail
     go_meet
     case rel => exact ⟨gz, rfl, hgz, sF, Lh bF⟩
    ·
     go_simp
     first | (have kz : Blk 30 (y6.alloc (.cells #[.int .i64 0, .int .i64 0, .int .u16 0, .int .u16 0, .int .u16 0, .int .i64 0, .int .i64 0, .int .u16 0, .int .u16 0, .int .u16 0, .int .i64 0, .int .i64 0, .bool false, .slice none 0 0] 30)) y6.heap.size [.int .i64 0, .int .i64 0, .int .u16 0, .int .u16 0, .int .u16 0, .int .i64 0, .int .i64 0, .int .u16 0, .int .u16 0, .int .u16 0, .int .i64 0, .int .i64 0, .bool false, .slice none 0 0] := heap_alloc_new y6 _; have hgz := pc.size; have pn := pc.alloc hgz (.cells #[.int .i64 0, .int .i64 0, .int .u16 0, .int .u16 0, .int .u16 0, .int .i64 0, .int .i64 0, .int .u16 0, .int .u16 0, .int .u16 0, .int .i64 0, .int .i64 0, .bool false, .slice none 0 0] 30); (try have hR5 := hR5.below (((Below.refl y6.heap.size y6).alloc (Nat.le_refl _) (.cells #[.int .i64 0, .int .i64 0, .int .u16 0, .int .u16 0, .int .u16 0, .int .i64 0, .int .i64 0, .int .u16 0, .int .u16 0, .int .u16 0, .int .i64 0, .int .i64 0, .bool false, .slice none 0 0] 30)).mono pc.size)); generalize y6.heap.size = gz at *; generalize y6.alloc (.cells #[.int .i64 0, .int .i64 0, .int .u16 0, .int .u16 0, .int .u16 0, .int .i64 0, .int .i64 0, .int .u16 0, .int .u16 0, .int .u16 0, .int .i64 0, .int .i64 0, .bool false, .slice none 0 0] 30) = za at *) | (have kz : Blk 30 (y5.alloc (.cells #[.int .i64 0, .int .i64 0, .int .u16 0, .int .u16 0, .int .u16 0, .int .i64 0, .int .i64 0, .int .u16 0, .int .u16 0, .int .u16 0, .int .i64 0, .int .i64 0, .bool false, .slice none 0 0] 30)) y5.heap.size [.int .i64 0, .int .i64 0, .int .u16 0, .int .u16 0, .int .u16 0, .int .i64 0, .int .i64 0, .int .u16 0, .int .u16 0, .int .u16 0, .int .i64 0, .int .i64 0, .bool false, .slice none 0 0] := heap_alloc_new y5 _; have hgz := pc.size; have pn := pc.alloc hgz (.cells #[.int .i64 0, .int .i64 0, .int .u16 0, .int .u16 0, .int .u16 0, .int .i64 0, .int .i64 0, .int .u16 0, .int .u16 0, .int .u16 0, .int .i64 0, .int .i64 0, .bool false, .slice none 0 0] 30); (try have hR5 := hR5.below (((Below.refl y5.heap.size y5).alloc (Nat.le_refl _) (.cells #[.int .i64 0, .int .i64 0, .int .u16 0, .int .u16 0, .int .u16 0, .int .i64 0, .int .i64 0, .int .u16 0, .int .u16 0, .int .u16 0, .int .i64 0, .int .i64 0, .bool false, .slice none 0 0] 30)).mono pc.size)); generalize y5.heap.size = gz at *; generalize y5.alloc (.cells #[.int .i64 0, .int .i64 0, .int .u16 0, .int .u16 0, .int .u16 0, .int .i64 0, .int .i64 0, .int .u16 0, .int .u16 0, .int .u16 0, .int .i64 0, .int .i64 0, .bool false, .slice none 0 0] 30) = za at *) | (have kz : Blk 30 ((y1.alloc (.cells #[.int .i64 0, .int .i64 0, .int .u16 0, .int .u16 0, .int .u16 0, .int .i64 0, .int .i64 0, .int .u16 0, .int .u16 0, .int .u16 0, .int .i64 0, .int .i64 0, .bool false, .slice none 0 0] 30)).drew) y1.heap.size [.int .i64 0, .int .i64 0, .int .u16 0, .int .u16 0, .int .u16 0, .int .i64 0, .int .i64 0, .int .u16 0, .int .u16 0, .int .u16 0, .int .i64 0, .int .i64 0, .bool false, .slice none 0 0] := Blk.drew (show Blk 30 (y1.alloc (.cells #[.int .i64 0, .int .i64 0, .int .u16 0, .int .u16 0, .int .u16 0, .int .i64 0, .int .i64 0, .int .u16 0, .int .u16 0, .int .u16 0, .int .i64 0, .int .i64 0, .bool false, .slice none 0 0] 30)) y1.heap.size [.int .i64 0, .int .i64 0, .int .u16 0, .int .u16 0, .int .u16 0, .int .i64 0, .int .i64 0, .int .u16 0, .int .u16 0, .int .u16 0, .int .i64 0, .int .i64 0, .bool false, .slice none 0 0] from heap_alloc_new y1 _); have hgz : w1.heap.size ≤ y1.heap.size := q1h.out.size; have pn := (q1h.out.alloc hgz (.cells #[.int .i64 0, .int .i64 0, .int .u16 0, .int .u16 0, .int .u16 0, .int .i64 0, .int .i64 0, .int .u16 0, .int .u16 0, .int .u16 0, .int .i64 0, .int .i64 0, .bool false, .slice none 0 0] 30)).drew; generalize hge : y1.heap.size = gz at *; generalize (y1.alloc (.cells #[.int .i64 0, .int .i64 0, .int .u16 0, .int .u16 0, .int .u16 0, .int .i64 0, .int .i64 0, .int .u16 0, .int .u16 0, .int .u16 0, .int .i64 0, .int .i64 0, .bool false, .slice none 0 0] 30)).drew = za at *)
     clear pc
     have pc := pn
     clear pn
     have s9 := HS.out _ pc
     refine hKQ.out _ _ (s9) (fun _ => ?_)
     clear hKQ KQ
     try simp only [Act.put, ka, kb, kc]
     refine rr [7] ?_
     refine rc (fun KQ hKQ => ?_) AllReadyH.nil
     go_simp
     refine (CI.out _ pc _ _ hR5 hc5).mono ?_
     rintro e y6 ⟨rfl, hY6⟩
     have pn := pc.trans (hY6.mono pc.size)
     clear pc hR5
     have pc := pn
     clear pn
     (try have kz := kz.below hY6 kz.lt)
     have s6 := HS.out _ pc
     go_wp2_with fail
     refine hKQ.out _ _ (s6) (fun _ => ?_)
     clear hKQ KQ
     try simp only [Act.put, ka, kb, kc]
     refine tj 8 _ ?_
     try simp only [Act.put, ka, kb, kc]
     refine rr [10] ?_
     refine rc (fun KQ hKQ => ?_) AllReadyH.nil
     have cz := blk14 kz
     have dfz := fun i => kz.frozen i
     go_simp
     have sF := put14 (.int .i64 zt) (.int .i64 tv) (j0 (confF j (es.take k))) (j1 (confF j (es.take k))) (j2 (confF j (es.take k))) (j3 (confF j (es.take k))) (j4 (confF j (es.take k))) (j5 (confF j (es.take k))) (j6 (confF j (es.take k))) (j7 (confF j (es.take k))) (j8 (confF j (es.take k))) (j9 (confF j (es.take k))) (j10 (confF j (es.take k))) (.slice none 0 0) kz
     have bF := below14 (g := gz) (.int .i64 zt) (.int .i64 tv) (j0 (confF j (es.take k))) (j1 (confF j (es.take k))) (j2 (confF j (es.take k))) (j3 (confF j (es.take k))) (j4 (confF j (es.take k))) (j5 (confF j (es.take k))) (j6 (confF j (es.take k))) (j7 (confF j (es.take k))) (j8 (confF j (es.take k))) (j9 (confF j (es.take k))) (j10 (confF j (es.take k))) (.slice none 0 0) pc hgz
     first | generalize ((((((((((((((za.setCell ⟨gz, 0, none⟩ (.int .i64 zt)).setCell ⟨gz, 1, none⟩ (.int .i64 tv)).setCell ⟨gz, 2, none⟩ (j0 (confF j (es.take k)))).setCell ⟨gz, 3, none⟩ (j1 (confF j (es.take k)))).setCell ⟨gz, 4, none⟩ (j2 (confF j (es.take k)))).setCell ⟨gz, 5, none⟩ (j3 (confF j (es.take k)))).setCell ⟨gz, 6, none⟩ (j4 (confF j (es.take k)))).setCell ⟨gz, 7, none⟩ (j5 (confF j (es.take k)))).setCell ⟨gz, 8, none⟩ (j6 (confF j (es.take k)))).setCell ⟨gz, 9, none⟩ (j7 (confF j (es.take k)))).setCell ⟨gz, 10, none⟩ (j8 (confF j (es.take k)))).setCell ⟨gz, 11, none⟩ (j9 (confF j (es.take k)))).setCell ⟨gz, 12, none⟩ (j10 (confF j (es.take k)))).setCell ⟨gz, 13, none⟩ (.slice none 0 0)) = wf at * | skip
     first | generalize ((((((((((((((y6.setCell ⟨gz, 0, none⟩ (.int .i64 zt)).setCell ⟨gz, 1, none⟩ (.int .i64 tv)).setCell ⟨gz, 2, none⟩ (j0 (confF j (es.take k)))).setCell ⟨gz, 3, none⟩ (j1 (confF j (es.take k)))).setCell ⟨gz, 4, none⟩ (j2 (confF j (es.take k)))).setCell ⟨gz, 5, none⟩ (j3 (confF j (es.take k)))).setCell ⟨gz, 6, none⟩ (j4 (confF j (es.take k)))).setCell ⟨gz, 7, none⟩ (j5 (confF j (es.take k)))).setCell ⟨gz, 8, none⟩ (j6 (confF j (es.take k)))).setCell ⟨gz, 9, none⟩ (j7 (confF j (es.take k)))).setCell ⟨gz, 10, none⟩ (j8 (confF j (es.take k)))).setCell ⟨gz, 11, none⟩ (j9 (confF j (es.take k)))).setCell ⟨gz, 12, none⟩ (j10 (confF j (es.take k)))).setCell ⟨gz, 13, none⟩ (.slice none 0 0)) = wf at * | skip
     have sS := HS.out _ bF
     refine hKQ.out _ _ (sS) (fun _ => ?_)
     clear hKQ KQ
     try simp only [Act.put]
     refine wpAnyH_done (by kernel_rfl) ?_ _
     go_wp2_with fail
     go_meet
     case rel => exact ⟨gz, rfl, hgz, sF, Lh bF⟩
   ·
    go_simp
    first | (have kz : Blk 30 (y6.alloc (.cells #[.int .i64 0, .int .i64 0, .int .u16 0, .int .u16 0, .int .u16 0, .int .i64 0, .int .i64 0, .int .u16 0, .int .u16 0, .int .u16 0, .int .i64 0, .int .i64 0, .bool false, .slice none 0 0] 30)) y6.heap.size [.int .i64 0, .int .i64 0, .int .u16 0, .int .u16 0, .int .u16 0, .int .i64 0, .int .i64 0, .int .u16 0, .int .u16 0, .int .u16 0, .int .i64 0, .int .i64 0, .bool false, .slice none 0 0] := heap_alloc_new y6 _; have hgz := pc.size; have pn := pc.alloc hgz (.cells #[.int .i64 0, .int .i64 0, .int .u16 0, .int .u16 0, .int .u16 0, .int .i64 0, .int .i64 0, .int .u16 0, .int .u16 0, .int .u16 0, .int .i64 0, .int .i64 0, .bool false, .slice none 0 0] 30); (try have hR5 := hR5.below (((Below.refl y6.heap.size y6).alloc (Nat.le_refl _) (.cells #[.int .i64 0, .int .i64 0, .int .u16 0, .int .u16 0, .int .u16 0, .int .i64 0, .int .i64 0, .int .u16 0, .int .u16 0, .int .u16 0, .int .i64 0, .int .i64 0, .bool false, .slice none 0 0] 30)).mono pc.size)); generalize y6.heap.size = gz at *; generalize y6.alloc (.cells #[.int .i64 0, .int .i64 0, .int .u16 0, .int .u16 0, .int .u16 0, .int .i64 0, .int .i64 0, .int .u16 0, .int .u16 0, .int .u16 0, .int .i64 0, .int .i64 0, .bool false, .slice none 0 0] 30) = za at *) | (have kz : Blk 30 (y5.alloc (.cells #[.int .i64 0, .int .i64 0, .int .u16 0, .int .u16 0, .int .u16 0, .int .i64 0, .int .i64 0, .int .u16 0, .int .u16 0, .int .u16 0, .int .i64 0, .int .i64 0, .bool false, .slice none 0 0] 30)) y5.heap.size [.int .i64 0, .int .i64 0, .int .u16 0, .int .u16 0, .int .u16 0, .int .i64 0, .int .i64 0, .int .u16 0, .int .u16 0, .int .u16 0, .int .i64 0, .int .i64 0, .bool false, .slice none 0 0] := heap_alloc_new y5 _; have hgz := pc.size; have pn := pc.alloc hgz (.cells #[.int .i64 0, .int .i64 0, .int .u16 0, .int .u16 0, .int .u16 0, .int .i64 0, .int .i64 0, .int .u16 0, .int .u16 0, .int .u16 0, .int .i64 0, .int .i64 0, .bool false, .slice none 0 0] 30); (try have hR5 := hR5.below (((Below.refl y5.heap.size y5).alloc (Nat.le_refl _) (.cells #[.int .i64 0, .int .i64 0, .int .u16 0, .int .u16 0, .int .u16 0, .int .i64 0, .int .i64 0, .int .u16 0, .int .u16 0, .int .u16 0, .int .i64 0, .int .i64 0, .bool false, .slice none 0 0] 30)).mono pc.size)); generalize y5.heap.size = gz at *; generalize y5.alloc (.cells #[.int .i64 0, .int .i64 0, .int .u16 0, .int .u16 0, .int .u16 0, .int .i64 0, .int .i64 0, .int .u16 0, .int .u16 0, .int .u16 0, .int .i64 0, .int .i64 0, .bool false, .slice none 0 0] 30) = za at *) | (have kz : Blk 30 ((y1.alloc (.cells #[.int .i64 0, .int .i64 0, .int .u16 0, .int .u16 0, .int .u16 0, .int .i64 0, .int .i64 0, .int .u16 0, .int .u16 0, .int .u16 0, .int .i64 0, .int .i64 0, .bool false, .slice none 0 0] 30)).drew) y1.heap.size [.int .i64 0, .int .i64 0, .int .u16 0, .int .u16 0, .int .u16 0, .int .i64 0, .int .i64 0, .int .u16 0, .int .u16 0, .int .u16 0, .int .i64 0, .int .i64 0, .bool false, .slice none 0 0] := Blk.drew (show Blk 30 (y1.alloc (.cells #[.int .i64 0, .int .i64 0, .int .u16 0, .int .u16 0, .int .u16 0, .int .i64 0, .int .i64 0, .int .u16 0, .int .u16 0, .int .u16 0, .int .i64 0, .int .i64 0, .bool false, .slice none 0 0] 30)) y1.heap.size [.int .i64 0, .int .i64 0, .int .u16 0, .int .u16 0, .int .u16 0, .int .i64 0, .int .i64 0, .int .u16 0, .int .u16 0, .int .u16 0, .int .i64 0, .int .i64 0, .bool false, .slice none 0 0] from heap_alloc_new y1 _); have hgz : w1.heap.size ≤ y1.heap.size := q1h.out.size; have pn := (q1h.out.alloc hgz (.cells #[.int .i64 0, .int .i64 0, .int .u16 0, .int .u16 0, .int .u16 0, .int .i64 0, .int .i64 0, .int .u16 0, .int .u16 0, .int .u16 0, .int .i64 0, .int .i64 0, .bool false, .slice none 0 0] 30)).drew; generalize hge : y1.heap.size = gz at *; generalize (y1.alloc (.cells #[.int .i64 0, .int .i64 0, .int .u16 0, .int .u16 0, .int .u16 0, .int .i64 0, .int .i64 0, .int .u16 0, .int .u16 0, .int .u16 0, .int .i64 0, .int .i64 0, .bool false, .slice none 0 0] 30)).drew = za at *)
    clear pc
    have pc := pn
    clear pn
    have s9 := HS.out _ pc
    refine hKQ.out _ _ (s9) (fun _ => ?_)
    clear hKQ KQ
    try simp only [Act.put, ka, kb, kc]
    refine rr [6] ?_
    refine rc (fun KQ hKQ => ?_) AllReadyH.nil
    go_simp
    refine (CU.out _ pc).mono ?_
    rintro e y5 ⟨A5, c5, rfl, hR5, hc5, hc5b, hY5⟩
    have pn := pc.trans (hY5.mono pc.size)
    clear pc
    have pc := pn
    clear pn
    (try have kz := kz.below hY5 kz.lt)
    have s5 := HS.out _ pc
    go_wp2_with fail
    refine hKQ.out _ _ (s5) (fun _ => ?_)
    clear hKQ KQ
    try simp only [Act.put, ka, kb, kc]
    refine rr [7] ?_
    refine rc (fun KQ hKQ => ?_) AllReadyH.nil
    go_simp
    refine (CI.out _ pc _ _ hR5 hc5).mono ?_
    rintro e y6 ⟨rfl, hY6⟩
    have pn := pc.trans (hY6.mono pc.size)
    clear pc hR5
    have pc := pn
    clear pn
    (try have kz := kz.below hY6 kz.lt)
    have s6 := HS.out _ pc
    go_wp2_with fail
    refine hKQ.out _ _ (s6) (fun _ => ?_)
    clear hKQ KQ
    try simp only [Act.put, ka, kb, kc]
    refine tj 8 _ ?_
    try simp only [Act.put, ka, kb, kc]
    refine rr [10] ?_
    refine rc (fun KQ hKQ => ?_) AllReadyH.nil
    have cz := blk14 kz
    have dfz := fun i => kz.frozen i
    go_simp
    have sF := put14 (.int .i64 zt) (.int .i64 tv) (j0 (confF j (es.take k))) (j1 (confF j (es.take k))) (j2 (confF j (es.take k))) (j3 (confF j (es.take k))) (j4 (confF j (es.take k))) (j5 (confF j (es.take k))) (j6 (confF j (es.take k))) (j7 (confF j (es.take k))) (j8 (confF j (es.take k))) (j9 (confF j (es.take k))) (j10 (confF j (es.take k))) (.slice none 0 0) kz
    have bF := below14 (g := gz) (.int .i64 zt) (.int .i64 tv) (j0 (confF j (es.take k))) (j1 (confF j (es.take k))) (j2 (confF j (es.take k))) (j3 (confF j (es.take k))) (j4 (confF j (es.take k))) (j5 (confF j (es.take k))) (j6 (confF j (es.take k))) (j7 (confF j (es.take k))) (j8 (confF j (es.take k))) (j9 (confF j (es.take k))) (j10 (confF j (es.take k))) (.slice none 0 0) pc hgz
    first | generalize ((((((((((((((za.setCell ⟨gz, 0, none⟩ (.int .i64 zt)).setCell ⟨gz, 1, none⟩ (.int .i64 tv)).setCell ⟨gz, 2, none⟩ (j0 (confF j (es.take k)))).setCell ⟨gz, 3, none⟩ (j1 (confF j (es.take k)))).setCell ⟨gz, 4, none⟩ (j2 (confF j (es.take k)))).setCell ⟨gz, 5, none⟩ (j3 (confF j (es.take k)))).setCell ⟨gz, 6, none⟩ (j4 (confF j (es.take k)))).setCell ⟨gz, 7, none⟩ (j5 (confF j (es.take k)))).setCell ⟨gz, 8, none⟩ (j6 (confF j (es.take k)))).setCell ⟨gz, 9, none⟩ (j7 (confF j (es.take k)))).setCell ⟨gz, 10, none⟩ (j8 (confF j (es.take k)))).setCell ⟨gz, 11, none⟩ (j9 (confF j (es.take k)))).setCell ⟨gz, 12, none⟩ (j10 (confF j (es.take k)))).setCell ⟨gz, 13, none⟩ (.slice none 0 0)) = wf at * | skip
    first | generalize ((((((((((((((y6.setCell ⟨gz, 0, none⟩ (.int .i64 zt)).setCell ⟨gz, 1, none⟩ (.int .i64 tv)).setCell ⟨gz, 2, none⟩ (j0 (confF j (es.take k)))).setCell ⟨gz, 3, none⟩ (j1 (confF j (es.take k)))).setCell ⟨gz, 4, none⟩ (j2 (confF j (es.take k)))).setCell ⟨gz, 5, none⟩ (j3 (confF j (es.take k)))).setCell ⟨gz, 6, none⟩ (j4 (confF j (es.take k)))).setCell ⟨gz, 7, none⟩ (j5 (confF j (es.take k)))).setCell ⟨gz, 8, none⟩ (j6 (confF j (es.take k)))).setCell ⟨gz, 9, none⟩ (j7 (confF j (es.take k)))).setCell ⟨gz, 10, none⟩ (j8 (confF j (es.take k)))).setCell ⟨gz, 11, none⟩ (j9 (confF j (es.take k)))).setCell ⟨gz, 12, none⟩ (j10 (confF j (es.take k)))).setCell ⟨gz, 13, none⟩ (.slice none 0 0)) = wf at * | skip
    have sS := HS.out _ bF
    refine hKQ.out _ _ (sS) (fun _ => ?_)
    clear hKQ KQ
    try simp only [Act.put]
    refine wpAnyH_done (by kernel_rfl) ?_ _
    go_wp2_with fail
    go_meet
    case rel => exact ⟨gz, rfl, hgz, sF, Lh bF⟩
  case rest =>
   obtain ⟨g, rfl, hg1, kN, hBc⟩ := hcut
   have p0 := hBc.out.drew
   have HKN : Hid (∀ wq, Below wc.heap.size wc wq → (wq.cell? ⟨g, 0, none⟩ = some (.int .i64 zt) ∧ wq.cell? ⟨g, 1, none⟩ = some (.int .i64 tv) ∧ wq.cell? ⟨g, 2, none⟩ = some (j0 (confF j (es.take k))) ∧ wq.cell? ⟨g, 3, none⟩ = some (j1 (confF j (es.take k))) ∧ wq.cell? ⟨g, 4, none⟩ = some (j2 (confF j (es.take k))) ∧ wq.cell? ⟨g, 5, none⟩ = some (j3 (confF j (es.take k))) ∧ wq.cell? ⟨g, 6, none⟩ = some (j4 (confF j (es.take k))) ∧ wq.cell? ⟨g, 7, none⟩ = some (j5 (confF j (es.take k))) ∧ wq.cell? ⟨g, 8, none⟩ = some (j6 (confF j (es.take k))) ∧ wq.cell? ⟨g, 9, none⟩ = some (j7 (confF j (es.take k))) ∧ wq.cell? ⟨g, 10, none⟩ = some (j8 (confF j (es.take k))) ∧ wq.cell? ⟨g, 11, none⟩ = some (j9 (confF j (es.take k))) ∧ wq.cell? ⟨g, 12, none⟩ = some (j10 (confF j (es.take k))) ∧ wq.cell? ⟨g, 13, none⟩ = some (.slice none 0 0))) := fun wq hq => blk14 (kN.below hq kN.lt)
   have HSb : Hid (∀ wq, Below wc.heap.size wc wq → ((wq.cell? ⟨w.heap.size, 0, none⟩ = some (.int .i64 b) ∧ wq.cell? ⟨w.heap.size, 1, none⟩ = some (.int .i64 t) ∧ wq.cell? ⟨w.heap.size, 2, none⟩ = some (j0 j) ∧ wq.cell? ⟨w.heap.size, 3, none⟩ = some (j1 j) ∧ wq.cell? ⟨w.heap.size, 4, none⟩ = some (j2 j) ∧ wq.cell? ⟨w.heap.size, 5, none⟩ = some (j3 j) ∧ wq.cell? ⟨w.heap.size, 6, none⟩ = some (j4 j) ∧ wq.cell? ⟨w.heap.size, 7, none⟩ = some (j5 j) ∧ wq.cell? ⟨w.heap.size, 8, none⟩ = some (j6 j) ∧ wq.cell? ⟨w.heap.size, 9, none⟩ = some (j7 j) ∧ wq.cell? ⟨w.heap.size, 10, none⟩ = some (j8 j) ∧ wq.cell? ⟨w.heap.size, 11, none⟩ = some (j9 j) ∧ wq.cell? ⟨w.heap.size, 12, none⟩ = some (j10 j) ∧ wq.cell? ⟨w.heap.size, 13, none⟩ = some (.slice A n c)) ∧ (wq.cell? ⟨(w.heap.size + 1), 0, none⟩ = some (.int .i64 0) ∧ wq.cell? ⟨(w.heap.size + 1), 1, none⟩ = some (.int .i64 0) ∧ wq.cell? ⟨(w.heap.size + 1), 2, none⟩ = some (.int .u16 0) ∧ wq.cell? ⟨(w.heap.size + 1), 3, none⟩ = some (.int .u16 0) ∧ wq.cell? ⟨(w.heap.size + 1), 4, none⟩ = some (.int .u16 0) ∧ wq.cell? ⟨(w.heap.size + 1), 5, none⟩ = some (.int .i64 0) ∧ wq.cell? ⟨(w.heap.size + 1), 6, none⟩ = some (.int .i64 0) ∧ wq.cell? ⟨(w.heap.size + 1), 7, none⟩ = some (.int .u16 0) ∧ wq.cell? ⟨(w.heap.size + 1), 8, none⟩ = some (.int .u16 0) ∧ wq.cell? ⟨(w.heap.size + 1), 9, none⟩ = some (.int .u16 0) ∧ wq.cell? ⟨(w.heap.size + 1), 10, none⟩ = some (.int .i64 0) ∧ wq.cell? ⟨(w.heap.size + 1), 11, none⟩ = some (.int .i64 0) ∧ wq.cell? ⟨(w.heap.size + 1), 12, none⟩ = some (.bool false) ∧ wq.cell? ⟨(w.heap.size + 1), 13, none⟩ = some (.slice none 0 0))) ∧ (wq.cell? ⟨g, 0, none⟩ = some (.int .i64 zt) ∧ wq.cell? ⟨g, 1, none⟩ = some (.int .i64 tv) ∧ wq.cell? ⟨g, 2, none⟩ = some (j0 (confF j (es.take k))) ∧ wq.cell? ⟨g, 3, none⟩ = some (j1 (confF j (es.take k))) ∧ wq.cell? ⟨g, 4, none⟩ = some (j2 (confF j (es.take k))) ∧ wq.cell? ⟨g, 5, none⟩ = some (j3 (confF j (es.take k))) ∧ wq.cell? ⟨g, 6, none⟩ = some (j4 (confF j (es.take k))) ∧ wq.cell? ⟨g, 7, none⟩ = some (j5 (confF j (es.take k))) ∧ wq.cell? ⟨g, 8, none⟩ = some (j6 (confF j (es.take k))) ∧ wq.cell? ⟨g, 9, none⟩ = some (j7 (confF j (es.take k))) ∧ wq.cell? ⟨g, 10, none⟩ = some (j8 (confF j (es.take k))) ∧ wq.cell? ⟨g, 11, none⟩ = some (j9 (confF j (es.take k))) ∧ wq.cell? ⟨g, 12, none⟩ = some (j10 (confF j (es.take k))) ∧ wq.cell? ⟨g, 13, none⟩ = some (.slice none 0 0))) := fun wq hq => ⟨HS.out _ (hBc.out.trans (hq.mono hBc.out.size)), HKN.out _ hq⟩
   have b0 := (Below.refl wc.heap.size wc).drew
   have hBw := Lh hBc.out.size
   have l1 := Lh (show w.heap.size + 1 ≤ wc.heap.size from Nat.le_of_lt (Nat.lt_of_lt_of_le K1.out.lt hBc.out.size))
   skip
   have l1 := Lh (show w.heap.size + 1 ≤ wc.heap.size from Nat.le_of_lt (Nat.lt_of_lt_of_le K1.out.lt hBc.out.size))
   have hgl := Lh (show w.heap.size + 1 < g from Nat.lt_of_lt_of_le K1.out.lt hg1)
   go_upto_region 5 with (fail)
   refine wp_region_held_drew (S := fun wq => (wq.cell? ⟨w.heap.size, 0, none⟩ = some (.int .i64 b) ∧ wq.cell? ⟨w.heap.size, 1, none⟩ = some (.int .i64 t) ∧ wq.cell? ⟨w.heap.size, 2, none⟩ = some (j0 j) ∧ wq.cell? ⟨w.heap.size, 3, none⟩ = some (j1 j) ∧ wq.cell? ⟨w.heap.size, 4, none⟩ = some (j2 j) ∧ wq.cell? ⟨w.heap.size, 5, none⟩ = some (j3 j) ∧ wq.cell? ⟨w.heap.size, 6, none⟩ = some (j4 j) ∧ wq.cell? ⟨w.heap.size, 7, none⟩ = some (j5 j) ∧ wq.cell? ⟨w.heap.size, 8, none⟩ = some (j6 j) ∧ wq.cell? ⟨w.heap.size, 9, none⟩ = some (j7 j) ∧ wq.cell? ⟨w.heap.size, 10, none⟩ = some (j8 j) ∧ wq.cell? ⟨w.heap.size, 11, none⟩ = some (j9 j) ∧ wq.cell? ⟨w.heap.size, 12, none⟩ = some (j10 j) ∧ wq.cell? ⟨w.heap.size, 13, none⟩ = some (.slice A n c)) ∧ (wq.cell? ⟨g, 0, none⟩ = some (.int .i64 zt) ∧ wq.cell? ⟨g, 1, none⟩ = some (.int .i64 tv) ∧ wq.cell? ⟨g, 2, none⟩ = some (j0 (confF j (es.take k))) ∧ wq.cell? ⟨g, 3, none⟩ = some (j1 (confF j (es.take k))) ∧ wq.cell? ⟨g, 4, none⟩ = some (j2 (confF j (es.take k))) ∧ wq.cell? ⟨g, 5, none⟩ = some (j3 (confF j (es.take k))) ∧ wq.cell? ⟨g, 6, none⟩ = some (j4 (confF j (es.take k))) ∧ wq.cell? ⟨g, 7, none⟩ = some (j5 (confF j (es.take k))) ∧ wq.cell? ⟨g, 8, none⟩ = some (j6 (confF j (es.take k))) ∧ wq.cell? ⟨g, 9, none⟩ = some (j7 (confF j (es.take k))) ∧ wq.cell? ⟨g, 10, none⟩ = some (j8 (confF j (es.take k))) ∧ wq.cell? ⟨g, 11, none⟩ = some (j9 (confF j (es.take k))) ∧ wq.cell? ⟨g, 12, none⟩ = some (j10 (confF j (es.take k))) ∧ wq.cell? ⟨g, 13, none⟩ = some (.slice none 0 0))) (by kernel_rfl) ?s_lc5 (fun hHeld => ?_)
   case s_lc5 => exact ⟨(HSb.out _ b0).1.1, (HSb.out _ b0).2⟩
   iterate 3 (refine tx 0 _ ?_; try simp only [Act.put, ka, kb, kc])
   refine rr [3] ?_
   refine rc (fun KQ hKQ => ?_) AllReadyH.nil
   go_simp
   refine (CB.out _ p0).mono ?_
   rintro e y5 ⟨A5, c5, rfl, hR5, hc5, hc5b, hY5⟩
   have b1 := b0.trans (hY5.mono b0.size)
   have p1 := p0.trans (hY5.mono p0.size)
   have t1 := HSb.out _ b1
   go_wp2_with fail
   refine hKQ.out _ _ (⟨t1.1.1, t1.2⟩) (fun _ => ?_)
   clear hKQ KQ
   try simp only [Act.put, ka, kb, kc]
   refine rr [4] ?_
   refine rc (fun KQ hKQ => ?_) AllReadyH.nil
   go_simp
   have kl : Blk 28 (y5.alloc (.cells #[.slice A5 (n - k) c5] 28)) y5.heap.size [.slice A5 (n - k) c5] := heap_alloc_new y5 _
   have b2 := b1.alloc b1.size (.cells #[.slice A5 (n - k) c5] 28)
   have p2 := p1.alloc p1.size (.cells #[.slice A5 (n - k) c5] 28)
   have RA := (hR5.on (Below.refl _ _) p1.size).on ((Below.refl y5.heap.size y5).alloc (Nat.le_refl _) (.cells #[.slice A5 (n - k) c5] 28)) (show y5.heap.size ≤ (y5.alloc (.cells #[.slice A5 (n - k) c5] 28)).heap.size by simp)
   generalize (y5.alloc (.cells #[.slice A5 (n - k) c5] 28)) = w2 at *
   have t2 := HSb.out _ b2
   refine hKQ.out _ _ (⟨t2.1.1, t2.2⟩) (fun _ => ?_)
   clear hKQ KQ
   try simp only [Act.put, ka, kb, kc]
   refine rr [5] ?_
   refine rc (fun KQ hKQ => ?_) AllReadyH.nil
   go_simp
   refine (with1 ⟨zt, tv, confF j (es.take k), []⟩ none 0 0 w2 y5.heap.size A5 (n - k) c5 (es.drop k) kl RA (by omega)).mono ?_
   rintro e y6 ⟨A', c', rfl, hO, hY6⟩
   unfold lgV
   dsimp only
   have b3 := b2.trans (hY6.mono b2.size)
   have p3 := p2.trans (hY6.mono p2.size)
   have t3 := HSb.out _ b3
   have l2 := Lh (show w.heap.size + 1 < w2.heap.size from Nat.lt_of_lt_of_le K1.out.lt p2.size)
   have df := fun i => (K1.out.below p3 K1.out.lt).frozen i
   go_wp2_with fail
   refine hKQ.out _ _ (⟨t3.1.1, t3.2⟩) (fun _ => ?_)
   clear hKQ KQ
   try simp only [Act.put, ka, kb, kc]
   refine rr [6] ?_
   refine rc (fun KQ hKQ => ?_) AllReadyH.nil
   go_simp
   have sF := put14 (.int .i64 zt) (.int .i64 tv) (j0 (confF j (es.take k))) (j1 (confF j (es.take k))) (j2 (confF j (es.take k))) (j3 (confF j (es.take k))) (j4 (confF j (es.take k))) (j5 (confF j (es.take k))) (j6 (confF j (es.take k))) (j7 (confF j (es.take k))) (j8 (confF j (es.take k))) (j9 (confF j (es.take k))) (j10 (confF j (es.take k))) (.slice A' (n - k) c') (K1.out.below p3 K1.out.lt)
   have bF := below14 (g := w.heap.size + 1) (.int .i64 zt) (.int .i64 tv) (j0 (confF j (es.take k))) (j1 (confF j (es.take k))) (j2 (confF j (es.take k))) (j3 (confF j (es.take k))) (j4 (confF j (es.take k))) (j5 (confF j (es.take k))) (j6 (confF j (es.take k))) (j7 (confF j (es.take k))) (j8 (confF j (es.take k))) (j9 (confF j (es.take k))) (j10 (confF j (es.take k))) (.slice A' (n - k) c') (HB.out.trans (p3.mono HB.out.size)) (by omega)
   have oF := own14 (g := w.heap.size + 1) (.int .i64 zt) (.int .i64 tv) (j0 (confF j (es.take k))) (j1 (confF j (es.take k))) (j2 (confF j (es.take k))) (j3 (confF j (es.take k))) (j4 (confF j (es.take k))) (j5 (confF j (es.take k))) (j6 (confF j (es.take k))) (j7 (confF j (es.take k))) (j8 (confF j (es.take k))) (j9 (confF j (es.take k))) (j10 (confF j (es.take k))) (.slice A' (n - k) c') hO l2.out
   have fN := (((((((((((((((kN.below b3 kN.lt).far (p := ⟨w.heap.size + 1, 0, none⟩) (by show g ≠ w.heap.size + 1; have := hgl.out; omega) (.int .i64 zt)).far (p := ⟨w.heap.size + 1, 1, none⟩) (by show g ≠ w.heap.size + 1; have := hgl.out; omega) (.int .i64 tv)).far (p := ⟨w.heap.size + 1, 2, none⟩) (by show g ≠ w.heap.size + 1; have := hgl.out; omega) (j0 (confF j (es.take k)))).far (p := ⟨w.heap.size + 1, 3, none⟩) (by show g ≠ w.heap.size + 1; have := hgl.out; omega) (j1 (confF j (es.take k)))).far (p := ⟨w.heap.size + 1, 4, none⟩) (by show g ≠ w.heap.size + 1; have := hgl.out; omega) (j2 (confF j (es.take k)))).far (p := ⟨w.heap.size + 1, 5, none⟩) (by show g ≠ w.heap.size + 1; have := hgl.out; omega) (j3 (confF j (es.take k)))).far (p := ⟨w.heap.size + 1, 6, none⟩) (by show g ≠ w.heap.size + 1; have := hgl.out; omega) (j4 (confF j (es.take k)))).far (p := ⟨w.heap.size + 1, 7, none⟩) (by show g ≠ w.heap.size + 1; have := hgl.out; omega) (j5 (confF j (es.take k)))).far (p := ⟨w.heap.size + 1, 8, none⟩) (by show g ≠ w.heap.size + 1; have := hgl.out; omega) (j6 (confF j (es.take k)))).far (p := ⟨w.heap.size + 1, 9, none⟩) (by show g ≠ w.heap.size + 1; have := hgl.out; omega) (j7 (confF j (es.take k)))).far (p := ⟨w.heap.size + 1, 10, none⟩) (by show g ≠ w.heap.size + 1; have := hgl.out; omega) (j8 (confF j (es.take k)))).far (p := ⟨w.heap.size + 1, 11, none⟩) (by show g ≠ w.heap.size + 1; have := hgl.out; omega) (j9 (confF j (es.take k)))).far (p := ⟨w.heap.size + 1, 12, none⟩) (by show g ≠ w.heap.size + 1; have := hgl.out; omega) (j10 (confF j (es.take k)))).far (p := ⟨w.heap.size + 1, 13, none⟩) (by show g ≠ w.heap.size + 1; have := hgl.out; omega) (.slice A' (n - k) c'))
   have f0 := (((((((((((((((K0.out.below p3 K0.out.lt).far (p := ⟨w.heap.size + 1, 0, none⟩) (by show w.heap.size ≠ w.heap.size + 1; omega) (.int .i64 zt)).far (p := ⟨w.heap.size + 1, 1, none⟩) (by show w.heap.size ≠ w.heap.size + 1; omega) (.int .i64 tv)).far (p := ⟨w.heap.size + 1, 2, none⟩) (by show w.heap.size ≠ w.heap.size + 1; omega) (j0 (confF j (es.take k)))).far (p := ⟨w.heap.size + 1, 3, none⟩) (by show w.heap.size ≠ w.heap.size + 1; omega) (j1 (confF j (es.take k)))).far (p := ⟨w.heap.size + 1, 4, none⟩) (by show w.heap.size ≠ w.heap.size + 1; omega) (j2 (confF j (es.take k)))).far (p := ⟨w.heap.size + 1, 5, none⟩) (by show w.heap.size ≠ w.heap.size + 1; omega) (j3 (confF j (es.take k)))).far (p := ⟨w.heap.size + 1, 6, none⟩) (by show w.heap.size ≠ w.heap.size + 1; omega) (j4 (confF j (es.take k)))).far (p := ⟨w.heap.size + 1, 7, none⟩) (by show w.heap.size ≠ w.heap.size + 1; omega) (j5 (confF j (es.take k)))).far (p := ⟨w.heap.size + 1, 8, none⟩) (by show w.heap.size ≠ w.heap.size + 1; omega) (j6 (confF j (es.take k)))).far (p := ⟨w.heap.size + 1, 9, none⟩) (by show w.heap.size ≠ w.heap.size + 1; omega) (j7 (confF j (es.take k)))).far (p := ⟨w.heap.size + 1, 10, none⟩) (by show w.heap.size ≠ w.heap.size + 1; omega) (j8 (confF j (es.take k)))).far (p := ⟨w.heap.size + 1, 11, none⟩) (by show w.heap.size ≠ w.heap.size + 1; omega) (j9 (confF j (es.take k)))).far (p := ⟨w.heap.size + 1, 12, none⟩) (by show w.heap.size ≠ w.heap.size + 1; omega) (j10 (confF j (es.take k)))).far (p := ⟨w.heap.size + 1, 13, none⟩) (by show w.heap.size ≠ w.heap.size + 1; omega) (.slice A' (n - k) c'))
   generalize ((((((((((((((y6.setCell ⟨w.heap.size + 1, 0, none⟩ (.int .i64 zt)).setCell ⟨w.heap.size + 1, 1, none⟩ (.int .i64 tv)).setCell ⟨w.heap.size + 1, 2, none⟩ (j0 (confF j (es.take k)))).setCell ⟨w.heap.size + 1, 3, none⟩ (j1 (confF j (es.take k)))).setCell ⟨w.heap.size + 1, 4, none⟩ (j2 (confF j (es.take k)))).setCell ⟨w.heap.size + 1, 5, none⟩ (j3 (confF j (es.take k)))).setCell ⟨w.heap.size + 1, 6, none⟩ (j4 (confF j (es.take k)))).setCell ⟨w.heap.size + 1, 7, none⟩ (j5 (confF j (es.take k)))).setCell ⟨w.heap.size + 1, 8, none⟩ (j6 (confF j (es.take k)))).setCell ⟨w.heap.size + 1, 9, none⟩ (j7 (confF j (es.take k)))).setCell ⟨w.heap.size + 1, 10, none⟩ (j8 (confF j (es.take k)))).setCell ⟨w.heap.size + 1, 11, none⟩ (j9 (confF j (es.take k)))).setCell ⟨w.heap.size + 1, 12, none⟩ (j10 (confF j (es.take k)))).setCell ⟨w.heap.size + 1, 13, none⟩ (.slice A' (n - k) c')) = wf at *
   have sN := blk14 fN
   have s0 := blk14 f0
   refine hKQ.out _ _ (⟨s0, sN⟩) (fun _ => ?_)
   clear hKQ KQ
   try simp only [Act.put]
   refine tj 7 _ ?_
   try simp only [Act.put, ka, kb, kc]
   refine wpAnyH_done (by kernel_rfl) ?_ _
   go_wp2_with fail
   (try simp only [Exit.inBlock, Exit.then])
   refine bodyPost_ret (res2 Tryz.results95 rfl rfl (aggL _) (sizeL _) (ld14 sF)) rfl ?_
   exact ⟨A', n - k, c', by rw [HM2.out]; rfl, by rw [HM2.out, List.length_drop, hlh.out], by rw [HM2.out]; exact oF.more (by have := l2.out; omega), bF⟩
end Go.Proofs.YtegnfkbmlalkeaaGreat.enti
