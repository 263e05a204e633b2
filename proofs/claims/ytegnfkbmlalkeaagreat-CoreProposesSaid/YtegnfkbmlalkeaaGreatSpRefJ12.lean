/- The document's entries: Slice. Conditions: the log's numbers stay far from the ends of an int. -/
import Derived.Deep.RegionHeld3
import Derived.Deep.Cut
import Derived.Lib.Hide
import Derived.Test.YtegnfkbmlalkeaaGreatSpRefE12
import Derived.Test.YtegnfkbmlalkeaaGreatSpJ1
import Derived.Test.YtegnfkbmlalkeaaGreatSpKitLg
import Derived.Test.YtegnfkbmlalkeaaGreatSpJ0
set_option linter.unusedVariables false
set_option maxHeartbeats 16000000
set_option maxRecDepth 10000
namespace Go.Proofs.YtegnfkbmlalkeaaGreat.ref12
open Go Go.RowKit kit nums cf lg
theorem rslice_any (L : LgL) (A : Option Addr) (n c : Nat) (a q : Int) (w : World) (B : Nat) (hR : RdE w B A n L.es) (hB : B ≤ w.heap.size) (hc : n ≤ c) (hf : Fit L) (ha : In64 a) (hq : In64 q) : Calls Tryz.prog 135 #[lgV L (.slice A n c), .int .i64 a, .int .i64 q] w fun e w' => ∃ A' n' c', e = .returned (.slice A' n' c') ∧ n' = (sliceF L a q).length ∧ OwnE w' w.heap.size (.slice A' n' c') (sliceF L a q) ∧ Below w.heap.size w w' := by
 have HR := Lh hR
 have hl := hR.1
 have HF := Lh hf
 have hBs := Lh hB
 have hlast : lastF L = L.b + n := by unfold lastF; rw [hl]
 obtain ⟨f0, f1, f2⟩ := hf
 rw [hl] at f2
 obtain ⟨s, hs⟩ : ∃ s : Nat, (max a (L.b + 1) - L.b - 1).toNat = s := ⟨_, rfl⟩
 have hsm : max a (L.b + 1) = L.b + 1 + s := by omega
 have HSM := Lh hsm
 have HI : Hid (∀ (i : Int) (k : Nat) (x : EnL), i = L.b + 1 + k → L.es[k]? = some x → atF L i = (x, true)) := fun i k x h1 h2 => atF_in h1 h2
 have HX : Hid (∀ k, k < n → ∃ x, L.es[k]? = some x) := fun k hk => ⟨L.es[k]'(by omega), List.getElem?_eq_getElem _⟩
 obtain ⟨f, hfd⟩ : ∃ f : Nat → List EnL, f = fun k => (L.es.drop s).take k := ⟨_, rfl⟩
 have HF0 : Hid (f 0 = []) := by show _ = _; rw [hfd]; exact List.take_zero
 have HFs : Hid (∀ k x, L.es[s + k]? = some x → f (k + 1) = f k ++ [x] ∧ (f (k + 1)).length = k + 1) := fun k x h => by
  obtain ⟨h1, rfl⟩ := List.getElem?_eq_some_iff.1 h
  rw [hfd]
  have h2 : k < (L.es.drop s).length := by rw [List.length_drop]; omega
  refine ⟨?_, ?_⟩
  ·
   show (L.es.drop s).take (k + 1) = _
   rw [List.take_succ_eq_append_getElem h2, List.getElem_drop]
  ·
   show ((L.es.drop s).take (k + 1)).length = _
   rw [List.length_take]; omega
 have HFe : Hid (∀ k, s + k ≤ n ∨ k = 0 → ((n ≤ s + k) ∨ q ≤ (k : Int)) → ((k : Int) ≤ q ∨ k = 0) → f k = sliceF L a q) := fun k h1 h2 h3 => by
  rw [hfd]; unfold sliceF
  rw [hs]
  show (L.es.drop s).take k = (L.es.drop s).take q.toNat
  by_cases hq0 : q.toNat = k
  · rw [hq0]
  · rw [List.take_of_length_le (by rw [List.length_drop]; omega), List.take_of_length_le (by rw [List.length_drop]; omega)]
 generalize sliceF L a q = RES at *
 clear hfd hR hB
 have HLe := Lh hl
 clear hl
 unfold lgV at *
 obtain ⟨b, t, j, es⟩ := L
 dsimp only at *
 have k0 : Blk 30 (w.alloc (.cells #[.int .i64 b, .int .i64 t, j0 j, j1 j, j2 j, j3 j, j4 j, j5 j, j6 j, j7 j, j8 j, j9 j, j10 j, .slice A n c] 30)) w.heap.size [.int .i64 b, .int .i64 t, j0 j, j1 j, j2 j, j3 j, j4 j, j5 j, j6 j, j7 j, j8 j, j9 j, j10 j, .slice A n c] := (heap_alloc_new w (.cells #[.int .i64 b, .int .i64 t, j0 j, j1 j, j2 j, j3 j, j4 j, j5 j, j6 j, j7 j, j8 j, j9 j, j10 j, .slice A n c] 30))
 have hB : Below w.heap.size w (w.alloc (.cells #[.int .i64 b, .int .i64 t, j0 j, j1 j, j2 j, j3 j, j4 j, j5 j, j6 j, j7 j, j8 j, j9 j, j10 j, .slice A n c] 30)) := ((Below.refl w.heap.size w).alloc (by first | exact Nat.le_refl _ | (simp; done) | (simp; omega)) (.cells #[.int .i64 b, .int .i64 t, j0 j, j1 j, j2 j, j3 j, j4 j, j5 j, j6 j, j7 j, j8 j, j9 j, j10 j, .slice A n c] 30))
 have HB := Lh hB
 have HS : Hid (∀ wq, Below (w.alloc (.cells #[.int .i64 b, .int .i64 t, j0 j, j1 j, j2 j, j3 j, j4 j, j5 j, j6 j, j7 j, j8 j, j9 j, j10 j, .slice A n c] 30)).heap.size (w.alloc (.cells #[.int .i64 b, .int .i64 t, j0 j, j1 j, j2 j, j3 j, j4 j, j5 j, j6 j, j7 j, j8 j, j9 j, j10 j, .slice A n c] 30)) wq → (wq.cell? ⟨w.heap.size, 0, none⟩ = some (.int .i64 b) ∧ wq.cell? ⟨w.heap.size, 1, none⟩ = some (.int .i64 t) ∧ wq.cell? ⟨w.heap.size, 2, none⟩ = some (j0 j) ∧ wq.cell? ⟨w.heap.size, 3, none⟩ = some (j1 j) ∧ wq.cell? ⟨w.heap.size, 4, none⟩ = some (j2 j) ∧ wq.cell? ⟨w.heap.size, 5, none⟩ = some (j3 j) ∧ wq.cell? ⟨w.heap.size, 6, none⟩ = some (j4 j) ∧ wq.cell? ⟨w.heap.size, 7, none⟩ = some (j5 j) ∧ wq.cell? ⟨w.heap.size, 8, none⟩ = some (j6 j) ∧ wq.cell? ⟨w.heap.size, 9, none⟩ = some (j7 j) ∧ wq.cell? ⟨w.heap.size, 10, none⟩ = some (j8 j) ∧ wq.cell? ⟨w.heap.size, 11, none⟩ = some (j9 j) ∧ wq.cell? ⟨w.heap.size, 12, none⟩ = some (j10 j) ∧ wq.cell? ⟨w.heap.size, 13, none⟩ = some (.slice A n c))) := fun wq hq => blk14 (k0.below hq k0.lt)
 have q0 := Below.refl (w.alloc (.cells #[.int .i64 b, .int .i64 t, j0 j, j1 j, j2 j, j3 j, j4 j, j5 j, j6 j, j7 j, j8 j, j9 j, j10 j, .slice A n c] 30)).heap.size (w.alloc (.cells #[.int .i64 b, .int .i64 t, j0 j, j1 j, j2 j, j3 j, j4 j, j5 j, j6 j, j7 j, j8 j, j9 j, j10 j, .slice A n c] 30))
 have K0 := Lh k0
 clear hB k0
 by_cases hm : a < b + 1
 ·
  have HST : Hid (b + 1 = b + 1 + ((s + 0 : Nat) : Int)) := by show _ = _; have := HSM.out; omega
  clear hsm
  go_enter Tryz.func135, Tryz.ntmps135
  go_upto_region 1 with (fail)
  generalize (w.alloc (.cells #[.int .i64 b, .int .i64 t, j0 j, j1 j, j2 j, j3 j, j4 j, j5 j, j6 j, j7 j, j8 j, j9 j, j10 j, .slice A n c] 30)) = w1 at *
  have HR1 := Lh (HR.out.on (HB.out.mono hBs.out) (Nat.le_trans hBs.out HB.out.size))
  have CL := Lh (fun w' (hb : Below w1.heap.size w1 w') => rlast_any ⟨b, t, j, es⟩ A n c w' HR1.out.1 HF.out)
  have CA := Lh (fun (i : Int) w' (hb : Below w1.heap.size w1 w') => rat_any ⟨b, t, j, es⟩ A n c i w' w1.heap.size (HR1.out.below hb) hb.size hc HF.out)
  unfold lgV at CL CA
  dsimp only at CL CA
  rw [hlast] at CL
  clear hlast hs
  have r0 := HS.out _ q0
  go_wp2_with fail
  go_loopw [7, 8] (fun ov iv wr => ∃ (k : Nat) (A' : Option Addr) (c' : Nat), (s + k ≤ n ∨ k = 0) ∧ ((k : Int) ≤ q ∨ k = 0) ∧ ov = .slice A' k c' ∧ iv = .int .i64 (b + 1 + ((s + k : Nat) : Int)) ∧ Hid ((f k).length = k) ∧ Hid (OwnE wr w1.heap.size (.slice A' k c') (f k)) ∧ Hid (Below w1.heap.size w1 wr)) (fun _ iv _ => (b + n + 2 - intOf iv).toNat)
  case atStart => exact ⟨0, none, 0, .inr rfl, .inr rfl, rfl, congrArg (Value.int .i64) HST.out, (by show _ = _; rw [HF0.out]; rfl), (by show OwnE _ _ _ _; rw [HF0.out]; exact OwnE.nil _ _), Lh q0⟩
  case round =>
   obtain ⟨k, A', c', hk1, hk2, rfl, rfl, HLk, HO, HY⟩ := hrel
   have r1 := HS.out _ HY.out
   by_cases c1 : s + k < n
   ·
    have ci : b + 1 + ((s + k : Nat) : Int) ≤ b + (n : Int) := by omega
    by_cases c2 : (k : Int) < q
    ·
     obtain ⟨x, hx⟩ := HX.out (s + k) c1
     have hat := HI.out (b + 1 + ((s + k : Nat) : Int)) (s + k) x rfl hx
     obtain ⟨hf1, hf2⟩ := HFs.out k x hx
     have HF1 := Lh hf1
     have HF2 := Lh hf2
     have CAx := Lh (fun w' hb => CA.out (b + 1 + ((s + k : Nat) : Int)) w' hb)
     rw [hat] at CAx
     unfold enV at CAx
     dsimp only at CAx
     clear hx hat hf1 hf2 CA HI HX HFs HFe
     go_wp2_with fail
     refine (CL.out _ HY.out).mono ?_
     rintro e y1 ⟨rfl, hY1⟩
     have q1 := HY.out.trans (hY1.mono HY.out.size)
     have r2 := HS.out _ q1
     clear r1
     go_wp2_with fail
     refine (CAx.out _ q1).mono ?_
     rintro e y2 ⟨rfl, hY2⟩
     have q2 := q1.trans (hY2.mono q1.size)
     have r3 := HS.out _ q2
     clear r2
     go_upto_region 6 with (fail)
     have kE : Blk 52 (y2.alloc (.cells #[.int .i64 x.t, .int .i64 x.k, .string x.d, j0 x.j, j1 x.j, j2 x.j, j3 x.j, j4 x.j, j5 x.j, j6 x.j, j7 x.j, j8 x.j, j9 x.j, j10 x.j] 52)) y2.heap.size [.int .i64 x.t, .int .i64 x.k, .string x.d, j0 x.j, j1 x.j, j2 x.j, j3 x.j, j4 x.j, j5 x.j, j6 x.j, j7 x.j, j8 x.j, j9 x.j, j10 x.j] := heap_alloc_new y2 (.cells #[.int .i64 x.t, .int .i64 x.k, .string x.d, j0 x.j, j1 x.j, j2 x.j, j3 x.j, j4 x.j, j5 x.j, j6 x.j, j7 x.j, j8 x.j, j9 x.j, j10 x.j] 52)
     have q3 := Below.alloc q2 (Below.size q2) (.cells #[.int .i64 x.t, .int .i64 x.k, .string x.d, j0 x.j, j1 x.j, j2 x.j, j3 x.j, j4 x.j, j5 x.j, j6 x.j, j7 x.j, j8 x.j, j9 x.j, j10 x.j] 52)
     have hBy := Lh (((hY1.trans (hY2.mono hY1.size))).alloc (Nat.le_trans hY1.size hY2.size) (.cells #[.int .i64 x.t, .int .i64 x.k, .string x.d, j0 x.j, j1 x.j, j2 x.j, j3 x.j, j4 x.j, j5 x.j, j6 x.j, j7 x.j, j8 x.j, j9 x.j, j10 x.j] 52))
     generalize (y2.alloc (.cells #[.int .i64 x.t, .int .i64 x.k, .string x.d, j0 x.j, j1 x.j, j2 x.j, j3 x.j, j4 x.j, j5 x.j, j6 x.j, j7 x.j, j8 x.j, j9 x.j, j10 x.j] 52)) = y3 at *
     have r4 := HS.out _ q3
     have c15 := blk14 kE
     have k4 : Blk 52 (y3.alloc (.cells #[.int .i64 x.t, .int .i64 x.k, .string x.d, j0 x.j, j1 x.j, j2 x.j, j3 x.j, j4 x.j, j5 x.j, j6 x.j, j7 x.j, j8 x.j, j9 x.j, j10 x.j] 52)) y3.heap.size (enC x) := heap_alloc_new y3 _
     have q4 := q3.alloc q3.size (.cells #[.int .i64 x.t, .int .i64 x.k, .string x.d, j0 x.j, j1 x.j, j2 x.j, j3 x.j, j4 x.j, j5 x.j, j6 x.j, j7 x.j, j8 x.j, j9 x.j, j10 x.j] 52)
     have RX := rd_one k4
     have HO4 : OwnE (y3.alloc (.cells #[.int .i64 x.t, .int .i64 x.k, .string x.d, j0 x.j, j1 x.j, j2 x.j, j3 x.j, j4 x.j, j5 x.j, j6 x.j, j7 x.j, j8 x.j, j9 x.j, j10 x.j] 52)) w1.heap.size (.slice A' k c') (f k) := (HO.out.below (hBy.out)).below ((Below.refl y3.heap.size y3).alloc (Nat.le_refl _) (.cells #[.int .i64 x.t, .int .i64 x.k, .string x.d, j0 x.j, j1 x.j, j2 x.j, j3 x.j, j4 x.j, j5 x.j, j6 x.j, j7 x.j, j8 x.j, j9 x.j, j10 x.j] 52))
     have HO4 := Lh HO4
     have RX := Lh RX
     clear k4 kE r3
     have hkb := HLk.out
     go_wp2_with (at_builtin; with_reducible refine wpList_append_E rfl (.tmp 34) (.tmp 36) rfl w1.heap.size A' k c' (f k) rfl HO4.out _ _ 1 1 [x] rfl RX.out ?hb1 q4.size ?_)
     case hb1 => omega
     intro A5 c5 y5 hO5 hY5 hG5
     rw [← HF1.out] at hO5
     have HO5 := Lh hO5
     have HY5 := Lh (q4.trans hY5)
     clear hO5 hY5 hG5 RX HO4 HO q4 q3 q2 q1 hY1 hY2
     have wi : IntKind.i64.wrap (b + 1 + ((s + k : Nat) : Int) + 1) = b + 1 + ((s + (k + 1) : Nat) : Int) := by rw [enti.wrap_sm (by omega) (by omega)]; omega
     have wi2 : b + 1 + ((s + k : Nat) : Int) + 1 = b + 1 + ((s + (k + 1) : Nat) : Int) := by omega
     go_wp2_with fail
     go_roundw
     case rel => exact ⟨k + 1, A5, c5, .inl (by omega), .inl (by omega), rfl, by first | rfl | (congr 1; omega) | (simp; omega), HF2, HO5, HY5⟩
     case measure => simp only [intOf]; omega
    ·
     have hle := HLk.out
     have HE := Lh (HFe.out k hk1 (.inr (by omega)) hk2)
     clear HFs HFe HI HX
     go_wp2_with fail
     refine (CL.out _ HY.out).mono ?_
     rintro e y1 ⟨rfl, hY1⟩
     have q1 := Lh (HY.out.trans (hY1.mono HY.out.size))
     have HO1 := Lh (HO.out.below hY1)
     clear r1 hY1
     go_wp2_with fail
     go_ret
     exact ⟨A', k, c', rfl, by rw [← HE.out]; exact HLk.out.symm, by rw [← HE.out]; exact HO1.out.more HB.out.size, HB.out.trans (q1.out.mono HB.out.size)⟩
   ·
    have ci : ¬ (b + 1 + ((s + k : Nat) : Int) ≤ b + (n : Int)) := by omega
    have HE := Lh (HFe.out k hk1 (.inl (by omega)) hk2)
    clear HFs HFe HI HX
    go_wp2_with fail
    refine (CL.out _ HY.out).mono ?_
    rintro e y1 ⟨rfl, hY1⟩
    have q1 := Lh (HY.out.trans (hY1.mono HY.out.size))
    have HO1 := Lh (HO.out.below hY1)
    clear r1 hY1
    go_wp2_with fail
    go_ret
    exact ⟨A', k, c', rfl, by rw [← HE.out]; exact HLk.out.symm, by rw [← HE.out]; exact HO1.out.more HB.out.size, HB.out.trans (q1.out.mono HB.out.size)⟩
 ·
  have HST : Hid (a = b + 1 + ((s + 0 : Nat) : Int)) := by show _ = _; have := HSM.out; omega
  clear hsm
  go_enter Tryz.func135, Tryz.ntmps135
  go_upto_region 1 with (fail)
  generalize (w.alloc (.cells #[.int .i64 b, .int .i64 t, j0 j, j1 j, j2 j, j3 j, j4 j, j5 j, j6 j, j7 j, j8 j, j9 j, j10 j, .slice A n c] 30)) = w1 at *
  have HR1 := Lh (HR.out.on (HB.out.mono hBs.out) (Nat.le_trans hBs.out HB.out.size))
  have CL := Lh (fun w' (hb : Below w1.heap.size w1 w') => rlast_any ⟨b, t, j, es⟩ A n c w' HR1.out.1 HF.out)
  have CA := Lh (fun (i : Int) w' (hb : Below w1.heap.size w1 w') => rat_any ⟨b, t, j, es⟩ A n c i w' w1.heap.size (HR1.out.below hb) hb.size hc HF.out)
  unfold lgV at CL CA
  dsimp only at CL CA
  rw [hlast] at CL
  clear hlast hs
  have r0 := HS.out _ q0
  go_wp2_with fail
  go_loopw [7, 8] (fun ov iv wr => ∃ (k : Nat) (A' : Option Addr) (c' : Nat), (s + k ≤ n ∨ k = 0) ∧ ((k : Int) ≤ q ∨ k = 0) ∧ ov = .slice A' k c' ∧ iv = .int .i64 (b + 1 + ((s + k : Nat) : Int)) ∧ Hid ((f k).length = k) ∧ Hid (OwnE wr w1.heap.size (.slice A' k c') (f k)) ∧ Hid (Below w1.heap.size w1 wr)) (fun _ iv _ => (b + n + 2 - intOf iv).toNat)
  case atStart => exact ⟨0, none, 0, .inr rfl, .inr rfl, rfl, congrArg (Value.int .i64) HST.out, (by show _ = _; rw [HF0.out]; rfl), (by show OwnE _ _ _ _; rw [HF0.out]; exact OwnE.nil _ _), Lh q0⟩
  case round =>
   obtain ⟨k, A', c', hk1, hk2, rfl, rfl, HLk, HO, HY⟩ := hrel
   have r1 := HS.out _ HY.out
   by_cases c1 : s + k < n
   ·
    have ci : b + 1 + ((s + k : Nat) : Int) ≤ b + (n : Int) := by omega
    by_cases c2 : (k : Int) < q
    ·
     obtain ⟨x, hx⟩ := HX.out (s + k) c1
     have hat := HI.out (b + 1 + ((s + k : Nat) : Int)) (s + k) x rfl hx
     obtain ⟨hf1, hf2⟩ := HFs.out k x hx
     have HF1 := Lh hf1
     have HF2 := Lh hf2
     have CAx := Lh (fun w' hb => CA.out (b + 1 + ((s + k : Nat) : Int)) w' hb)
     rw [hat] at CAx
     unfold enV at CAx
     dsimp only at CAx
     clear hx hat hf1 hf2 CA HI HX HFs HFe
     go_wp2_with fail
     refine (CL.out _ HY.out).mono ?_
     rintro e y1 ⟨rfl, hY1⟩
     have q1 := HY.out.trans (hY1.mono HY.out.size)
     have r2 := HS.out _ q1
     clear r1
     go_wp2_with fail
     refine (CAx.out _ q1).mono ?_
     rintro e y2 ⟨rfl, hY2⟩
     have q2 := q1.trans (hY2.mono q1.size)
     have r3 := HS.out _ q2
     clear r2
     go_upto_region 6 with (fail)
     have kE : Blk 52 (y2.alloc (.cells #[.int .i64 x.t, .int .i64 x.k, .string x.d, j0 x.j, j1 x.j, j2 x.j, j3 x.j, j4 x.j, j5 x.j, j6 x.j, j7 x.j, j8 x.j, j9 x.j, j10 x.j] 52)) y2.heap.size [.int .i64 x.t, .int .i64 x.k, .string x.d, j0 x.j, j1 x.j, j2 x.j, j3 x.j, j4 x.j, j5 x.j, j6 x.j, j7 x.j, j8 x.j, j9 x.j, j10 x.j] := heap_alloc_new y2 (.cells #[.int .i64 x.t, .int .i64 x.k, .string x.d, j0 x.j, j1 x.j, j2 x.j, j3 x.j, j4 x.j, j5 x.j, j6 x.j, j7 x.j, j8 x.j, j9 x.j, j10 x.j] 52)
     have q3 := Below.alloc q2 (Below.size q2) (.cells #[.int .i64 x.t, .int .i64 x.k, .string x.d, j0 x.j, j1 x.j, j2 x.j, j3 x.j, j4 x.j, j5 x.j, j6 x.j, j7 x.j, j8 x.j, j9 x.j, j10 x.j] 52)
     have hBy := Lh (((hY1.trans (hY2.mono hY1.size))).alloc (Nat.le_trans hY1.size hY2.size) (.cells #[.int .i64 x.t, .int .i64 x.k, .string x.d, j0 x.j, j1 x.j, j2 x.j, j3 x.j, j4 x.j, j5 x.j, j6 x.j, j7 x.j, j8 x.j, j9 x.j, j10 x.j] 52))
     generalize (y2.alloc (.cells #[.int .i64 x.t, .int .i64 x.k, .string x.d, j0 x.j, j1 x.j, j2 x.j, j3 x.j, j4 x.j, j5 x.j, j6 x.j, j7 x.j, j8 x.j, j9 x.j, j10 x.j] 52)) = y3 at *
     have r4 := HS.out _ q3
     have c15 := blk14 kE
     have k4 : Blk 52 (y3.alloc (.cells #[.int .i64 x.t, .int .i64 x.k, .string x.d, j0 x.j, j1 x.j, j2 x.j, j3 x.j, j4 x.j, j5 x.j, j6 x.j, j7 x.j, j8 x.j, j9 x.j, j10 x.j] 52)) y3.heap.size (enC x) := heap_alloc_new y3 _
     have q4 := q3.alloc q3.size (.cells #[.int .i64 x.t, .int .i64 x.k, .string x.d, j0 x.j, j1 x.j, j2 x.j, j3 x.j, j4 x.j, j5 x.j, j6 x.j, j7 x.j, j8 x.j, j9 x.j, j10 x.j] 52)
     have RX := rd_one k4
     have HO4 : OwnE (y3.alloc (.cells #[.int .i64 x.t, .int .i64 x.k, .string x.d, j0 x.j, j1 x.j, j2 x.j, j3 x.j, j4 x.j, j5 x.j, j6 x.j, j7 x.j, j8 x.j, j9 x.j, j10 x.j] 52)) w1.heap.size (.slice A' k c') (f k) := (HO.out.below (hBy.out)).below ((Below.refl y3.heap.size y3).alloc (Nat.le_refl _) (.cells #[.int .i64 x.t, .int .i64 x.k, .string x.d, j0 x.j, j1 x.j, j2 x.j, j3 x.j, j4 x.j, j5 x.j, j6 x.j, j7 x.j, j8 x.j, j9 x.j, j10 x.j] 52))
     have HO4 := Lh HO4
     have RX := Lh RX
     clear k4 kE r3
     have hkb := HLk.out
     go_wp2_with (at_builtin; with_reducible refine wpList_append_E rfl (.tmp 34) (.tmp 36) rfl w1.heap.size A' k c' (f k) rfl HO4.out _ _ 1 1 [x] rfl RX.out ?hb1 q4.size ?_)
     case hb1 => omega
     intro A5 c5 y5 hO5 hY5 hG5
     rw [← HF1.out] at hO5
     have HO5 := Lh hO5
     have HY5 := Lh (q4.trans hY5)
     clear hO5 hY5 hG5 RX HO4 HO q4 q3 q2 q1 hY1 hY2
     have wi : IntKind.i64.wrap (b + 1 + ((s + k : Nat) : Int) + 1) = b + 1 + ((s + (k + 1) : Nat) : Int) := by rw [enti.wrap_sm (by omega) (by omega)]; omega
     have wi2 : b + 1 + ((s + k : Nat) : Int) + 1 = b + 1 + ((s + (k + 1) : Nat) : Int) := by omega
     go_wp2_with fail
     go_roundw
     case rel => exact ⟨k + 1, A5, c5, .inl (by omega), .inl (by omega), rfl, by first | rfl | (congr 1; omega) | (simp; omega), HF2, HO5, HY5⟩
     case measure => simp only [intOf]; omega
    ·
     have hle := HLk.out
     have HE := Lh (HFe.out k hk1 (.inr (by omega)) hk2)
     clear HFs HFe HI HX
     go_wp2_with fail
     refine (CL.out _ HY.out).mono ?_
     rintro e y1 ⟨rfl, hY1⟩
     have q1 := Lh (HY.out.trans (hY1.mono HY.out.size))
     have HO1 := Lh (HO.out.below hY1)
     clear r1 hY1
     go_wp2_with fail
     go_ret
     exact ⟨A', k, c', rfl, by rw [← HE.out]; exact HLk.out.symm, by rw [← HE.out]; exact HO1.out.more HB.out.size, HB.out.trans (q1.out.mono HB.out.size)⟩
   ·
    have ci : ¬ (b + 1 + ((s + k : Nat) : Int) ≤ b + (n : Int)) := by omega
    have HE := Lh (HFe.out k hk1 (.inl (by omega)) hk2)
    clear HFs HFe HI HX
    go_wp2_with fail
    refine (CL.out _ HY.out).mono ?_
    rintro e y1 ⟨rfl, hY1⟩
    have q1 := Lh (HY.out.trans (hY1.mono HY.out.size))
    have HO1 := Lh (HO.out.below hY1)
    clear r1 hY1
    go_wp2_with fail
    go_ret
    exact ⟨A', k, c', rfl, by rw [← HE.out]; exact HLk.out.symm, by rw [← HE.out]; exact HO1.out.more HB.out.size, HB.out.trans (q1.out.mono HB.out.size)⟩
end Go.Proofs.YtegnfkbmlalkeaaGreat.ref12
