/- The landed entries: At, Term. Conditions: the log's numbers stay far from the ends of an int. -/
import Derived.Deep.RegionHeld3
import Derived.Deep.Cut
import Derived.Lib.Hide
import Derived.Test.YtegnfkbmlalkeaaGreatSpJ1
import Derived.Test.YtegnfkbmlalkeaaGreatSpKitLg
import Derived.Test.YtegnfkbmlalkeaaGreatSpJ0
set_option linter.unusedVariables false
set_option maxHeartbeats 16000000
set_option maxRecDepth 10000
namespace Go.Proofs.YtegnfkbmlalkeaaGreat.enti
open Go Go.RowKit kit nums cf lg
set_option profiler true
set_option profiler.threshold 1000
theorem at_any (L : LgL) (A : Option Addr) (n c : Nat) (i : Int) (w : World) (B : Nat) (hR : RdE w B A n L.es) (hB : B ≤ w.heap.size) (hc : n ≤ c) (hf : Fit L) : Calls Tryz.prog 157 #[lgV L (.slice A n c), .int .i64 i] w fun e w' => e = .returned (.tuple #[enV (atF L i).1, .bool (atF L i).2]) ∧ Below w.heap.size w w' := by
 have HL := Lh hf
 obtain ⟨h0, h1, h2⟩ := hf
 have hl := hR.1
 rw [hl] at h2
 have hle : L.es.length = n := hl
 have CL := Lh (fun w => last_any L A n c w hl HL.out)
 have CB := Lh (fun (k : Nat) (w' : World) (hb : Below w.heap.size w w') (i : Int) (hi : i = L.b + k) (hk : k ≤ n) => behind_any L A n c k i w' w.heap.size ((hR.more hB).below hb) hb.size hc HL.out hi hk)
 have HO := Lh (fun h => atF_out (l := L) (i := i) h)
 have HI := Lh (fun k x (h : i = L.b + 1 + (k : Nat)) (hx : L.es[k]? = some x) => atF_in h hx)
 have hlast : lastF L = L.b + n := by unfold lastF; rw [hl]
 rw [hlast] at CL HO
 generalize atF L i = RES at *
 clear hlast HL hR hB hl
 unfold lgV at *
 obtain ⟨b, t, j, es⟩ := L
 dsimp only at *
 have k0 : Blk 30 (w.alloc (.cells #[.int .i64 b, .int .i64 t, j0 j, j1 j, j2 j, j3 j, j4 j, j5 j, j6 j, j7 j, j8 j, j9 j, j10 j, .slice A n c] 30)) w.heap.size [.int .i64 b, .int .i64 t, j0 j, j1 j, j2 j, j3 j, j4 j, j5 j, j6 j, j7 j, j8 j, j9 j, j10 j, .slice A n c] := (heap_alloc_new w (.cells #[.int .i64 b, .int .i64 t, j0 j, j1 j, j2 j, j3 j, j4 j, j5 j, j6 j, j7 j, j8 j, j9 j, j10 j, .slice A n c] 30))
 replace k0 : Blk 30 ((w.alloc (.cells #[.int .i64 b, .int .i64 t, j0 j, j1 j, j2 j, j3 j, j4 j, j5 j, j6 j, j7 j, j8 j, j9 j, j10 j, .slice A n c] 30)).alloc (.cells #[.int .i64 0, .int .i64 0, .string ⟨#[]⟩, .int .u16 0, .int .u16 0, .int .u16 0, .int .i64 0, .int .i64 0, .int .u16 0, .int .u16 0, .int .u16 0, .int .i64 0, .int .i64 0, .bool false] 52)) w.heap.size [.int .i64 b, .int .i64 t, j0 j, j1 j, j2 j, j3 j, j4 j, j5 j, j6 j, j7 j, j8 j, j9 j, j10 j, .slice A n c] := k0.alloc _
 have k1 : Blk 52 ((w.alloc (.cells #[.int .i64 b, .int .i64 t, j0 j, j1 j, j2 j, j3 j, j4 j, j5 j, j6 j, j7 j, j8 j, j9 j, j10 j, .slice A n c] 30)).alloc (.cells #[.int .i64 0, .int .i64 0, .string ⟨#[]⟩, .int .u16 0, .int .u16 0, .int .u16 0, .int .i64 0, .int .i64 0, .int .u16 0, .int .u16 0, .int .u16 0, .int .i64 0, .int .i64 0, .bool false] 52)) (w.heap.size + 1) [.int .i64 0, .int .i64 0, .string ⟨#[]⟩, .int .u16 0, .int .u16 0, .int .u16 0, .int .i64 0, .int .i64 0, .int .u16 0, .int .u16 0, .int .u16 0, .int .i64 0, .int .i64 0, .bool false] := (by have h := heap_alloc_new (w.alloc (.cells #[.int .i64 b, .int .i64 t, j0 j, j1 j, j2 j, j3 j, j4 j, j5 j, j6 j, j7 j, j8 j, j9 j, j10 j, .slice A n c] 30)) (.cells #[.int .i64 0, .int .i64 0, .string ⟨#[]⟩, .int .u16 0, .int .u16 0, .int .u16 0, .int .i64 0, .int .i64 0, .int .u16 0, .int .u16 0, .int .u16 0, .int .i64 0, .int .i64 0, .bool false] 52); rwa [show (w.alloc (.cells #[.int .i64 b, .int .i64 t, j0 j, j1 j, j2 j, j3 j, j4 j, j5 j, j6 j, j7 j, j8 j, j9 j, j10 j, .slice A n c] 30)).heap.size = w.heap.size + 1 by simp] at h)
 have hB : Below w.heap.size w ((w.alloc (.cells #[.int .i64 b, .int .i64 t, j0 j, j1 j, j2 j, j3 j, j4 j, j5 j, j6 j, j7 j, j8 j, j9 j, j10 j, .slice A n c] 30)).alloc (.cells #[.int .i64 0, .int .i64 0, .string ⟨#[]⟩, .int .u16 0, .int .u16 0, .int .u16 0, .int .i64 0, .int .i64 0, .int .u16 0, .int .u16 0, .int .u16 0, .int .i64 0, .int .i64 0, .bool false] 52)) := (((Below.refl w.heap.size w).alloc (by first | exact Nat.le_refl _ | simp) (.cells #[.int .i64 b, .int .i64 t, j0 j, j1 j, j2 j, j3 j, j4 j, j5 j, j6 j, j7 j, j8 j, j9 j, j10 j, .slice A n c] 30)).alloc (by first | exact Nat.le_refl _ | simp) (.cells #[.int .i64 0, .int .i64 0, .string ⟨#[]⟩, .int .u16 0, .int .u16 0, .int .u16 0, .int .i64 0, .int .i64 0, .int .u16 0, .int .u16 0, .int .u16 0, .int .i64 0, .int .i64 0, .bool false] 52))
 have HB := Lh hB
 have HS : Hid (∀ wq, Below ((w.alloc (.cells #[.int .i64 b, .int .i64 t, j0 j, j1 j, j2 j, j3 j, j4 j, j5 j, j6 j, j7 j, j8 j, j9 j, j10 j, .slice A n c] 30)).alloc (.cells #[.int .i64 0, .int .i64 0, .string ⟨#[]⟩, .int .u16 0, .int .u16 0, .int .u16 0, .int .i64 0, .int .i64 0, .int .u16 0, .int .u16 0, .int .u16 0, .int .i64 0, .int .i64 0, .bool false] 52)).heap.size ((w.alloc (.cells #[.int .i64 b, .int .i64 t, j0 j, j1 j, j2 j, j3 j, j4 j, j5 j, j6 j, j7 j, j8 j, j9 j, j10 j, .slice A n c] 30)).alloc (.cells #[.int .i64 0, .int .i64 0, .string ⟨#[]⟩, .int .u16 0, .int .u16 0, .int .u16 0, .int .i64 0, .int .i64 0, .int .u16 0, .int .u16 0, .int .u16 0, .int .i64 0, .int .i64 0, .bool false] 52)) wq → (wq.cell? ⟨w.heap.size, 0, none⟩ = some (.int .i64 b) ∧ wq.cell? ⟨w.heap.size, 1, none⟩ = some (.int .i64 t) ∧ wq.cell? ⟨w.heap.size, 2, none⟩ = some (j0 j) ∧ wq.cell? ⟨w.heap.size, 3, none⟩ = some (j1 j) ∧ wq.cell? ⟨w.heap.size, 4, none⟩ = some (j2 j) ∧ wq.cell? ⟨w.heap.size, 5, none⟩ = some (j3 j) ∧ wq.cell? ⟨w.heap.size, 6, none⟩ = some (j4 j) ∧ wq.cell? ⟨w.heap.size, 7, none⟩ = some (j5 j) ∧ wq.cell? ⟨w.heap.size, 8, none⟩ = some (j6 j) ∧ wq.cell? ⟨w.heap.size, 9, none⟩ = some (j7 j) ∧ wq.cell? ⟨w.heap.size, 10, none⟩ = some (j8 j) ∧ wq.cell? ⟨w.heap.size, 11, none⟩ = some (j9 j) ∧ wq.cell? ⟨w.heap.size, 12, none⟩ = some (j10 j) ∧ wq.cell? ⟨w.heap.size, 13, none⟩ = some (.slice A n c)) ∧ (wq.cell? ⟨(w.heap.size + 1), 0, none⟩ = some (.int .i64 0) ∧ wq.cell? ⟨(w.heap.size + 1), 1, none⟩ = some (.int .i64 0) ∧ wq.cell? ⟨(w.heap.size + 1), 2, none⟩ = some (.string ⟨#[]⟩) ∧ wq.cell? ⟨(w.heap.size + 1), 3, none⟩ = some (.int .u16 0) ∧ wq.cell? ⟨(w.heap.size + 1), 4, none⟩ = some (.int .u16 0) ∧ wq.cell? ⟨(w.heap.size + 1), 5, none⟩ = some (.int .u16 0) ∧ wq.cell? ⟨(w.heap.size + 1), 6, none⟩ = some (.int .i64 0) ∧ wq.cell? ⟨(w.heap.size + 1), 7, none⟩ = some (.int .i64 0) ∧ wq.cell? ⟨(w.heap.size + 1), 8, none⟩ = some (.int .u16 0) ∧ wq.cell? ⟨(w.heap.size + 1), 9, none⟩ = some (.int .u16 0) ∧ wq.cell? ⟨(w.heap.size + 1), 10, none⟩ = some (.int .u16 0) ∧ wq.cell? ⟨(w.heap.size + 1), 11, none⟩ = some (.int .i64 0) ∧ wq.cell? ⟨(w.heap.size + 1), 12, none⟩ = some (.int .i64 0) ∧ wq.cell? ⟨(w.heap.size + 1), 13, none⟩ = some (.bool false))) := fun wq hq => ⟨blk14 (k0.below hq k0.lt), blk14 (k1.below hq k1.lt)⟩
 have q0 := Below.refl ((w.alloc (.cells #[.int .i64 b, .int .i64 t, j0 j, j1 j, j2 j, j3 j, j4 j, j5 j, j6 j, j7 j, j8 j, j9 j, j10 j, .slice A n c] 30)).alloc (.cells #[.int .i64 0, .int .i64 0, .string ⟨#[]⟩, .int .u16 0, .int .u16 0, .int .u16 0, .int .i64 0, .int .i64 0, .int .u16 0, .int .u16 0, .int .u16 0, .int .i64 0, .int .i64 0, .bool false] 52)).heap.size ((w.alloc (.cells #[.int .i64 b, .int .i64 t, j0 j, j1 j, j2 j, j3 j, j4 j, j5 j, j6 j, j7 j, j8 j, j9 j, j10 j, .slice A n c] 30)).alloc (.cells #[.int .i64 0, .int .i64 0, .string ⟨#[]⟩, .int .u16 0, .int .u16 0, .int .u16 0, .int .i64 0, .int .i64 0, .int .u16 0, .int .u16 0, .int .u16 0, .int .i64 0, .int .i64 0, .bool false] 52))
 have K0 := Lh k0
 have K1 := Lh k1
 clear hB k0 k1
 by_cases h1i : i ≤ b
 ·
  have HV := Lh (HO.out (.inl h1i))
  rw [HV.out]
  unfold enV zE
  clear CL CB HO HI
  go_enter Tryz.func157, Tryz.ntmps157
  go_upto_region 1 with (fail)
  generalize ((w.alloc (.cells #[.int .i64 b, .int .i64 t, j0 j, j1 j, j2 j, j3 j, j4 j, j5 j, j6 j, j7 j, j8 j, j9 j, j10 j, .slice A n c] 30)).alloc (.cells #[.int .i64 0, .int .i64 0, .string ⟨#[]⟩, .int .u16 0, .int .u16 0, .int .u16 0, .int .i64 0, .int .i64 0, .int .u16 0, .int .u16 0, .int .u16 0, .int .i64 0, .int .i64 0, .bool false] 52)) = w1 at *
  have r0 := HS.out _ q0
  have df := fun i => K1.out.frozen i
  go_wp2_with fail
  have sF := put14 (.int .i64 0) (.int .i64 0) (.string ⟨#[]⟩) (.int .u16 0) (.int .u16 0) (.int .u16 0) (.int .i64 0) (.int .i64 0) (.int .u16 0) (.int .u16 0) (.int .u16 0) (.int .i64 0) (.int .i64 0) (.bool false) K1.out
  have bF := below14 (g := w.heap.size + 1) (.int .i64 0) (.int .i64 0) (.string ⟨#[]⟩) (.int .u16 0) (.int .u16 0) (.int .u16 0) (.int .i64 0) (.int .i64 0) (.int .u16 0) (.int .u16 0) (.int .u16 0) (.int .i64 0) (.int .i64 0) (.bool false) HB.out (by first | omega | simp)
  generalize ((((((((((((((w1.setCell ⟨w.heap.size + 1, 0, none⟩ (.int .i64 0)).setCell ⟨w.heap.size + 1, 1, none⟩ (.int .i64 0)).setCell ⟨w.heap.size + 1, 2, none⟩ (.string ⟨#[]⟩)).setCell ⟨w.heap.size + 1, 3, none⟩ (.int .u16 0)).setCell ⟨w.heap.size + 1, 4, none⟩ (.int .u16 0)).setCell ⟨w.heap.size + 1, 5, none⟩ (.int .u16 0)).setCell ⟨w.heap.size + 1, 6, none⟩ (.int .i64 0)).setCell ⟨w.heap.size + 1, 7, none⟩ (.int .i64 0)).setCell ⟨w.heap.size + 1, 8, none⟩ (.int .u16 0)).setCell ⟨w.heap.size + 1, 9, none⟩ (.int .u16 0)).setCell ⟨w.heap.size + 1, 10, none⟩ (.int .u16 0)).setCell ⟨w.heap.size + 1, 11, none⟩ (.int .i64 0)).setCell ⟨w.heap.size + 1, 12, none⟩ (.int .i64 0)).setCell ⟨w.heap.size + 1, 13, none⟩ (.bool false)) = wf at *
  (try simp only [Exit.inBlock, Exit.then])
  refine bodyPost_ret (res2 Tryz.results157 rfl rfl (aggE _) (sizeE _) (ld14 sF)) rfl ?_
  exact ⟨by rfl, bF⟩
 ·
  by_cases h2i : b + n < i
  ·
   have HV := Lh (HO.out (.inr h2i))
   rw [HV.out]
   unfold enV zE
   clear CB HO HI
   go_enter Tryz.func157, Tryz.ntmps157
   go_upto_region 1 with (fail)
   generalize ((w.alloc (.cells #[.int .i64 b, .int .i64 t, j0 j, j1 j, j2 j, j3 j, j4 j, j5 j, j6 j, j7 j, j8 j, j9 j, j10 j, .slice A n c] 30)).alloc (.cells #[.int .i64 0, .int .i64 0, .string ⟨#[]⟩, .int .u16 0, .int .u16 0, .int .u16 0, .int .i64 0, .int .i64 0, .int .u16 0, .int .u16 0, .int .u16 0, .int .i64 0, .int .i64 0, .bool false] 52)) = w1 at *
   have r0 := HS.out _ q0
   go_wp2_with fail
   refine (CL.out _).mono ?_
   rintro e y1 ⟨rfl, hY1⟩
   have q1 := q0.trans (hY1.mono q0.size)
   clear r0
   have r1 := HS.out _ q1
   have df := fun i => (K1.out.below q1 K1.out.lt).frozen i
   go_wp2_with fail
   have sF := put14 (.int .i64 0) (.int .i64 0) (.string ⟨#[]⟩) (.int .u16 0) (.int .u16 0) (.int .u16 0) (.int .i64 0) (.int .i64 0) (.int .u16 0) (.int .u16 0) (.int .u16 0) (.int .i64 0) (.int .i64 0) (.bool false) (K1.out.below q1 K1.out.lt)
   have bF := below14 (g := w.heap.size + 1) (.int .i64 0) (.int .i64 0) (.string ⟨#[]⟩) (.int .u16 0) (.int .u16 0) (.int .u16 0) (.int .i64 0) (.int .i64 0) (.int .u16 0) (.int .u16 0) (.int .u16 0) (.int .i64 0) (.int .i64 0) (.bool false) (HB.out.trans (q1.mono HB.out.size)) (by first | omega | simp)
   generalize ((((((((((((((y1.setCell ⟨w.heap.size + 1, 0, none⟩ (.int .i64 0)).setCell ⟨w.heap.size + 1, 1, none⟩ (.int .i64 0)).setCell ⟨w.heap.size + 1, 2, none⟩ (.string ⟨#[]⟩)).setCell ⟨w.heap.size + 1, 3, none⟩ (.int .u16 0)).setCell ⟨w.heap.size + 1, 4, none⟩ (.int .u16 0)).setCell ⟨w.heap.size + 1, 5, none⟩ (.int .u16 0)).setCell ⟨w.heap.size + 1, 6, none⟩ (.int .i64 0)).setCell ⟨w.heap.size + 1, 7, none⟩ (.int .i64 0)).setCell ⟨w.heap.size + 1, 8, none⟩ (.int .u16 0)).setCell ⟨w.heap.size + 1, 9, none⟩ (.int .u16 0)).setCell ⟨w.heap.size + 1, 10, none⟩ (.int .u16 0)).setCell ⟨w.heap.size + 1, 11, none⟩ (.int .i64 0)).setCell ⟨w.heap.size + 1, 12, none⟩ (.int .i64 0)).setCell ⟨w.heap.size + 1, 13, none⟩ (.bool false)) = wf at *
   (try simp only [Exit.inBlock, Exit.then])
   refine bodyPost_ret (res2 Tryz.results157 rfl rfl (aggE _) (sizeE _) (ld14 sF)) rfl ?_
   exact ⟨by rfl, bF⟩
  ·
   obtain ⟨k, hk, hkn⟩ : ∃ k : Nat, i = b + 1 + k ∧ k < n := ⟨(i - b - 1).toNat, by omega, by omega⟩
   obtain ⟨x, hx⟩ : ∃ x, es[k]? = some x := ⟨es[k], List.getElem?_eq_getElem (by omega)⟩
   have HV := Lh (HI.out k x hk hx)
   rw [HV.out]
   unfold enV
   have HX := Lh hx
   clear hx HI
   have hw1 : IntKind.i64.wrap (i - 1) = b + k := by rw [wrap_sm (by omega) (by omega)]; omega
   have cB := Lh (fun w' hb i hi => CB.out k w' hb i hi (by omega))
   clear CB HO
   go_enter Tryz.func157, Tryz.ntmps157
   go_upto_region 1 with (fail)
   generalize ((w.alloc (.cells #[.int .i64 b, .int .i64 t, j0 j, j1 j, j2 j, j3 j, j4 j, j5 j, j6 j, j7 j, j8 j, j9 j, j10 j, .slice A n c] 30)).alloc (.cells #[.int .i64 0, .int .i64 0, .string ⟨#[]⟩, .int .u16 0, .int .u16 0, .int .u16 0, .int .i64 0, .int .i64 0, .int .u16 0, .int .u16 0, .int .u16 0, .int .i64 0, .int .i64 0, .bool false] 52)) = w1 at *
   have r0 := HS.out _ q0
   go_wp2_with fail
   refine (CL.out _).mono ?_
   rintro e y1 ⟨rfl, hY1⟩
   have q1 := q0.trans (hY1.mono q0.size)
   clear r0
   have r1 := HS.out _ q1
   go_wp2_with fail
   refine (cB.out _ (HB.out.trans (q1.mono HB.out.size)) _ (by omega)).mono ?_
   rintro e y2 ⟨A', c', rfl, hR2, hc1, hc2, hY2⟩
   have q2 := q1.trans (hY2.mono q1.size)
   clear r1
   have r2 := HS.out _ q2
   obtain ⟨bb, oo, x2, rfl, hlt, hx, hA⟩ := hR2.at_ (j := 0) (by omega)
   rw [List.getElem?_drop, Nat.add_zero, HX.out] at hx
   obtain rfl := Option.some.inj hx
   rw [Nat.zero_mul, Nat.add_zero] at hA
   have c14 := at14 hA
   have df := fun i => (K1.out.below q2 K1.out.lt).frozen i
   have hkn2 : ¬ (n = k) := by omega
   clear hA hR2 hx cB CL
   go_wp2_with fail
   have sF := put14 (.int .i64 x.t) (.int .i64 x.k) (.string x.d) (j0 x.j) (j1 x.j) (j2 x.j) (j3 x.j) (j4 x.j) (j5 x.j) (j6 x.j) (j7 x.j) (j8 x.j) (j9 x.j) (j10 x.j) (K1.out.below q2 K1.out.lt)
   have bF := below14 (g := w.heap.size + 1) (.int .i64 x.t) (.int .i64 x.k) (.string x.d) (j0 x.j) (j1 x.j) (j2 x.j) (j3 x.j) (j4 x.j) (j5 x.j) (j6 x.j) (j7 x.j) (j8 x.j) (j9 x.j) (j10 x.j) (HB.out.trans (q2.mono HB.out.size)) (by first | omega | simp)
   generalize ((((((((((((((y2.setCell ⟨w.heap.size + 1, 0, none⟩ (.int .i64 x.t)).setCell ⟨w.heap.size + 1, 1, none⟩ (.int .i64 x.k)).setCell ⟨w.heap.size + 1, 2, none⟩ (.string x.d)).setCell ⟨w.heap.size + 1, 3, none⟩ (j0 x.j)).setCell ⟨w.heap.size + 1, 4, none⟩ (j1 x.j)).setCell ⟨w.heap.size + 1, 5, none⟩ (j2 x.j)).setCell ⟨w.heap.size + 1, 6, none⟩ (j3 x.j)).setCell ⟨w.heap.size + 1, 7, none⟩ (j4 x.j)).setCell ⟨w.heap.size + 1, 8, none⟩ (j5 x.j)).setCell ⟨w.heap.size + 1, 9, none⟩ (j6 x.j)).setCell ⟨w.heap.size + 1, 10, none⟩ (j7 x.j)).setCell ⟨w.heap.size + 1, 11, none⟩ (j8 x.j)).setCell ⟨w.heap.size + 1, 12, none⟩ (j9 x.j)).setCell ⟨w.heap.size + 1, 13, none⟩ (j10 x.j)) = wf at *
   (try simp only [Exit.inBlock, Exit.then])
   refine bodyPost_ret (res2 Tryz.results157 rfl rfl (aggE _) (sizeE _) (ld14 sF)) rfl ?_
   exact ⟨by rfl, bF⟩
end Go.Proofs.YtegnfkbmlalkeaaGreat.enti
