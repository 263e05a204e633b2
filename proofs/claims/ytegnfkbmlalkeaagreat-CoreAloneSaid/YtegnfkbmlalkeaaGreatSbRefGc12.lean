/- The document's entries: Same. Conditions: the log's numbers stay far from the ends of an int. -/
import Derived.Deep.RegionHeld3
import Derived.Deep.Cut
import Derived.Lib.Hide
import Derived.Test.YtegnfkbmlalkeaaGreatSbJ2
import Derived.Test.YtegnfkbmlalkeaaGreatSbKitLg
import Derived.Test.YtegnfkbmlalkeaaGreatSbJ0
namespace Go.Proofs.YtegnfkbmlalkeaaGreat.ref12
open Go Go.RowKit Go.Proofs.YtegnfkbmlalkeaaGreat.kit Go.Proofs.YtegnfkbmlalkeaaGreat.nums Go.Proofs.YtegnfkbmlalkeaaGreat.cf Go.Proofs.YtegnfkbmlalkeaaGreat.lg
set_option linter.unusedVariables false
set_option maxHeartbeats 2000000 in
theorem rsame_any (L M : LgL) (A : Option Addr) (n c : Nat) (A2 : Option Addr) (n2 c2 : Nat) (w : World) (B B2 : Nat) (hR : RdE w B A n L.es) (hB : B ≤ w.heap.size) (hR2 : RdE w B2 A2 n2 M.es) (hB2 : B2 ≤ w.heap.size) (hn : n ≤ 1099511627776) : Calls Tryz.prog 21 #[lgV L (.slice A n c), lgV M (.slice A2 n2 c2)] w fun e w' => e = .returned (.bool (eqL L M)) ∧ Below w.heap.size w w' := by
 have HR := Lib.hid hR
 have HR2 := Lib.hid hR2
 have hBs := Lib.hid hB
 have hBt := Lib.hid hB2
 have HQ : Hid (eqL L M = (L.b == M.b && (L.t == M.t && (decide (L.j = M.j) && eqEs L.es M.es)))) := rfl
 generalize eqL L M = RES at *
 have hq := fun w => neq_jt L.j M.j w
 unfold jV at hq
 clear hR hR2 hB hB2
 unfold lgV at *
 obtain ⟨b, t, j, es⟩ := L
 obtain ⟨b2, t2, m, es2⟩ := M
 dsimp only at *
 have k0 : Blk 30 (w.alloc (.cells #[.int .i64 b, .int .i64 t, j0 j, j1 j, j2 j, j3 j, j4 j, j5 j, j6 j, j7 j, j8 j, j9 j, j10 j, .slice A n c] 30)) w.heap.size [.int .i64 b, .int .i64 t, j0 j, j1 j, j2 j, j3 j, j4 j, j5 j, j6 j, j7 j, j8 j, j9 j, j10 j, .slice A n c] := (heap_alloc_new w (.cells #[.int .i64 b, .int .i64 t, j0 j, j1 j, j2 j, j3 j, j4 j, j5 j, j6 j, j7 j, j8 j, j9 j, j10 j, .slice A n c] 30))
 replace k0 : Blk 30 ((w.alloc (.cells #[.int .i64 b, .int .i64 t, j0 j, j1 j, j2 j, j3 j, j4 j, j5 j, j6 j, j7 j, j8 j, j9 j, j10 j, .slice A n c] 30)).alloc (.cells #[.int .i64 b2, .int .i64 t2, j0 m, j1 m, j2 m, j3 m, j4 m, j5 m, j6 m, j7 m, j8 m, j9 m, j10 m, (.slice A2 n2 c2)] 30)) w.heap.size [.int .i64 b, .int .i64 t, j0 j, j1 j, j2 j, j3 j, j4 j, j5 j, j6 j, j7 j, j8 j, j9 j, j10 j, .slice A n c] := k0.alloc _
 have k1 : Blk 30 ((w.alloc (.cells #[.int .i64 b, .int .i64 t, j0 j, j1 j, j2 j, j3 j, j4 j, j5 j, j6 j, j7 j, j8 j, j9 j, j10 j, .slice A n c] 30)).alloc (.cells #[.int .i64 b2, .int .i64 t2, j0 m, j1 m, j2 m, j3 m, j4 m, j5 m, j6 m, j7 m, j8 m, j9 m, j10 m, (.slice A2 n2 c2)] 30)) (w.heap.size + 1) [.int .i64 b2, .int .i64 t2, j0 m, j1 m, j2 m, j3 m, j4 m, j5 m, j6 m, j7 m, j8 m, j9 m, j10 m, (.slice A2 n2 c2)] := (by have h := heap_alloc_new (w.alloc (.cells #[.int .i64 b, .int .i64 t, j0 j, j1 j, j2 j, j3 j, j4 j, j5 j, j6 j, j7 j, j8 j, j9 j, j10 j, .slice A n c] 30)) (.cells #[.int .i64 b2, .int .i64 t2, j0 m, j1 m, j2 m, j3 m, j4 m, j5 m, j6 m, j7 m, j8 m, j9 m, j10 m, (.slice A2 n2 c2)] 30); rwa [show (w.alloc (.cells #[.int .i64 b, .int .i64 t, j0 j, j1 j, j2 j, j3 j, j4 j, j5 j, j6 j, j7 j, j8 j, j9 j, j10 j, .slice A n c] 30)).heap.size = w.heap.size + 1 by simp] at h)
 have hB : Below w.heap.size w ((w.alloc (.cells #[.int .i64 b, .int .i64 t, j0 j, j1 j, j2 j, j3 j, j4 j, j5 j, j6 j, j7 j, j8 j, j9 j, j10 j, .slice A n c] 30)).alloc (.cells #[.int .i64 b2, .int .i64 t2, j0 m, j1 m, j2 m, j3 m, j4 m, j5 m, j6 m, j7 m, j8 m, j9 m, j10 m, (.slice A2 n2 c2)] 30)) := (((Below.refl w.heap.size w).alloc (by first | exact Nat.le_refl _ | (simp; done) | (simp; omega)) (.cells #[.int .i64 b, .int .i64 t, j0 j, j1 j, j2 j, j3 j, j4 j, j5 j, j6 j, j7 j, j8 j, j9 j, j10 j, .slice A n c] 30)).alloc (by first | exact Nat.le_refl _ | (simp; done) | (simp; omega)) (.cells #[.int .i64 b2, .int .i64 t2, j0 m, j1 m, j2 m, j3 m, j4 m, j5 m, j6 m, j7 m, j8 m, j9 m, j10 m, (.slice A2 n2 c2)] 30))
 have HB := Lib.hid hB
 have HS : Hid (∀ wq, Below ((w.alloc (.cells #[.int .i64 b, .int .i64 t, j0 j, j1 j, j2 j, j3 j, j4 j, j5 j, j6 j, j7 j, j8 j, j9 j, j10 j, .slice A n c] 30)).alloc (.cells #[.int .i64 b2, .int .i64 t2, j0 m, j1 m, j2 m, j3 m, j4 m, j5 m, j6 m, j7 m, j8 m, j9 m, j10 m, (.slice A2 n2 c2)] 30)).heap.size ((w.alloc (.cells #[.int .i64 b, .int .i64 t, j0 j, j1 j, j2 j, j3 j, j4 j, j5 j, j6 j, j7 j, j8 j, j9 j, j10 j, .slice A n c] 30)).alloc (.cells #[.int .i64 b2, .int .i64 t2, j0 m, j1 m, j2 m, j3 m, j4 m, j5 m, j6 m, j7 m, j8 m, j9 m, j10 m, (.slice A2 n2 c2)] 30)) wq → (wq.cell? ⟨w.heap.size, 0, none⟩ = some (.int .i64 b) ∧ wq.cell? ⟨w.heap.size, 1, none⟩ = some (.int .i64 t) ∧ wq.cell? ⟨w.heap.size, 2, none⟩ = some (j0 j) ∧ wq.cell? ⟨w.heap.size, 3, none⟩ = some (j1 j) ∧ wq.cell? ⟨w.heap.size, 4, none⟩ = some (j2 j) ∧ wq.cell? ⟨w.heap.size, 5, none⟩ = some (j3 j) ∧ wq.cell? ⟨w.heap.size, 6, none⟩ = some (j4 j) ∧ wq.cell? ⟨w.heap.size, 7, none⟩ = some (j5 j) ∧ wq.cell? ⟨w.heap.size, 8, none⟩ = some (j6 j) ∧ wq.cell? ⟨w.heap.size, 9, none⟩ = some (j7 j) ∧ wq.cell? ⟨w.heap.size, 10, none⟩ = some (j8 j) ∧ wq.cell? ⟨w.heap.size, 11, none⟩ = some (j9 j) ∧ wq.cell? ⟨w.heap.size, 12, none⟩ = some (j10 j) ∧ wq.cell? ⟨w.heap.size, 13, none⟩ = some (.slice A n c)) ∧ (wq.cell? ⟨(w.heap.size + 1), 0, none⟩ = some (.int .i64 b2) ∧ wq.cell? ⟨(w.heap.size + 1), 1, none⟩ = some (.int .i64 t2) ∧ wq.cell? ⟨(w.heap.size + 1), 2, none⟩ = some (j0 m) ∧ wq.cell? ⟨(w.heap.size + 1), 3, none⟩ = some (j1 m) ∧ wq.cell? ⟨(w.heap.size + 1), 4, none⟩ = some (j2 m) ∧ wq.cell? ⟨(w.heap.size + 1), 5, none⟩ = some (j3 m) ∧ wq.cell? ⟨(w.heap.size + 1), 6, none⟩ = some (j4 m) ∧ wq.cell? ⟨(w.heap.size + 1), 7, none⟩ = some (j5 m) ∧ wq.cell? ⟨(w.heap.size + 1), 8, none⟩ = some (j6 m) ∧ wq.cell? ⟨(w.heap.size + 1), 9, none⟩ = some (j7 m) ∧ wq.cell? ⟨(w.heap.size + 1), 10, none⟩ = some (j8 m) ∧ wq.cell? ⟨(w.heap.size + 1), 11, none⟩ = some (j9 m) ∧ wq.cell? ⟨(w.heap.size + 1), 12, none⟩ = some (j10 m) ∧ wq.cell? ⟨(w.heap.size + 1), 13, none⟩ = some ((.slice A2 n2 c2)))) := fun wq hq => ⟨blk14 (k0.below hq k0.lt), blk14 (k1.below hq k1.lt)⟩
 have q0 := Below.refl ((w.alloc (.cells #[.int .i64 b, .int .i64 t, j0 j, j1 j, j2 j, j3 j, j4 j, j5 j, j6 j, j7 j, j8 j, j9 j, j10 j, .slice A n c] 30)).alloc (.cells #[.int .i64 b2, .int .i64 t2, j0 m, j1 m, j2 m, j3 m, j4 m, j5 m, j6 m, j7 m, j8 m, j9 m, j10 m, (.slice A2 n2 c2)] 30)).heap.size ((w.alloc (.cells #[.int .i64 b, .int .i64 t, j0 j, j1 j, j2 j, j3 j, j4 j, j5 j, j6 j, j7 j, j8 j, j9 j, j10 j, .slice A n c] 30)).alloc (.cells #[.int .i64 b2, .int .i64 t2, j0 m, j1 m, j2 m, j3 m, j4 m, j5 m, j6 m, j7 m, j8 m, j9 m, j10 m, (.slice A2 n2 c2)] 30))
 have K0 := Lib.hid k0
 have K1 := Lib.hid k1
 clear hB k0 k1
 by_cases e0 : b = b2
 rotate_left
 · have HF : Hid (RES = false) := by show _ = _; rw [HQ.out]; simp [e0]
   have eb : (b == b2) = false := by simpa using e0
   go_enter Tryz.func21, Tryz.ntmps21
   go_upto_region 1 with (fail)
   generalize ((w.alloc (.cells #[.int .i64 b, .int .i64 t, j0 j, j1 j, j2 j, j3 j, j4 j, j5 j, j6 j, j7 j, j8 j, j9 j, j10 j, .slice A n c] 30)).alloc (.cells #[.int .i64 b2, .int .i64 t2, j0 m, j1 m, j2 m, j3 m, j4 m, j5 m, j6 m, j7 m, j8 m, j9 m, j10 m, (.slice A2 n2 c2)] 30)) = w1 at *
   have r0 := HS.out _ q0
   go_wp2_with fail
   go_ret
   exact ⟨by rw [HF.out]; rfl, HB.out⟩
 subst e0
 by_cases e1 : t = t2
 rotate_left
 · have HF : Hid (RES = false) := by show _ = _; rw [HQ.out]; simp [e1]
   have eb : (t == t2) = false := by simpa using e1
   go_enter Tryz.func21, Tryz.ntmps21
   go_upto_region 1 with (fail)
   generalize ((w.alloc (.cells #[.int .i64 b, .int .i64 t, j0 j, j1 j, j2 j, j3 j, j4 j, j5 j, j6 j, j7 j, j8 j, j9 j, j10 j, .slice A n c] 30)).alloc (.cells #[.int .i64 b, .int .i64 t2, j0 m, j1 m, j2 m, j3 m, j4 m, j5 m, j6 m, j7 m, j8 m, j9 m, j10 m, (.slice A2 n2 c2)] 30)) = w1 at *
   have r0 := HS.out _ q0
   go_wp2_with fail
   go_ret
   exact ⟨by rw [HF.out]; rfl, HB.out⟩
 subst e1
 by_cases e2 : j = m
 rotate_left
 · have HF : Hid (RES = false) := by show _ = _; rw [HQ.out]; simp [e2]
   rw [decide_eq_false e2] at hq
   go_enter Tryz.func21, Tryz.ntmps21
   go_upto_region 1 with (fail)
   generalize ((w.alloc (.cells #[.int .i64 b, .int .i64 t, j0 j, j1 j, j2 j, j3 j, j4 j, j5 j, j6 j, j7 j, j8 j, j9 j, j10 j, .slice A n c] 30)).alloc (.cells #[.int .i64 b, .int .i64 t, j0 m, j1 m, j2 m, j3 m, j4 m, j5 m, j6 m, j7 m, j8 m, j9 m, j10 m, (.slice A2 n2 c2)] 30)) = w1 at *
   have r0 := HS.out _ q0
   go_wp2_with fail
   go_ret
   exact ⟨by rw [HF.out]; rfl, HB.out⟩
 have HF : Hid (RES = eqEs es es2) := by show _ = _; rw [HQ.out]; simp [e2]
 subst e2
 rw [decide_eq_true rfl] at hq
 go_enter Tryz.func21, Tryz.ntmps21
 go_upto_region 1 with (fail)
 generalize ((w.alloc (.cells #[.int .i64 b, .int .i64 t, j0 j, j1 j, j2 j, j3 j, j4 j, j5 j, j6 j, j7 j, j8 j, j9 j, j10 j, .slice A n c] 30)).alloc (.cells #[.int .i64 b, .int .i64 t, j0 j, j1 j, j2 j, j3 j, j4 j, j5 j, j6 j, j7 j, j8 j, j9 j, j10 j, (.slice A2 n2 c2)] 30)) = w1 at *
 have r0 := HS.out _ q0
 have CA := Lib.hid (fun w' (hb : Below w1.heap.size w1 w') => ralike_any A n c es A2 n2 c2 es2 w' w1.heap.size w1.heap.size ((HR.out.on (HB.out.mono hBs.out) (Nat.le_trans hBs.out HB.out.size)).below hb) hb.size ((HR2.out.on (HB.out.mono hBt.out) (Nat.le_trans hBt.out HB.out.size)).below hb) hb.size hn)
 go_wp2_with fail
 refine (CA.out _ q0).mono ?_
 rintro e y1 ⟨rfl, hY1⟩
 have q1 := q0.trans (hY1.mono q0.size)
 clear r0
 have r1 := HS.out _ q1
 go_wp2_with fail
 go_ret
 exact ⟨by rw [HF.out]; rfl, HB.out.trans (q1.mono HB.out.size)⟩
end Go.Proofs.YtegnfkbmlalkeaaGreat.ref12
