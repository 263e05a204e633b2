/- EntriesTell's walk: what a log tells of its entries is the document's. Conditions: numbers are int values. -/
import Derived.Test.YteadkgjikaikjaaEntD
import Derived.Test.YteadkgjikaikjaaEntG
import Derived.Test.YteadkgjikaikjaaEntH
import Derived.Test.YteadkgjikaikjaaEntM
import Derived.Test.YteadkgjikaikjaaRefF12
import Derived.Test.YteadkgjikaikjaaRefG12
import Derived.Test.YteadkgjikaikjaaRefGb12
import Derived.Test.YteadkgjikaikjaaRefH12
import Derived.Test.YteadkgjikaikjaaRefJ12
import Derived.Test.YteadkgjikaikjaaLwA12
import Derived.Test.YteadkgjikaikjaaLwB12
import Derived.Test.YteadkgjikaikjaaKitLg
import Derived.Test.YteadkgjikaikjaaTk
import Derived.Deep.RegionHeld3
import Derived.Deep.Cut
import Derived.Lib.Hide
namespace Go.Proofs.Yteadkgjikaikjaa.law12
open Go Go.RowKit Go.Proofs.Yteadkgjikaikjaa.kit Go.Proofs.Yteadkgjikaikjaa.nums Go.Proofs.Yteadkgjikaikjaa.cf Go.Proofs.Yteadkgjikaikjaa.lg
set_option linter.unusedVariables false
/-- What the last lines read: the log, and the entry in two blocks. -/
def TellS (g g1 g2 : Nat) (b t : Int) (j : JtL) (sl : Value) (x : EnL) (wq : World) : Prop := ((wq.cell? ⟨g, 0, none⟩ = some (.int .i64 b) ∧ wq.cell? ⟨g, 1, none⟩ = some (.int .i64 t) ∧ wq.cell? ⟨g, 2, none⟩ = some (j0 j) ∧ wq.cell? ⟨g, 3, none⟩ = some (j1 j) ∧ wq.cell? ⟨g, 4, none⟩ = some (j2 j) ∧ wq.cell? ⟨g, 5, none⟩ = some (j3 j) ∧ wq.cell? ⟨g, 6, none⟩ = some (j4 j) ∧ wq.cell? ⟨g, 7, none⟩ = some (j5 j) ∧ wq.cell? ⟨g, 8, none⟩ = some (j6 j) ∧ wq.cell? ⟨g, 9, none⟩ = some (j7 j) ∧ wq.cell? ⟨g, 10, none⟩ = some (j8 j) ∧ wq.cell? ⟨g, 11, none⟩ = some (j9 j) ∧ wq.cell? ⟨g, 12, none⟩ = some (j10 j) ∧ wq.cell? ⟨g, 13, none⟩ = some (sl))) ∧ (wq.cell? ⟨g1, 0, none⟩ = some (.int .i64 x.t) ∧ wq.cell? ⟨g1, 1, none⟩ = some (.int .i64 x.k) ∧ wq.cell? ⟨g1, 2, none⟩ = some (.string x.d) ∧ wq.cell? ⟨g1, 3, none⟩ = some (j0 x.j) ∧ wq.cell? ⟨g1, 4, none⟩ = some (j1 x.j) ∧ wq.cell? ⟨g1, 5, none⟩ = some (j2 x.j) ∧ wq.cell? ⟨g1, 6, none⟩ = some (j3 x.j) ∧ wq.cell? ⟨g1, 7, none⟩ = some (j4 x.j) ∧ wq.cell? ⟨g1, 8, none⟩ = some (j5 x.j) ∧ wq.cell? ⟨g1, 9, none⟩ = some (j6 x.j) ∧ wq.cell? ⟨g1, 10, none⟩ = some (j7 x.j) ∧ wq.cell? ⟨g1, 11, none⟩ = some (j8 x.j) ∧ wq.cell? ⟨g1, 12, none⟩ = some (j9 x.j) ∧ wq.cell? ⟨g1, 13, none⟩ = some (j10 x.j)) ∧ (wq.cell? ⟨g2, 0, none⟩ = some (.int .i64 x.t) ∧ wq.cell? ⟨g2, 1, none⟩ = some (.int .i64 x.k) ∧ wq.cell? ⟨g2, 2, none⟩ = some (.string x.d) ∧ wq.cell? ⟨g2, 3, none⟩ = some (j0 x.j) ∧ wq.cell? ⟨g2, 4, none⟩ = some (j1 x.j) ∧ wq.cell? ⟨g2, 5, none⟩ = some (j2 x.j) ∧ wq.cell? ⟨g2, 6, none⟩ = some (j3 x.j) ∧ wq.cell? ⟨g2, 7, none⟩ = some (j4 x.j) ∧ wq.cell? ⟨g2, 8, none⟩ = some (j5 x.j) ∧ wq.cell? ⟨g2, 9, none⟩ = some (j6 x.j) ∧ wq.cell? ⟨g2, 10, none⟩ = some (j7 x.j) ∧ wq.cell? ⟨g2, 11, none⟩ = some (j8 x.j) ∧ wq.cell? ⟨g2, 12, none⟩ = some (j9 x.j) ∧ wq.cell? ⟨g2, 13, none⟩ = some (j10 x.j))
theorem TellS.out {g g1 g2 : Nat} {b t : Int} {j : JtL} {sl : Value} {x : EnL} {wq : World} (h : TellS g g1 g2 b t j sl x wq) : ((wq.cell? ⟨g, 0, none⟩ = some (.int .i64 b) ∧ wq.cell? ⟨g, 1, none⟩ = some (.int .i64 t) ∧ wq.cell? ⟨g, 2, none⟩ = some (j0 j) ∧ wq.cell? ⟨g, 3, none⟩ = some (j1 j) ∧ wq.cell? ⟨g, 4, none⟩ = some (j2 j) ∧ wq.cell? ⟨g, 5, none⟩ = some (j3 j) ∧ wq.cell? ⟨g, 6, none⟩ = some (j4 j) ∧ wq.cell? ⟨g, 7, none⟩ = some (j5 j) ∧ wq.cell? ⟨g, 8, none⟩ = some (j6 j) ∧ wq.cell? ⟨g, 9, none⟩ = some (j7 j) ∧ wq.cell? ⟨g, 10, none⟩ = some (j8 j) ∧ wq.cell? ⟨g, 11, none⟩ = some (j9 j) ∧ wq.cell? ⟨g, 12, none⟩ = some (j10 j) ∧ wq.cell? ⟨g, 13, none⟩ = some (sl))) ∧ (wq.cell? ⟨g1, 0, none⟩ = some (.int .i64 x.t) ∧ wq.cell? ⟨g1, 1, none⟩ = some (.int .i64 x.k) ∧ wq.cell? ⟨g1, 2, none⟩ = some (.string x.d) ∧ wq.cell? ⟨g1, 3, none⟩ = some (j0 x.j) ∧ wq.cell? ⟨g1, 4, none⟩ = some (j1 x.j) ∧ wq.cell? ⟨g1, 5, none⟩ = some (j2 x.j) ∧ wq.cell? ⟨g1, 6, none⟩ = some (j3 x.j) ∧ wq.cell? ⟨g1, 7, none⟩ = some (j4 x.j) ∧ wq.cell? ⟨g1, 8, none⟩ = some (j5 x.j) ∧ wq.cell? ⟨g1, 9, none⟩ = some (j6 x.j) ∧ wq.cell? ⟨g1, 10, none⟩ = some (j7 x.j) ∧ wq.cell? ⟨g1, 11, none⟩ = some (j8 x.j) ∧ wq.cell? ⟨g1, 12, none⟩ = some (j9 x.j) ∧ wq.cell? ⟨g1, 13, none⟩ = some (j10 x.j)) ∧ (wq.cell? ⟨g2, 0, none⟩ = some (.int .i64 x.t) ∧ wq.cell? ⟨g2, 1, none⟩ = some (.int .i64 x.k) ∧ wq.cell? ⟨g2, 2, none⟩ = some (.string x.d) ∧ wq.cell? ⟨g2, 3, none⟩ = some (j0 x.j) ∧ wq.cell? ⟨g2, 4, none⟩ = some (j1 x.j) ∧ wq.cell? ⟨g2, 5, none⟩ = some (j2 x.j) ∧ wq.cell? ⟨g2, 6, none⟩ = some (j3 x.j) ∧ wq.cell? ⟨g2, 7, none⟩ = some (j4 x.j) ∧ wq.cell? ⟨g2, 8, none⟩ = some (j5 x.j) ∧ wq.cell? ⟨g2, 9, none⟩ = some (j6 x.j) ∧ wq.cell? ⟨g2, 10, none⟩ = some (j7 x.j) ∧ wq.cell? ⟨g2, 11, none⟩ = some (j8 x.j) ∧ wq.cell? ⟨g2, 12, none⟩ = some (j9 x.j) ∧ wq.cell? ⟨g2, 13, none⟩ = some (j10 x.j)) := h
set_option maxHeartbeats 4000000 in
set_option maxRecDepth 10000 in
theorem tell_walk (L : LgL) (A : Option Addr) (n c : Nat) (a q tm : Int) (w : World) (hR : RdE w w.heap.size A n L.es) (hc : n ≤ c) (ha : In64 a) (hq : In64 q) : Calls Try.prog 3 #[lgV L (.slice A n c), .int .i64 a, .int .i64 q, .int .i64 tm] w fun e w' => e = .returned (.bool true) ∧ Below w.heap.size w w' := by
  have HR := Lib.hid hR
  have hl := Lib.hid hR.1
  have HMy : Hid (mayF L = true → n ≤ 60 → Fit L) := fun h1 h2 => fit_may h1 (by rw [hR.1]; omega)
  clear hR
  generalize hmy : mayF L = my at *
  unfold lgV at *
  obtain ⟨b, t, j, es⟩ := L
  dsimp only at *
  have k0 : Blk 30 (w.alloc (.cells #[.int .i64 b, .int .i64 t, j0 j, j1 j, j2 j, j3 j, j4 j, j5 j, j6 j, j7 j, j8 j, j9 j, j10 j, .slice A n c] 30)) w.heap.size [.int .i64 b, .int .i64 t, j0 j, j1 j, j2 j, j3 j, j4 j, j5 j, j6 j, j7 j, j8 j, j9 j, j10 j, .slice A n c] := (heap_alloc_new w (.cells #[.int .i64 b, .int .i64 t, j0 j, j1 j, j2 j, j3 j, j4 j, j5 j, j6 j, j7 j, j8 j, j9 j, j10 j, .slice A n c] 30))
  have hB : Below w.heap.size w (w.alloc (.cells #[.int .i64 b, .int .i64 t, j0 j, j1 j, j2 j, j3 j, j4 j, j5 j, j6 j, j7 j, j8 j, j9 j, j10 j, .slice A n c] 30)) := ((Below.refl w.heap.size w).alloc (by first | exact Nat.le_refl _ | (simp; done) | (simp; omega)) (.cells #[.int .i64 b, .int .i64 t, j0 j, j1 j, j2 j, j3 j, j4 j, j5 j, j6 j, j7 j, j8 j, j9 j, j10 j, .slice A n c] 30))
  have HB := Lib.hid hB
  have HS : Hid (∀ wq, Below (w.alloc (.cells #[.int .i64 b, .int .i64 t, j0 j, j1 j, j2 j, j3 j, j4 j, j5 j, j6 j, j7 j, j8 j, j9 j, j10 j, .slice A n c] 30)).heap.size (w.alloc (.cells #[.int .i64 b, .int .i64 t, j0 j, j1 j, j2 j, j3 j, j4 j, j5 j, j6 j, j7 j, j8 j, j9 j, j10 j, .slice A n c] 30)) wq → (wq.cell? ⟨w.heap.size, 0, none⟩ = some (.int .i64 b) ∧ wq.cell? ⟨w.heap.size, 1, none⟩ = some (.int .i64 t) ∧ wq.cell? ⟨w.heap.size, 2, none⟩ = some (j0 j) ∧ wq.cell? ⟨w.heap.size, 3, none⟩ = some (j1 j) ∧ wq.cell? ⟨w.heap.size, 4, none⟩ = some (j2 j) ∧ wq.cell? ⟨w.heap.size, 5, none⟩ = some (j3 j) ∧ wq.cell? ⟨w.heap.size, 6, none⟩ = some (j4 j) ∧ wq.cell? ⟨w.heap.size, 7, none⟩ = some (j5 j) ∧ wq.cell? ⟨w.heap.size, 8, none⟩ = some (j6 j) ∧ wq.cell? ⟨w.heap.size, 9, none⟩ = some (j7 j) ∧ wq.cell? ⟨w.heap.size, 10, none⟩ = some (j8 j) ∧ wq.cell? ⟨w.heap.size, 11, none⟩ = some (j9 j) ∧ wq.cell? ⟨w.heap.size, 12, none⟩ = some (j10 j) ∧ wq.cell? ⟨w.heap.size, 13, none⟩ = some (.slice A n c))) := fun wq hq => blk14 (k0.below hq k0.lt)
  have q0 := Below.refl (w.alloc (.cells #[.int .i64 b, .int .i64 t, j0 j, j1 j, j2 j, j3 j, j4 j, j5 j, j6 j, j7 j, j8 j, j9 j, j10 j, .slice A n c] 30)).heap.size (w.alloc (.cells #[.int .i64 b, .int .i64 t, j0 j, j1 j, j2 j, j3 j, j4 j, j5 j, j6 j, j7 j, j8 j, j9 j, j10 j, .slice A n c] 30))
  have K0 := Lib.hid k0
  clear hB k0
  go_enter Try.func3, Try.ntmps3
  go_upto_region 1 with (fail)
  generalize (w.alloc (.cells #[.int .i64 b, .int .i64 t, j0 j, j1 j, j2 j, j3 j, j4 j, j5 j, j6 j, j7 j, j8 j, j9 j, j10 j, .slice A n c] 30)) = w1 at *
  have HR1 := Lib.hid (HR.out.on HB.out HB.out.size)
  have CB := Lib.hid (fun w' (hb : Below w1.heap.size w1 w') => begun_any w')
  have CLi := Lib.hid (fun w' (hb : Below w1.heap.size w1 w') => light_any ⟨b, t, j, es⟩ A n c none 0 0 [] w' w1.heap.size w1.heap.size (HR1.out.below hb) hb.size (RdE.nil _ _ _) hb.size)
  have CM := Lib.hid (fun w' (hb : Below w1.heap.size w1 w') (h : n ≤ 60) => ref12.rmay_any ⟨b, t, j, es⟩ A n c w' w1.heap.size (HR1.out.below hb) hb.size (by omega))
  have CN := Lib.hid (fun w' (hb : Below w1.heap.size w1 w') (h : n ≤ 60) => enti.may_any ⟨b, t, j, es⟩ A n c w' w1.heap.size (HR1.out.below hb) hb.size (by omega))
  unfold lgV at CLi CM CN
  dsimp only at CLi CM CN
  rw [hmy] at CM CN
  replace hmy := Lib.hid hmy
  have r0 := HS.out _ q0
  go_wp2_with fail
  refine (CB.out _ q0).mono ?_
  rintro e y1 ⟨rfl, hY1⟩
  have q1 := q0.trans (hY1.mono q0.size)
  clear r0
  have r1 := HS.out _ q1
  go_wp2_with fail
  refine (CLi.out _ q1).mono ?_
  rintro e y2 ⟨bl, rfl, hbl, hY2⟩
  have q2 := q1.trans (hY2.mono q1.size)
  clear r1
  have r2 := HS.out _ q2
  cases bl
  · go_wp2_with fail
    go_ret
    exact ⟨rfl, HB.out.trans (q2.mono HB.out.size)⟩
  obtain ⟨hn60, _⟩ := hbl.out rfl
  go_wp2_with fail
  refine (CM.out _ q2 hn60).mono ?_
  rintro e y3 ⟨rfl, hY3⟩
  have q3 := q2.trans (hY3.mono q2.size)
  clear r2
  have r3 := HS.out _ q3
  rcases my with _ | _
  · go_wp2_with fail
    refine (CN.out _ q3 hn60).mono ?_
    rintro e y4 ⟨rfl, hY4⟩
    have q4 := q3.trans (hY4.mono q3.size)
    clear r3
    have r4 := HS.out _ q4
    go_wp2_with fail
    go_ret
    exact ⟨by first | rfl | simp, HB.out.trans (q4.mono HB.out.size)⟩
  have HF := Lib.hid (HMy.out rfl hn60)
  have CT := Lib.hid (fun w' (hb : Below w1.heap.size w1 w') => enti.term_any ⟨b, t, j, es⟩ A n c a w' w1.heap.size (HR1.out.below hb) hb.size hc HF.out)
  have CU := Lib.hid (fun w' (hb : Below w1.heap.size w1 w') => ref12.rterm_any ⟨b, t, j, es⟩ A n c a w' w1.heap.size (HR1.out.below hb) hb.size hc HF.out)
  have CA := Lib.hid (fun w' (hb : Below w1.heap.size w1 w') => enti.at_any ⟨b, t, j, es⟩ A n c a w' w1.heap.size (HR1.out.below hb) hb.size hc HF.out)
  have CR := Lib.hid (fun w' (hb : Below w1.heap.size w1 w') => ref12.rat_any ⟨b, t, j, es⟩ A n c a w' w1.heap.size (HR1.out.below hb) hb.size hc HF.out)
  unfold lgV at CT CU CA CR
  unfold enV at CA CR
  dsimp only at CT CU CA CR
  generalize (termF ⟨b, t, j, es⟩ a).1 = tv at CT CU
  generalize (termF ⟨b, t, j, es⟩ a).2 = tb at CT CU
  generalize (atF ⟨b, t, j, es⟩ a).1 = x at CA CR
  generalize (atF ⟨b, t, j, es⟩ a).2 = xb at CA CR
  clear CB CLi CM CN HMy
  go_wp2_with fail
  refine (CT.out _ q3).mono ?_
  rintro e y4 ⟨rfl, hY4⟩
  have q4 := q3.trans (hY4.mono q3.size)
  clear r3
  have r4 := HS.out _ q4
  go_wp2_with fail
  refine (CU.out _ q4).mono ?_
  rintro e y5 ⟨rfl, hY5⟩
  have q5 := q4.trans (hY5.mono q4.size)
  clear r4
  have r5 := HS.out _ q5
  go_wp2_with fail
  refine (CA.out _ q5).mono ?_
  rintro e y6 ⟨rfl, hY6⟩
  have q6 := q5.trans (hY6.mono q5.size)
  clear r5
  have r6 := HS.out _ q6
  go_upto_region 10 with (fail)
  have kX : Blk 37 (y6.alloc (.cells #[.int .i64 x.t, .int .i64 x.k, .string x.d, j0 x.j, j1 x.j, j2 x.j, j3 x.j, j4 x.j, j5 x.j, j6 x.j, j7 x.j, j8 x.j, j9 x.j, j10 x.j] 37)) y6.heap.size [.int .i64 x.t, .int .i64 x.k, .string x.d, j0 x.j, j1 x.j, j2 x.j, j3 x.j, j4 x.j, j5 x.j, j6 x.j, j7 x.j, j8 x.j, j9 x.j, j10 x.j] := heap_alloc_new y6 (.cells #[.int .i64 x.t, .int .i64 x.k, .string x.d, j0 x.j, j1 x.j, j2 x.j, j3 x.j, j4 x.j, j5 x.j, j6 x.j, j7 x.j, j8 x.j, j9 x.j, j10 x.j] 37)
  have p2 := Below.alloc q6 (Below.size q6) (.cells #[.int .i64 x.t, .int .i64 x.k, .string x.d, j0 x.j, j1 x.j, j2 x.j, j3 x.j, j4 x.j, j5 x.j, j6 x.j, j7 x.j, j8 x.j, j9 x.j, j10 x.j] 37)
  generalize (y6.alloc (.cells #[.int .i64 x.t, .int .i64 x.k, .string x.d, j0 x.j, j1 x.j, j2 x.j, j3 x.j, j4 x.j, j5 x.j, j6 x.j, j7 x.j, j8 x.j, j9 x.j, j10 x.j] 37)) = w2 at *
  have s2 := HS.out _ p2
  clear r6
  go_wp2_with fail
  refine (CR.out _ p2).mono ?_
  rintro e yr ⟨rfl, hYr⟩
  have p3 := p2.trans (hYr.mono p2.size)
  have kX2 := kX.below hYr kX.lt
  clear kX s2
  go_upto_region 11 with (fail)
  have kY : Blk 37 (yr.alloc (.cells #[.int .i64 x.t, .int .i64 x.k, .string x.d, j0 x.j, j1 x.j, j2 x.j, j3 x.j, j4 x.j, j5 x.j, j6 x.j, j7 x.j, j8 x.j, j9 x.j, j10 x.j] 37)) yr.heap.size [.int .i64 x.t, .int .i64 x.k, .string x.d, j0 x.j, j1 x.j, j2 x.j, j3 x.j, j4 x.j, j5 x.j, j6 x.j, j7 x.j, j8 x.j, j9 x.j, j10 x.j] := heap_alloc_new yr (.cells #[.int .i64 x.t, .int .i64 x.k, .string x.d, j0 x.j, j1 x.j, j2 x.j, j3 x.j, j4 x.j, j5 x.j, j6 x.j, j7 x.j, j8 x.j, j9 x.j, j10 x.j] 37)
  have p4 := Below.alloc p3 (Below.size p3) (.cells #[.int .i64 x.t, .int .i64 x.k, .string x.d, j0 x.j, j1 x.j, j2 x.j, j3 x.j, j4 x.j, j5 x.j, j6 x.j, j7 x.j, j8 x.j, j9 x.j, j10 x.j] 37)
  have kX3 := kX2.below ((Below.refl yr.heap.size yr).alloc (Nat.le_refl _) (.cells #[.int .i64 x.t, .int .i64 x.k, .string x.d, j0 x.j, j1 x.j, j2 x.j, j3 x.j, j4 x.j, j5 x.j, j6 x.j, j7 x.j, j8 x.j, j9 x.j, j10 x.j] 37)) kX2.lt
  generalize (yr.alloc (.cells #[.int .i64 x.t, .int .i64 x.k, .string x.d, j0 x.j, j1 x.j, j2 x.j, j3 x.j, j4 x.j, j5 x.j, j6 x.j, j7 x.j, j8 x.j, j9 x.j, j10 x.j] 37)) = w3 at *
  clear kX2
  replace HR1 := Lib.hid (HR1.out.on p4 p4.size)
  have HB3 := Lib.hid (HB.out.trans (p4.mono HB.out.size))
  have HN : Hid (∀ wq, Below w3.heap.size w3 wq → ((wq.cell? ⟨w.heap.size, 0, none⟩ = some (.int .i64 b) ∧ wq.cell? ⟨w.heap.size, 1, none⟩ = some (.int .i64 t) ∧ wq.cell? ⟨w.heap.size, 2, none⟩ = some (j0 j) ∧ wq.cell? ⟨w.heap.size, 3, none⟩ = some (j1 j) ∧ wq.cell? ⟨w.heap.size, 4, none⟩ = some (j2 j) ∧ wq.cell? ⟨w.heap.size, 5, none⟩ = some (j3 j) ∧ wq.cell? ⟨w.heap.size, 6, none⟩ = some (j4 j) ∧ wq.cell? ⟨w.heap.size, 7, none⟩ = some (j5 j) ∧ wq.cell? ⟨w.heap.size, 8, none⟩ = some (j6 j) ∧ wq.cell? ⟨w.heap.size, 9, none⟩ = some (j7 j) ∧ wq.cell? ⟨w.heap.size, 10, none⟩ = some (j8 j) ∧ wq.cell? ⟨w.heap.size, 11, none⟩ = some (j9 j) ∧ wq.cell? ⟨w.heap.size, 12, none⟩ = some (j10 j) ∧ wq.cell? ⟨w.heap.size, 13, none⟩ = some (.slice A n c))) ∧ (wq.cell? ⟨y6.heap.size, 0, none⟩ = some (.int .i64 x.t) ∧ wq.cell? ⟨y6.heap.size, 1, none⟩ = some (.int .i64 x.k) ∧ wq.cell? ⟨y6.heap.size, 2, none⟩ = some (.string x.d) ∧ wq.cell? ⟨y6.heap.size, 3, none⟩ = some (j0 x.j) ∧ wq.cell? ⟨y6.heap.size, 4, none⟩ = some (j1 x.j) ∧ wq.cell? ⟨y6.heap.size, 5, none⟩ = some (j2 x.j) ∧ wq.cell? ⟨y6.heap.size, 6, none⟩ = some (j3 x.j) ∧ wq.cell? ⟨y6.heap.size, 7, none⟩ = some (j4 x.j) ∧ wq.cell? ⟨y6.heap.size, 8, none⟩ = some (j5 x.j) ∧ wq.cell? ⟨y6.heap.size, 9, none⟩ = some (j6 x.j) ∧ wq.cell? ⟨y6.heap.size, 10, none⟩ = some (j7 x.j) ∧ wq.cell? ⟨y6.heap.size, 11, none⟩ = some (j8 x.j) ∧ wq.cell? ⟨y6.heap.size, 12, none⟩ = some (j9 x.j) ∧ wq.cell? ⟨y6.heap.size, 13, none⟩ = some (j10 x.j)) ∧ (wq.cell? ⟨yr.heap.size, 0, none⟩ = some (.int .i64 x.t) ∧ wq.cell? ⟨yr.heap.size, 1, none⟩ = some (.int .i64 x.k) ∧ wq.cell? ⟨yr.heap.size, 2, none⟩ = some (.string x.d) ∧ wq.cell? ⟨yr.heap.size, 3, none⟩ = some (j0 x.j) ∧ wq.cell? ⟨yr.heap.size, 4, none⟩ = some (j1 x.j) ∧ wq.cell? ⟨yr.heap.size, 5, none⟩ = some (j2 x.j) ∧ wq.cell? ⟨yr.heap.size, 6, none⟩ = some (j3 x.j) ∧ wq.cell? ⟨yr.heap.size, 7, none⟩ = some (j4 x.j) ∧ wq.cell? ⟨yr.heap.size, 8, none⟩ = some (j5 x.j) ∧ wq.cell? ⟨yr.heap.size, 9, none⟩ = some (j6 x.j) ∧ wq.cell? ⟨yr.heap.size, 10, none⟩ = some (j7 x.j) ∧ wq.cell? ⟨yr.heap.size, 11, none⟩ = some (j8 x.j) ∧ wq.cell? ⟨yr.heap.size, 12, none⟩ = some (j9 x.j) ∧ wq.cell? ⟨yr.heap.size, 13, none⟩ = some (j10 x.j))) := fun wq hq => ⟨HS.out _ (p4.trans (hq.mono p4.size)), blk14 (kX3.below hq kX3.lt), blk14 (kY.below hq kY.lt)⟩
  clear HS
  have HS := HN
  clear HN
  clear CT CU CA CR kX3 kY p2 p3 p4 q0 q1 q2 q3 q4 q5
  have q0 := Below.refl w3.heap.size w3
  have CM := Lib.hid (fun w' (hb : Below w3.heap.size w3 w') => enti.may_any ⟨b, t, j, es⟩ A n c w' w3.heap.size (HR1.out.below hb) hb.size (by omega))
  have CL := Lib.hid (fun w' (hb : Below w3.heap.size w3 w') => enti.last_any ⟨b, t, j, es⟩ A n c w' HR1.out.1 HF.out)
  have CL2 := Lib.hid (fun w' (hb : Below w3.heap.size w3 w') => ref12.rlast_any ⟨b, t, j, es⟩ A n c w' HR1.out.1 HF.out)
  have CS := Lib.hid (fun w' (hb : Below w3.heap.size w3 w') => enti.slice_any ⟨b, t, j, es⟩ A n c a q w' w3.heap.size (HR1.out.below hb) hb.size hc HF.out ha hq)
  have CS2 := Lib.hid (fun w' (hb : Below w3.heap.size w3 w') => ref12.rslice_any ⟨b, t, j, es⟩ A n c a q w' w3.heap.size (HR1.out.below hb) hb.size hc HF.out ha hq)
  have CC := Lib.hid (fun w' (hb : Below w3.heap.size w3 w') => enti.conf_any ⟨b, t, j, es⟩ A n c w' w3.heap.size (HR1.out.below hb) hb.size hc HF.out)
  have CC2 := Lib.hid (fun w' (hb : Below w3.heap.size w3 w') => ref12.rconf_any ⟨b, t, j, es⟩ A n c w' w3.heap.size (HR1.out.below hb) hb.size hc HF.out)
  have CW := Lib.hid (fun w' (hb : Below w3.heap.size w3 w') => enti.newer_any ⟨b, t, j, es⟩ A n c a tm w' w3.heap.size (HR1.out.below hb) hb.size hc HF.out)
  have CW2 := Lib.hid (fun w' (hb : Below w3.heap.size w3 w') => ref12.rnewer_any ⟨b, t, j, es⟩ A n c a tm w' w3.heap.size (HR1.out.below hb) hb.size hc HF.out)
  unfold lgV at CM CL CL2 CS CS2 CC CC2 CW CW2
  unfold jV at CC CC2
  dsimp only at CM CL CL2 CS CS2 CC CC2 CW CW2
  generalize confF j es = g at CC CC2
  generalize newerF ⟨b, t, j, es⟩ a tm = nw at CW CW2
  generalize lastF ⟨b, t, j, es⟩ = la at CL CL2
  rw [hmy.out] at CM
  have hSL0 : (sliceF ⟨b, t, j, es⟩ a q).length ≤ 1000000 := by
    have := hl.out
    unfold sliceF; rw [List.length_take, List.length_drop]; show min _ (es.length - _) ≤ _; omega
  generalize sliceF ⟨b, t, j, es⟩ a q = SL at *
  have hSL : Hid (SL.length ≤ 1000000) := hSL0
  have hq1 := fun w => eql_en x x w
  have hq2 := fun w => eql_jt g g w
  rw [eqE_self] at hq1
  rw [decide_eq_true rfl] at hq2
  unfold enV at hq1
  unfold jV at hq2
  have CE := Lib.hid (fun (A5 : Option Addr) (n5 c5 : Nat) (A6 : Option Addr) (n6 c6 : Nat) w' (hb : Below w3.heap.size w3 w') (h1 : RdE w' w'.heap.size A5 n5 SL) (h2 : RdE w' w'.heap.size A6 n6 SL) (h3 : n5 ≤ 1099511627776) => ref12.ralike_any A5 n5 c5 SL A6 n6 c6 SL w' w'.heap.size w'.heap.size h1 (Nat.le_refl _) h2 (Nat.le_refl _) h3)
  rw [eqEs_self] at CE
  have HS0 := HS
  clear HS
  have HS : Hid (∀ wq, Below w3.heap.size w3 wq → TellS w.heap.size y6.heap.size yr.heap.size b t j (.slice A n c) x wq) := fun wq hq => HS0.out wq hq
  clear HS0
  as_aux_lemma =>
  have q11 := q0.drew
  refine wp_region_held_drew (S := fun wq => TellS w.heap.size y6.heap.size yr.heap.size b t j (.slice A n c) x wq) (by kernel_rfl) ?s_tell11 (fun hHeld => ?_)
  case s_tell11 => exact HS.out _ q11
  refine tk 0 { dst := some 52, op := .load 30 (.tmp 4), type := 30, pos := "law.go:50", after := #[], guard := none } _ ?_ (hy := by (intro wq hSw; have hSw := TellS.out hSw; go_simp; first | done | with_reducible rfl))
  try simp only [Act.put, List.setIfInBounds_toArray, List.set_cons_zero, List.set_cons_succ]
  refine wpAnyH_ready (rs := [1]) (by kernel_rfl) (by simp) ?_
  refine AllReadyH.cons (o := { dst := some 53, op := .call { callee := .value (.func 12), args := #[.tmp 52], argTypes := #[30] }, type := 4, pos := "law.go:50", after := #[{ on := 0, ground := .data }], guard := none }) rfl (fun KQ hKQ => ?_) AllReadyH.nil
  go_simp
  refine (CM.out _ q11).mono ?_
  rintro e y12 ⟨rfl, hY12⟩
  have q12 := q11.trans (hY12.mono q11.size)
  have r12 := HS.out _ q12
  go_wp2_with fail
  refine hKQ.out _ _ ?s_1 (fun hHeld1 => ?_)
  case s_1 => exact r12
  clear hKQ KQ
  as_aux_lemma =>
  try simp only [Act.put, List.setIfInBounds_toArray, List.set_cons_zero, List.set_cons_succ]
  refine tk 2 { dst := some 54, op := .move (.tmp 53), type := 4, pos := "law.go:50", after := #[{ on := 1, ground := .data }, { on := 1, ground := .chain }], guard := none } _ ?_
  try simp only [Act.put, List.setIfInBounds_toArray, List.set_cons_zero, List.set_cons_succ]
  refine tk 3 { dst := some 55, op := .move (.tmp 9), type := 3, pos := "law.go:50", after := #[{ on := 2, ground := .guard }], guard := some (2, true) } _ ?_
  try simp only [Act.put, List.setIfInBounds_toArray, List.set_cons_zero, List.set_cons_succ]
  refine tk 4 { dst := some 56, op := .move (.tmp 11), type := 3, pos := "law.go:50", after := #[{ on := 2, ground := .guard }], guard := some (2, true) } _ ?_
  try simp only [Act.put, List.setIfInBounds_toArray, List.set_cons_zero, List.set_cons_succ]
  refine tk 5 { dst := some 57, op := .binOp .eql 3 (.tmp 55) (.tmp 56) 3, type := 4, pos := "law.go:50", after := #[{ on := 3, ground := .data }, { on := 4, ground := .data }, { on := 2, ground := .guard }], guard := some (2, true) } _ ?_
  try simp only [Act.put, List.setIfInBounds_toArray, List.set_cons_zero, List.set_cons_succ]
  refine tk 6 { dst := some 58, op := .pick (.tmp 54) (.tmp 57) (.const (.bool false)), type := 4, pos := "law.go:50", after := #[{ on := 2, ground := .data }, { on := 5, ground := .data }], guard := none } _ ?_
  try simp only [Act.put, List.setIfInBounds_toArray, List.set_cons_zero, List.set_cons_succ]
  refine tk 7 { dst := some 59, op := .move (.tmp 58), type := 4, pos := "law.go:50", after := #[{ on := 6, ground := .data }, { on := 2, ground := .chain }], guard := none } _ ?_
  try simp only [Act.put, List.setIfInBounds_toArray, List.set_cons_zero, List.set_cons_succ]
  refine tk 8 { dst := some 60, op := .move (.tmp 10), type := 4, pos := "law.go:50", after := #[{ on := 7, ground := .guard }], guard := some (7, true) } _ ?_
  try simp only [Act.put, List.setIfInBounds_toArray, List.set_cons_zero, List.set_cons_succ]
  refine tk 9 { dst := some 61, op := .move (.tmp 12), type := 4, pos := "law.go:50", after := #[{ on := 7, ground := .guard }], guard := some (7, true) } _ ?_
  try simp only [Act.put, List.setIfInBounds_toArray, List.set_cons_zero, List.set_cons_succ]
  refine tk 10 { dst := some 62, op := .binOp .eql 4 (.tmp 60) (.tmp 61) 4, type := 4, pos := "law.go:50", after := #[{ on := 8, ground := .data }, { on := 9, ground := .data }, { on := 7, ground := .guard }], guard := some (7, true) } _ ?_
  try simp only [Act.put, List.setIfInBounds_toArray, List.set_cons_zero, List.set_cons_succ]
  refine tk 11 { dst := some 63, op := .pick (.tmp 59) (.tmp 62) (.const (.bool false)), type := 4, pos := "law.go:50", after := #[{ on := 7, ground := .data }, { on := 10, ground := .data }], guard := none } _ ?_
  try simp only [Act.put, List.setIfInBounds_toArray, List.set_cons_zero, List.set_cons_succ]
  refine tk 12 { dst := some 64, op := .move (.tmp 63), type := 4, pos := "law.go:50", after := #[{ on := 11, ground := .data }, { on := 7, ground := .chain }], guard := none } _ ?_
  try simp only [Act.put, List.setIfInBounds_toArray, List.set_cons_zero, List.set_cons_succ]
  refine tk 13 { dst := some 65, op := .load 37 (.tmp 13), type := 37, pos := "law.go:50", after := #[{ on := 12, ground := .guard }], guard := some (12, true) } _ ?_ (hy := by (intro wq hSw; have hSw := TellS.out hSw; go_simp; first | done | with_reducible rfl))
  try simp only [Act.put, List.setIfInBounds_toArray, List.set_cons_zero, List.set_cons_succ]
  refine tk 14 { dst := some 66, op := .load 37 (.tmp 15), type := 37, pos := "law.go:50", after := #[{ on := 12, ground := .guard }], guard := some (12, true) } _ ?_ (hy := by (intro wq hSw; have hSw := TellS.out hSw; go_simp; first | done | with_reducible rfl))
  try simp only [Act.put, List.setIfInBounds_toArray, List.set_cons_zero, List.set_cons_succ]
  refine tk 15 { dst := some 67, op := .binOp .eql 37 (.tmp 65) (.tmp 66) 37, type := 4, pos := "law.go:50", after := #[{ on := 13, ground := .data }, { on := 14, ground := .data }, { on := 12, ground := .guard }], guard := some (12, true) } _ ?_
  try simp only [Act.put, List.setIfInBounds_toArray, List.set_cons_zero, List.set_cons_succ]
  refine tk 16 { dst := some 68, op := .pick (.tmp 64) (.tmp 67) (.const (.bool false)), type := 4, pos := "law.go:50", after := #[{ on := 12, ground := .data }, { on := 15, ground := .data }], guard := none } _ ?_
  try simp only [Act.put, List.setIfInBounds_toArray, List.set_cons_zero, List.set_cons_succ]
  refine tk 17 { dst := some 69, op := .move (.tmp 68), type := 4, pos := "law.go:50", after := #[{ on := 16, ground := .data }, { on := 12, ground := .chain }], guard := none } _ ?_
  try simp only [Act.put, List.setIfInBounds_toArray, List.set_cons_zero, List.set_cons_succ]
  refine tk 18 { dst := some 70, op := .move (.tmp 14), type := 4, pos := "law.go:50", after := #[{ on := 17, ground := .guard }], guard := some (17, true) } _ ?_
  try simp only [Act.put, List.setIfInBounds_toArray, List.set_cons_zero, List.set_cons_succ]
  refine tk 19 { dst := some 71, op := .move (.tmp 16), type := 4, pos := "law.go:50", after := #[{ on := 17, ground := .guard }], guard := some (17, true) } _ ?_
  try simp only [Act.put, List.setIfInBounds_toArray, List.set_cons_zero, List.set_cons_succ]
  refine tk 20 { dst := some 72, op := .binOp .eql 4 (.tmp 70) (.tmp 71) 4, type := 4, pos := "law.go:50", after := #[{ on := 18, ground := .data }, { on := 19, ground := .data }, { on := 17, ground := .guard }], guard := some (17, true) } _ ?_
  try simp only [Act.put, List.setIfInBounds_toArray, List.set_cons_zero, List.set_cons_succ]
  refine tk 21 { dst := some 73, op := .pick (.tmp 69) (.tmp 72) (.const (.bool false)), type := 4, pos := "law.go:50", after := #[{ on := 17, ground := .data }, { on := 20, ground := .data }], guard := none } _ ?_
  try simp only [Act.put, List.setIfInBounds_toArray, List.set_cons_zero, List.set_cons_succ]
  refine tk 22 { dst := some 74, op := .move (.tmp 73), type := 4, pos := "law.go:50", after := #[{ on := 21, ground := .data }, { on := 17, ground := .chain }], guard := none } _ ?_
  try simp only [Act.put, List.setIfInBounds_toArray, List.set_cons_zero, List.set_cons_succ]
  refine tk 23 { dst := some 75, op := .load 30 (.tmp 4), type := 30, pos := "law.go:50", after := #[{ on := 22, ground := .guard }], guard := some (22, true) } _ ?_ (hy := by (intro wq hSw; have hSw := TellS.out hSw; go_simp; first | done | with_reducible rfl))
  try simp only [Act.put, List.setIfInBounds_toArray, List.set_cons_zero, List.set_cons_succ]
  refine tk 25 { dst := some 77, op := .load 30 (.tmp 4), type := 30, pos := "law.go:50", after := #[{ on := 22, ground := .guard }], guard := some (22, true) } _ ?_ (hy := by (intro wq hSw; have hSw := TellS.out hSw; go_simp; first | done | with_reducible rfl))
  try simp only [Act.put, List.setIfInBounds_toArray, List.set_cons_zero, List.set_cons_succ]
  refine wpAnyH_ready (rs := [24]) (by kernel_rfl) (by simp) ?_
  refine AllReadyH.cons (o := { dst := some 76, op := .call { callee := .value (.func 17), args := #[.tmp 75], argTypes := #[30] }, type := 3, pos := "law.go:50", after := #[{ on := 23, ground := .data }, { on := 22, ground := .chain }, { on := 22, ground := .guard }], guard := some (22, true) }) rfl (fun KQ hKQ => ?_) AllReadyH.nil
  go_simp
  refine (CL.out _ q12).mono ?_
  rintro e y13 ⟨rfl, hY13⟩
  have q13 := q12.trans (hY13.mono q12.size)
  have r13 := HS.out _ q13
  go_wp2_with fail
  refine hKQ.out _ _ ?s_24 (fun hHeld24 => ?_)
  case s_24 => exact r13
  clear hKQ KQ
  as_aux_lemma =>
  try simp only [Act.put, List.setIfInBounds_toArray, List.set_cons_zero, List.set_cons_succ]
  refine wpAnyH_ready (rs := [26]) (by kernel_rfl) (by simp) ?_
  refine AllReadyH.cons (o := { dst := some 78, op := .call { callee := .value (.func 18), args := #[.tmp 77], argTypes := #[30] }, type := 3, pos := "law.go:50", after := #[{ on := 25, ground := .data }, { on := 24, ground := .chain }, { on := 22, ground := .guard }], guard := some (22, true) }) rfl (fun KQ hKQ => ?_) AllReadyH.nil
  go_simp
  refine (CL2.out _ q13).mono ?_
  rintro e y14 ⟨rfl, hY14⟩
  have q14 := q13.trans (hY14.mono q13.size)
  have r14 := HS.out _ q14
  go_wp2_with fail
  refine hKQ.out _ _ ?s_26 (fun hHeld26 => ?_)
  case s_26 => exact r14
  clear hKQ KQ
  as_aux_lemma =>
  try simp only [Act.put, List.setIfInBounds_toArray, List.set_cons_zero, List.set_cons_succ]
  refine tk 27 { dst := some 79, op := .binOp .eql 3 (.tmp 76) (.tmp 78) 3, type := 4, pos := "law.go:50", after := #[{ on := 24, ground := .data }, { on := 26, ground := .data }, { on := 22, ground := .guard }], guard := some (22, true) } _ ?_
  try simp only [Act.put, List.setIfInBounds_toArray, List.set_cons_zero, List.set_cons_succ]
  refine tk 28 { dst := some 80, op := .pick (.tmp 74) (.tmp 79) (.const (.bool false)), type := 4, pos := "law.go:50", after := #[{ on := 22, ground := .data }, { on := 27, ground := .data }], guard := none } _ ?_
  try simp only [Act.put, List.setIfInBounds_toArray, List.set_cons_zero, List.set_cons_succ]
  refine tk 29 { dst := some 81, op := .move (.tmp 80), type := 4, pos := "law.go:50", after := #[{ on := 28, ground := .data }, { on := 26, ground := .chain }], guard := none } _ ?_
  try simp only [Act.put, List.setIfInBounds_toArray, List.set_cons_zero, List.set_cons_succ]
  refine tk 30 { dst := some 82, op := .load 30 (.tmp 4), type := 30, pos := "law.go:50", after := #[{ on := 29, ground := .guard }], guard := some (29, true) } _ ?_ (hy := by (intro wq hSw; have hSw := TellS.out hSw; go_simp; first | done | with_reducible rfl))
  try simp only [Act.put, List.setIfInBounds_toArray, List.set_cons_zero, List.set_cons_succ]
  refine tk 31 { dst := some 83, op := .move (.tmp 1), type := 3, pos := "law.go:50", after := #[{ on := 29, ground := .guard }], guard := some (29, true) } _ ?_
  try simp only [Act.put, List.setIfInBounds_toArray, List.set_cons_zero, List.set_cons_succ]
  refine tk 32 { dst := some 84, op := .move (.tmp 2), type := 3, pos := "law.go:50", after := #[{ on := 29, ground := .guard }], guard := some (29, true) } _ ?_
  try simp only [Act.put, List.setIfInBounds_toArray, List.set_cons_zero, List.set_cons_succ]
  refine tk 34 { dst := some 86, op := .load 30 (.tmp 4), type := 30, pos := "law.go:50", after := #[{ on := 29, ground := .guard }], guard := some (29, true) } _ ?_ (hy := by (intro wq hSw; have hSw := TellS.out hSw; go_simp; first | done | with_reducible rfl))
  try simp only [Act.put, List.setIfInBounds_toArray, List.set_cons_zero, List.set_cons_succ]
  refine tk 35 { dst := some 87, op := .move (.tmp 1), type := 3, pos := "law.go:50", after := #[{ on := 29, ground := .guard }], guard := some (29, true) } _ ?_
  try simp only [Act.put, List.setIfInBounds_toArray, List.set_cons_zero, List.set_cons_succ]
  refine tk 36 { dst := some 88, op := .move (.tmp 2), type := 3, pos := "law.go:50", after := #[{ on := 29, ground := .guard }], guard := some (29, true) } _ ?_
  try simp only [Act.put, List.setIfInBounds_toArray, List.set_cons_zero, List.set_cons_succ]
  refine wpAnyH_ready (rs := [33]) (by kernel_rfl) (by simp) ?_
  refine AllReadyH.cons (o := { dst := some 85, op := .call { callee := .value (.func 20), args := #[.tmp 82, .tmp 83, .tmp 84], argTypes := #[30, 3, 3] }, type := 28, pos := "law.go:50", after := #[{ on := 30, ground := .data }, { on := 31, ground := .data }, { on := 32, ground := .data }, { on := 29, ground := .chain }, { on := 29, ground := .guard }], guard := some (29, true) }) rfl (fun KQ hKQ => ?_) AllReadyH.nil
  go_simp
  refine (CS.out _ q14).mono ?_
  rintro e y15 ⟨A5, n5, c5, rfl, rfl, hO5, hY15⟩
  have q15 := q14.trans (hY15.mono q14.size)
  have r15 := HS.out _ q15
  replace hO5 := Lib.hid hO5
  go_wp2_with fail
  refine hKQ.out _ _ ?s_33 (fun hHeld33 => ?_)
  case s_33 => exact r15
  clear hKQ KQ
  as_aux_lemma =>
  try simp only [Act.put, List.setIfInBounds_toArray, List.set_cons_zero, List.set_cons_succ]
  refine wpAnyH_ready (rs := [37]) (by kernel_rfl) (by simp) ?_
  refine AllReadyH.cons (o := { dst := some 89, op := .call { callee := .value (.func 21), args := #[.tmp 86, .tmp 87, .tmp 88], argTypes := #[30, 3, 3] }, type := 28, pos := "law.go:50", after := #[{ on := 34, ground := .data }, { on := 35, ground := .data }, { on := 36, ground := .data }, { on := 33, ground := .chain }, { on := 29, ground := .guard }], guard := some (29, true) }) rfl (fun KQ hKQ => ?_) AllReadyH.nil
  go_simp
  refine (CS2.out _ q15).mono ?_
  rintro e y16 ⟨A6, n6, c6, rfl, rfl, hO6, hY16⟩
  have q16 := q15.trans (hY16.mono q15.size)
  have r16 := HS.out _ q16
  have hRA := Lib.hid (hO5.out.cap.2.2.2.on hY16 hY16.size)
  have hRB := Lib.hid hO6.cap.2.2.2
  clear hO6
  go_wp2_with fail
  refine hKQ.out _ _ ?s_37 (fun hHeld37 => ?_)
  case s_37 => exact r16
  clear hKQ KQ
  as_aux_lemma =>
  try simp only [Act.put, List.setIfInBounds_toArray, List.set_cons_zero, List.set_cons_succ]
  refine wpAnyH_ready (rs := [38]) (by kernel_rfl) (by simp) ?_
  refine AllReadyH.cons (o := { dst := some 90, op := .call { callee := .value (.func 19), args := #[.tmp 85, .tmp 89], argTypes := #[28, 28] }, type := 4, pos := "law.go:50", after := #[{ on := 33, ground := .data }, { on := 37, ground := .data }, { on := 37, ground := .chain }, { on := 29, ground := .guard }], guard := some (29, true) }) rfl (fun KQ hKQ => ?_) AllReadyH.nil
  go_simp
  refine (CE.out _ _ c5 _ _ c6 _ q16 hRA.out hRB.out (by have := hRA.out.1; have := hSL.out; omega)).mono ?_
  rintro e y17 ⟨rfl, hY17⟩
  have q17 := q16.trans (hY17.mono q16.size)
  have r17 := HS.out _ q17
  go_wp2_with fail
  refine hKQ.out _ _ ?s_38 (fun hHeld38 => ?_)
  case s_38 => exact r17
  clear hKQ KQ
  as_aux_lemma =>
  try simp only [Act.put, List.setIfInBounds_toArray, List.set_cons_zero, List.set_cons_succ]
  refine tk 39 { dst := some 91, op := .pick (.tmp 81) (.tmp 90) (.const (.bool false)), type := 4, pos := "law.go:50", after := #[{ on := 29, ground := .data }, { on := 38, ground := .data }], guard := none } _ ?_
  try simp only [Act.put, List.setIfInBounds_toArray, List.set_cons_zero, List.set_cons_succ]
  refine tk 40 { dst := some 92, op := .move (.tmp 91), type := 4, pos := "law.go:50", after := #[{ on := 39, ground := .data }, { on := 38, ground := .chain }], guard := none } _ ?_
  try simp only [Act.put, List.setIfInBounds_toArray, List.set_cons_zero, List.set_cons_succ]
  refine tk 41 { dst := some 93, op := .load 30 (.tmp 4), type := 30, pos := "law.go:50", after := #[{ on := 40, ground := .guard }], guard := some (40, true) } _ ?_ (hy := by (intro wq hSw; have hSw := TellS.out hSw; go_simp; first | done | with_reducible rfl))
  try simp only [Act.put, List.setIfInBounds_toArray, List.set_cons_zero, List.set_cons_succ]
  refine tk 43 { dst := some 95, op := .load 30 (.tmp 4), type := 30, pos := "law.go:50", after := #[{ on := 40, ground := .guard }], guard := some (40, true) } _ ?_ (hy := by (intro wq hSw; have hSw := TellS.out hSw; go_simp; first | done | with_reducible rfl))
  try simp only [Act.put, List.setIfInBounds_toArray, List.set_cons_zero, List.set_cons_succ]
  refine wpAnyH_ready (rs := [42]) (by kernel_rfl) (by simp) ?_
  refine AllReadyH.cons (o := { dst := some 94, op := .call { callee := .value (.func 22), args := #[.tmp 93], argTypes := #[30] }, type := 27, pos := "law.go:50", after := #[{ on := 41, ground := .data }, { on := 40, ground := .chain }, { on := 40, ground := .guard }], guard := some (40, true) }) rfl (fun KQ hKQ => ?_) AllReadyH.nil
  go_simp
  refine (CC.out _ q17).mono ?_
  rintro e y18 ⟨rfl, hY18⟩
  have q18 := q17.trans (hY18.mono q17.size)
  have r18 := HS.out _ q18
  go_wp2_with fail
  refine hKQ.out _ _ ?s_42 (fun hHeld42 => ?_)
  case s_42 => exact r18
  clear hKQ KQ
  as_aux_lemma =>
  try simp only [Act.put, List.setIfInBounds_toArray, List.set_cons_zero, List.set_cons_succ]
  refine wpAnyH_ready (rs := [44]) (by kernel_rfl) (by simp) ?_
  refine AllReadyH.cons (o := { dst := some 96, op := .call { callee := .value (.func 23), args := #[.tmp 95], argTypes := #[30] }, type := 27, pos := "law.go:50", after := #[{ on := 43, ground := .data }, { on := 42, ground := .chain }, { on := 40, ground := .guard }], guard := some (40, true) }) rfl (fun KQ hKQ => ?_) AllReadyH.nil
  go_simp
  refine (CC2.out _ q18).mono ?_
  rintro e y19 ⟨rfl, hY19⟩
  have q19 := q18.trans (hY19.mono q18.size)
  have r19 := HS.out _ q19
  go_wp2_with fail
  refine hKQ.out _ _ ?s_44 (fun hHeld44 => ?_)
  case s_44 => exact r19
  clear hKQ KQ
  as_aux_lemma =>
  try simp only [Act.put, List.setIfInBounds_toArray, List.set_cons_zero, List.set_cons_succ]
  refine tk 45 { dst := some 97, op := .binOp .eql 27 (.tmp 94) (.tmp 96) 27, type := 4, pos := "law.go:50", after := #[{ on := 42, ground := .data }, { on := 44, ground := .data }, { on := 40, ground := .guard }], guard := some (40, true) } _ ?_
  try simp only [Act.put, List.setIfInBounds_toArray, List.set_cons_zero, List.set_cons_succ]
  refine tk 46 { dst := some 98, op := .pick (.tmp 92) (.tmp 97) (.const (.bool false)), type := 4, pos := "law.go:50", after := #[{ on := 40, ground := .data }, { on := 45, ground := .data }], guard := none } _ ?_
  try simp only [Act.put, List.setIfInBounds_toArray, List.set_cons_zero, List.set_cons_succ]
  refine tk 47 { dst := some 99, op := .move (.tmp 98), type := 4, pos := "law.go:50", after := #[{ on := 46, ground := .data }, { on := 44, ground := .chain }], guard := none } _ ?_
  try simp only [Act.put, List.setIfInBounds_toArray, List.set_cons_zero, List.set_cons_succ]
  refine tk 48 { dst := some 100, op := .load 30 (.tmp 4), type := 30, pos := "law.go:50", after := #[{ on := 47, ground := .guard }], guard := some (47, true) } _ ?_ (hy := by (intro wq hSw; have hSw := TellS.out hSw; go_simp; first | done | with_reducible rfl))
  try simp only [Act.put, List.setIfInBounds_toArray, List.set_cons_zero, List.set_cons_succ]
  refine tk 49 { dst := some 101, op := .move (.tmp 1), type := 3, pos := "law.go:50", after := #[{ on := 47, ground := .guard }], guard := some (47, true) } _ ?_
  try simp only [Act.put, List.setIfInBounds_toArray, List.set_cons_zero, List.set_cons_succ]
  refine tk 50 { dst := some 102, op := .move (.tmp 3), type := 3, pos := "law.go:50", after := #[{ on := 47, ground := .guard }], guard := some (47, true) } _ ?_
  try simp only [Act.put, List.setIfInBounds_toArray, List.set_cons_zero, List.set_cons_succ]
  refine tk 52 { dst := some 104, op := .load 30 (.tmp 4), type := 30, pos := "law.go:50", after := #[{ on := 47, ground := .guard }], guard := some (47, true) } _ ?_ (hy := by (intro wq hSw; have hSw := TellS.out hSw; go_simp; first | done | with_reducible rfl))
  try simp only [Act.put, List.setIfInBounds_toArray, List.set_cons_zero, List.set_cons_succ]
  refine tk 53 { dst := some 105, op := .move (.tmp 1), type := 3, pos := "law.go:50", after := #[{ on := 47, ground := .guard }], guard := some (47, true) } _ ?_
  try simp only [Act.put, List.setIfInBounds_toArray, List.set_cons_zero, List.set_cons_succ]
  refine tk 54 { dst := some 106, op := .move (.tmp 3), type := 3, pos := "law.go:50", after := #[{ on := 47, ground := .guard }], guard := some (47, true) } _ ?_
  try simp only [Act.put, List.setIfInBounds_toArray, List.set_cons_zero, List.set_cons_succ]
  refine wpAnyH_ready (rs := [51]) (by kernel_rfl) (by simp) ?_
  refine AllReadyH.cons (o := { dst := some 103, op := .call { callee := .value (.func 24), args := #[.tmp 100, .tmp 101, .tmp 102], argTypes := #[30, 3, 3] }, type := 4, pos := "law.go:50", after := #[{ on := 48, ground := .data }, { on := 49, ground := .data }, { on := 50, ground := .data }, { on := 47, ground := .chain }, { on := 47, ground := .guard }], guard := some (47, true) }) rfl (fun KQ hKQ => ?_) AllReadyH.nil
  go_simp
  refine (CW.out _ q19).mono ?_
  rintro e y20 ⟨rfl, hY20⟩
  have q20 := q19.trans (hY20.mono q19.size)
  have r20 := HS.out _ q20
  go_wp2_with fail
  refine hKQ.out _ _ ?s_51 (fun hHeld51 => ?_)
  case s_51 => exact r20
  clear hKQ KQ
  as_aux_lemma =>
  try simp only [Act.put, List.setIfInBounds_toArray, List.set_cons_zero, List.set_cons_succ]
  refine wpAnyH_ready (rs := [55]) (by kernel_rfl) (by simp) ?_
  refine AllReadyH.cons (o := { dst := some 107, op := .call { callee := .value (.func 25), args := #[.tmp 104, .tmp 105, .tmp 106], argTypes := #[30, 3, 3] }, type := 4, pos := "law.go:50", after := #[{ on := 52, ground := .data }, { on := 53, ground := .data }, { on := 54, ground := .data }, { on := 51, ground := .chain }, { on := 47, ground := .guard }], guard := some (47, true) }) rfl (fun KQ hKQ => ?_) AllReadyH.nil
  go_simp
  refine (CW2.out _ q20).mono ?_
  rintro e y21 ⟨rfl, hY21⟩
  have q21 := q20.trans (hY21.mono q20.size)
  have r21 := HS.out _ q21
  go_wp2_with fail
  refine hKQ.out _ _ ?s_55 (fun hHeld55 => ?_)
  case s_55 => exact r21
  clear hKQ KQ
  as_aux_lemma =>
  try simp only [Act.put, List.setIfInBounds_toArray, List.set_cons_zero, List.set_cons_succ]
  refine tk 56 { dst := some 108, op := .binOp .eql 4 (.tmp 103) (.tmp 107) 4, type := 4, pos := "law.go:50", after := #[{ on := 51, ground := .data }, { on := 55, ground := .data }, { on := 47, ground := .guard }], guard := some (47, true) } _ ?_
  try simp only [Act.put, List.setIfInBounds_toArray, List.set_cons_zero, List.set_cons_succ]
  refine tk 57 { dst := some 109, op := .pick (.tmp 99) (.tmp 108) (.const (.bool false)), type := 4, pos := "law.go:50", after := #[{ on := 47, ground := .data }, { on := 56, ground := .data }], guard := none } _ ?_
  try simp only [Act.put, List.setIfInBounds_toArray, List.set_cons_zero, List.set_cons_succ]
  refine tk 58 { dst := some 8, op := .assign (.tmp 109), type := 4, pos := "law.go:50", after := #[{ on := 57, ground := .data }, { on := 55, ground := .chain }, { on := 0, ground := .phase }, { on := 1, ground := .phase }, { on := 2, ground := .phase }, { on := 3, ground := .phase }, { on := 4, ground := .phase }, { on := 5, ground := .phase }, { on := 6, ground := .phase }, { on := 7, ground := .phase }, { on := 8, ground := .phase }, { on := 9, ground := .phase }, { on := 10, ground := .phase }, { on := 11, ground := .phase }, { on := 12, ground := .phase }, { on := 13, ground := .phase }, { on := 14, ground := .phase }, { on := 15, ground := .phase }, { on := 16, ground := .phase }, { on := 17, ground := .phase }, { on := 18, ground := .phase }, { on := 19, ground := .phase }, { on := 20, ground := .phase }, { on := 21, ground := .phase }, { on := 22, ground := .phase }, { on := 23, ground := .phase }, { on := 24, ground := .phase }, { on := 25, ground := .phase }, { on := 26, ground := .phase }, { on := 27, ground := .phase }, { on := 28, ground := .phase }, { on := 29, ground := .phase }, { on := 30, ground := .phase }, { on := 31, ground := .phase }, { on := 32, ground := .phase }, { on := 33, ground := .phase }, { on := 34, ground := .phase }, { on := 35, ground := .phase }, { on := 36, ground := .phase }, { on := 37, ground := .phase }, { on := 38, ground := .phase }, { on := 39, ground := .phase }, { on := 40, ground := .phase }, { on := 41, ground := .phase }, { on := 42, ground := .phase }, { on := 43, ground := .phase }, { on := 44, ground := .phase }, { on := 45, ground := .phase }, { on := 46, ground := .phase }, { on := 47, ground := .phase }, { on := 48, ground := .phase }, { on := 49, ground := .phase }, { on := 50, ground := .phase }, { on := 51, ground := .phase }, { on := 52, ground := .phase }, { on := 53, ground := .phase }, { on := 54, ground := .phase }, { on := 55, ground := .phase }, { on := 56, ground := .phase }, { on := 57, ground := .phase }], guard := none } _ ?_
  try simp only [Act.put, List.setIfInBounds_toArray, List.set_cons_zero, List.set_cons_succ]
  refine wpAnyH_done (by kernel_rfl) ?_ _
  go_wp2_with fail
  go_ret
  exact ⟨by first | rfl | simp, HB3.out.trans (q21.mono HB3.out.size)⟩
end Go.Proofs.Yteadkgjikaikjaa.law12
