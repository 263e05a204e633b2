/- The landed entries: inForce, Conf, alike, joins, Newer. Conditions: the log's numbers stay far from the ends of an int. -/
import Derived.BigQuiet
import Derived.Deep.RegionHeld3
import Derived.Deep.Cut
import Derived.Lib.Hide
import Derived.Test.YtegnfkbmlalkeaaGreatSpJ2
import Derived.Test.YtegnfkbmlalkeaaGreatSpKitLg
import Derived.Test.YtegnfkbmlalkeaaGreatSpJ0
set_option linter.unusedVariables false
set_option maxHeartbeats 16000000
set_option maxRecDepth 10000
namespace Go.Proofs.YtegnfkbmlalkeaaGreat.enti
open Go Go.RowKit kit nums cf lg
theorem inForce_any (j : JtL) (A : Option Addr) (n c : Nat) (es : List EnL) (w : World) (B : Nat) (hR : RdE w B A n es) (hB : B ≤ w.heap.size) (hc : n ≤ c) (hn : n ≤ 1000000) : Calls Tryz.prog 117 #[jV j, .slice A n c] w fun e w' => e = .returned (jV (confF j es)) ∧ Below w.heap.size w w' := by
 have HR := Lh hR
 have hl := Lh hR.1
 have H0 : Hid (confF j es = confF j (es.take n)) := by show _ = _; rw [List.take_of_length_le (by rw [hR.1]; exact Nat.le_refl _)]
 have hBs := Lh hB
 clear hR hB
 unfold jV at *
 have HC : Hid (∀ (k : Nat) (x : EnL), es[k]? = some x → confF j (es.take (k + 1)) = if x.k = 2 then x.j else confF j (es.take k)) := fun k x h => confF_snoc h
 have HN : Hid (confF j (es.take 0) = j) := rfl
 generalize confF j es = G at *
 have k0 : Blk 27 (w.alloc (.cells #[j0 j, j1 j, j2 j, j3 j, j4 j, j5 j, j6 j, j7 j, j8 j, j9 j, j10 j] 27)) w.heap.size [j0 j, j1 j, j2 j, j3 j, j4 j, j5 j, j6 j, j7 j, j8 j, j9 j, j10 j] := (heap_alloc_new w (.cells #[j0 j, j1 j, j2 j, j3 j, j4 j, j5 j, j6 j, j7 j, j8 j, j9 j, j10 j] 27))
 replace k0 : Blk 27 ((w.alloc (.cells #[j0 j, j1 j, j2 j, j3 j, j4 j, j5 j, j6 j, j7 j, j8 j, j9 j, j10 j] 27)).alloc (.cells #[.int .u16 0, .int .u16 0, .int .u16 0, .int .i64 0, .int .i64 0, .int .u16 0, .int .u16 0, .int .u16 0, .int .i64 0, .int .i64 0, .bool false] 27)) w.heap.size [j0 j, j1 j, j2 j, j3 j, j4 j, j5 j, j6 j, j7 j, j8 j, j9 j, j10 j] := k0.alloc _
 have k1 : Blk 27 ((w.alloc (.cells #[j0 j, j1 j, j2 j, j3 j, j4 j, j5 j, j6 j, j7 j, j8 j, j9 j, j10 j] 27)).alloc (.cells #[.int .u16 0, .int .u16 0, .int .u16 0, .int .i64 0, .int .i64 0, .int .u16 0, .int .u16 0, .int .u16 0, .int .i64 0, .int .i64 0, .bool false] 27)) (w.heap.size + 1) [.int .u16 0, .int .u16 0, .int .u16 0, .int .i64 0, .int .i64 0, .int .u16 0, .int .u16 0, .int .u16 0, .int .i64 0, .int .i64 0, .bool false] := (by have h := heap_alloc_new (w.alloc (.cells #[j0 j, j1 j, j2 j, j3 j, j4 j, j5 j, j6 j, j7 j, j8 j, j9 j, j10 j] 27)) (.cells #[.int .u16 0, .int .u16 0, .int .u16 0, .int .i64 0, .int .i64 0, .int .u16 0, .int .u16 0, .int .u16 0, .int .i64 0, .int .i64 0, .bool false] 27); rwa [show (w.alloc (.cells #[j0 j, j1 j, j2 j, j3 j, j4 j, j5 j, j6 j, j7 j, j8 j, j9 j, j10 j] 27)).heap.size = w.heap.size + 1 by simp] at h)
 have hB : Below w.heap.size w ((w.alloc (.cells #[j0 j, j1 j, j2 j, j3 j, j4 j, j5 j, j6 j, j7 j, j8 j, j9 j, j10 j] 27)).alloc (.cells #[.int .u16 0, .int .u16 0, .int .u16 0, .int .i64 0, .int .i64 0, .int .u16 0, .int .u16 0, .int .u16 0, .int .i64 0, .int .i64 0, .bool false] 27)) := (((Below.refl w.heap.size w).alloc (by first | exact Nat.le_refl _ | simp) (.cells #[j0 j, j1 j, j2 j, j3 j, j4 j, j5 j, j6 j, j7 j, j8 j, j9 j, j10 j] 27)).alloc (by first | exact Nat.le_refl _ | simp) (.cells #[.int .u16 0, .int .u16 0, .int .u16 0, .int .i64 0, .int .i64 0, .int .u16 0, .int .u16 0, .int .u16 0, .int .i64 0, .int .i64 0, .bool false] 27))
 have HB := Lh hB
 have HS : Hid (∀ wq, Below ((w.alloc (.cells #[j0 j, j1 j, j2 j, j3 j, j4 j, j5 j, j6 j, j7 j, j8 j, j9 j, j10 j] 27)).alloc (.cells #[.int .u16 0, .int .u16 0, .int .u16 0, .int .i64 0, .int .i64 0, .int .u16 0, .int .u16 0, .int .u16 0, .int .i64 0, .int .i64 0, .bool false] 27)).heap.size ((w.alloc (.cells #[j0 j, j1 j, j2 j, j3 j, j4 j, j5 j, j6 j, j7 j, j8 j, j9 j, j10 j] 27)).alloc (.cells #[.int .u16 0, .int .u16 0, .int .u16 0, .int .i64 0, .int .i64 0, .int .u16 0, .int .u16 0, .int .u16 0, .int .i64 0, .int .i64 0, .bool false] 27)) wq → (wq.cell? ⟨w.heap.size, 0, none⟩ = some (j0 j) ∧ wq.cell? ⟨w.heap.size, 1, none⟩ = some (j1 j) ∧ wq.cell? ⟨w.heap.size, 2, none⟩ = some (j2 j) ∧ wq.cell? ⟨w.heap.size, 3, none⟩ = some (j3 j) ∧ wq.cell? ⟨w.heap.size, 4, none⟩ = some (j4 j) ∧ wq.cell? ⟨w.heap.size, 5, none⟩ = some (j5 j) ∧ wq.cell? ⟨w.heap.size, 6, none⟩ = some (j6 j) ∧ wq.cell? ⟨w.heap.size, 7, none⟩ = some (j7 j) ∧ wq.cell? ⟨w.heap.size, 8, none⟩ = some (j8 j) ∧ wq.cell? ⟨w.heap.size, 9, none⟩ = some (j9 j) ∧ wq.cell? ⟨w.heap.size, 10, none⟩ = some (j10 j)) ∧ (wq.cell? ⟨(w.heap.size + 1), 0, none⟩ = some (.int .u16 0) ∧ wq.cell? ⟨(w.heap.size + 1), 1, none⟩ = some (.int .u16 0) ∧ wq.cell? ⟨(w.heap.size + 1), 2, none⟩ = some (.int .u16 0) ∧ wq.cell? ⟨(w.heap.size + 1), 3, none⟩ = some (.int .i64 0) ∧ wq.cell? ⟨(w.heap.size + 1), 4, none⟩ = some (.int .i64 0) ∧ wq.cell? ⟨(w.heap.size + 1), 5, none⟩ = some (.int .u16 0) ∧ wq.cell? ⟨(w.heap.size + 1), 6, none⟩ = some (.int .u16 0) ∧ wq.cell? ⟨(w.heap.size + 1), 7, none⟩ = some (.int .u16 0) ∧ wq.cell? ⟨(w.heap.size + 1), 8, none⟩ = some (.int .i64 0) ∧ wq.cell? ⟨(w.heap.size + 1), 9, none⟩ = some (.int .i64 0) ∧ wq.cell? ⟨(w.heap.size + 1), 10, none⟩ = some (.bool false))) := fun wq hq => ⟨blk11 (k0.below hq k0.lt), blk11 (k1.below hq k1.lt)⟩
 have q0 := Below.refl ((w.alloc (.cells #[j0 j, j1 j, j2 j, j3 j, j4 j, j5 j, j6 j, j7 j, j8 j, j9 j, j10 j] 27)).alloc (.cells #[.int .u16 0, .int .u16 0, .int .u16 0, .int .i64 0, .int .i64 0, .int .u16 0, .int .u16 0, .int .u16 0, .int .i64 0, .int .i64 0, .bool false] 27)).heap.size ((w.alloc (.cells #[j0 j, j1 j, j2 j, j3 j, j4 j, j5 j, j6 j, j7 j, j8 j, j9 j, j10 j] 27)).alloc (.cells #[.int .u16 0, .int .u16 0, .int .u16 0, .int .i64 0, .int .i64 0, .int .u16 0, .int .u16 0, .int .u16 0, .int .i64 0, .int .i64 0, .bool false] 27))
 have K0 := Lh k0
 have K1 := Lh k1
 clear hB k0 k1
 go_enter Tryz.func117, Tryz.ntmps117
 go_upto_region 1 with (fail)
 generalize ((w.alloc (.cells #[j0 j, j1 j, j2 j, j3 j, j4 j, j5 j, j6 j, j7 j, j8 j, j9 j, j10 j] 27)).alloc (.cells #[.int .u16 0, .int .u16 0, .int .u16 0, .int .i64 0, .int .i64 0, .int .u16 0, .int .u16 0, .int .u16 0, .int .i64 0, .int .i64 0, .bool false] 27)) = w1 at *
 have HR1 := Lh (HR.out.on (HB.out.mono hBs.out) (Nat.le_trans hBs.out HB.out.size))
 have r0 := HS.out _ q0
 have df := fun i => K1.out.frozen i
 go_wp2_with fail
 go_loopw [5] (fun iv wr => ∃ k : Nat, k ≤ n ∧ iv = .int .i64 ((k : Int) - 1) ∧ Hid (G = confF j (es.take k)) ∧ wr = w1) (fun iv _ => (intOf iv + 1).toNat)
 case atStart => exact ⟨n, Nat.le_refl _, rfl, H0.out, rfl⟩
 case round =>
  obtain ⟨k, hk, rfl, HG, rfl⟩ := hrel
  rcases k with _ | k
  ·
   have HGj : Hid (G = j) := HG.out
   clear HG H0 HN HC HR HR1
   go_wp2_with fail
   have sF := put11 (j0 j) (j1 j) (j2 j) (j3 j) (j4 j) (j5 j) (j6 j) (j7 j) (j8 j) (j9 j) (j10 j) K1.out
   have bF := below11 (g := w.heap.size + 1) (j0 j) (j1 j) (j2 j) (j3 j) (j4 j) (j5 j) (j6 j) (j7 j) (j8 j) (j9 j) (j10 j) HB.out (by first | omega | simp)
   generalize (((((((((((wr.setCell ⟨w.heap.size + 1, 0, none⟩ (j0 j)).setCell ⟨w.heap.size + 1, 1, none⟩ (j1 j)).setCell ⟨w.heap.size + 1, 2, none⟩ (j2 j)).setCell ⟨w.heap.size + 1, 3, none⟩ (j3 j)).setCell ⟨w.heap.size + 1, 4, none⟩ (j4 j)).setCell ⟨w.heap.size + 1, 5, none⟩ (j5 j)).setCell ⟨w.heap.size + 1, 6, none⟩ (j6 j)).setCell ⟨w.heap.size + 1, 7, none⟩ (j7 j)).setCell ⟨w.heap.size + 1, 8, none⟩ (j8 j)).setCell ⟨w.heap.size + 1, 9, none⟩ (j9 j)).setCell ⟨w.heap.size + 1, 10, none⟩ (j10 j)) = wf at *
   (try simp only [Exit.inBlock, Exit.then])
   refine bodyPost_ret (res1 Tryz.results117 rfl (aggJ _) (sizeJ _) (ld11 sF)) rfl ?_
   exact ⟨by rw [HGj.out], bF⟩
  ·
   obtain ⟨bb, oo, x, rfl, hlt, hx, hA⟩ := HR1.out.at_ (j := k) (by omega)
   have HCx := Lh (HC.out k x hx)
   have HA := Lh hA
   have c14 := at14 hA
   have hk1 : ((k + 1 : Nat) : Int) - 1 = (k : Int) := by omega
   have hkn : (k : Int) < (n : Int) := by omega
   clear hA hx
   by_cases h2 : x.k = 2
   ·
    have HGj : Hid (G = x.j) := by show _ = _; rw [HG.out, HCx.out, if_pos h2]
    clear HG H0 HN HC HR HR1 HCx
    go_wp2_with fail
    have sF := put11 (j0 x.j) (j1 x.j) (j2 x.j) (j3 x.j) (j4 x.j) (j5 x.j) (j6 x.j) (j7 x.j) (j8 x.j) (j9 x.j) (j10 x.j) K1.out
    have bF := below11 (g := w.heap.size + 1) (j0 x.j) (j1 x.j) (j2 x.j) (j3 x.j) (j4 x.j) (j5 x.j) (j6 x.j) (j7 x.j) (j8 x.j) (j9 x.j) (j10 x.j) HB.out (by first | omega | simp)
    generalize (((((((((((wr.setCell ⟨w.heap.size + 1, 0, none⟩ (j0 x.j)).setCell ⟨w.heap.size + 1, 1, none⟩ (j1 x.j)).setCell ⟨w.heap.size + 1, 2, none⟩ (j2 x.j)).setCell ⟨w.heap.size + 1, 3, none⟩ (j3 x.j)).setCell ⟨w.heap.size + 1, 4, none⟩ (j4 x.j)).setCell ⟨w.heap.size + 1, 5, none⟩ (j5 x.j)).setCell ⟨w.heap.size + 1, 6, none⟩ (j6 x.j)).setCell ⟨w.heap.size + 1, 7, none⟩ (j7 x.j)).setCell ⟨w.heap.size + 1, 8, none⟩ (j8 x.j)).setCell ⟨w.heap.size + 1, 9, none⟩ (j9 x.j)).setCell ⟨w.heap.size + 1, 10, none⟩ (j10 x.j)) = wf at *
    (try simp only [Exit.inBlock, Exit.then])
    refine bodyPost_ret (res1 Tryz.results117 rfl (aggJ _) (sizeJ _) (ld11 sF)) rfl ?_
    exact ⟨by rw [HGj.out], bF⟩
   ·
    have HG2 : Hid (G = confF j (es.take k)) := by show _ = _; rw [HG.out, HCx.out, if_neg h2]
    clear HG HCx HC
    go_wp2_with fail
    go_roundw
    case rel => exact ⟨k, by omega, by first | rfl | go_num | simp, HG2.out, trivial⟩
    case measure => simp [intOf] <;> omega
theorem conf_any (L : LgL) (A : Option Addr) (n c : Nat) (w : World) (B : Nat) (hR : RdE w B A n L.es) (hB : B ≤ w.heap.size) (hc : n ≤ c) (hf : Fit L) : Calls Tryz.prog 60 #[lgV L (.slice A n c)] w fun e w' => e = .returned (jV (confF L.j L.es)) ∧ Below w.heap.size w w' := by
 have HR := Lh hR
 have hl := hR.1
 have hn : n ≤ 1000000 := by rw [← hl]; exact hf.2.2
 have hBs := Lh hB
 clear hR hB hf hl
 have HJ : Hid (∀ (j : JtL) (es : List EnL), jV (confF j es) = .agg #[j0 (confF j es), j1 (confF j es), j2 (confF j es), j3 (confF j es), j4 (confF j es), j5 (confF j es), j6 (confF j es), j7 (confF j es), j8 (confF j es), j9 (confF j es), j10 (confF j es)]) := fun j es => rfl
 rw [HJ.out]
 unfold lgV at *
 obtain ⟨b, t, j, es⟩ := L
 dsimp only at *
 have k0 : Blk 30 (w.alloc (.cells #[.int .i64 b, .int .i64 t, j0 j, j1 j, j2 j, j3 j, j4 j, j5 j, j6 j, j7 j, j8 j, j9 j, j10 j, .slice A n c] 30)) w.heap.size [.int .i64 b, .int .i64 t, j0 j, j1 j, j2 j, j3 j, j4 j, j5 j, j6 j, j7 j, j8 j, j9 j, j10 j, .slice A n c] := (heap_alloc_new w (.cells #[.int .i64 b, .int .i64 t, j0 j, j1 j, j2 j, j3 j, j4 j, j5 j, j6 j, j7 j, j8 j, j9 j, j10 j, .slice A n c] 30))
 replace k0 : Blk 30 ((w.alloc (.cells #[.int .i64 b, .int .i64 t, j0 j, j1 j, j2 j, j3 j, j4 j, j5 j, j6 j, j7 j, j8 j, j9 j, j10 j, .slice A n c] 30)).alloc (.cells #[.int .u16 0, .int .u16 0, .int .u16 0, .int .i64 0, .int .i64 0, .int .u16 0, .int .u16 0, .int .u16 0, .int .i64 0, .int .i64 0, .bool false] 27)) w.heap.size [.int .i64 b, .int .i64 t, j0 j, j1 j, j2 j, j3 j, j4 j, j5 j, j6 j, j7 j, j8 j, j9 j, j10 j, .slice A n c] := k0.alloc _
 have k1 : Blk 27 ((w.alloc (.cells #[.int .i64 b, .int .i64 t, j0 j, j1 j, j2 j, j3 j, j4 j, j5 j, j6 j, j7 j, j8 j, j9 j, j10 j, .slice A n c] 30)).alloc (.cells #[.int .u16 0, .int .u16 0, .int .u16 0, .int .i64 0, .int .i64 0, .int .u16 0, .int .u16 0, .int .u16 0, .int .i64 0, .int .i64 0, .bool false] 27)) (w.heap.size + 1) [.int .u16 0, .int .u16 0, .int .u16 0, .int .i64 0, .int .i64 0, .int .u16 0, .int .u16 0, .int .u16 0, .int .i64 0, .int .i64 0, .bool false] := (by have h := heap_alloc_new (w.alloc (.cells #[.int .i64 b, .int .i64 t, j0 j, j1 j, j2 j, j3 j, j4 j, j5 j, j6 j, j7 j, j8 j, j9 j, j10 j, .slice A n c] 30)) (.cells #[.int .u16 0, .int .u16 0, .int .u16 0, .int .i64 0, .int .i64 0, .int .u16 0, .int .u16 0, .int .u16 0, .int .i64 0, .int .i64 0, .bool false] 27); rwa [show (w.alloc (.cells #[.int .i64 b, .int .i64 t, j0 j, j1 j, j2 j, j3 j, j4 j, j5 j, j6 j, j7 j, j8 j, j9 j, j10 j, .slice A n c] 30)).heap.size = w.heap.size + 1 by simp] at h)
 have hB : Below w.heap.size w ((w.alloc (.cells #[.int .i64 b, .int .i64 t, j0 j, j1 j, j2 j, j3 j, j4 j, j5 j, j6 j, j7 j, j8 j, j9 j, j10 j, .slice A n c] 30)).alloc (.cells #[.int .u16 0, .int .u16 0, .int .u16 0, .int .i64 0, .int .i64 0, .int .u16 0, .int .u16 0, .int .u16 0, .int .i64 0, .int .i64 0, .bool false] 27)) := (((Below.refl w.heap.size w).alloc (by first | exact Nat.le_refl _ | simp) (.cells #[.int .i64 b, .int .i64 t, j0 j, j1 j, j2 j, j3 j, j4 j, j5 j, j6 j, j7 j, j8 j, j9 j, j10 j, .slice A n c] 30)).alloc (by first | exact Nat.le_refl _ | simp) (.cells #[.int .u16 0, .int .u16 0, .int .u16 0, .int .i64 0, .int .i64 0, .int .u16 0, .int .u16 0, .int .u16 0, .int .i64 0, .int .i64 0, .bool false] 27))
 have HB := Lh hB
 have HS : Hid (∀ wq, Below ((w.alloc (.cells #[.int .i64 b, .int .i64 t, j0 j, j1 j, j2 j, j3 j, j4 j, j5 j, j6 j, j7 j, j8 j, j9 j, j10 j, .slice A n c] 30)).alloc (.cells #[.int .u16 0, .int .u16 0, .int .u16 0, .int .i64 0, .int .i64 0, .int .u16 0, .int .u16 0, .int .u16 0, .int .i64 0, .int .i64 0, .bool false] 27)).heap.size ((w.alloc (.cells #[.int .i64 b, .int .i64 t, j0 j, j1 j, j2 j, j3 j, j4 j, j5 j, j6 j, j7 j, j8 j, j9 j, j10 j, .slice A n c] 30)).alloc (.cells #[.int .u16 0, .int .u16 0, .int .u16 0, .int .i64 0, .int .i64 0, .int .u16 0, .int .u16 0, .int .u16 0, .int .i64 0, .int .i64 0, .bool false] 27)) wq → (wq.cell? ⟨w.heap.size, 0, none⟩ = some (.int .i64 b) ∧ wq.cell? ⟨w.heap.size, 1, none⟩ = some (.int .i64 t) ∧ wq.cell? ⟨w.heap.size, 2, none⟩ = some (j0 j) ∧ wq.cell? ⟨w.heap.size, 3, none⟩ = some (j1 j) ∧ wq.cell? ⟨w.heap.size, 4, none⟩ = some (j2 j) ∧ wq.cell? ⟨w.heap.size, 5, none⟩ = some (j3 j) ∧ wq.cell? ⟨w.heap.size, 6, none⟩ = some (j4 j) ∧ wq.cell? ⟨w.heap.size, 7, none⟩ = some (j5 j) ∧ wq.cell? ⟨w.heap.size, 8, none⟩ = some (j6 j) ∧ wq.cell? ⟨w.heap.size, 9, none⟩ = some (j7 j) ∧ wq.cell? ⟨w.heap.size, 10, none⟩ = some (j8 j) ∧ wq.cell? ⟨w.heap.size, 11, none⟩ = some (j9 j) ∧ wq.cell? ⟨w.heap.size, 12, none⟩ = some (j10 j) ∧ wq.cell? ⟨w.heap.size, 13, none⟩ = some (.slice A n c)) ∧ (wq.cell? ⟨(w.heap.size + 1), 0, none⟩ = some (.int .u16 0) ∧ wq.cell? ⟨(w.heap.size + 1), 1, none⟩ = some (.int .u16 0) ∧ wq.cell? ⟨(w.heap.size + 1), 2, none⟩ = some (.int .u16 0) ∧ wq.cell? ⟨(w.heap.size + 1), 3, none⟩ = some (.int .i64 0) ∧ wq.cell? ⟨(w.heap.size + 1), 4, none⟩ = some (.int .i64 0) ∧ wq.cell? ⟨(w.heap.size + 1), 5, none⟩ = some (.int .u16 0) ∧ wq.cell? ⟨(w.heap.size + 1), 6, none⟩ = some (.int .u16 0) ∧ wq.cell? ⟨(w.heap.size + 1), 7, none⟩ = some (.int .u16 0) ∧ wq.cell? ⟨(w.heap.size + 1), 8, none⟩ = some (.int .i64 0) ∧ wq.cell? ⟨(w.heap.size + 1), 9, none⟩ = some (.int .i64 0) ∧ wq.cell? ⟨(w.heap.size + 1), 10, none⟩ = some (.bool false))) := fun wq hq => ⟨blk14 (k0.below hq k0.lt), blk11 (k1.below hq k1.lt)⟩
 have q0 := Below.refl ((w.alloc (.cells #[.int .i64 b, .int .i64 t, j0 j, j1 j, j2 j, j3 j, j4 j, j5 j, j6 j, j7 j, j8 j, j9 j, j10 j, .slice A n c] 30)).alloc (.cells #[.int .u16 0, .int .u16 0, .int .u16 0, .int .i64 0, .int .i64 0, .int .u16 0, .int .u16 0, .int .u16 0, .int .i64 0, .int .i64 0, .bool false] 27)).heap.size ((w.alloc (.cells #[.int .i64 b, .int .i64 t, j0 j, j1 j, j2 j, j3 j, j4 j, j5 j, j6 j, j7 j, j8 j, j9 j, j10 j, .slice A n c] 30)).alloc (.cells #[.int .u16 0, .int .u16 0, .int .u16 0, .int .i64 0, .int .i64 0, .int .u16 0, .int .u16 0, .int .u16 0, .int .i64 0, .int .i64 0, .bool false] 27))
 have K0 := Lh k0
 have K1 := Lh k1
 clear hB k0 k1
 go_enter Tryz.func60, Tryz.ntmps60
 go_upto_region 1 with (fail)
 generalize ((w.alloc (.cells #[.int .i64 b, .int .i64 t, j0 j, j1 j, j2 j, j3 j, j4 j, j5 j, j6 j, j7 j, j8 j, j9 j, j10 j, .slice A n c] 30)).alloc (.cells #[.int .u16 0, .int .u16 0, .int .u16 0, .int .i64 0, .int .i64 0, .int .u16 0, .int .u16 0, .int .u16 0, .int .i64 0, .int .i64 0, .bool false] 27)) = w1 at *
 have HR1 := Lh (HR.out.on (HB.out.mono hBs.out) (Nat.le_trans hBs.out HB.out.size))
 have CI := Lh (fun w' (hb : Below w1.heap.size w1 w') => inForce_any j A n c es w' w1.heap.size (HR1.out.below hb) hb.size hc hn)
 unfold jV at CI
 have r0 := HS.out _ q0
 have df := fun i => K1.out.frozen i
 go_wp2_with fail
 refine (CI.out _ q0).mono ?_
 rintro e y1 ⟨rfl, hY1⟩
 have q1 := q0.trans (hY1.mono q0.size)
 clear r0
 have r1 := HS.out _ q1
 have df := fun i => (K1.out.below q1 K1.out.lt).frozen i
 go_wp2_with fail
 have sF := put11 (j0 (confF j es)) (j1 (confF j es)) (j2 (confF j es)) (j3 (confF j es)) (j4 (confF j es)) (j5 (confF j es)) (j6 (confF j es)) (j7 (confF j es)) (j8 (confF j es)) (j9 (confF j es)) (j10 (confF j es)) (K1.out.below q1 K1.out.lt)
 have bF := below11 (g := w.heap.size + 1) (j0 (confF j es)) (j1 (confF j es)) (j2 (confF j es)) (j3 (confF j es)) (j4 (confF j es)) (j5 (confF j es)) (j6 (confF j es)) (j7 (confF j es)) (j8 (confF j es)) (j9 (confF j es)) (j10 (confF j es)) (HB.out.trans (q1.mono HB.out.size)) (by first | omega | simp)
 generalize (((((((((((y1.setCell ⟨w.heap.size + 1, 0, none⟩ (j0 (confF j es))).setCell ⟨w.heap.size + 1, 1, none⟩ (j1 (confF j es))).setCell ⟨w.heap.size + 1, 2, none⟩ (j2 (confF j es))).setCell ⟨w.heap.size + 1, 3, none⟩ (j3 (confF j es))).setCell ⟨w.heap.size + 1, 4, none⟩ (j4 (confF j es))).setCell ⟨w.heap.size + 1, 5, none⟩ (j5 (confF j es))).setCell ⟨w.heap.size + 1, 6, none⟩ (j6 (confF j es))).setCell ⟨w.heap.size + 1, 7, none⟩ (j7 (confF j es))).setCell ⟨w.heap.size + 1, 8, none⟩ (j8 (confF j es))).setCell ⟨w.heap.size + 1, 9, none⟩ (j9 (confF j es))).setCell ⟨w.heap.size + 1, 10, none⟩ (j10 (confF j es))) = wf at *
 (try simp only [Exit.inBlock, Exit.then])
 refine bodyPost_ret (res1 Tryz.results60 rfl (aggJ _) (sizeJ _) (ld11 sF)) rfl ?_
 exact ⟨by rfl, bF⟩
end Go.Proofs.YtegnfkbmlalkeaaGreat.enti
