/- The document's entries: ConfAt, Conf. Conditions: the log's numbers stay far from the ends of an int. -/
import Derived.Deep.RegionHeld3
import Derived.Deep.Cut
import Derived.Lib.Hide
import Derived.Test.YtegnfkbmlalkeaaGreatSpJ1
import Derived.Test.YtegnfkbmlalkeaaGreatSpKitLg
import Derived.Test.YtegnfkbmlalkeaaGreatSpJ0
set_option linter.unusedVariables false
set_option maxHeartbeats 16000000
set_option maxRecDepth 10000
namespace Go.Proofs.YtegnfkbmlalkeaaGreat.ref12
open Go Go.RowKit kit nums cf lg
theorem rconfat_any (L : LgL) (A : Option Addr) (n c : Nat) (w : World) (B : Nat) (hR : RdE w B A n L.es) (hB : B ≤ w.heap.size) (hc : n ≤ c) (hf : Fit L) : Calls Tryz.prog 99 #[lgV L (.slice A n c)] w fun e w' => ∃ a : Int, e = .returned (.tuple #[jV (confF L.j L.es), .int .i64 a]) ∧ Below w.heap.size w w' := by
 have HR := Lh hR
 have hl := hR.1
 have HF := Lh hf
 have hBs := Lh hB
 have hn3 := hf.2.2
 rw [hl] at hn3
 have f0 := hf.1
 have f1 := hf.2.1
 have H0 : Hid (confF L.j (L.es.take 0) = L.j) := rfl
 have HC : Hid (∀ (k : Nat) (x : EnL), L.es[k]? = some x → confF L.j (L.es.take (k + 1)) = if x.k = 2 then x.j else confF L.j (L.es.take k)) := fun k x h => confF_snoc h
 have HN : Hid (confF L.j (L.es.take n) = confF L.j L.es) := by show _ = _; rw [← hl, List.take_length]
 clear hR hB hl hf
 generalize confF L.j L.es = G at *
 unfold lgV jV at *
 obtain ⟨b, t, j, es⟩ := L
 dsimp only at *
 have k0 : Blk 30 (w.alloc (.cells #[.int .i64 b, .int .i64 t, j0 j, j1 j, j2 j, j3 j, j4 j, j5 j, j6 j, j7 j, j8 j, j9 j, j10 j, .slice A n c] 30)) w.heap.size [.int .i64 b, .int .i64 t, j0 j, j1 j, j2 j, j3 j, j4 j, j5 j, j6 j, j7 j, j8 j, j9 j, j10 j, .slice A n c] := (heap_alloc_new w (.cells #[.int .i64 b, .int .i64 t, j0 j, j1 j, j2 j, j3 j, j4 j, j5 j, j6 j, j7 j, j8 j, j9 j, j10 j, .slice A n c] 30))
 replace k0 : Blk 30 ((w.alloc (.cells #[.int .i64 b, .int .i64 t, j0 j, j1 j, j2 j, j3 j, j4 j, j5 j, j6 j, j7 j, j8 j, j9 j, j10 j, .slice A n c] 30)).alloc (.cells #[.int .u16 0, .int .u16 0, .int .u16 0, .int .i64 0, .int .i64 0, .int .u16 0, .int .u16 0, .int .u16 0, .int .i64 0, .int .i64 0, .bool false] 27)) w.heap.size [.int .i64 b, .int .i64 t, j0 j, j1 j, j2 j, j3 j, j4 j, j5 j, j6 j, j7 j, j8 j, j9 j, j10 j, .slice A n c] := k0.alloc _
 have k1 : Blk 27 ((w.alloc (.cells #[.int .i64 b, .int .i64 t, j0 j, j1 j, j2 j, j3 j, j4 j, j5 j, j6 j, j7 j, j8 j, j9 j, j10 j, .slice A n c] 30)).alloc (.cells #[.int .u16 0, .int .u16 0, .int .u16 0, .int .i64 0, .int .i64 0, .int .u16 0, .int .u16 0, .int .u16 0, .int .i64 0, .int .i64 0, .bool false] 27)) (w.heap.size + 1) [.int .u16 0, .int .u16 0, .int .u16 0, .int .i64 0, .int .i64 0, .int .u16 0, .int .u16 0, .int .u16 0, .int .i64 0, .int .i64 0, .bool false] := (by have h := heap_alloc_new (w.alloc (.cells #[.int .i64 b, .int .i64 t, j0 j, j1 j, j2 j, j3 j, j4 j, j5 j, j6 j, j7 j, j8 j, j9 j, j10 j, .slice A n c] 30)) (.cells #[.int .u16 0, .int .u16 0, .int .u16 0, .int .i64 0, .int .i64 0, .int .u16 0, .int .u16 0, .int .u16 0, .int .i64 0, .int .i64 0, .bool false] 27); rwa [show (w.alloc (.cells #[.int .i64 b, .int .i64 t, j0 j, j1 j, j2 j, j3 j, j4 j, j5 j, j6 j, j7 j, j8 j, j9 j, j10 j, .slice A n c] 30)).heap.size = w.heap.size + 1 by simp] at h)
 have hB : Below w.heap.size w ((w.alloc (.cells #[.int .i64 b, .int .i64 t, j0 j, j1 j, j2 j, j3 j, j4 j, j5 j, j6 j, j7 j, j8 j, j9 j, j10 j, .slice A n c] 30)).alloc (.cells #[.int .u16 0, .int .u16 0, .int .u16 0, .int .i64 0, .int .i64 0, .int .u16 0, .int .u16 0, .int .u16 0, .int .i64 0, .int .i64 0, .bool false] 27)) := (((Below.refl w.heap.size w).alloc (by first | exact Nat.le_refl _ | (simp; done) | (simp; omega)) (.cells #[.int .i64 b, .int .i64 t, j0 j, j1 j, j2 j, j3 j, j4 j, j5 j, j6 j, j7 j, j8 j, j9 j, j10 j, .slice A n c] 30)).alloc (by first | exact Nat.le_refl _ | (simp; done) | (simp; omega)) (.cells #[.int .u16 0, .int .u16 0, .int .u16 0, .int .i64 0, .int .i64 0, .int .u16 0, .int .u16 0, .int .u16 0, .int .i64 0, .int .i64 0, .bool false] 27))
 have HB := Lh hB
 have HS : Hid (∀ wq, Below ((w.alloc (.cells #[.int .i64 b, .int .i64 t, j0 j, j1 j, j2 j, j3 j, j4 j, j5 j, j6 j, j7 j, j8 j, j9 j, j10 j, .slice A n c] 30)).alloc (.cells #[.int .u16 0, .int .u16 0, .int .u16 0, .int .i64 0, .int .i64 0, .int .u16 0, .int .u16 0, .int .u16 0, .int .i64 0, .int .i64 0, .bool false] 27)).heap.size ((w.alloc (.cells #[.int .i64 b, .int .i64 t, j0 j, j1 j, j2 j, j3 j, j4 j, j5 j, j6 j, j7 j, j8 j, j9 j, j10 j, .slice A n c] 30)).alloc (.cells #[.int .u16 0, .int .u16 0, .int .u16 0, .int .i64 0, .int .i64 0, .int .u16 0, .int .u16 0, .int .u16 0, .int .i64 0, .int .i64 0, .bool false] 27)) wq → (wq.cell? ⟨w.heap.size, 0, none⟩ = some (.int .i64 b) ∧ wq.cell? ⟨w.heap.size, 1, none⟩ = some (.int .i64 t) ∧ wq.cell? ⟨w.heap.size, 2, none⟩ = some (j0 j) ∧ wq.cell? ⟨w.heap.size, 3, none⟩ = some (j1 j) ∧ wq.cell? ⟨w.heap.size, 4, none⟩ = some (j2 j) ∧ wq.cell? ⟨w.heap.size, 5, none⟩ = some (j3 j) ∧ wq.cell? ⟨w.heap.size, 6, none⟩ = some (j4 j) ∧ wq.cell? ⟨w.heap.size, 7, none⟩ = some (j5 j) ∧ wq.cell? ⟨w.heap.size, 8, none⟩ = some (j6 j) ∧ wq.cell? ⟨w.heap.size, 9, none⟩ = some (j7 j) ∧ wq.cell? ⟨w.heap.size, 10, none⟩ = some (j8 j) ∧ wq.cell? ⟨w.heap.size, 11, none⟩ = some (j9 j) ∧ wq.cell? ⟨w.heap.size, 12, none⟩ = some (j10 j) ∧ wq.cell? ⟨w.heap.size, 13, none⟩ = some (.slice A n c)) ∧ (wq.cell? ⟨(w.heap.size + 1), 0, none⟩ = some (.int .u16 0) ∧ wq.cell? ⟨(w.heap.size + 1), 1, none⟩ = some (.int .u16 0) ∧ wq.cell? ⟨(w.heap.size + 1), 2, none⟩ = some (.int .u16 0) ∧ wq.cell? ⟨(w.heap.size + 1), 3, none⟩ = some (.int .i64 0) ∧ wq.cell? ⟨(w.heap.size + 1), 4, none⟩ = some (.int .i64 0) ∧ wq.cell? ⟨(w.heap.size + 1), 5, none⟩ = some (.int .u16 0) ∧ wq.cell? ⟨(w.heap.size + 1), 6, none⟩ = some (.int .u16 0) ∧ wq.cell? ⟨(w.heap.size + 1), 7, none⟩ = some (.int .u16 0) ∧ wq.cell? ⟨(w.heap.size + 1), 8, none⟩ = some (.int .i64 0) ∧ wq.cell? ⟨(w.heap.size + 1), 9, none⟩ = some (.int .i64 0) ∧ wq.cell? ⟨(w.heap.size + 1), 10, none⟩ = some (.bool false))) := fun wq hq => ⟨blk14 (k0.below hq k0.lt), blk11 (k1.below hq k1.lt)⟩
 have q0 := Below.refl ((w.alloc (.cells #[.int .i64 b, .int .i64 t, j0 j, j1 j, j2 j, j3 j, j4 j, j5 j, j6 j, j7 j, j8 j, j9 j, j10 j, .slice A n c] 30)).alloc (.cells #[.int .u16 0, .int .u16 0, .int .u16 0, .int .i64 0, .int .i64 0, .int .u16 0, .int .u16 0, .int .u16 0, .int .i64 0, .int .i64 0, .bool false] 27)).heap.size ((w.alloc (.cells #[.int .i64 b, .int .i64 t, j0 j, j1 j, j2 j, j3 j, j4 j, j5 j, j6 j, j7 j, j8 j, j9 j, j10 j, .slice A n c] 30)).alloc (.cells #[.int .u16 0, .int .u16 0, .int .u16 0, .int .i64 0, .int .i64 0, .int .u16 0, .int .u16 0, .int .u16 0, .int .i64 0, .int .i64 0, .bool false] 27))
 have K0 := Lh k0
 have K1 := Lh k1
 clear hB k0 k1
 go_enter Tryz.func99, Tryz.ntmps99
 go_upto_region 1 with (fail)
 generalize ((w.alloc (.cells #[.int .i64 b, .int .i64 t, j0 j, j1 j, j2 j, j3 j, j4 j, j5 j, j6 j, j7 j, j8 j, j9 j, j10 j, .slice A n c] 30)).alloc (.cells #[.int .u16 0, .int .u16 0, .int .u16 0, .int .i64 0, .int .i64 0, .int .u16 0, .int .u16 0, .int .u16 0, .int .i64 0, .int .i64 0, .bool false] 27)) = w1 at *
 have HR1 := Lh (HR.out.on (HB.out.mono hBs.out) (Nat.le_trans hBs.out HB.out.size))
 have p0 := q0.drew
 refine wp_region_held_drew (S := fun wq => (wq.cell? ⟨w.heap.size, 0, none⟩ = some (.int .i64 b) ∧ wq.cell? ⟨w.heap.size, 1, none⟩ = some (.int .i64 t) ∧ wq.cell? ⟨w.heap.size, 2, none⟩ = some (j0 j) ∧ wq.cell? ⟨w.heap.size, 3, none⟩ = some (j1 j) ∧ wq.cell? ⟨w.heap.size, 4, none⟩ = some (j2 j) ∧ wq.cell? ⟨w.heap.size, 5, none⟩ = some (j3 j) ∧ wq.cell? ⟨w.heap.size, 6, none⟩ = some (j4 j) ∧ wq.cell? ⟨w.heap.size, 7, none⟩ = some (j5 j) ∧ wq.cell? ⟨w.heap.size, 8, none⟩ = some (j6 j) ∧ wq.cell? ⟨w.heap.size, 9, none⟩ = some (j7 j) ∧ wq.cell? ⟨w.heap.size, 10, none⟩ = some (j8 j) ∧ wq.cell? ⟨w.heap.size, 11, none⟩ = some (j9 j) ∧ wq.cell? ⟨w.heap.size, 12, none⟩ = some (j10 j) ∧ wq.cell? ⟨w.heap.size, 13, none⟩ = some (.slice A n c))) (by kernel_rfl) ?s_rca1 (fun hHeld => ?_)
 case s_rca1 => exact (HS.out _ p0).1
 iterate 4 (refine tx 0 _ ?_; try simp only [Act.put, ka, kb, kc])
 refine rr [4] ?_
 refine rc (fun KQ hKQ => ?_) AllReadyH.nil
 go_simp
 have kz : Blk 27 ((w1.alloc (.cells #[.int .u16 0, .int .u16 0, .int .u16 0, .int .i64 0, .int .i64 0, .int .u16 0, .int .u16 0, .int .u16 0, .int .i64 0, .int .i64 0, .bool false] 27)).drew) w1.heap.size [.int .u16 0, .int .u16 0, .int .u16 0, .int .i64 0, .int .i64 0, .int .u16 0, .int .u16 0, .int .u16 0, .int .i64 0, .int .i64 0, .bool false] := Blk.drew (show Blk 27 (w1.alloc (.cells #[.int .u16 0, .int .u16 0, .int .u16 0, .int .i64 0, .int .i64 0, .int .u16 0, .int .u16 0, .int .u16 0, .int .i64 0, .int .i64 0, .bool false] 27)) w1.heap.size [.int .u16 0, .int .u16 0, .int .u16 0, .int .i64 0, .int .i64 0, .int .u16 0, .int .u16 0, .int .u16 0, .int .i64 0, .int .i64 0, .bool false] from heap_alloc_new w1 _)
 have p1 := ((Below.refl w1.heap.size w1).alloc (Nat.le_refl _) (.cells #[.int .u16 0, .int .u16 0, .int .u16 0, .int .i64 0, .int .i64 0, .int .u16 0, .int .u16 0, .int .u16 0, .int .i64 0, .int .i64 0, .bool false] 27)).drew
 generalize (w1.alloc (.cells #[.int .u16 0, .int .u16 0, .int .u16 0, .int .i64 0, .int .i64 0, .int .u16 0, .int .u16 0, .int .u16 0, .int .i64 0, .int .i64 0, .bool false] 27)).drew = z1 at *
 have s1 := (HS.out _ p1).1
 refine hKQ.out _ _ (s1) (fun _ => ?_)
 clear hKQ KQ
 try simp only [Act.put, ka, kb, kc]
 refine rr [5] ?_
 refine rc (fun KQ hKQ => ?_) AllReadyH.nil
 have cz := blk11 kz
 have dfz := fun i => kz.frozen i
 go_simp
 have sF := put11 (j0 j) (j1 j) (j2 j) (j3 j) (j4 j) (j5 j) (j6 j) (j7 j) (j8 j) (j9 j) (j10 j) kz
 have bF := below11 (g := w1.heap.size) (j0 j) (j1 j) (j2 j) (j3 j) (j4 j) (j5 j) (j6 j) (j7 j) (j8 j) (j9 j) (j10 j) p1 (Nat.le_refl _)
 generalize (((((((((((z1.setCell ⟨w1.heap.size, 0, none⟩ (j0 j)).setCell ⟨w1.heap.size, 1, none⟩ (j1 j)).setCell ⟨w1.heap.size, 2, none⟩ (j2 j)).setCell ⟨w1.heap.size, 3, none⟩ (j3 j)).setCell ⟨w1.heap.size, 4, none⟩ (j4 j)).setCell ⟨w1.heap.size, 5, none⟩ (j5 j)).setCell ⟨w1.heap.size, 6, none⟩ (j6 j)).setCell ⟨w1.heap.size, 7, none⟩ (j7 j)).setCell ⟨w1.heap.size, 8, none⟩ (j8 j)).setCell ⟨w1.heap.size, 9, none⟩ (j9 j)).setCell ⟨w1.heap.size, 10, none⟩ (j10 j)) = wf at *
 have s2 := (HS.out _ bF).1
 refine hKQ.out _ _ (s2) (fun _ => ?_)
 clear hKQ KQ
 try simp only [Act.put]
 refine tj 6 _ ?_
 try simp only [Act.put, ka, kb, kc]
 refine wpAnyH_done (by kernel_rfl) ?_ _
 have HW := Lh sF
 have HBf := Lh bF
 clear sF bF cz dfz kz p1 s1 s2 p0
 have l1 := Lh K1.out.lt
 go_wp2_with fail
 go_loopw [5, 6] (fun tv iv wr => ∃ (i : Nat) (a : Int) (g : JtL), i ≤ n ∧ tv = .int .i64 a ∧ iv = .int .i64 (i : Int) ∧ Hid (g = confF j (es.take i)) ∧ Hid (Blk 27 wr w1.heap.size [j0 g, j1 g, j2 g, j3 g, j4 g, j5 g, j6 g, j7 g, j8 g, j9 g, j10 g]) ∧ Hid (Below w1.heap.size w1 wr)) (fun _ iv _ => n - (intOf iv).toNat)
 case atStart => exact ⟨0, b, j, Nat.zero_le _, rfl, rfl, H0.out.symm, HW, HBf⟩
 case round =>
  obtain ⟨i, a, g, hi, rfl, rfl, HG, HK, HY⟩ := hrel
  have r1 := (HS.out _ HY.out).1
  by_cases hin : i < n
  ·
   obtain ⟨bb, oo, x, rfl, hlt, hx, hA⟩ := (HR1.out.below HY.out).at_ (j := i) hin
   have c14 := at14 hA
   have HCx := Lh (HC.out i x hx)
   have hin1 : (i : Int) < (n : Int) := by omega
   have hA2 := Lh hA
   clear hA hx
   by_cases h2 : x.k = 2
   ·
    have HG2 : Hid (x.j = confF j (es.take (i + 1))) := by show _ = _; rw [HCx.out, if_pos h2]
    clear HG HCx HC
    have c15 := blk11 HK.out
    have df := fun i => HK.out.frozen i
    have wi : IntKind.i64.wrap (b + 1) = b + 1 := enti.wrap_sm (by omega) (by omega)
    have wi2 : IntKind.i64.wrap (b + 1 + (i : Int)) = b + 1 + (i : Int) := enti.wrap_sm (by omega) (by omega)
    go_upto_region 6 with (fail)
    have p1 := HY.out.drew
    have HTx : Hid (∀ wq, Below wr.heap.size wr wq → (wq.cell? ⟨bb, oo + i * 14, none⟩ = some (.int .i64 x.t) ∧ wq.cell? ⟨bb, oo + i * 14 + 1, none⟩ = some (.int .i64 x.k) ∧ wq.cell? ⟨bb, oo + i * 14 + 2, none⟩ = some (.string x.d) ∧ wq.cell? ⟨bb, oo + i * 14 + 3, none⟩ = some (j0 x.j) ∧ wq.cell? ⟨bb, oo + i * 14 + 4, none⟩ = some (j1 x.j) ∧ wq.cell? ⟨bb, oo + i * 14 + 5, none⟩ = some (j2 x.j) ∧ wq.cell? ⟨bb, oo + i * 14 + 6, none⟩ = some (j3 x.j) ∧ wq.cell? ⟨bb, oo + i * 14 + 7, none⟩ = some (j4 x.j) ∧ wq.cell? ⟨bb, oo + i * 14 + 8, none⟩ = some (j5 x.j) ∧ wq.cell? ⟨bb, oo + i * 14 + 9, none⟩ = some (j6 x.j) ∧ wq.cell? ⟨bb, oo + i * 14 + 10, none⟩ = some (j7 x.j) ∧ wq.cell? ⟨bb, oo + i * 14 + 11, none⟩ = some (j8 x.j) ∧ wq.cell? ⟨bb, oo + i * 14 + 12, none⟩ = some (j9 x.j) ∧ wq.cell? ⟨bb, oo + i * 14 + 13, none⟩ = some (j10 x.j))) := fun wq hq => at14 (hA2.out.below (Nat.lt_of_lt_of_le hlt HY.out.size) hq)
    have b0 := (Below.refl wr.heap.size wr).drew
    refine wp_region_held_drew (S := fun wq => (wq.cell? ⟨w.heap.size, 0, none⟩ = some (.int .i64 b) ∧ wq.cell? ⟨w.heap.size, 1, none⟩ = some (.int .i64 t) ∧ wq.cell? ⟨w.heap.size, 2, none⟩ = some (j0 j) ∧ wq.cell? ⟨w.heap.size, 3, none⟩ = some (j1 j) ∧ wq.cell? ⟨w.heap.size, 4, none⟩ = some (j2 j) ∧ wq.cell? ⟨w.heap.size, 5, none⟩ = some (j3 j) ∧ wq.cell? ⟨w.heap.size, 6, none⟩ = some (j4 j) ∧ wq.cell? ⟨w.heap.size, 7, none⟩ = some (j5 j) ∧ wq.cell? ⟨w.heap.size, 8, none⟩ = some (j6 j) ∧ wq.cell? ⟨w.heap.size, 9, none⟩ = some (j7 j) ∧ wq.cell? ⟨w.heap.size, 10, none⟩ = some (j8 j) ∧ wq.cell? ⟨w.heap.size, 11, none⟩ = some (j9 j) ∧ wq.cell? ⟨w.heap.size, 12, none⟩ = some (j10 j) ∧ wq.cell? ⟨w.heap.size, 13, none⟩ = some (.slice (some ⟨bb, oo, none⟩) n c)) ∧ (wq.cell? ⟨bb, oo + i * 14, none⟩ = some (.int .i64 x.t) ∧ wq.cell? ⟨bb, oo + i * 14 + 1, none⟩ = some (.int .i64 x.k) ∧ wq.cell? ⟨bb, oo + i * 14 + 2, none⟩ = some (.string x.d) ∧ wq.cell? ⟨bb, oo + i * 14 + 3, none⟩ = some (j0 x.j) ∧ wq.cell? ⟨bb, oo + i * 14 + 4, none⟩ = some (j1 x.j) ∧ wq.cell? ⟨bb, oo + i * 14 + 5, none⟩ = some (j2 x.j) ∧ wq.cell? ⟨bb, oo + i * 14 + 6, none⟩ = some (j3 x.j) ∧ wq.cell? ⟨bb, oo + i * 14 + 7, none⟩ = some (j4 x.j) ∧ wq.cell? ⟨bb, oo + i * 14 + 8, none⟩ = some (j5 x.j) ∧ wq.cell? ⟨bb, oo + i * 14 + 9, none⟩ = some (j6 x.j) ∧ wq.cell? ⟨bb, oo + i * 14 + 10, none⟩ = some (j7 x.j) ∧ wq.cell? ⟨bb, oo + i * 14 + 11, none⟩ = some (j8 x.j) ∧ wq.cell? ⟨bb, oo + i * 14 + 12, none⟩ = some (j9 x.j) ∧ wq.cell? ⟨bb, oo + i * 14 + 13, none⟩ = some (j10 x.j))) (by kernel_rfl) ?s_rca6 (fun hHeld => ?_)
    case s_rca6 => exact ⟨(HS.out _ p1).1, HTx.out _ b0⟩
    iterate 11 (refine tx 0 _ ?_; try simp only [Act.put, ka, kb, kc])
    refine rr [11] ?_
    refine rc (fun KQ hKQ => ?_) AllReadyH.nil
    have kd := HK.out
    go_simp
    have sF : Blk 27 ((((((((((((wr.setCell ⟨w1.heap.size, 0, none⟩ (j0 x.j)).setCell ⟨w1.heap.size, 1, none⟩ (j1 x.j)).setCell ⟨w1.heap.size, 2, none⟩ (j2 x.j)).setCell ⟨w1.heap.size, 3, none⟩ (j3 x.j)).setCell ⟨w1.heap.size, 4, none⟩ (j4 x.j)).setCell ⟨w1.heap.size, 5, none⟩ (j5 x.j)).setCell ⟨w1.heap.size, 6, none⟩ (j6 x.j)).setCell ⟨w1.heap.size, 7, none⟩ (j7 x.j)).setCell ⟨w1.heap.size, 8, none⟩ (j8 x.j)).setCell ⟨w1.heap.size, 9, none⟩ (j9 x.j)).setCell ⟨w1.heap.size, 10, none⟩ (j10 x.j))).drew w1.heap.size [j0 x.j, j1 x.j, j2 x.j, j3 x.j, j4 x.j, j5 x.j, j6 x.j, j7 x.j, j8 x.j, j9 x.j, j10 x.j] := Blk.drew (put11 (j0 x.j) (j1 x.j) (j2 x.j) (j3 x.j) (j4 x.j) (j5 x.j) (j6 x.j) (j7 x.j) (j8 x.j) (j9 x.j) (j10 x.j) HK.out)
    have bF := (below11 (g := w1.heap.size) (j0 x.j) (j1 x.j) (j2 x.j) (j3 x.j) (j4 x.j) (j5 x.j) (j6 x.j) (j7 x.j) (j8 x.j) (j9 x.j) (j10 x.j) HY.out (Nat.le_refl _)).drew
    have s2 := (HS.out _ bF).1
    have s3 := at14 (hA2.out.below hlt (below11 (g := w1.heap.size) (j0 x.j) (j1 x.j) (j2 x.j) (j3 x.j) (j4 x.j) (j5 x.j) (j6 x.j) (j7 x.j) (j8 x.j) (j9 x.j) (j10 x.j) (Below.refl w1.heap.size wr) (Nat.le_refl _)).drew)
    generalize ((((((((((((wr.setCell ⟨w1.heap.size, 0, none⟩ (j0 x.j)).setCell ⟨w1.heap.size, 1, none⟩ (j1 x.j)).setCell ⟨w1.heap.size, 2, none⟩ (j2 x.j)).setCell ⟨w1.heap.size, 3, none⟩ (j3 x.j)).setCell ⟨w1.heap.size, 4, none⟩ (j4 x.j)).setCell ⟨w1.heap.size, 5, none⟩ (j5 x.j)).setCell ⟨w1.heap.size, 6, none⟩ (j6 x.j)).setCell ⟨w1.heap.size, 7, none⟩ (j7 x.j)).setCell ⟨w1.heap.size, 8, none⟩ (j8 x.j)).setCell ⟨w1.heap.size, 9, none⟩ (j9 x.j)).setCell ⟨w1.heap.size, 10, none⟩ (j10 x.j))).drew = wf at *
    refine hKQ.out _ _ (⟨s2, s3⟩) (fun _ => ?_)
    clear hKQ KQ
    try simp only [Act.put]
    refine tj 12 _ ?_
    try simp only [Act.put, ka, kb, kc]
    refine wpAnyH_done (by kernel_rfl) ?_ _
    go_wp2_with fail
    go_roundw
    case rel => exact ⟨i + 1, _, x.j, by omega, rfl, by go_num, HG2, Lh sF, Lh bF⟩
    case measure => simp [intOf] <;> omega
   ·
    have HG2 : Hid (g = confF j (es.take (i + 1))) := by show _ = _; rw [HCx.out, if_neg h2]; exact HG.out
    clear HG HCx HC
    go_wp2_with fail
    go_roundw
    case rel => exact ⟨i + 1, a, g, by omega, rfl, by go_num, HG2, HK, HY⟩
    case measure => simp [intOf] <;> omega
  ·
   obtain rfl : i = n := by omega
   have HG2 : Hid (G = g) := by show _ = _; rw [← HN.out]; exact HG.out.symm
   clear HC HG HN H0
   have c15 := blk11 HK.out
   have r2 := (HS.out _ HY.out).2
   have df := fun i => (K1.out.below HY.out K1.out.lt).frozen i
   go_wp2_with fail
   have sF := put11 (j0 g) (j1 g) (j2 g) (j3 g) (j4 g) (j5 g) (j6 g) (j7 g) (j8 g) (j9 g) (j10 g) (K1.out.below HY.out K1.out.lt)
   have bF := below11 (g := w.heap.size + 1) (j0 g) (j1 g) (j2 g) (j3 g) (j4 g) (j5 g) (j6 g) (j7 g) (j8 g) (j9 g) (j10 g) (HB.out.trans (HY.out.mono HB.out.size)) (by first | omega | simp)
   generalize (((((((((((wr.setCell ⟨w.heap.size + 1, 0, none⟩ (j0 g)).setCell ⟨w.heap.size + 1, 1, none⟩ (j1 g)).setCell ⟨w.heap.size + 1, 2, none⟩ (j2 g)).setCell ⟨w.heap.size + 1, 3, none⟩ (j3 g)).setCell ⟨w.heap.size + 1, 4, none⟩ (j4 g)).setCell ⟨w.heap.size + 1, 5, none⟩ (j5 g)).setCell ⟨w.heap.size + 1, 6, none⟩ (j6 g)).setCell ⟨w.heap.size + 1, 7, none⟩ (j7 g)).setCell ⟨w.heap.size + 1, 8, none⟩ (j8 g)).setCell ⟨w.heap.size + 1, 9, none⟩ (j9 g)).setCell ⟨w.heap.size + 1, 10, none⟩ (j10 g)) = wf at *
   (try simp only [Exit.inBlock, Exit.then])
   refine bodyPost_ret (res2 Tryz.results99 rfl rfl (aggJ _) (sizeJ _) (ld11 sF)) rfl ?_
   exact ⟨a, by rw [HG2.out]; rfl, bF⟩
theorem rconf_any (L : LgL) (A : Option Addr) (n c : Nat) (w : World) (B : Nat) (hR : RdE w B A n L.es) (hB : B ≤ w.heap.size) (hc : n ≤ c) (hf : Fit L) : Calls Tryz.prog 41 #[lgV L (.slice A n c)] w fun e w' => e = .returned (jV (confF L.j L.es)) ∧ Below w.heap.size w w' := by
 have HR := Lh hR
 have hl := hR.1
 have HF := Lh hf
 have hBs := Lh hB
 have HJ : Hid (∀ (j : JtL) (es : List EnL), jV (confF j es) = .agg #[j0 (confF j es), j1 (confF j es), j2 (confF j es), j3 (confF j es), j4 (confF j es), j5 (confF j es), j6 (confF j es), j7 (confF j es), j8 (confF j es), j9 (confF j es), j10 (confF j es)]) := fun j es => rfl
 rw [HJ.out]
 clear hR hB hl hf
 unfold lgV at *
 obtain ⟨b, t, j, es⟩ := L
 dsimp only at *
 have k0 : Blk 30 (w.alloc (.cells #[.int .i64 b, .int .i64 t, j0 j, j1 j, j2 j, j3 j, j4 j, j5 j, j6 j, j7 j, j8 j, j9 j, j10 j, .slice A n c] 30)) w.heap.size [.int .i64 b, .int .i64 t, j0 j, j1 j, j2 j, j3 j, j4 j, j5 j, j6 j, j7 j, j8 j, j9 j, j10 j, .slice A n c] := (heap_alloc_new w (.cells #[.int .i64 b, .int .i64 t, j0 j, j1 j, j2 j, j3 j, j4 j, j5 j, j6 j, j7 j, j8 j, j9 j, j10 j, .slice A n c] 30))
 replace k0 : Blk 30 ((w.alloc (.cells #[.int .i64 b, .int .i64 t, j0 j, j1 j, j2 j, j3 j, j4 j, j5 j, j6 j, j7 j, j8 j, j9 j, j10 j, .slice A n c] 30)).alloc (.cells #[.int .u16 0, .int .u16 0, .int .u16 0, .int .i64 0, .int .i64 0, .int .u16 0, .int .u16 0, .int .u16 0, .int .i64 0, .int .i64 0, .bool false] 27)) w.heap.size [.int .i64 b, .int .i64 t, j0 j, j1 j, j2 j, j3 j, j4 j, j5 j, j6 j, j7 j, j8 j, j9 j, j10 j, .slice A n c] := k0.alloc _
 have k1 : Blk 27 ((w.alloc (.cells #[.int .i64 b, .int .i64 t, j0 j, j1 j, j2 j, j3 j, j4 j, j5 j, j6 j, j7 j, j8 j, j9 j, j10 j, .slice A n c] 30)).alloc (.cells #[.int .u16 0, .int .u16 0, .int .u16 0, .int .i64 0, .int .i64 0, .int .u16 0, .int .u16 0, .int .u16 0, .int .i64 0, .int .i64 0, .bool false] 27)) (w.heap.size + 1) [.int .u16 0, .int .u16 0, .int .u16 0, .int .i64 0, .int .i64 0, .int .u16 0, .int .u16 0, .int .u16 0, .int .i64 0, .int .i64 0, .bool false] := (by have h := heap_alloc_new (w.alloc (.cells #[.int .i64 b, .int .i64 t, j0 j, j1 j, j2 j, j3 j, j4 j, j5 j, j6 j, j7 j, j8 j, j9 j, j10 j, .slice A n c] 30)) (.cells #[.int .u16 0, .int .u16 0, .int .u16 0, .int .i64 0, .int .i64 0, .int .u16 0, .int .u16 0, .int .u16 0, .int .i64 0, .int .i64 0, .bool false] 27); rwa [show (w.alloc (.cells #[.int .i64 b, .int .i64 t, j0 j, j1 j, j2 j, j3 j, j4 j, j5 j, j6 j, j7 j, j8 j, j9 j, j10 j, .slice A n c] 30)).heap.size = w.heap.size + 1 by simp] at h)
 have hB : Below w.heap.size w ((w.alloc (.cells #[.int .i64 b, .int .i64 t, j0 j, j1 j, j2 j, j3 j, j4 j, j5 j, j6 j, j7 j, j8 j, j9 j, j10 j, .slice A n c] 30)).alloc (.cells #[.int .u16 0, .int .u16 0, .int .u16 0, .int .i64 0, .int .i64 0, .int .u16 0, .int .u16 0, .int .u16 0, .int .i64 0, .int .i64 0, .bool false] 27)) := (((Below.refl w.heap.size w).alloc (by first | exact Nat.le_refl _ | (simp; done) | (simp; omega)) (.cells #[.int .i64 b, .int .i64 t, j0 j, j1 j, j2 j, j3 j, j4 j, j5 j, j6 j, j7 j, j8 j, j9 j, j10 j, .slice A n c] 30)).alloc (by first | exact Nat.le_refl _ | (simp; done) | (simp; omega)) (.cells #[.int .u16 0, .int .u16 0, .int .u16 0, .int .i64 0, .int .i64 0, .int .u16 0, .int .u16 0, .int .u16 0, .int .i64 0, .int .i64 0, .bool false] 27))
 have HB := Lh hB
 have HS : Hid (∀ wq, Below ((w.alloc (.cells #[.int .i64 b, .int .i64 t, j0 j, j1 j, j2 j, j3 j, j4 j, j5 j, j6 j, j7 j, j8 j, j9 j, j10 j, .slice A n c] 30)).alloc (.cells #[.int .u16 0, .int .u16 0, .int .u16 0, .int .i64 0, .int .i64 0, .int .u16 0, .int .u16 0, .int .u16 0, .int .i64 0, .int .i64 0, .bool false] 27)).heap.size ((w.alloc (.cells #[.int .i64 b, .int .i64 t, j0 j, j1 j, j2 j, j3 j, j4 j, j5 j, j6 j, j7 j, j8 j, j9 j, j10 j, .slice A n c] 30)).alloc (.cells #[.int .u16 0, .int .u16 0, .int .u16 0, .int .i64 0, .int .i64 0, .int .u16 0, .int .u16 0, .int .u16 0, .int .i64 0, .int .i64 0, .bool false] 27)) wq → (wq.cell? ⟨w.heap.size, 0, none⟩ = some (.int .i64 b) ∧ wq.cell? ⟨w.heap.size, 1, none⟩ = some (.int .i64 t) ∧ wq.cell? ⟨w.heap.size, 2, none⟩ = some (j0 j) ∧ wq.cell? ⟨w.heap.size, 3, none⟩ = some (j1 j) ∧ wq.cell? ⟨w.heap.size, 4, none⟩ = some (j2 j) ∧ wq.cell? ⟨w.heap.size, 5, none⟩ = some (j3 j) ∧ wq.cell? ⟨w.heap.size, 6, none⟩ = some (j4 j) ∧ wq.cell? ⟨w.heap.size, 7, none⟩ = some (j5 j) ∧ wq.cell? ⟨w.heap.size, 8, none⟩ = some (j6 j) ∧ wq.cell? ⟨w.heap.size, 9, none⟩ = some (j7 j) ∧ wq.cell? ⟨w.heap.size, 10, none⟩ = some (j8 j) ∧ wq.cell? ⟨w.heap.size, 11, none⟩ = some (j9 j) ∧ wq.cell? ⟨w.heap.size, 12, none⟩ = some (j10 j) ∧ wq.cell? ⟨w.heap.size, 13, none⟩ = some (.slice A n c)) ∧ (wq.cell? ⟨(w.heap.size + 1), 0, none⟩ = some (.int .u16 0) ∧ wq.cell? ⟨(w.heap.size + 1), 1, none⟩ = some (.int .u16 0) ∧ wq.cell? ⟨(w.heap.size + 1), 2, none⟩ = some (.int .u16 0) ∧ wq.cell? ⟨(w.heap.size + 1), 3, none⟩ = some (.int .i64 0) ∧ wq.cell? ⟨(w.heap.size + 1), 4, none⟩ = some (.int .i64 0) ∧ wq.cell? ⟨(w.heap.size + 1), 5, none⟩ = some (.int .u16 0) ∧ wq.cell? ⟨(w.heap.size + 1), 6, none⟩ = some (.int .u16 0) ∧ wq.cell? ⟨(w.heap.size + 1), 7, none⟩ = some (.int .u16 0) ∧ wq.cell? ⟨(w.heap.size + 1), 8, none⟩ = some (.int .i64 0) ∧ wq.cell? ⟨(w.heap.size + 1), 9, none⟩ = some (.int .i64 0) ∧ wq.cell? ⟨(w.heap.size + 1), 10, none⟩ = some (.bool false))) := fun wq hq => ⟨blk14 (k0.below hq k0.lt), blk11 (k1.below hq k1.lt)⟩
 have q0 := Below.refl ((w.alloc (.cells #[.int .i64 b, .int .i64 t, j0 j, j1 j, j2 j, j3 j, j4 j, j5 j, j6 j, j7 j, j8 j, j9 j, j10 j, .slice A n c] 30)).alloc (.cells #[.int .u16 0, .int .u16 0, .int .u16 0, .int .i64 0, .int .i64 0, .int .u16 0, .int .u16 0, .int .u16 0, .int .i64 0, .int .i64 0, .bool false] 27)).heap.size ((w.alloc (.cells #[.int .i64 b, .int .i64 t, j0 j, j1 j, j2 j, j3 j, j4 j, j5 j, j6 j, j7 j, j8 j, j9 j, j10 j, .slice A n c] 30)).alloc (.cells #[.int .u16 0, .int .u16 0, .int .u16 0, .int .i64 0, .int .i64 0, .int .u16 0, .int .u16 0, .int .u16 0, .int .i64 0, .int .i64 0, .bool false] 27))
 have K0 := Lh k0
 have K1 := Lh k1
 clear hB k0 k1
 go_enter Tryz.func41, Tryz.ntmps41
 go_upto_region 1 with (fail)
 generalize ((w.alloc (.cells #[.int .i64 b, .int .i64 t, j0 j, j1 j, j2 j, j3 j, j4 j, j5 j, j6 j, j7 j, j8 j, j9 j, j10 j, .slice A n c] 30)).alloc (.cells #[.int .u16 0, .int .u16 0, .int .u16 0, .int .i64 0, .int .i64 0, .int .u16 0, .int .u16 0, .int .u16 0, .int .i64 0, .int .i64 0, .bool false] 27)) = w1 at *
 have HR1 := Lh (HR.out.on (HB.out.mono hBs.out) (Nat.le_trans hBs.out HB.out.size))
 have CI := Lh (fun w' (hb : Below w1.heap.size w1 w') => rconfat_any ⟨b, t, j, es⟩ A n c w' w1.heap.size (HR1.out.below hb) hb.size hc HF.out)
 unfold lgV jV at CI
 dsimp only at CI
 have r0 := HS.out _ q0
 go_wp2_with fail
 refine (CI.out _ q0).mono ?_
 rintro e y1 ⟨a, rfl, hY1⟩
 have q1 := q0.trans (hY1.mono q0.size)
 clear r0
 have r1 := HS.out _ q1
 go_upto_region 2 with (fail)
 have kE : Blk 27 (y1.alloc (.cells #[j0 (confF j es), j1 (confF j es), j2 (confF j es), j3 (confF j es), j4 (confF j es), j5 (confF j es), j6 (confF j es), j7 (confF j es), j8 (confF j es), j9 (confF j es), j10 (confF j es)] 27)) y1.heap.size [j0 (confF j es), j1 (confF j es), j2 (confF j es), j3 (confF j es), j4 (confF j es), j5 (confF j es), j6 (confF j es), j7 (confF j es), j8 (confF j es), j9 (confF j es), j10 (confF j es)] := heap_alloc_new y1 (.cells #[j0 (confF j es), j1 (confF j es), j2 (confF j es), j3 (confF j es), j4 (confF j es), j5 (confF j es), j6 (confF j es), j7 (confF j es), j8 (confF j es), j9 (confF j es), j10 (confF j es)] 27)
 have q2 := Below.alloc q1 (Below.size q1) (.cells #[j0 (confF j es), j1 (confF j es), j2 (confF j es), j3 (confF j es), j4 (confF j es), j5 (confF j es), j6 (confF j es), j7 (confF j es), j8 (confF j es), j9 (confF j es), j10 (confF j es)] 27)
 generalize (y1.alloc (.cells #[j0 (confF j es), j1 (confF j es), j2 (confF j es), j3 (confF j es), j4 (confF j es), j5 (confF j es), j6 (confF j es), j7 (confF j es), j8 (confF j es), j9 (confF j es), j10 (confF j es)] 27)) = w2 at *
 have r2 := HS.out _ q2
 have c15 := blk11 kE
 have df := fun i => (K1.out.below q2 K1.out.lt).frozen i
 clear r1
 go_wp2_with fail
 have sF := put11 (j0 (confF j es)) (j1 (confF j es)) (j2 (confF j es)) (j3 (confF j es)) (j4 (confF j es)) (j5 (confF j es)) (j6 (confF j es)) (j7 (confF j es)) (j8 (confF j es)) (j9 (confF j es)) (j10 (confF j es)) (K1.out.below q2 K1.out.lt)
 have bF := below11 (g := w.heap.size + 1) (j0 (confF j es)) (j1 (confF j es)) (j2 (confF j es)) (j3 (confF j es)) (j4 (confF j es)) (j5 (confF j es)) (j6 (confF j es)) (j7 (confF j es)) (j8 (confF j es)) (j9 (confF j es)) (j10 (confF j es)) (HB.out.trans (q2.mono HB.out.size)) (by first | omega | simp)
 generalize (((((((((((w2.setCell ⟨w.heap.size + 1, 0, none⟩ (j0 (confF j es))).setCell ⟨w.heap.size + 1, 1, none⟩ (j1 (confF j es))).setCell ⟨w.heap.size + 1, 2, none⟩ (j2 (confF j es))).setCell ⟨w.heap.size + 1, 3, none⟩ (j3 (confF j es))).setCell ⟨w.heap.size + 1, 4, none⟩ (j4 (confF j es))).setCell ⟨w.heap.size + 1, 5, none⟩ (j5 (confF j es))).setCell ⟨w.heap.size + 1, 6, none⟩ (j6 (confF j es))).setCell ⟨w.heap.size + 1, 7, none⟩ (j7 (confF j es))).setCell ⟨w.heap.size + 1, 8, none⟩ (j8 (confF j es))).setCell ⟨w.heap.size + 1, 9, none⟩ (j9 (confF j es))).setCell ⟨w.heap.size + 1, 10, none⟩ (j10 (confF j es))) = wf at *
 (try simp only [Exit.inBlock, Exit.then])
 refine bodyPost_ret (res1 Tryz.results41 rfl (aggJ _) (sizeJ _) (ld11 sF)) rfl ?_
 exact ⟨by rfl, bF⟩
end Go.Proofs.YtegnfkbmlalkeaaGreat.ref12
