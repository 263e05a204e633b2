/- The document's entries: Copy. Conditions: the log's numbers stay far from the ends of an int. -/
import Derived.Test.YteadkgjikaikjaaEntA
import Derived.Test.YteadkgjikaikjaaKitLg
import Derived.Test.YteadkgjikaikjaaTk
import Derived.Deep.RegionHeld3
import Derived.Deep.Cut
import Derived.Lib.Hide
namespace Go.Proofs.Yteadkgjikaikjaa.ref12
open Go Go.RowKit Go.Proofs.Yteadkgjikaikjaa.kit Go.Proofs.Yteadkgjikaikjaa.nums Go.Proofs.Yteadkgjikaikjaa.cf Go.Proofs.Yteadkgjikaikjaa.lg
set_option linter.unusedVariables false
set_option maxHeartbeats 1000000 in
theorem rcopy_any (L : LgL) (A : Option Addr) (n c : Nat) (w : World) (B : Nat) (hR : RdE w B A n L.es) (hB : B ≤ w.heap.size) (hc : n ≤ c) (hf : Fit L) : Calls Try.prog 26 #[lgV L (.slice A n c)] w fun e w' => ∃ A' c', e = .returned (lgV L (.slice A' n c')) ∧ OwnE w' w.heap.size (.slice A' n c') L.es ∧ Below w.heap.size w w' := by
  have HR := Lib.hid hR
  have hl := hR.1
  have HF := Lib.hid hf
  have hBs := Lib.hid hB
  have f2 := hf.2.2
  rw [hl] at f2
  clear hR hB hl hf
  unfold lgV at *
  obtain ⟨b, t, j, es⟩ := L
  dsimp only at *
  have k0 : Blk 30 (w.alloc (.cells #[.int .i64 b, .int .i64 t, j0 j, j1 j, j2 j, j3 j, j4 j, j5 j, j6 j, j7 j, j8 j, j9 j, j10 j, .slice A n c] 30)) w.heap.size [.int .i64 b, .int .i64 t, j0 j, j1 j, j2 j, j3 j, j4 j, j5 j, j6 j, j7 j, j8 j, j9 j, j10 j, .slice A n c] := (heap_alloc_new w (.cells #[.int .i64 b, .int .i64 t, j0 j, j1 j, j2 j, j3 j, j4 j, j5 j, j6 j, j7 j, j8 j, j9 j, j10 j, .slice A n c] 30))
  replace k0 : Blk 30 ((w.alloc (.cells #[.int .i64 b, .int .i64 t, j0 j, j1 j, j2 j, j3 j, j4 j, j5 j, j6 j, j7 j, j8 j, j9 j, j10 j, .slice A n c] 30)).alloc (.cells #[.int .i64 0, .int .i64 0, .int .u16 0, .int .u16 0, .int .u16 0, .int .i64 0, .int .i64 0, .int .u16 0, .int .u16 0, .int .u16 0, .int .i64 0, .int .i64 0, .bool false, .slice none 0 0] 30)) w.heap.size [.int .i64 b, .int .i64 t, j0 j, j1 j, j2 j, j3 j, j4 j, j5 j, j6 j, j7 j, j8 j, j9 j, j10 j, .slice A n c] := k0.alloc _
  have k1 : Blk 30 ((w.alloc (.cells #[.int .i64 b, .int .i64 t, j0 j, j1 j, j2 j, j3 j, j4 j, j5 j, j6 j, j7 j, j8 j, j9 j, j10 j, .slice A n c] 30)).alloc (.cells #[.int .i64 0, .int .i64 0, .int .u16 0, .int .u16 0, .int .u16 0, .int .i64 0, .int .i64 0, .int .u16 0, .int .u16 0, .int .u16 0, .int .i64 0, .int .i64 0, .bool false, .slice none 0 0] 30)) (w.heap.size + 1) [.int .i64 0, .int .i64 0, .int .u16 0, .int .u16 0, .int .u16 0, .int .i64 0, .int .i64 0, .int .u16 0, .int .u16 0, .int .u16 0, .int .i64 0, .int .i64 0, .bool false, .slice none 0 0] := (by have h := heap_alloc_new (w.alloc (.cells #[.int .i64 b, .int .i64 t, j0 j, j1 j, j2 j, j3 j, j4 j, j5 j, j6 j, j7 j, j8 j, j9 j, j10 j, .slice A n c] 30)) (.cells #[.int .i64 0, .int .i64 0, .int .u16 0, .int .u16 0, .int .u16 0, .int .i64 0, .int .i64 0, .int .u16 0, .int .u16 0, .int .u16 0, .int .i64 0, .int .i64 0, .bool false, .slice none 0 0] 30); rwa [show (w.alloc (.cells #[.int .i64 b, .int .i64 t, j0 j, j1 j, j2 j, j3 j, j4 j, j5 j, j6 j, j7 j, j8 j, j9 j, j10 j, .slice A n c] 30)).heap.size = w.heap.size + 1 by simp] at h)
  have hB : Below w.heap.size w ((w.alloc (.cells #[.int .i64 b, .int .i64 t, j0 j, j1 j, j2 j, j3 j, j4 j, j5 j, j6 j, j7 j, j8 j, j9 j, j10 j, .slice A n c] 30)).alloc (.cells #[.int .i64 0, .int .i64 0, .int .u16 0, .int .u16 0, .int .u16 0, .int .i64 0, .int .i64 0, .int .u16 0, .int .u16 0, .int .u16 0, .int .i64 0, .int .i64 0, .bool false, .slice none 0 0] 30)) := (((Below.refl w.heap.size w).alloc (by first | exact Nat.le_refl _ | (simp; done) | (simp; omega)) (.cells #[.int .i64 b, .int .i64 t, j0 j, j1 j, j2 j, j3 j, j4 j, j5 j, j6 j, j7 j, j8 j, j9 j, j10 j, .slice A n c] 30)).alloc (by first | exact Nat.le_refl _ | (simp; done) | (simp; omega)) (.cells #[.int .i64 0, .int .i64 0, .int .u16 0, .int .u16 0, .int .u16 0, .int .i64 0, .int .i64 0, .int .u16 0, .int .u16 0, .int .u16 0, .int .i64 0, .int .i64 0, .bool false, .slice none 0 0] 30))
  have HB := Lib.hid hB
  have HS : Hid (∀ wq, Below ((w.alloc (.cells #[.int .i64 b, .int .i64 t, j0 j, j1 j, j2 j, j3 j, j4 j, j5 j, j6 j, j7 j, j8 j, j9 j, j10 j, .slice A n c] 30)).alloc (.cells #[.int .i64 0, .int .i64 0, .int .u16 0, .int .u16 0, .int .u16 0, .int .i64 0, .int .i64 0, .int .u16 0, .int .u16 0, .int .u16 0, .int .i64 0, .int .i64 0, .bool false, .slice none 0 0] 30)).heap.size ((w.alloc (.cells #[.int .i64 b, .int .i64 t, j0 j, j1 j, j2 j, j3 j, j4 j, j5 j, j6 j, j7 j, j8 j, j9 j, j10 j, .slice A n c] 30)).alloc (.cells #[.int .i64 0, .int .i64 0, .int .u16 0, .int .u16 0, .int .u16 0, .int .i64 0, .int .i64 0, .int .u16 0, .int .u16 0, .int .u16 0, .int .i64 0, .int .i64 0, .bool false, .slice none 0 0] 30)) wq → (wq.cell? ⟨w.heap.size, 0, none⟩ = some (.int .i64 b) ∧ wq.cell? ⟨w.heap.size, 1, none⟩ = some (.int .i64 t) ∧ wq.cell? ⟨w.heap.size, 2, none⟩ = some (j0 j) ∧ wq.cell? ⟨w.heap.size, 3, none⟩ = some (j1 j) ∧ wq.cell? ⟨w.heap.size, 4, none⟩ = some (j2 j) ∧ wq.cell? ⟨w.heap.size, 5, none⟩ = some (j3 j) ∧ wq.cell? ⟨w.heap.size, 6, none⟩ = some (j4 j) ∧ wq.cell? ⟨w.heap.size, 7, none⟩ = some (j5 j) ∧ wq.cell? ⟨w.heap.size, 8, none⟩ = some (j6 j) ∧ wq.cell? ⟨w.heap.size, 9, none⟩ = some (j7 j) ∧ wq.cell? ⟨w.heap.size, 10, none⟩ = some (j8 j) ∧ wq.cell? ⟨w.heap.size, 11, none⟩ = some (j9 j) ∧ wq.cell? ⟨w.heap.size, 12, none⟩ = some (j10 j) ∧ wq.cell? ⟨w.heap.size, 13, none⟩ = some (.slice A n c)) ∧ (wq.cell? ⟨(w.heap.size + 1), 0, none⟩ = some (.int .i64 0) ∧ wq.cell? ⟨(w.heap.size + 1), 1, none⟩ = some (.int .i64 0) ∧ wq.cell? ⟨(w.heap.size + 1), 2, none⟩ = some (.int .u16 0) ∧ wq.cell? ⟨(w.heap.size + 1), 3, none⟩ = some (.int .u16 0) ∧ wq.cell? ⟨(w.heap.size + 1), 4, none⟩ = some (.int .u16 0) ∧ wq.cell? ⟨(w.heap.size + 1), 5, none⟩ = some (.int .i64 0) ∧ wq.cell? ⟨(w.heap.size + 1), 6, none⟩ = some (.int .i64 0) ∧ wq.cell? ⟨(w.heap.size + 1), 7, none⟩ = some (.int .u16 0) ∧ wq.cell? ⟨(w.heap.size + 1), 8, none⟩ = some (.int .u16 0) ∧ wq.cell? ⟨(w.heap.size + 1), 9, none⟩ = some (.int .u16 0) ∧ wq.cell? ⟨(w.heap.size + 1), 10, none⟩ = some (.int .i64 0) ∧ wq.cell? ⟨(w.heap.size + 1), 11, none⟩ = some (.int .i64 0) ∧ wq.cell? ⟨(w.heap.size + 1), 12, none⟩ = some (.bool false) ∧ wq.cell? ⟨(w.heap.size + 1), 13, none⟩ = some (.slice none 0 0))) := fun wq hq => ⟨blk14 (k0.below hq k0.lt), blk14 (k1.below hq k1.lt)⟩
  have q0 := Below.refl ((w.alloc (.cells #[.int .i64 b, .int .i64 t, j0 j, j1 j, j2 j, j3 j, j4 j, j5 j, j6 j, j7 j, j8 j, j9 j, j10 j, .slice A n c] 30)).alloc (.cells #[.int .i64 0, .int .i64 0, .int .u16 0, .int .u16 0, .int .u16 0, .int .i64 0, .int .i64 0, .int .u16 0, .int .u16 0, .int .u16 0, .int .i64 0, .int .i64 0, .bool false, .slice none 0 0] 30)).heap.size ((w.alloc (.cells #[.int .i64 b, .int .i64 t, j0 j, j1 j, j2 j, j3 j, j4 j, j5 j, j6 j, j7 j, j8 j, j9 j, j10 j, .slice A n c] 30)).alloc (.cells #[.int .i64 0, .int .i64 0, .int .u16 0, .int .u16 0, .int .u16 0, .int .i64 0, .int .i64 0, .int .u16 0, .int .u16 0, .int .u16 0, .int .i64 0, .int .i64 0, .bool false, .slice none 0 0] 30))
  have K0 := Lib.hid k0
  have K1 := Lib.hid k1
  clear hB k0 k1
  go_enter Try.func26, Try.ntmps26
  go_upto_region 1 with (fail)
  generalize ((w.alloc (.cells #[.int .i64 b, .int .i64 t, j0 j, j1 j, j2 j, j3 j, j4 j, j5 j, j6 j, j7 j, j8 j, j9 j, j10 j, .slice A n c] 30)).alloc (.cells #[.int .i64 0, .int .i64 0, .int .u16 0, .int .u16 0, .int .u16 0, .int .i64 0, .int .i64 0, .int .u16 0, .int .u16 0, .int .u16 0, .int .i64 0, .int .i64 0, .bool false, .slice none 0 0] 30)) = w1 at *
  have HR1 := Lib.hid (HR.out.on (HB.out.mono hBs.out) (Nat.le_trans hBs.out HB.out.size))
  have kk : Blk 37 (w1.alloc (.cells #[] 37)) w1.heap.size [] := heap_alloc_new w1 _
  have q1 := q0.alloc (Nat.le_refl _) (.cells #[] 37)
  have o0 := OwnE.empty (base := w1.heap.size) kk (Nat.le_refl _)
  have RL := HR1.out.on q1 q1.size
  have r0 := HS.out _ q0
  have r1 := HS.out _ q1
  clear kk
  have o0 := Lib.hid o0
  go_wp2_with (at_builtin; with_reducible refine wpList_append_E rfl (.tmp 3) (.tmp 5) rfl w1.heap.size _ 0 0 [] rfl o0.out _ A n c es rfl RL ?hb1 q1.size ?_)
  case hb1 => omega
  intro A' c' y1 hO hY hG
  (try simp only [Nat.zero_add, List.nil_append] at hO)
  (try simp only [Nat.zero_add])
  have q2 := q1.trans hY
  have r2 := HS.out _ q2
  have l0 := K0.out.lt
  have l1 := Lib.hid K1.out.lt
  have hO := Lib.hid hO
  have df0 := fun i => (K0.out.below q2 K0.out.lt).frozen i
  clear RL r0 r1 hG hY o0
  go_upto_region 2 with (fail)
  have k0 : Blk 30 (y1.setCell ⟨w.heap.size, 13, none⟩ (.slice A' n c')) w.heap.size [.int .i64 b, .int .i64 t, j0 j, j1 j, j2 j, j3 j, j4 j, j5 j, j6 j, j7 j, j8 j, j9 j, j10 j, .slice A' n c'] := (K0.out.below q2 K0.out.lt).set_ 13 _
  have k1 : Blk 30 (y1.setCell ⟨w.heap.size, 13, none⟩ (.slice A' n c')) (w.heap.size + 1) [.int .i64 0, .int .i64 0, .int .u16 0, .int .u16 0, .int .u16 0, .int .i64 0, .int .i64 0, .int .u16 0, .int .u16 0, .int .u16 0, .int .i64 0, .int .i64 0, .bool false, .slice none 0 0] := (K1.out.below q2 K1.out.lt).far (p := ⟨w.heap.size, 13, none⟩) (by show w.heap.size + 1 ≠ w.heap.size; omega) _
  have b2 := (HB.out.trans (q2.mono HB.out.size)).setCell (p := ⟨w.heap.size, 13, none⟩) (Nat.le_refl _) (.slice A' n c')
  have o2 : OwnE (y1.setCell ⟨w.heap.size, 13, none⟩ (.slice A' n c')) w1.heap.size (.slice A' n c') es := hO.out.far (p := ⟨w.heap.size, 13, none⟩) l0 (.slice A' n c')
  clear r2 df0
  generalize (y1.setCell ⟨w.heap.size, 13, none⟩ (.slice A' n c')) = y2 at *
  have c14 := blk14 k0
  have c15 := blk14 k1
  have df := fun i => k1.frozen i
  replace k1 := Lib.hid k1
  replace k0 := Lib.hid k0
  replace o2 := Lib.hid o2
  replace b2 := Lib.hid b2
  go_wp2_with fail
  have sF := put14 (.int .i64 b) (.int .i64 t) (j0 j) (j1 j) (j2 j) (j3 j) (j4 j) (j5 j) (j6 j) (j7 j) (j8 j) (j9 j) (j10 j) (.slice A' n c') k1.out
  have bF := below14 (g := w.heap.size + 1) (.int .i64 b) (.int .i64 t) (j0 j) (j1 j) (j2 j) (j3 j) (j4 j) (j5 j) (j6 j) (j7 j) (j8 j) (j9 j) (j10 j) (.slice A' n c') b2.out (by first | omega | simp)
  have oF := own14 (g := w.heap.size + 1) (.int .i64 b) (.int .i64 t) (j0 j) (j1 j) (j2 j) (j3 j) (j4 j) (j5 j) (j6 j) (j7 j) (j8 j) (j9 j) (j10 j) (.slice A' n c') o2.out l1.out
  generalize ((((((((((((((y2.setCell ⟨w.heap.size + 1, 0, none⟩ (.int .i64 b)).setCell ⟨w.heap.size + 1, 1, none⟩ (.int .i64 t)).setCell ⟨w.heap.size + 1, 2, none⟩ (j0 j)).setCell ⟨w.heap.size + 1, 3, none⟩ (j1 j)).setCell ⟨w.heap.size + 1, 4, none⟩ (j2 j)).setCell ⟨w.heap.size + 1, 5, none⟩ (j3 j)).setCell ⟨w.heap.size + 1, 6, none⟩ (j4 j)).setCell ⟨w.heap.size + 1, 7, none⟩ (j5 j)).setCell ⟨w.heap.size + 1, 8, none⟩ (j6 j)).setCell ⟨w.heap.size + 1, 9, none⟩ (j7 j)).setCell ⟨w.heap.size + 1, 10, none⟩ (j8 j)).setCell ⟨w.heap.size + 1, 11, none⟩ (j9 j)).setCell ⟨w.heap.size + 1, 12, none⟩ (j10 j)).setCell ⟨w.heap.size + 1, 13, none⟩ (.slice A' n c')) = wf at *
  (try simp only [Exit.inBlock, Exit.then])
  refine bodyPost_ret (res1 Try.results26 rfl (aggL _) (sizeL _) (ld14 sF)) rfl ?_
  exact ⟨A', c', by rfl, oF.more (by have := l1.out; omega), bF⟩
end Go.Proofs.Yteadkgjikaikjaa.ref12
