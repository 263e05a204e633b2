/- The document's entries: Push. Conditions: the log's numbers stay far from the ends of an int. -/
import Derived.Deep.RegionHeld3
import Derived.Deep.Cut
import Derived.Lib.Hide
import Derived.Test.YtegnfkbmlalkeaaGreatSpJ1
import Derived.Test.YtegnfkbmlalkeaaGreatSpKitLg
import Derived.Test.YtegnfkbmlalkeaaGreatSpJ0
set_option linter.unusedVariables false
set_option maxHeartbeats 16000000
set_option maxRecDepth 10000
namespace Go.Proofs.YtegnfkbmlalkeaaGreat.ref12
open Go Go.RowKit kit nums cf lg
theorem rpush_any (L : LgL) (A : Option Addr) (n c : Nat) (x : EnL) (w : World) (B : Nat) (hR : RdE w B A n L.es) (hB : B ≤ w.heap.size) (hc : n ≤ c) (hf : Fit L) : Calls Tryz.prog 146 #[lgV L (.slice A n c), enV x] w fun e w' => ∃ A' n' c', e = .returned (lgV (pushF L x) (.slice A' n' c')) ∧ n' = (pushF L x).es.length ∧ OwnE w' w.heap.size (.slice A' n' c') (pushF L x).es ∧ Below w.heap.size w w' := by
 have HR := Lh hR
 have hl := hR.1
 have HF := Lh hf
 have hBs := Lh hB
 have f2 := hf.2.2
 rw [hl] at f2
 clear hR hB hl hf
 unfold lgV enV pushF at *
 obtain ⟨b, t, j, es⟩ := L
 dsimp only at *
 have k0 : Blk 30 (w.alloc (.cells #[.int .i64 b, .int .i64 t, j0 j, j1 j, j2 j, j3 j, j4 j, j5 j, j6 j, j7 j, j8 j, j9 j, j10 j, .slice A n c] 30)) w.heap.size [.int .i64 b, .int .i64 t, j0 j, j1 j, j2 j, j3 j, j4 j, j5 j, j6 j, j7 j, j8 j, j9 j, j10 j, .slice A n c] := (heap_alloc_new w (.cells #[.int .i64 b, .int .i64 t, j0 j, j1 j, j2 j, j3 j, j4 j, j5 j, j6 j, j7 j, j8 j, j9 j, j10 j, .slice A n c] 30))
 replace k0 : Blk 30 ((w.alloc (.cells #[.int .i64 b, .int .i64 t, j0 j, j1 j, j2 j, j3 j, j4 j, j5 j, j6 j, j7 j, j8 j, j9 j, j10 j, .slice A n c] 30)).alloc (.cells #[.int .i64 x.t, .int .i64 x.k, .string x.d, j0 x.j, j1 x.j, j2 x.j, j3 x.j, j4 x.j, j5 x.j, j6 x.j, j7 x.j, j8 x.j, j9 x.j, j10 x.j] 52)) w.heap.size [.int .i64 b, .int .i64 t, j0 j, j1 j, j2 j, j3 j, j4 j, j5 j, j6 j, j7 j, j8 j, j9 j, j10 j, .slice A n c] := k0.alloc _
 replace k0 : Blk 30 (((w.alloc (.cells #[.int .i64 b, .int .i64 t, j0 j, j1 j, j2 j, j3 j, j4 j, j5 j, j6 j, j7 j, j8 j, j9 j, j10 j, .slice A n c] 30)).alloc (.cells #[.int .i64 x.t, .int .i64 x.k, .string x.d, j0 x.j, j1 x.j, j2 x.j, j3 x.j, j4 x.j, j5 x.j, j6 x.j, j7 x.j, j8 x.j, j9 x.j, j10 x.j] 52)).alloc (.cells #[.int .i64 0, .int .i64 0, .int .u16 0, .int .u16 0, .int .u16 0, .int .i64 0, .int .i64 0, .int .u16 0, .int .u16 0, .int .u16 0, .int .i64 0, .int .i64 0, .bool false, .slice none 0 0] 30)) w.heap.size [.int .i64 b, .int .i64 t, j0 j, j1 j, j2 j, j3 j, j4 j, j5 j, j6 j, j7 j, j8 j, j9 j, j10 j, .slice A n c] := k0.alloc _
 have k1 : Blk 52 ((w.alloc (.cells #[.int .i64 b, .int .i64 t, j0 j, j1 j, j2 j, j3 j, j4 j, j5 j, j6 j, j7 j, j8 j, j9 j, j10 j, .slice A n c] 30)).alloc (.cells #[.int .i64 x.t, .int .i64 x.k, .string x.d, j0 x.j, j1 x.j, j2 x.j, j3 x.j, j4 x.j, j5 x.j, j6 x.j, j7 x.j, j8 x.j, j9 x.j, j10 x.j] 52)) (w.heap.size + 1) [.int .i64 x.t, .int .i64 x.k, .string x.d, j0 x.j, j1 x.j, j2 x.j, j3 x.j, j4 x.j, j5 x.j, j6 x.j, j7 x.j, j8 x.j, j9 x.j, j10 x.j] := (by have h := heap_alloc_new (w.alloc (.cells #[.int .i64 b, .int .i64 t, j0 j, j1 j, j2 j, j3 j, j4 j, j5 j, j6 j, j7 j, j8 j, j9 j, j10 j, .slice A n c] 30)) (.cells #[.int .i64 x.t, .int .i64 x.k, .string x.d, j0 x.j, j1 x.j, j2 x.j, j3 x.j, j4 x.j, j5 x.j, j6 x.j, j7 x.j, j8 x.j, j9 x.j, j10 x.j] 52); rwa [show (w.alloc (.cells #[.int .i64 b, .int .i64 t, j0 j, j1 j, j2 j, j3 j, j4 j, j5 j, j6 j, j7 j, j8 j, j9 j, j10 j, .slice A n c] 30)).heap.size = w.heap.size + 1 by simp] at h)
 replace k1 : Blk 52 (((w.alloc (.cells #[.int .i64 b, .int .i64 t, j0 j, j1 j, j2 j, j3 j, j4 j, j5 j, j6 j, j7 j, j8 j, j9 j, j10 j, .slice A n c] 30)).alloc (.cells #[.int .i64 x.t, .int .i64 x.k, .string x.d, j0 x.j, j1 x.j, j2 x.j, j3 x.j, j4 x.j, j5 x.j, j6 x.j, j7 x.j, j8 x.j, j9 x.j, j10 x.j] 52)).alloc (.cells #[.int .i64 0, .int .i64 0, .int .u16 0, .int .u16 0, .int .u16 0, .int .i64 0, .int .i64 0, .int .u16 0, .int .u16 0, .int .u16 0, .int .i64 0, .int .i64 0, .bool false, .slice none 0 0] 30)) (w.heap.size + 1) [.int .i64 x.t, .int .i64 x.k, .string x.d, j0 x.j, j1 x.j, j2 x.j, j3 x.j, j4 x.j, j5 x.j, j6 x.j, j7 x.j, j8 x.j, j9 x.j, j10 x.j] := k1.alloc _
 have k2 : Blk 30 (((w.alloc (.cells #[.int .i64 b, .int .i64 t, j0 j, j1 j, j2 j, j3 j, j4 j, j5 j, j6 j, j7 j, j8 j, j9 j, j10 j, .slice A n c] 30)).alloc (.cells #[.int .i64 x.t, .int .i64 x.k, .string x.d, j0 x.j, j1 x.j, j2 x.j, j3 x.j, j4 x.j, j5 x.j, j6 x.j, j7 x.j, j8 x.j, j9 x.j, j10 x.j] 52)).alloc (.cells #[.int .i64 0, .int .i64 0, .int .u16 0, .int .u16 0, .int .u16 0, .int .i64 0, .int .i64 0, .int .u16 0, .int .u16 0, .int .u16 0, .int .i64 0, .int .i64 0, .bool false, .slice none 0 0] 30)) (w.heap.size + 2) [.int .i64 0, .int .i64 0, .int .u16 0, .int .u16 0, .int .u16 0, .int .i64 0, .int .i64 0, .int .u16 0, .int .u16 0, .int .u16 0, .int .i64 0, .int .i64 0, .bool false, .slice none 0 0] := (by have h := heap_alloc_new ((w.alloc (.cells #[.int .i64 b, .int .i64 t, j0 j, j1 j, j2 j, j3 j, j4 j, j5 j, j6 j, j7 j, j8 j, j9 j, j10 j, .slice A n c] 30)).alloc (.cells #[.int .i64 x.t, .int .i64 x.k, .string x.d, j0 x.j, j1 x.j, j2 x.j, j3 x.j, j4 x.j, j5 x.j, j6 x.j, j7 x.j, j8 x.j, j9 x.j, j10 x.j] 52)) (.cells #[.int .i64 0, .int .i64 0, .int .u16 0, .int .u16 0, .int .u16 0, .int .i64 0, .int .i64 0, .int .u16 0, .int .u16 0, .int .u16 0, .int .i64 0, .int .i64 0, .bool false, .slice none 0 0] 30); rwa [show ((w.alloc (.cells #[.int .i64 b, .int .i64 t, j0 j, j1 j, j2 j, j3 j, j4 j, j5 j, j6 j, j7 j, j8 j, j9 j, j10 j, .slice A n c] 30)).alloc (.cells #[.int .i64 x.t, .int .i64 x.k, .string x.d, j0 x.j, j1 x.j, j2 x.j, j3 x.j, j4 x.j, j5 x.j, j6 x.j, j7 x.j, j8 x.j, j9 x.j, j10 x.j] 52)).heap.size = w.heap.size + 2 by simp] at h)
 have hB : Below w.heap.size w (((w.alloc (.cells #[.int .i64 b, .int .i64 t, j0 j, j1 j, j2 j, j3 j, j4 j, j5 j, j6 j, j7 j, j8 j, j9 j, j10 j, .slice A n c] 30)).alloc (.cells #[.int .i64 x.t, .int .i64 x.k, .string x.d, j0 x.j, j1 x.j, j2 x.j, j3 x.j, j4 x.j, j5 x.j, j6 x.j, j7 x.j, j8 x.j, j9 x.j, j10 x.j] 52)).alloc (.cells #[.int .i64 0, .int .i64 0, .int .u16 0, .int .u16 0, .int .u16 0, .int .i64 0, .int .i64 0, .int .u16 0, .int .u16 0, .int .u16 0, .int .i64 0, .int .i64 0, .bool false, .slice none 0 0] 30)) := ((((Below.refl w.heap.size w).alloc (by first | exact Nat.le_refl _ | (simp; done) | (simp; omega)) (.cells #[.int .i64 b, .int .i64 t, j0 j, j1 j, j2 j, j3 j, j4 j, j5 j, j6 j, j7 j, j8 j, j9 j, j10 j, .slice A n c] 30)).alloc (by first | exact Nat.le_refl _ | (simp; done) | (simp; omega)) (.cells #[.int .i64 x.t, .int .i64 x.k, .string x.d, j0 x.j, j1 x.j, j2 x.j, j3 x.j, j4 x.j, j5 x.j, j6 x.j, j7 x.j, j8 x.j, j9 x.j, j10 x.j] 52)).alloc (by first | exact Nat.le_refl _ | (simp; done) | (simp; omega)) (.cells #[.int .i64 0, .int .i64 0, .int .u16 0, .int .u16 0, .int .u16 0, .int .i64 0, .int .i64 0, .int .u16 0, .int .u16 0, .int .u16 0, .int .i64 0, .int .i64 0, .bool false, .slice none 0 0] 30))
 have HB := Lh hB
 have HS : Hid (∀ wq, Below (((w.alloc (.cells #[.int .i64 b, .int .i64 t, j0 j, j1 j, j2 j, j3 j, j4 j, j5 j, j6 j, j7 j, j8 j, j9 j, j10 j, .slice A n c] 30)).alloc (.cells #[.int .i64 x.t, .int .i64 x.k, .string x.d, j0 x.j, j1 x.j, j2 x.j, j3 x.j, j4 x.j, j5 x.j, j6 x.j, j7 x.j, j8 x.j, j9 x.j, j10 x.j] 52)).alloc (.cells #[.int .i64 0, .int .i64 0, .int .u16 0, .int .u16 0, .int .u16 0, .int .i64 0, .int .i64 0, .int .u16 0, .int .u16 0, .int .u16 0, .int .i64 0, .int .i64 0, .bool false, .slice none 0 0] 30)).heap.size (((w.alloc (.cells #[.int .i64 b, .int .i64 t, j0 j, j1 j, j2 j, j3 j, j4 j, j5 j, j6 j, j7 j, j8 j, j9 j, j10 j, .slice A n c] 30)).alloc (.cells #[.int .i64 x.t, .int .i64 x.k, .string x.d, j0 x.j, j1 x.j, j2 x.j, j3 x.j, j4 x.j, j5 x.j, j6 x.j, j7 x.j, j8 x.j, j9 x.j, j10 x.j] 52)).alloc (.cells #[.int .i64 0, .int .i64 0, .int .u16 0, .int .u16 0, .int .u16 0, .int .i64 0, .int .i64 0, .int .u16 0, .int .u16 0, .int .u16 0, .int .i64 0, .int .i64 0, .bool false, .slice none 0 0] 30)) wq → (wq.cell? ⟨w.heap.size, 0, none⟩ = some (.int .i64 b) ∧ wq.cell? ⟨w.heap.size, 1, none⟩ = some (.int .i64 t) ∧ wq.cell? ⟨w.heap.size, 2, none⟩ = some (j0 j) ∧ wq.cell? ⟨w.heap.size, 3, none⟩ = some (j1 j) ∧ wq.cell? ⟨w.heap.size, 4, none⟩ = some (j2 j) ∧ wq.cell? ⟨w.heap.size, 5, none⟩ = some (j3 j) ∧ wq.cell? ⟨w.heap.size, 6, none⟩ = some (j4 j) ∧ wq.cell? ⟨w.heap.size, 7, none⟩ = some (j5 j) ∧ wq.cell? ⟨w.heap.size, 8, none⟩ = some (j6 j) ∧ wq.cell? ⟨w.heap.size, 9, none⟩ = some (j7 j) ∧ wq.cell? ⟨w.heap.size, 10, none⟩ = some (j8 j) ∧ wq.cell? ⟨w.heap.size, 11, none⟩ = some (j9 j) ∧ wq.cell? ⟨w.heap.size, 12, none⟩ = some (j10 j) ∧ wq.cell? ⟨w.heap.size, 13, none⟩ = some (.slice A n c)) ∧ (wq.cell? ⟨(w.heap.size + 1), 0, none⟩ = some (.int .i64 x.t) ∧ wq.cell? ⟨(w.heap.size + 1), 1, none⟩ = some (.int .i64 x.k) ∧ wq.cell? ⟨(w.heap.size + 1), 2, none⟩ = some (.string x.d) ∧ wq.cell? ⟨(w.heap.size + 1), 3, none⟩ = some (j0 x.j) ∧ wq.cell? ⟨(w.heap.size + 1), 4, none⟩ = some (j1 x.j) ∧ wq.cell? ⟨(w.heap.size + 1), 5, none⟩ = some (j2 x.j) ∧ wq.cell? ⟨(w.heap.size + 1), 6, none⟩ = some (j3 x.j) ∧ wq.cell? ⟨(w.heap.size + 1), 7, none⟩ = some (j4 x.j) ∧ wq.cell? ⟨(w.heap.size + 1), 8, none⟩ = some (j5 x.j) ∧ wq.cell? ⟨(w.heap.size + 1), 9, none⟩ = some (j6 x.j) ∧ wq.cell? ⟨(w.heap.size + 1), 10, none⟩ = some (j7 x.j) ∧ wq.cell? ⟨(w.heap.size + 1), 11, none⟩ = some (j8 x.j) ∧ wq.cell? ⟨(w.heap.size + 1), 12, none⟩ = some (j9 x.j) ∧ wq.cell? ⟨(w.heap.size + 1), 13, none⟩ = some (j10 x.j)) ∧ (wq.cell? ⟨(w.heap.size + 2), 0, none⟩ = some (.int .i64 0) ∧ wq.cell? ⟨(w.heap.size + 2), 1, none⟩ = some (.int .i64 0) ∧ wq.cell? ⟨(w.heap.size + 2), 2, none⟩ = some (.int .u16 0) ∧ wq.cell? ⟨(w.heap.size + 2), 3, none⟩ = some (.int .u16 0) ∧ wq.cell? ⟨(w.heap.size + 2), 4, none⟩ = some (.int .u16 0) ∧ wq.cell? ⟨(w.heap.size + 2), 5, none⟩ = some (.int .i64 0) ∧ wq.cell? ⟨(w.heap.size + 2), 6, none⟩ = some (.int .i64 0) ∧ wq.cell? ⟨(w.heap.size + 2), 7, none⟩ = some (.int .u16 0) ∧ wq.cell? ⟨(w.heap.size + 2), 8, none⟩ = some (.int .u16 0) ∧ wq.cell? ⟨(w.heap.size + 2), 9, none⟩ = some (.int .u16 0) ∧ wq.cell? ⟨(w.heap.size + 2), 10, none⟩ = some (.int .i64 0) ∧ wq.cell? ⟨(w.heap.size + 2), 11, none⟩ = some (.int .i64 0) ∧ wq.cell? ⟨(w.heap.size + 2), 12, none⟩ = some (.bool false) ∧ wq.cell? ⟨(w.heap.size + 2), 13, none⟩ = some (.slice none 0 0))) := fun wq hq => ⟨blk14 (k0.below hq k0.lt), blk14 (k1.below hq k1.lt), blk14 (k2.below hq k2.lt)⟩
 have q0 := Below.refl (((w.alloc (.cells #[.int .i64 b, .int .i64 t, j0 j, j1 j, j2 j, j3 j, j4 j, j5 j, j6 j, j7 j, j8 j, j9 j, j10 j, .slice A n c] 30)).alloc (.cells #[.int .i64 x.t, .int .i64 x.k, .string x.d, j0 x.j, j1 x.j, j2 x.j, j3 x.j, j4 x.j, j5 x.j, j6 x.j, j7 x.j, j8 x.j, j9 x.j, j10 x.j] 52)).alloc (.cells #[.int .i64 0, .int .i64 0, .int .u16 0, .int .u16 0, .int .u16 0, .int .i64 0, .int .i64 0, .int .u16 0, .int .u16 0, .int .u16 0, .int .i64 0, .int .i64 0, .bool false, .slice none 0 0] 30)).heap.size (((w.alloc (.cells #[.int .i64 b, .int .i64 t, j0 j, j1 j, j2 j, j3 j, j4 j, j5 j, j6 j, j7 j, j8 j, j9 j, j10 j, .slice A n c] 30)).alloc (.cells #[.int .i64 x.t, .int .i64 x.k, .string x.d, j0 x.j, j1 x.j, j2 x.j, j3 x.j, j4 x.j, j5 x.j, j6 x.j, j7 x.j, j8 x.j, j9 x.j, j10 x.j] 52)).alloc (.cells #[.int .i64 0, .int .i64 0, .int .u16 0, .int .u16 0, .int .u16 0, .int .i64 0, .int .i64 0, .int .u16 0, .int .u16 0, .int .u16 0, .int .i64 0, .int .i64 0, .bool false, .slice none 0 0] 30))
 have K0 := Lh k0
 have K1 := Lh k1
 have K2 := Lh k2
 clear hB k0 k1 k2
 go_enter Tryz.func146, Tryz.ntmps146
 go_upto_region 1 with (fail)
 generalize (((w.alloc (.cells #[.int .i64 b, .int .i64 t, j0 j, j1 j, j2 j, j3 j, j4 j, j5 j, j6 j, j7 j, j8 j, j9 j, j10 j, .slice A n c] 30)).alloc (.cells #[.int .i64 x.t, .int .i64 x.k, .string x.d, j0 x.j, j1 x.j, j2 x.j, j3 x.j, j4 x.j, j5 x.j, j6 x.j, j7 x.j, j8 x.j, j9 x.j, j10 x.j] 52)).alloc (.cells #[.int .i64 0, .int .i64 0, .int .u16 0, .int .u16 0, .int .u16 0, .int .i64 0, .int .i64 0, .int .u16 0, .int .u16 0, .int .u16 0, .int .i64 0, .int .i64 0, .bool false, .slice none 0 0] 30)) = w1 at *
 have HR1 := Lh (HR.out.on (HB.out.mono hBs.out) (Nat.le_trans hBs.out HB.out.size))
 have l0 := K0.out.lt
 have l1 : w.heap.size + 2 < w1.heap.size := K2.out.lt
 have pc := q0.drew
 have hlh := Lh HR1.out.1
 replace l1 := Lh l1
 have HT : Hid (∀ wq, Below w1.heap.size w1 wq → (wq.cell? ⟨w.heap.size + 1, 0, none⟩ = some (.int .i64 x.t) ∧ wq.cell? ⟨w.heap.size + 1, 1, none⟩ = some (.int .i64 x.k) ∧ wq.cell? ⟨w.heap.size + 1, 2, none⟩ = some (.string x.d) ∧ wq.cell? ⟨w.heap.size + 1, 3, none⟩ = some (j0 x.j) ∧ wq.cell? ⟨w.heap.size + 1, 4, none⟩ = some (j1 x.j) ∧ wq.cell? ⟨w.heap.size + 1, 5, none⟩ = some (j2 x.j) ∧ wq.cell? ⟨w.heap.size + 1, 6, none⟩ = some (j3 x.j) ∧ wq.cell? ⟨w.heap.size + 1, 7, none⟩ = some (j4 x.j) ∧ wq.cell? ⟨w.heap.size + 1, 8, none⟩ = some (j5 x.j) ∧ wq.cell? ⟨w.heap.size + 1, 9, none⟩ = some (j6 x.j) ∧ wq.cell? ⟨w.heap.size + 1, 10, none⟩ = some (j7 x.j) ∧ wq.cell? ⟨w.heap.size + 1, 11, none⟩ = some (j8 x.j) ∧ wq.cell? ⟨w.heap.size + 1, 12, none⟩ = some (j9 x.j) ∧ wq.cell? ⟨w.heap.size + 1, 13, none⟩ = some (j10 x.j))) := fun wq hq => (HS.out _ hq).2.1
 have HT13 : Hid (∀ wq, Below w1.heap.size w1 wq → wq.cell? ⟨w.heap.size, 13, none⟩ = some (.slice A n c)) := fun wq hq => (HS.out _ hq).1.2.2.2.2.2.2.2.2.2.2.2.2.2
 refine wp_region_held_drew (S := fun wq => (wq.cell? ⟨w.heap.size + 1, 0, none⟩ = some (.int .i64 x.t) ∧ wq.cell? ⟨w.heap.size + 1, 1, none⟩ = some (.int .i64 x.k) ∧ wq.cell? ⟨w.heap.size + 1, 2, none⟩ = some (.string x.d) ∧ wq.cell? ⟨w.heap.size + 1, 3, none⟩ = some (j0 x.j) ∧ wq.cell? ⟨w.heap.size + 1, 4, none⟩ = some (j1 x.j) ∧ wq.cell? ⟨w.heap.size + 1, 5, none⟩ = some (j2 x.j) ∧ wq.cell? ⟨w.heap.size + 1, 6, none⟩ = some (j3 x.j) ∧ wq.cell? ⟨w.heap.size + 1, 7, none⟩ = some (j4 x.j) ∧ wq.cell? ⟨w.heap.size + 1, 8, none⟩ = some (j5 x.j) ∧ wq.cell? ⟨w.heap.size + 1, 9, none⟩ = some (j6 x.j) ∧ wq.cell? ⟨w.heap.size + 1, 10, none⟩ = some (j7 x.j) ∧ wq.cell? ⟨w.heap.size + 1, 11, none⟩ = some (j8 x.j) ∧ wq.cell? ⟨w.heap.size + 1, 12, none⟩ = some (j9 x.j) ∧ wq.cell? ⟨w.heap.size + 1, 13, none⟩ = some (j10 x.j))) (by kernel_rfl) ?s_rp1 (fun hHeld => ?_)
 case s_rp1 => exact HT.out _ pc
 refine tj 1 _ ?_
 try simp only [Act.put, ka, kb, kc]
 refine tj 4 _ ?_
 try simp only [Act.put, ka, kb, kc]
 refine rr [0, 2, 5] ?_
 refine rc (fun KQ hKQ => ?_) (rc (fun KQ hKQ => ?_) (rc (fun KQ hKQ => ?_) (AllReadyH.nil)))
 ·
  go_simp
  first | (have kk : Blk 52 (z5.alloc (.cells #[] 52)) z5.heap.size [] := heap_alloc_new z5 _; have hb := (Below.refl z5.heap.size z5).alloc (Nat.le_refl _) (.cells #[] 52); have pn := pc.alloc pc.size (.cells #[] 52); have hgk := pc.size; have hgn := Nat.ne_of_lt k5.lt; have k5 := k5.below hb k5.lt; generalize z5.heap.size = g0 at *; generalize (z5.alloc (.cells #[] 52)) = z0 at *) | (have kk : Blk 52 ((w1.alloc (.cells #[] 52)).drew) w1.heap.size [] := Blk.drew (show Blk 52 (w1.alloc (.cells #[] 52)) w1.heap.size [] from heap_alloc_new w1 _); have hb := ((Below.refl w1.heap.size w1).alloc (Nat.le_refl _) (.cells #[] 52)).drew; have pn := hb; have hgk : w1.heap.size ≤ w1.heap.size := Nat.le_refl _; generalize (w1.alloc (.cells #[] 52)).drew = z0 at *)
  have o0 := OwnE.empty kk hgk
  have lg0 := kk.lt
  clear kk pc hb
  have pc := pn
  clear pn
  have s0 := HT.out _ pc
  refine hKQ.out _ _ (s0) (fun _ => ?_)
  clear hKQ KQ
  try simp only [Act.put, ka, kb, kc]
  refine rr [2, 5] ?_
  refine rc (fun KQ hKQ => ?_) (rc (fun KQ hKQ => ?_) (AllReadyH.nil))
  ·
   have c13 := HT13.out _ pc
   go_simp
   have s2 := HT.out _ pc
   refine hKQ.out _ _ (s2) (fun _ => ?_)
   clear hKQ KQ
   try simp only [Act.put, ka, kb, kc]
   refine rr [3, 5] ?_
   refine rc (fun KQ hKQ => ?_) (rc (fun KQ hKQ => ?_) (AllReadyH.nil))
   ·
    refine step_appR rfl _ _ 28 rfl _ _ rfl rfl _ (app_E _ o0 (HR1.out.below pc) (by omega) pc.size) ?_
    rintro v z3 ⟨A3, c3, rfl, o3, hb3, hG3⟩
    (try simp only [Nat.zero_add, List.nil_append] at o3)
    (try simp only [Nat.zero_add])
    (try have k5 := (hG3.block _ k5.lt (by show some _ ≠ some _; intro h; exact hgn (Option.some.inj h))).trans k5)
    have pn := pc.trans hb3
    clear pc o0
    have pc := pn
    clear pn
    have s3 := HT.out _ pc
    refine hKQ.out _ _ (s3) (fun _ => ?_)
    clear hKQ KQ
    try simp only [Act.put, ka, kb, kc]
    refine rr [5] ?_
    refine rc (fun KQ hKQ => ?_) AllReadyH.nil
    go_simp
    first | (have kk : Blk 52 (z3.alloc (.cells #[.int .i64 x.t, .int .i64 x.k, .string x.d, j0 x.j, j1 x.j, j2 x.j, j3 x.j, j4 x.j, j5 x.j, j6 x.j, j7 x.j, j8 x.j, j9 x.j, j10 x.j] 52)) z3.heap.size (enC x) := heap_alloc_new z3 _; have hb := (Below.refl z3.heap.size z3).alloc (Nat.le_refl _) (.cells #[.int .i64 x.t, .int .i64 x.k, .string x.d, j0 x.j, j1 x.j, j2 x.j, j3 x.j, j4 x.j, j5 x.j, j6 x.j, j7 x.j, j8 x.j, j9 x.j, j10 x.j] 52); have pn := pc.alloc pc.size (.cells #[.int .i64 x.t, .int .i64 x.k, .string x.d, j0 x.j, j1 x.j, j2 x.j, j3 x.j, j4 x.j, j5 x.j, j6 x.j, j7 x.j, j8 x.j, j9 x.j, j10 x.j] 52); have hgk := pc.size; have o3 := o3.below hb; generalize z3.heap.size = g5 at *; generalize (z3.alloc (.cells #[.int .i64 x.t, .int .i64 x.k, .string x.d, j0 x.j, j1 x.j, j2 x.j, j3 x.j, j4 x.j, j5 x.j, j6 x.j, j7 x.j, j8 x.j, j9 x.j, j10 x.j] 52)) = z5 at *) | (have kk : Blk 52 (z0.alloc (.cells #[.int .i64 x.t, .int .i64 x.k, .string x.d, j0 x.j, j1 x.j, j2 x.j, j3 x.j, j4 x.j, j5 x.j, j6 x.j, j7 x.j, j8 x.j, j9 x.j, j10 x.j] 52)) z0.heap.size (enC x) := heap_alloc_new z0 _; have hb := (Below.refl z0.heap.size z0).alloc (Nat.le_refl _) (.cells #[.int .i64 x.t, .int .i64 x.k, .string x.d, j0 x.j, j1 x.j, j2 x.j, j3 x.j, j4 x.j, j5 x.j, j6 x.j, j7 x.j, j8 x.j, j9 x.j, j10 x.j] 52); have pn := pc.alloc pc.size (.cells #[.int .i64 x.t, .int .i64 x.k, .string x.d, j0 x.j, j1 x.j, j2 x.j, j3 x.j, j4 x.j, j5 x.j, j6 x.j, j7 x.j, j8 x.j, j9 x.j, j10 x.j] 52); have hgk := pc.size; have hgn := Nat.ne_of_gt lg0; have o0 := o0.below hb; generalize z0.heap.size = g5 at *; generalize (z0.alloc (.cells #[.int .i64 x.t, .int .i64 x.k, .string x.d, j0 x.j, j1 x.j, j2 x.j, j3 x.j, j4 x.j, j5 x.j, j6 x.j, j7 x.j, j8 x.j, j9 x.j, j10 x.j] 52)) = z5 at *) | (have kk : Blk 52 ((w1.alloc (.cells #[.int .i64 x.t, .int .i64 x.k, .string x.d, j0 x.j, j1 x.j, j2 x.j, j3 x.j, j4 x.j, j5 x.j, j6 x.j, j7 x.j, j8 x.j, j9 x.j, j10 x.j] 52)).drew) w1.heap.size (enC x) := Blk.drew (show Blk 52 (w1.alloc (.cells #[.int .i64 x.t, .int .i64 x.k, .string x.d, j0 x.j, j1 x.j, j2 x.j, j3 x.j, j4 x.j, j5 x.j, j6 x.j, j7 x.j, j8 x.j, j9 x.j, j10 x.j] 52)) w1.heap.size (enC x) from heap_alloc_new w1 _); have hb := ((Below.refl w1.heap.size w1).alloc (Nat.le_refl _) (.cells #[.int .i64 x.t, .int .i64 x.k, .string x.d, j0 x.j, j1 x.j, j2 x.j, j3 x.j, j4 x.j, j5 x.j, j6 x.j, j7 x.j, j8 x.j, j9 x.j, j10 x.j] 52)).drew; have pn := hb; have hgk : w1.heap.size ≤ w1.heap.size := Nat.le_refl _; generalize (w1.alloc (.cells #[.int .i64 x.t, .int .i64 x.k, .string x.d, j0 x.j, j1 x.j, j2 x.j, j3 x.j, j4 x.j, j5 x.j, j6 x.j, j7 x.j, j8 x.j, j9 x.j, j10 x.j] 52)).drew = z5 at *)
    have k5 := kk
    clear kk pc hb
    have pc := pn
    clear pn
    have s5 := HT.out _ pc
    refine hKQ.out _ _ (s5) (fun _ => ?_)
    clear hKQ KQ
    try simp only [Act.put, ka, kb, kc]
    refine rr [6] ?_
    refine rc (fun KQ hKQ => ?_) AllReadyH.nil
    refine step_appR rfl _ _ 28 rfl _ _ rfl rfl _ (app_E _ o3 (rd_one k5) (by omega) pc.size) ?_
    rintro v z6 ⟨A', c', rfl, hO, hb6, hG6⟩
    have hO := Lh hO
    have pn := pc.trans hb6
    clear pc o3 k5
    have pc := pn
    clear pn
    have s6 := HT.out _ pc
    refine hKQ.out _ _ (s6) (fun _ => ?_)
    clear hKQ KQ
    try simp only [Act.put, ka, kb, kc]
    refine tj 7 _ ?_
    try simp only [Act.put, ka, kb, kc]
    refine rr [8] ?_
    refine rc (fun KQ hKQ => ?_) AllReadyH.nil
    have c13 := HT13.out _ pc
    have df0 := fun i => (K0.out.below pc K0.out.lt).frozen i
    go_simp
    have k0 : Blk 30 (z6.setCell ⟨w.heap.size, 13, none⟩ (.slice A' (n + 1) c')) w.heap.size [.int .i64 b, .int .i64 t, j0 j, j1 j, j2 j, j3 j, j4 j, j5 j, j6 j, j7 j, j8 j, j9 j, j10 j, .slice A' (n + 1) c'] := (K0.out.below pc K0.out.lt).set_ 13 _
    have k1 : Blk 52 (z6.setCell ⟨w.heap.size, 13, none⟩ (.slice A' (n + 1) c')) (w.heap.size + 1) [.int .i64 x.t, .int .i64 x.k, .string x.d, j0 x.j, j1 x.j, j2 x.j, j3 x.j, j4 x.j, j5 x.j, j6 x.j, j7 x.j, j8 x.j, j9 x.j, j10 x.j] := (K1.out.below pc K1.out.lt).far (p := ⟨w.heap.size, 13, none⟩) (by show w.heap.size + 1 ≠ w.heap.size; omega) _
    have k2 : Blk 30 (z6.setCell ⟨w.heap.size, 13, none⟩ (.slice A' (n + 1) c')) (w.heap.size + 2) [.int .i64 0, .int .i64 0, .int .u16 0, .int .u16 0, .int .u16 0, .int .i64 0, .int .i64 0, .int .u16 0, .int .u16 0, .int .u16 0, .int .i64 0, .int .i64 0, .bool false, .slice none 0 0] := (K2.out.below pc K2.out.lt).far (p := ⟨w.heap.size, 13, none⟩) (by show w.heap.size + 2 ≠ w.heap.size; omega) _
    have b2 := (HB.out.trans (pc.mono HB.out.size)).setCell (p := ⟨w.heap.size, 13, none⟩) (Nat.le_refl _) (.slice A' (n + 1) c')
    have o2 : OwnE (z6.setCell ⟨w.heap.size, 13, none⟩ (.slice A' (n + 1) c')) w1.heap.size (.slice A' (n + 1) c') (es ++ [x]) := hO.out.far (p := ⟨w.heap.size, 13, none⟩) l0 _
    clear df0 hO pc
    generalize (z6.setCell ⟨w.heap.size, 13, none⟩ (.slice A' (n + 1) c')) = zf at *
    have s8 := blk14 k1
    refine hKQ.out _ _ (s8) (fun _ => ?_)
    clear hKQ KQ
    try simp only [Act.put]
    refine wpAnyH_done (by kernel_rfl) ?_ _
    have c14 := blk14 k0
    have c15 := blk14 k2
    have df := fun i => k2.frozen i
    replace k1 := Lh k1
    replace k0 := Lh k0
    replace k2 := Lh k2
    replace o2 := Lh o2
    replace b2 := Lh b2
    go_wp2_with fail
    have sF := put14 (.int .i64 b) (.int .i64 t) (j0 j) (j1 j) (j2 j) (j3 j) (j4 j) (j5 j) (j6 j) (j7 j) (j8 j) (j9 j) (j10 j) (.slice A' (n + 1) c') k2.out
    have bF := below14 (g := w.heap.size + 2) (.int .i64 b) (.int .i64 t) (j0 j) (j1 j) (j2 j) (j3 j) (j4 j) (j5 j) (j6 j) (j7 j) (j8 j) (j9 j) (j10 j) (.slice A' (n + 1) c') b2.out (by first | omega | simp)
    have oF := own14 (g := w.heap.size + 2) (.int .i64 b) (.int .i64 t) (j0 j) (j1 j) (j2 j) (j3 j) (j4 j) (j5 j) (j6 j) (j7 j) (j8 j) (j9 j) (j10 j) (.slice A' (n + 1) c') o2.out l1.out
    generalize ((((((((((((((zf.setCell ⟨w.heap.size + 2, 0, none⟩ (.int .i64 b)).setCell ⟨w.heap.size + 2, 1, none⟩ (.int .i64 t)).setCell ⟨w.heap.size + 2, 2, none⟩ (j0 j)).setCell ⟨w.heap.size + 2, 3, none⟩ (j1 j)).setCell ⟨w.heap.size + 2, 4, none⟩ (j2 j)).setCell ⟨w.heap.size + 2, 5, none⟩ (j3 j)).setCell ⟨w.heap.size + 2, 6, none⟩ (j4 j)).setCell ⟨w.heap.size + 2, 7, none⟩ (j5 j)).setCell ⟨w.heap.size + 2, 8, none⟩ (j6 j)).setCell ⟨w.heap.size + 2, 9, none⟩ (j7 j)).setCell ⟨w.heap.size + 2, 10, none⟩ (j8 j)).setCell ⟨w.heap.size + 2, 11, none⟩ (j9 j)).setCell ⟨w.heap.size + 2, 12, none⟩ (j10 j)).setCell ⟨w.heap.size + 2, 13, none⟩ (.slice A' (n + 1) c')) = wf at *
    (try simp only [Exit.inBlock, Exit.then])
    refine bodyPost_ret (res1 Tryz.results146 rfl (aggL _) (sizeL _) (ld14 sF)) rfl ?_
    exact ⟨A', n + 1, c', by rfl, by rw [List.length_append, hlh.out]; rfl, oF.more (by have := l1.out; omega), bF⟩
   ·
    go_simp
    first | (have kk : Blk 52 (z3.alloc (.cells #[.int .i64 x.t, .int .i64 x.k, .string x.d, j0 x.j, j1 x.j, j2 x.j, j3 x.j, j4 x.j, j5 x.j, j6 x.j, j7 x.j, j8 x.j, j9 x.j, j10 x.j] 52)) z3.heap.size (enC x) := heap_alloc_new z3 _; have hb := (Below.refl z3.heap.size z3).alloc (Nat.le_refl _) (.cells #[.int .i64 x.t, .int .i64 x.k, .string x.d, j0 x.j, j1 x.j, j2 x.j, j3 x.j, j4 x.j, j5 x.j, j6 x.j, j7 x.j, j8 x.j, j9 x.j, j10 x.j] 52); have pn := pc.alloc pc.size (.cells #[.int .i64 x.t, .int .i64 x.k, .string x.d, j0 x.j, j1 x.j, j2 x.j, j3 x.j, j4 x.j, j5 x.j, j6 x.j, j7 x.j, j8 x.j, j9 x.j, j10 x.j] 52); have hgk := pc.size; have o3 := o3.below hb; generalize z3.heap.size = g5 at *; generalize (z3.alloc (.cells #[.int .i64 x.t, .int .i64 x.k, .string x.d, j0 x.j, j1 x.j, j2 x.j, j3 x.j, j4 x.j, j5 x.j, j6 x.j, j7 x.j, j8 x.j, j9 x.j, j10 x.j] 52)) = z5 at *) | (have kk : Blk 52 (z0.alloc (.cells #[.int .i64 x.t, .int .i64 x.k, .string x.d, j0 x.j, j1 x.j, j2 x.j, j3 x.j, j4 x.j, j5 x.j, j6 x.j, j7 x.j, j8 x.j, j9 x.j, j10 x.j] 52)) z0.heap.size (enC x) := heap_alloc_new z0 _; have hb := (Below.refl z0.heap.size z0).alloc (Nat.le_refl _) (.cells #[.int .i64 x.t, .int .i64 x.k, .string x.d, j0 x.j, j1 x.j, j2 x.j, j3 x.j, j4 x.j, j5 x.j, j6 x.j, j7 x.j, j8 x.j, j9 x.j, j10 x.j] 52); have pn := pc.alloc pc.size (.cells #[.int .i64 x.t, .int .i64 x.k, .string x.d, j0 x.j, j1 x.j, j2 x.j, j3 x.j, j4 x.j, j5 x.j, j6 x.j, j7 x.j, j8 x.j, j9 x.j, j10 x.j] 52); have hgk := pc.size; have hgn := Nat.ne_of_gt lg0; have o0 := o0.below hb; generalize z0.heap.size = g5 at *; generalize (z0.alloc (.cells #[.int .i64 x.t, .int .i64 x.k, .string x.d, j0 x.j, j1 x.j, j2 x.j, j3 x.j, j4 x.j, j5 x.j, j6 x.j, j7 x.j, j8 x.j, j9 x.j, j10 x.j] 52)) = z5 at *) | (have kk : Blk 52 ((w1.alloc (.cells #[.int .i64 x.t, .int .i64 x.k, .string x.d, j0 x.j, j1 x.j, j2 x.j, j3 x.j, j4 x.j, j5 x.j, j6 x.j, j7 x.j, j8 x.j, j9 x.j, j10 x.j] 52)).drew) w1.heap.size (enC x) := Blk.drew (show Blk 52 (w1.alloc (.cells #[.int .i64 x.t, .int .i64 x.k, .string x.d, j0 x.j, j1 x.j, j2 x.j, j3 x.j, j4 x.j, j5 x.j, j6 x.j, j7 x.j, j8 x.j, j9 x.j, j10 x.j] 52)) w1.heap.size (enC x) from heap_alloc_new w1 _); have hb := ((Below.refl w1.heap.size w1).alloc (Nat.le_refl _) (.cells #[.int .i64 x.t, .int .i64 x.k, .string x.d, j0 x.j, j1 x.j, j2 x.j, j3 x.j, j4 x.j, j5 x.j, j6 x.j, j7 x.j, j8 x.j, j9 x.j, j10 x.j] 52)).drew; have pn := hb; have hgk : w1.heap.size ≤ w1.heap.size := Nat.le_refl _; generalize (w1.alloc (.cells #[.int .i64 x.t, .int .i64 x.k, .string x.d, j0 x.j, j1 x.j, j2 x.j, j3 x.j, j4 x.j, j5 x.j, j6 x.j, j7 x.j, j8 x.j, j9 x.j, j10 x.j] 52)).drew = z5 at *)
    have k5 := kk
    clear kk pc hb
    have pc := pn
    clear pn
    have s5 := HT.out _ pc
    refine hKQ.out _ _ (s5) (fun _ => ?_)
    clear hKQ KQ
    try simp only [Act.put, ka, kb, kc]
    refine rr [3] ?_
    refine rc (fun KQ hKQ => ?_) AllReadyH.nil
    refine step_appR rfl _ _ 28 rfl _ _ rfl rfl _ (app_E _ o0 (HR1.out.below pc) (by omega) pc.size) ?_
    rintro v z3 ⟨A3, c3, rfl, o3, hb3, hG3⟩
    (try simp only [Nat.zero_add, List.nil_append] at o3)
    (try simp only [Nat.zero_add])
    (try have k5 := (hG3.block _ k5.lt (by show some _ ≠ some _; intro h; exact hgn (Option.some.inj h))).trans k5)
    have pn := pc.trans hb3
    clear pc o0
    have pc := pn
    clear pn
    have s3 := HT.out _ pc
    refine hKQ.out _ _ (s3) (fun _ => ?_)
    clear hKQ KQ
    try simp only [Act.put, ka, kb, kc]
    refine rr [6] ?_
    refine rc (fun KQ hKQ => ?_) AllReadyH.nil
    refine step_appR rfl _ _ 28 rfl _ _ rfl rfl _ (app_E _ o3 (rd_one k5) (by omega) pc.size) ?_
    rintro v z6 ⟨A', c', rfl, hO, hb6, hG6⟩
    have hO := Lh hO
    have pn := pc.trans hb6
    clear pc o3 k5
    have pc := pn
    clear pn
    have s6 := HT.out _ pc
    refine hKQ.out _ _ (s6) (fun _ => ?_)
    clear hKQ KQ
    try simp only [Act.put, ka, kb, kc]
    refine tj 7 _ ?_
    try simp only [Act.put, ka, kb, kc]
    refine rr [8] ?_
    refine rc (fun KQ hKQ => ?_) AllReadyH.nil
    have c13 := HT13.out _ pc
    have df0 := fun i => (K0.out.below pc K0.out.lt).frozen i
    go_simp
    have k0 : Blk 30 (z6.setCell ⟨w.heap.size, 13, none⟩ (.slice A' (n + 1) c')) w.heap.size [.int .i64 b, .int .i64 t, j0 j, j1 j, j2 j, j3 j, j4 j, j5 j, j6 j, j7 j, j8 j, j9 j, j10 j, .slice A' (n + 1) c'] := (K0.out.below pc K0.out.lt).set_ 13 _
    have k1 : Blk 52 (z6.setCell ⟨w.heap.size, 13, none⟩ (.slice A' (n + 1) c')) (w.heap.size + 1) [.int .i64 x.t, .int .i64 x.k, .string x.d, j0 x.j, j1 x.j, j2 x.j, j3 x.j, j4 x.j, j5 x.j, j6 x.j, j7 x.j, j8 x.j, j9 x.j, j10 x.j] := (K1.out.below pc K1.out.lt).far (p := ⟨w.heap.size, 13, none⟩) (by show w.heap.size + 1 ≠ w.heap.size; omega) _
    have k2 : Blk 30 (z6.setCell ⟨w.heap.size, 13, none⟩ (.slice A' (n + 1) c')) (w.heap.size + 2) [.int .i64 0, .int .i64 0, .int .u16 0, .int .u16 0, .int .u16 0, .int .i64 0, .int .i64 0, .int .u16 0, .int .u16 0, .int .u16 0, .int .i64 0, .int .i64 0, .bool false, .slice none 0 0] := (K2.out.below pc K2.out.lt).far (p := ⟨w.heap.size, 13, none⟩) (by show w.heap.size + 2 ≠ w.heap.size; omega) _
    have b2 := (HB.out.trans (pc.mono HB.out.size)).setCell (p := ⟨w.heap.size, 13, none⟩) (Nat.le_refl _) (.slice A' (n + 1) c')
    have o2 : OwnE (z6.setCell ⟨w.heap.size, 13, none⟩ (.slice A' (n + 1) c')) w1.heap.size (.slice A' (n + 1) c') (es ++ [x]) := hO.out.far (p := ⟨w.heap.size, 13, none⟩) l0 _
    clear df0 hO pc
    generalize (z6.setCell ⟨w.heap.size, 13, none⟩ (.slice A' (n + 1) c')) = zf at *
    have s8 := blk14 k1
    refine hKQ.out _ _ (s8) (fun _ => ?_)
    clear hKQ KQ
    try simp only [Act.put]
    refine wpAnyH_done (by kernel_rfl) ?_ _
    have c14 := blk14 k0
    have c15 := blk14 k2
    have df := fun i => k2.frozen i
    replace k1 := Lh k1
    replace k0 := Lh k0
    replace k2 := Lh k2
    replace o2 := Lh o2
    replace b2 := Lh b2
    go_wp2_with fail
    have sF := put14 (.int .i64 b) (.int .i64 t) (j0 j) (j1 j) (j2 j) (j3 j) (j4 j) (j5 j) (j6 j) (j7 j) (j8 j) (j9 j) (j10 j) (.slice A' (n + 1) c') k2.out
    have bF := below14 (g := w.heap.size + 2) (.int .i64 b) (.int .i64 t) (j0 j) (j1 j) (j2 j) (j3 j) (j4 j) (j5 j) (j6 j) (j7 j) (j8 j) (j9 j) (j10 j) (.slice A' (n + 1) c') b2.out (by first | omega | simp)
    have oF := own14 (g := w.heap.size + 2) (.int .i64 b) (.int .i64 t) (j0 j) (j1 j) (j2 j) (j3 j) (j4 j) (j5 j) (j6 j) (j7 j) (j8 j) (j9 j) (j10 j) (.slice A' (n + 1) c') o2.out l1.out
    generalize ((((((((((((((zf.setCell ⟨w.heap.size + 2, 0, none⟩ (.int .i64 b)).setCell ⟨w.heap.size + 2, 1, none⟩ (.int .i64 t)).setCell ⟨w.heap.size + 2, 2, none⟩ (j0 j)).setCell ⟨w.heap.size + 2, 3, none⟩ (j1 j)).setCell ⟨w.heap.size + 2, 4, none⟩ (j2 j)).setCell ⟨w.heap.size + 2, 5, none⟩ (j3 j)).setCell ⟨w.heap.size + 2, 6, none⟩ (j4 j)).setCell ⟨w.heap.size + 2, 7, none⟩ (j5 j)).setCell ⟨w.heap.size + 2, 8, none⟩ (j6 j)).setCell ⟨w.heap.size + 2, 9, none⟩ (j7 j)).setCell ⟨w.heap.size + 2, 10, none⟩ (j8 j)).setCell ⟨w.heap.size + 2, 11, none⟩ (j9 j)).setCell ⟨w.heap.size + 2, 12, none⟩ (j10 j)).setCell ⟨w.heap.size + 2, 13, none⟩ (.slice A' (n + 1) c')) = wf at *
    (try simp only [Exit.inBlock, Exit.then])
    refine bodyPost_ret (res1 Tryz.results146 rfl (aggL _) (sizeL _) (ld14 sF)) rfl ?_
    exact ⟨A', n + 1, c', by rfl, by rw [List.length_append, hlh.out]; rfl, oF.more (by have := l1.out; omega), bF⟩
  ·
   go_simp
   first | (have kk : Blk 52 (z3.alloc (.cells #[.int .i64 x.t, .int .i64 x.k, .string x.d, j0 x.j, j1 x.j, j2 x.j, j3 x.j, j4 x.j, j5 x.j, j6 x.j, j7 x.j, j8 x.j, j9 x.j, j10 x.j] 52)) z3.heap.size (enC x) := heap_alloc_new z3 _; have hb := (Below.refl z3.heap.size z3).alloc (Nat.le_refl _) (.cells #[.int .i64 x.t, .int .i64 x.k, .string x.d, j0 x.j, j1 x.j, j2 x.j, j3 x.j, j4 x.j, j5 x.j, j6 x.j, j7 x.j, j8 x.j, j9 x.j, j10 x.j] 52); have pn := pc.alloc pc.size (.cells #[.int .i64 x.t, .int .i64 x.k, .string x.d, j0 x.j, j1 x.j, j2 x.j, j3 x.j, j4 x.j, j5 x.j, j6 x.j, j7 x.j, j8 x.j, j9 x.j, j10 x.j] 52); have hgk := pc.size; have o3 := o3.below hb; generalize z3.heap.size = g5 at *; generalize (z3.alloc (.cells #[.int .i64 x.t, .int .i64 x.k, .string x.d, j0 x.j, j1 x.j, j2 x.j, j3 x.j, j4 x.j, j5 x.j, j6 x.j, j7 x.j, j8 x.j, j9 x.j, j10 x.j] 52)) = z5 at *) | (have kk : Blk 52 (z0.alloc (.cells #[.int .i64 x.t, .int .i64 x.k, .string x.d, j0 x.j, j1 x.j, j2 x.j, j3 x.j, j4 x.j, j5 x.j, j6 x.j, j7 x.j, j8 x.j, j9 x.j, j10 x.j] 52)) z0.heap.size (enC x) := heap_alloc_new z0 _; have hb := (Below.refl z0.heap.size z0).alloc (Nat.le_refl _) (.cells #[.int .i64 x.t, .int .i64 x.k, .string x.d, j0 x.j, j1 x.j, j2 x.j, j3 x.j, j4 x.j, j5 x.j, j6 x.j, j7 x.j, j8 x.j, j9 x.j, j10 x.j] 52); have pn := pc.alloc pc.size (.cells #[.int .i64 x.t, .int .i64 x.k, .string x.d, j0 x.j, j1 x.j, j2 x.j, j3 x.j, j4 x.j, j5 x.j, j6 x.j, j7 x.j, j8 x.j, j9 x.j, j10 x.j] 52); have hgk := pc.size; have hgn := Nat.ne_of_gt lg0; have o0 := o0.below hb; generalize z0.heap.size = g5 at *; generalize (z0.alloc (.cells #[.int .i64 x.t, .int .i64 x.k, .string x.d, j0 x.j, j1 x.j, j2 x.j, j3 x.j, j4 x.j, j5 x.j, j6 x.j, j7 x.j, j8 x.j, j9 x.j, j10 x.j] 52)) = z5 at *) | (have kk : Blk 52 ((w1.alloc (.cells #[.int .i64 x.t, .int .i64 x.k, .string x.d, j0 x.j, j1 x.j, j2 x.j, j3 x.j, j4 x.j, j5 x.j, j6 x.j, j7 x.j, j8 x.j, j9 x.j, j10 x.j] 52)).drew) w1.heap.size (enC x) := Blk.drew (show Blk 52 (w1.alloc (.cells #[.int .i64 x.t, .int .i64 x.k, .string x.d, j0 x.j, j1 x.j, j2 x.j, j3 x.j, j4 x.j, j5 x.j, j6 x.j, j7 x.j, j8 x.j, j9 x.j, j10 x.j] 52)) w1.heap.size (enC x) from heap_alloc_new w1 _); have hb := ((Below.refl w1.heap.size w1).alloc (Nat.le_refl _) (.cells #[.int .i64 x.t, .int .i64 x.k, .string x.d, j0 x.j, j1 x.j, j2 x.j, j3 x.j, j4 x.j, j5 x.j, j6 x.j, j7 x.j, j8 x.j, j9 x.j, j10 x.j] 52)).drew; have pn := hb; have hgk : w1.heap.size ≤ w1.heap.size := Nat.le_refl _; generalize (w1.alloc (.cells #[.int .i64 x.t, .int .i64 x.k, .string x.d, j0 x.j, j1 x.j, j2 x.j, j3 x.j, j4 x.j, j5 x.j, j6 x.j, j7 x.j, j8 x.j, j9 x.j, j10 x.j] 52)).drew = z5 at *)
   have k5 := kk
   clear kk pc hb
   have pc := pn
   clear pn
   have s5 := HT.out _ pc
   refine hKQ.out _ _ (s5) (fun _ => ?_)
   clear hKQ KQ
   try simp only [Act.put, ka, kb, kc]
   refine rr [2] ?_
   refine rc (fun KQ hKQ => ?_) AllReadyH.nil
   have c13 := HT13.out _ pc
   go_simp
   have s2 := HT.out _ pc
   refine hKQ.out _ _ (s2) (fun _ => ?_)
   clear hKQ KQ
   try simp only [Act.put, ka, kb, kc]
   refine rr [3] ?_
   refine rc (fun KQ hKQ => ?_) AllReadyH.nil
   refine step_appR rfl _ _ 28 rfl _ _ rfl rfl _ (app_E _ o0 (HR1.out.below pc) (by omega) pc.size) ?_
   rintro v z3 ⟨A3, c3, rfl, o3, hb3, hG3⟩
   (try simp only [Nat.zero_add, List.nil_append] at o3)
   (try simp only [Nat.zero_add])
   (try have k5 := (hG3.block _ k5.lt (by show some _ ≠ some _; intro h; exact hgn (Option.some.inj h))).trans k5)
   have pn := pc.trans hb3
   clear pc o0
   have pc := pn
   clear pn
   have s3 := HT.out _ pc
   refine hKQ.out _ _ (s3) (fun _ => ?_)
   clear hKQ KQ
   try simp only [Act.put, ka, kb, kc]
   refine rr [6] ?_
   refine rc (fun KQ hKQ => ?_) AllReadyH.nil
   refine step_appR rfl _ _ 28 rfl _ _ rfl rfl _ (app_E _ o3 (rd_one k5) (by omega) pc.size) ?_
   rintro v z6 ⟨A', c', rfl, hO, hb6, hG6⟩
   have hO := Lh hO
   have pn := pc.trans hb6
   clear pc o3 k5
   have pc := pn
   clear pn
   have s6 := HT.out _ pc
   refine hKQ.out _ _ (s6) (fun _ => ?_)
   clear hKQ KQ
   try simp only [Act.put, ka, kb, kc]
   refine tj 7 _ ?_
   try simp only [Act.put, ka, kb, kc]
   refine rr [8] ?_
   refine rc (fun KQ hKQ => ?_) AllReadyH.nil
   have c13 := HT13.out _ pc
   have df0 := fun i => (K0.out.below pc K0.out.lt).frozen i
   go_simp
   have k0 : Blk 30 (z6.setCell ⟨w.heap.size, 13, none⟩ (.slice A' (n + 1) c')) w.heap.size [.int .i64 b, .int .i64 t, j0 j, j1 j, j2 j, j3 j, j4 j, j5 j, j6 j, j7 j, j8 j, j9 j, j10 j, .slice A' (n + 1) c'] := (K0.out.below pc K0.out.lt).set_ 13 _
   have k1 : Blk 52 (z6.setCell ⟨w.heap.size, 13, none⟩ (.slice A' (n + 1) c')) (w.heap.size + 1) [.int .i64 x.t, .int .i64 x.k, .string x.d, j0 x.j, j1 x.j, j2 x.j, j3 x.j, j4 x.j, j5 x.j, j6 x.j, j7 x.j, j8 x.j, j9 x.j, j10 x.j] := (K1.out.below pc K1.out.lt).far (p := ⟨w.heap.size, 13, none⟩) (by show w.heap.size + 1 ≠ w.heap.size; omega) _
   have k2 : Blk 30 (z6.setCell ⟨w.heap.size, 13, none⟩ (.slice A' (n + 1) c')) (w.heap.size + 2) [.int .i64 0, .int .i64 0, .int .u16 0, .int .u16 0, .int .u16 0, .int .i64 0, .int .i64 0, .int .u16 0, .int .u16 0, .int .u16 0, .int .i64 0, .int .i64 0, .bool false, .slice none 0 0] := (K2.out.below pc K2.out.lt).far (p := ⟨w.heap.size, 13, none⟩) (by show w.heap.size + 2 ≠ w.heap.size; omega) _
   have b2 := (HB.out.trans (pc.mono HB.out.size)).setCell (p := ⟨w.heap.size, 13, none⟩) (Nat.le_refl _) (.slice A' (n + 1) c')
   have o2 : OwnE (z6.setCell ⟨w.heap.size, 13, none⟩ (.slice A' (n + 1) c')) w1.heap.size (.slice A' (n + 1) c') (es ++ [x]) := hO.out.far (p := ⟨w.heap.size, 13, none⟩) l0 _
   clear df0 hO pc
   generalize (z6.setCell ⟨w.heap.size, 13, none⟩ (.slice A' (n + 1) c')) = zf at *
   have s8 := blk14 k1
   refine hKQ.out _ _ (s8) (fun _ => ?_)
   clear hKQ KQ
   try simp only [Act.put]
   refine wpAnyH_done (by kernel_rfl) ?_ _
   have c14 := blk14 k0
   have c15 := blk14 k2
   have df := fun i => k2.frozen i
   replace k1 := Lh k1
   replace k0 := Lh k0
   replace k2 := Lh k2
   replace o2 := Lh o2
   replace b2 := Lh b2
   go_wp2_with fail
   have sF := put14 (.int .i64 b) (.int .i64 t) (j0 j) (j1 j) (j2 j) (j3 j) (j4 j) (j5 j) (j6 j) (j7 j) (j8 j) (j9 j) (j10 j) (.slice A' (n + 1) c') k2.out
   have bF := below14 (g := w.heap.size + 2) (.int .i64 b) (.int .i64 t) (j0 j) (j1 j) (j2 j) (j3 j) (j4 j) (j5 j) (j6 j) (j7 j) (j8 j) (j9 j) (j10 j) (.slice A' (n + 1) c') b2.out (by first | omega | simp)
   have oF := own14 (g := w.heap.size + 2) (.int .i64 b) (.int .i64 t) (j0 j) (j1 j) (j2 j) (j3 j) (j4 j) (j5 j) (j6 j) (j7 j) (j8 j) (j9 j) (j10 j) (.slice A' (n + 1) c') o2.out l1.out
   generalize ((((((((((((((zf.setCell ⟨w.heap.size + 2, 0, none⟩ (.int .i64 b)).setCell ⟨w.heap.size + 2, 1, none⟩ (.int .i64 t)).setCell ⟨w.heap.size + 2, 2, none⟩ (j0 j)).setCell ⟨w.heap.size + 2, 3, none⟩ (j1 j)).setCell ⟨w.heap.size + 2, 4, none⟩ (j2 j)).setCell ⟨w.heap.size + 2, 5, none⟩ (j3 j)).setCell ⟨w.heap.size + 2, 6, none⟩ (j4 j)).setCell ⟨w.heap.size + 2, 7, none⟩ (j5 j)).setCell ⟨w.heap.size + 2, 8, none⟩ (j6 j)).setCell ⟨w.heap.size + 2, 9, none⟩ (j7 j)).setCell ⟨w.heap.size + 2, 10, none⟩ (j8 j)).setCell ⟨w.heap.size + 2, 11, none⟩ (j9 j)).setCell ⟨w.heap.size + 2, 12, none⟩ (j10 j)).setCell ⟨w.heap.size + 2, 13, none⟩ (.slice A' (n + 1) c')) = wf at *
   (try simp only [Exit.inBlock, Exit.then])
   refine bodyPost_ret (res1 Tryz.results146 rfl (aggL _) (sizeL _) (ld14 sF)) rfl ?_
   exact ⟨A', n + 1, c', by rfl, by rw [List.length_append, hlh.out]; rfl, oF.more (by have := l1.out; omega), bF⟩
 ·
  have c13 := HT13.out _ pc
  go_simp
  have s2 := HT.out _ pc
  refine hKQ.out _ _ (s2) (fun _ => ?_)
  clear hKQ KQ
  try simp only [Act.put, ka, kb, kc]
  refine rr [0, 5] ?_
  refine rc (fun KQ hKQ => ?_) (rc (fun KQ hKQ => ?_) (AllReadyH.nil))
  ·
   go_simp
   first | (have kk : Blk 52 (z5.alloc (.cells #[] 52)) z5.heap.size [] := heap_alloc_new z5 _; have hb := (Below.refl z5.heap.size z5).alloc (Nat.le_refl _) (.cells #[] 52); have pn := pc.alloc pc.size (.cells #[] 52); have hgk := pc.size; have hgn := Nat.ne_of_lt k5.lt; have k5 := k5.below hb k5.lt; generalize z5.heap.size = g0 at *; generalize (z5.alloc (.cells #[] 52)) = z0 at *) | (have kk : Blk 52 ((w1.alloc (.cells #[] 52)).drew) w1.heap.size [] := Blk.drew (show Blk 52 (w1.alloc (.cells #[] 52)) w1.heap.size [] from heap_alloc_new w1 _); have hb := ((Below.refl w1.heap.size w1).alloc (Nat.le_refl _) (.cells #[] 52)).drew; have pn := hb; have hgk : w1.heap.size ≤ w1.heap.size := Nat.le_refl _; generalize (w1.alloc (.cells #[] 52)).drew = z0 at *)
   have o0 := OwnE.empty kk hgk
   have lg0 := kk.lt
   clear kk pc hb
   have pc := pn
   clear pn
   have s0 := HT.out _ pc
   refine hKQ.out _ _ (s0) (fun _ => ?_)
   clear hKQ KQ
   try simp only [Act.put, ka, kb, kc]
   refine rr [3, 5] ?_
   refine rc (fun KQ hKQ => ?_) (rc (fun KQ hKQ => ?_) (AllReadyH.nil))
   ·
    refine step_appR rfl _ _ 28 rfl _ _ rfl rfl _ (app_E _ o0 (HR1.out.below pc) (by omega) pc.size) ?_
    rintro v z3 ⟨A3, c3, rfl, o3, hb3, hG3⟩
    (try simp only [Nat.zero_add, List.nil_append] at o3)
    (try simp only [Nat.zero_add])
    (try have k5 := (hG3.block _ k5.lt (by show some _ ≠ some _; intro h; exact hgn (Option.some.inj h))).trans k5)
    have pn := pc.trans hb3
    clear pc o0
    have pc := pn
    clear pn
    have s3 := HT.out _ pc
    refine hKQ.out _ _ (s3) (fun _ => ?_)
    clear hKQ KQ
    try simp only [Act.put, ka, kb, kc]
    refine rr [5] ?_
    refine rc (fun KQ hKQ => ?_) AllReadyH.nil
    go_simp
    first | (have kk : Blk 52 (z3.alloc (.cells #[.int .i64 x.t, .int .i64 x.k, .string x.d, j0 x.j, j1 x.j, j2 x.j, j3 x.j, j4 x.j, j5 x.j, j6 x.j, j7 x.j, j8 x.j, j9 x.j, j10 x.j] 52)) z3.heap.size (enC x) := heap_alloc_new z3 _; have hb := (Below.refl z3.heap.size z3).alloc (Nat.le_refl _) (.cells #[.int .i64 x.t, .int .i64 x.k, .string x.d, j0 x.j, j1 x.j, j2 x.j, j3 x.j, j4 x.j, j5 x.j, j6 x.j, j7 x.j, j8 x.j, j9 x.j, j10 x.j] 52); have pn := pc.alloc pc.size (.cells #[.int .i64 x.t, .int .i64 x.k, .string x.d, j0 x.j, j1 x.j, j2 x.j, j3 x.j, j4 x.j, j5 x.j, j6 x.j, j7 x.j, j8 x.j, j9 x.j, j10 x.j] 52); have hgk := pc.size; have o3 := o3.below hb; generalize z3.heap.size = g5 at *; generalize (z3.alloc (.cells #[.int .i64 x.t, .int .i64 x.k, .string x.d, j0 x.j, j1 x.j, j2 x.j, j3 x.j, j4 x.j, j5 x.j, j6 x.j, j7 x.j, j8 x.j, j9 x.j, j10 x.j] 52)) = z5 at *) | (have kk : Blk 52 (z0.alloc (.cells #[.int .i64 x.t, .int .i64 x.k, .string x.d, j0 x.j, j1 x.j, j2 x.j, j3 x.j, j4 x.j, j5 x.j, j6 x.j, j7 x.j, j8 x.j, j9 x.j, j10 x.j] 52)) z0.heap.size (enC x) := heap_alloc_new z0 _; have hb := (Below.refl z0.heap.size z0).alloc (Nat.le_refl _) (.cells #[.int .i64 x.t, .int .i64 x.k, .string x.d, j0 x.j, j1 x.j, j2 x.j, j3 x.j, j4 x.j, j5 x.j, j6 x.j, j7 x.j, j8 x.j, j9 x.j, j10 x.j] 52); have pn := pc.alloc pc.size (.cells #[.int .i64 x.t, .int .i64 x.k, .string x.d, j0 x.j, j1 x.j, j2 x.j, j3 x.j, j4 x.j, j5 x.j, j6 x.j, j7 x.j, j8 x.j, j9 x.j, j10 x.j] 52); have hgk := pc.size; have hgn := Nat.ne_of_gt lg0; have o0 := o0.below hb; generalize z0.heap.size = g5 at *; generalize (z0.alloc (.cells #[.int .i64 x.t, .int .i64 x.k, .string x.d, j0 x.j, j1 x.j, j2 x.j, j3 x.j, j4 x.j, j5 x.j, j6 x.j, j7 x.j, j8 x.j, j9 x.j, j10 x.j] 52)) = z5 at *) | (have kk : Blk 52 ((w1.alloc (.cells #[.int .i64 x.t, .int .i64 x.k, .string x.d, j0 x.j, j1 x.j, j2 x.j, j3 x.j, j4 x.j, j5 x.j, j6 x.j, j7 x.j, j8 x.j, j9 x.j, j10 x.j] 52)).drew) w1.heap.size (enC x) := Blk.drew (show Blk 52 (w1.alloc (.cells #[.int .i64 x.t, .int .i64 x.k, .string x.d, j0 x.j, j1 x.j, j2 x.j, j3 x.j, j4 x.j, j5 x.j, j6 x.j, j7 x.j, j8 x.j, j9 x.j, j10 x.j] 52)) w1.heap.size (enC x) from heap_alloc_new w1 _); have hb := ((Below.refl w1.heap.size w1).alloc (Nat.le_refl _) (.cells #[.int .i64 x.t, .int .i64 x.k, .string x.d, j0 x.j, j1 x.j, j2 x.j, j3 x.j, j4 x.j, j5 x.j, j6 x.j, j7 x.j, j8 x.j, j9 x.j, j10 x.j] 52)).drew; have pn := hb; have hgk : w1.heap.size ≤ w1.heap.size := Nat.le_refl _; generalize (w1.alloc (.cells #[.int .i64 x.t, .int .i64 x.k, .string x.d, j0 x.j, j1 x.j, j2 x.j, j3 x.j, j4 x.j, j5 x.j, j6 x.j, j7 x.j, j8 x.j, j9 x.j, j10 x.j] 52)).drew = z5 at *)
    have k5 := kk
    clear kk pc hb
    have pc := pn
    clear pn
    have s5 := HT.out _ pc
    refine hKQ.out _ _ (s5) (fun _ => ?_)
    clear hKQ KQ
    try simp only [Act.put, ka, kb, kc]
    refine rr [6] ?_
    refine rc (fun KQ hKQ => ?_) AllReadyH.nil
    refine step_appR rfl _ _ 28 rfl _ _ rfl rfl _ (app_E _ o3 (rd_one k5) (by omega) pc.size) ?_
    rintro v z6 ⟨A', c', rfl, hO, hb6, hG6⟩
    have hO := Lh hO
    have pn := pc.trans hb6
    clear pc o3 k5
    have pc := pn
    clear pn
    have s6 := HT.out _ pc
    refine hKQ.out _ _ (s6) (fun _ => ?_)
    clear hKQ KQ
    try simp only [Act.put, ka, kb, kc]
    refine tj 7 _ ?_
    try simp only [Act.put, ka, kb, kc]
    refine rr [8] ?_
    refine rc (fun KQ hKQ => ?_) AllReadyH.nil
    have c13 := HT13.out _ pc
    have df0 := fun i => (K0.out.below pc K0.out.lt).frozen i
    go_simp
    have k0 : Blk 30 (z6.setCell ⟨w.heap.size, 13, none⟩ (.slice A' (n + 1) c')) w.heap.size [.int .i64 b, .int .i64 t, j0 j, j1 j, j2 j, j3 j, j4 j, j5 j, j6 j, j7 j, j8 j, j9 j, j10 j, .slice A' (n + 1) c'] := (K0.out.below pc K0.out.lt).set_ 13 _
    have k1 : Blk 52 (z6.setCell ⟨w.heap.size, 13, none⟩ (.slice A' (n + 1) c')) (w.heap.size + 1) [.int .i64 x.t, .int .i64 x.k, .string x.d, j0 x.j, j1 x.j, j2 x.j, j3 x.j, j4 x.j, j5 x.j, j6 x.j, j7 x.j, j8 x.j, j9 x.j, j10 x.j] := (K1.out.below pc K1.out.lt).far (p := ⟨w.heap.size, 13, none⟩) (by show w.heap.size + 1 ≠ w.heap.size; omega) _
    have k2 : Blk 30 (z6.setCell ⟨w.heap.size, 13, none⟩ (.slice A' (n + 1) c')) (w.heap.size + 2) [.int .i64 0, .int .i64 0, .int .u16 0, .int .u16 0, .int .u16 0, .int .i64 0, .int .i64 0, .int .u16 0, .int .u16 0, .int .u16 0, .int .i64 0, .int .i64 0, .bool false, .slice none 0 0] := (K2.out.below pc K2.out.lt).far (p := ⟨w.heap.size, 13, none⟩) (by show w.heap.size + 2 ≠ w.heap.size; omega) _
    have b2 := (HB.out.trans (pc.mono HB.out.size)).setCell (p := ⟨w.heap.size, 13, none⟩) (Nat.le_refl _) (.slice A' (n + 1) c')
    have o2 : OwnE (z6.setCell ⟨w.heap.size, 13, none⟩ (.slice A' (n + 1) c')) w1.heap.size (.slice A' (n + 1) c') (es ++ [x]) := hO.out.far (p := ⟨w.heap.size, 13, none⟩) l0 _
    clear df0 hO pc
    generalize (z6.setCell ⟨w.heap.size, 13, none⟩ (.slice A' (n + 1) c')) = zf at *
    have s8 := blk14 k1
    refine hKQ.out _ _ (s8) (fun _ => ?_)
    clear hKQ KQ
    try simp only [Act.put]
    refine wpAnyH_done (by kernel_rfl) ?_ _
    have c14 := blk14 k0
    have c15 := blk14 k2
    have df := fun i => k2.frozen i
    replace k1 := Lh k1
    replace k0 := Lh k0
    replace k2 := Lh k2
    replace o2 := Lh o2
    replace b2 := Lh b2
    go_wp2_with fail
    have sF := put14 (.int .i64 b) (.int .i64 t) (j0 j) (j1 j) (j2 j) (j3 j) (j4 j) (j5 j) (j6 j) (j7 j) (j8 j) (j9 j) (j10 j) (.slice A' (n + 1) c') k2.out
    have bF := below14 (g := w.heap.size + 2) (.int .i64 b) (.int .i64 t) (j0 j) (j1 j) (j2 j) (j3 j) (j4 j) (j5 j) (j6 j) (j7 j) (j8 j) (j9 j) (j10 j) (.slice A' (n + 1) c') b2.out (by first | omega | simp)
    have oF := own14 (g := w.heap.size + 2) (.int .i64 b) (.int .i64 t) (j0 j) (j1 j) (j2 j) (j3 j) (j4 j) (j5 j) (j6 j) (j7 j) (j8 j) (j9 j) (j10 j) (.slice A' (n + 1) c') o2.out l1.out
    generalize ((((((((((((((zf.setCell ⟨w.heap.size + 2, 0, none⟩ (.int .i64 b)).setCell ⟨w.heap.size + 2, 1, none⟩ (.int .i64 t)).setCell ⟨w.heap.size + 2, 2, none⟩ (j0 j)).setCell ⟨w.heap.size + 2, 3, none⟩ (j1 j)).setCell ⟨w.heap.size + 2, 4, none⟩ (j2 j)).setCell ⟨w.heap.size + 2, 5, none⟩ (j3 j)).setCell ⟨w.heap.size + 2, 6, none⟩ (j4 j)).setCell ⟨w.heap.size + 2, 7, none⟩ (j5 j)).setCell ⟨w.heap.size + 2, 8, none⟩ (j6 j)).setCell ⟨w.heap.size + 2, 9, none⟩ (j7 j)).setCell ⟨w.heap.size + 2, 10, none⟩ (j8 j)).setCell ⟨w.heap.size + 2, 11, none⟩ (j9 j)).setCell ⟨w.heap.size + 2, 12, none⟩ (j10 j)).setCell ⟨w.heap.size + 2, 13, none⟩ (.slice A' (n + 1) c')) = wf at *
    (try simp only [Exit.inBlock, Exit.then])
    refine bodyPost_ret (res1 Tryz.results146 rfl (aggL _) (sizeL _) (ld14 sF)) rfl ?_
    exact ⟨A', n + 1, c', by rfl, by rw [List.length_append, hlh.out]; rfl, oF.more (by have := l1.out; omega), bF⟩
   ·
    go_simp
    first | (have kk : Blk 52 (z3.alloc (.cells #[.int .i64 x.t, .int .i64 x.k, .string x.d, j0 x.j, j1 x.j, j2 x.j, j3 x.j, j4 x.j, j5 x.j, j6 x.j, j7 x.j, j8 x.j, j9 x.j, j10 x.j] 52)) z3.heap.size (enC x) := heap_alloc_new z3 _; have hb := (Below.refl z3.heap.size z3).alloc (Nat.le_refl _) (.cells #[.int .i64 x.t, .int .i64 x.k, .string x.d, j0 x.j, j1 x.j, j2 x.j, j3 x.j, j4 x.j, j5 x.j, j6 x.j, j7 x.j, j8 x.j, j9 x.j, j10 x.j] 52); have pn := pc.alloc pc.size (.cells #[.int .i64 x.t, .int .i64 x.k, .string x.d, j0 x.j, j1 x.j, j2 x.j, j3 x.j, j4 x.j, j5 x.j, j6 x.j, j7 x.j, j8 x.j, j9 x.j, j10 x.j] 52); have hgk := pc.size; have o3 := o3.below hb; generalize z3.heap.size = g5 at *; generalize (z3.alloc (.cells #[.int .i64 x.t, .int .i64 x.k, .string x.d, j0 x.j, j1 x.j, j2 x.j, j3 x.j, j4 x.j, j5 x.j, j6 x.j, j7 x.j, j8 x.j, j9 x.j, j10 x.j] 52)) = z5 at *) | (have kk : Blk 52 (z0.alloc (.cells #[.int .i64 x.t, .int .i64 x.k, .string x.d, j0 x.j, j1 x.j, j2 x.j, j3 x.j, j4 x.j, j5 x.j, j6 x.j, j7 x.j, j8 x.j, j9 x.j, j10 x.j] 52)) z0.heap.size (enC x) := heap_alloc_new z0 _; have hb := (Below.refl z0.heap.size z0).alloc (Nat.le_refl _) (.cells #[.int .i64 x.t, .int .i64 x.k, .string x.d, j0 x.j, j1 x.j, j2 x.j, j3 x.j, j4 x.j, j5 x.j, j6 x.j, j7 x.j, j8 x.j, j9 x.j, j10 x.j] 52); have pn := pc.alloc pc.size (.cells #[.int .i64 x.t, .int .i64 x.k, .string x.d, j0 x.j, j1 x.j, j2 x.j, j3 x.j, j4 x.j, j5 x.j, j6 x.j, j7 x.j, j8 x.j, j9 x.j, j10 x.j] 52); have hgk := pc.size; have hgn := Nat.ne_of_gt lg0; have o0 := o0.below hb; generalize z0.heap.size = g5 at *; generalize (z0.alloc (.cells #[.int .i64 x.t, .int .i64 x.k, .string x.d, j0 x.j, j1 x.j, j2 x.j, j3 x.j, j4 x.j, j5 x.j, j6 x.j, j7 x.j, j8 x.j, j9 x.j, j10 x.j] 52)) = z5 at *) | (have kk : Blk 52 ((w1.alloc (.cells #[.int .i64 x.t, .int .i64 x.k, .string x.d, j0 x.j, j1 x.j, j2 x.j, j3 x.j, j4 x.j, j5 x.j, j6 x.j, j7 x.j, j8 x.j, j9 x.j, j10 x.j] 52)).drew) w1.heap.size (enC x) := Blk.drew (show Blk 52 (w1.alloc (.cells #[.int .i64 x.t, .int .i64 x.k, .string x.d, j0 x.j, j1 x.j, j2 x.j, j3 x.j, j4 x.j, j5 x.j, j6 x.j, j7 x.j, j8 x.j, j9 x.j, j10 x.j] 52)) w1.heap.size (enC x) from heap_alloc_new w1 _); have hb := ((Below.refl w1.heap.size w1).alloc (Nat.le_refl _) (.cells #[.int .i64 x.t, .int .i64 x.k, .string x.d, j0 x.j, j1 x.j, j2 x.j, j3 x.j, j4 x.j, j5 x.j, j6 x.j, j7 x.j, j8 x.j, j9 x.j, j10 x.j] 52)).drew; have pn := hb; have hgk : w1.heap.size ≤ w1.heap.size := Nat.le_refl _; generalize (w1.alloc (.cells #[.int .i64 x.t, .int .i64 x.k, .string x.d, j0 x.j, j1 x.j, j2 x.j, j3 x.j, j4 x.j, j5 x.j, j6 x.j, j7 x.j, j8 x.j, j9 x.j, j10 x.j] 52)).drew = z5 at *)
    have k5 := kk
    clear kk pc hb
    have pc := pn
    clear pn
    have s5 := HT.out _ pc
    refine hKQ.out _ _ (s5) (fun _ => ?_)
    clear hKQ KQ
    try simp only [Act.put, ka, kb, kc]
    refine rr [3] ?_
    refine rc (fun KQ hKQ => ?_) AllReadyH.nil
    refine step_appR rfl _ _ 28 rfl _ _ rfl rfl _ (app_E _ o0 (HR1.out.below pc) (by omega) pc.size) ?_
    rintro v z3 ⟨A3, c3, rfl, o3, hb3, hG3⟩
    (try simp only [Nat.zero_add, List.nil_append] at o3)
    (try simp only [Nat.zero_add])
    (try have k5 := (hG3.block _ k5.lt (by show some _ ≠ some _; intro h; exact hgn (Option.some.inj h))).trans k5)
    have pn := pc.trans hb3
    clear pc o0
    have pc := pn
    clear pn
    have s3 := HT.out _ pc
    refine hKQ.out _ _ (s3) (fun _ => ?_)
    clear hKQ KQ
    try simp only [Act.put, ka, kb, kc]
    refine rr [6] ?_
    refine rc (fun KQ hKQ => ?_) AllReadyH.nil
    refine step_appR rfl _ _ 28 rfl _ _ rfl rfl _ (app_E _ o3 (rd_one k5) (by omega) pc.size) ?_
    rintro v z6 ⟨A', c', rfl, hO, hb6, hG6⟩
    have hO := Lh hO
    have pn := pc.trans hb6
    clear pc o3 k5
    have pc := pn
    clear pn
    have s6 := HT.out _ pc
    refine hKQ.out _ _ (s6) (fun _ => ?_)
    clear hKQ KQ
    try simp only [Act.put, ka, kb, kc]
    refine tj 7 _ ?_
    try simp only [Act.put, ka, kb, kc]
    refine rr [8] ?_
    refine rc (fun KQ hKQ => ?_) AllReadyH.nil
    have c13 := HT13.out _ pc
    have df0 := fun i => (K0.out.below pc K0.out.lt).frozen i
    go_simp
    have k0 : Blk 30 (z6.setCell ⟨w.heap.size, 13, none⟩ (.slice A' (n + 1) c')) w.heap.size [.int .i64 b, .int .i64 t, j0 j, j1 j, j2 j, j3 j, j4 j, j5 j, j6 j, j7 j, j8 j, j9 j, j10 j, .slice A' (n + 1) c'] := (K0.out.below pc K0.out.lt).set_ 13 _
    have k1 : Blk 52 (z6.setCell ⟨w.heap.size, 13, none⟩ (.slice A' (n + 1) c')) (w.heap.size + 1) [.int .i64 x.t, .int .i64 x.k, .string x.d, j0 x.j, j1 x.j, j2 x.j, j3 x.j, j4 x.j, j5 x.j, j6 x.j, j7 x.j, j8 x.j, j9 x.j, j10 x.j] := (K1.out.below pc K1.out.lt).far (p := ⟨w.heap.size, 13, none⟩) (by show w.heap.size + 1 ≠ w.heap.size; omega) _
    have k2 : Blk 30 (z6.setCell ⟨w.heap.size, 13, none⟩ (.slice A' (n + 1) c')) (w.heap.size + 2) [.int .i64 0, .int .i64 0, .int .u16 0, .int .u16 0, .int .u16 0, .int .i64 0, .int .i64 0, .int .u16 0, .int .u16 0, .int .u16 0, .int .i64 0, .int .i64 0, .bool false, .slice none 0 0] := (K2.out.below pc K2.out.lt).far (p := ⟨w.heap.size, 13, none⟩) (by show w.heap.size + 2 ≠ w.heap.size; omega) _
    have b2 := (HB.out.trans (pc.mono HB.out.size)).setCell (p := ⟨w.heap.size, 13, none⟩) (Nat.le_refl _) (.slice A' (n + 1) c')
    have o2 : OwnE (z6.setCell ⟨w.heap.size, 13, none⟩ (.slice A' (n + 1) c')) w1.heap.size (.slice A' (n + 1) c') (es ++ [x]) := hO.out.far (p := ⟨w.heap.size, 13, none⟩) l0 _
    clear df0 hO pc
    generalize (z6.setCell ⟨w.heap.size, 13, none⟩ (.slice A' (n + 1) c')) = zf at *
    have s8 := blk14 k1
    refine hKQ.out _ _ (s8) (fun _ => ?_)
    clear hKQ KQ
    try simp only [Act.put]
    refine wpAnyH_done (by kernel_rfl) ?_ _
    have c14 := blk14 k0
    have c15 := blk14 k2
    have df := fun i => k2.frozen i
    replace k1 := Lh k1
    replace k0 := Lh k0
    replace k2 := Lh k2
    replace o2 := Lh o2
    replace b2 := Lh b2
    go_wp2_with fail
    have sF := put14 (.int .i64 b) (.int .i64 t) (j0 j) (j1 j) (j2 j) (j3 j) (j4 j) (j5 j) (j6 j) (j7 j) (j8 j) (j9 j) (j10 j) (.slice A' (n + 1) c') k2.out
    have bF := below14 (g := w.heap.size + 2) (.int .i64 b) (.int .i64 t) (j0 j) (j1 j) (j2 j) (j3 j) (j4 j) (j5 j) (j6 j) (j7 j) (j8 j) (j9 j) (j10 j) (.slice A' (n + 1) c') b2.out (by first | omega | simp)
    have oF := own14 (g := w.heap.size + 2) (.int .i64 b) (.int .i64 t) (j0 j) (j1 j) (j2 j) (j3 j) (j4 j) (j5 j) (j6 j) (j7 j) (j8 j) (j9 j) (j10 j) (.slice A' (n + 1) c') o2.out l1.out
    generalize ((((((((((((((zf.setCell ⟨w.heap.size + 2, 0, none⟩ (.int .i64 b)).setCell ⟨w.heap.size + 2, 1, none⟩ (.int .i64 t)).setCell ⟨w.heap.size + 2, 2, none⟩ (j0 j)).setCell ⟨w.heap.size + 2, 3, none⟩ (j1 j)).setCell ⟨w.heap.size + 2, 4, none⟩ (j2 j)).setCell ⟨w.heap.size + 2, 5, none⟩ (j3 j)).setCell ⟨w.heap.size + 2, 6, none⟩ (j4 j)).setCell ⟨w.heap.size + 2, 7, none⟩ (j5 j)).setCell ⟨w.heap.size + 2, 8, none⟩ (j6 j)).setCell ⟨w.heap.size + 2, 9, none⟩ (j7 j)).setCell ⟨w.heap.size + 2, 10, none⟩ (j8 j)).setCell ⟨w.heap.size + 2, 11, none⟩ (j9 j)).setCell ⟨w.heap.size + 2, 12, none⟩ (j10 j)).setCell ⟨w.heap.size + 2, 13, none⟩ (.slice A' (n + 1) c')) = wf at *
    (try simp only [Exit.inBlock, Exit.then])
    refine bodyPost_ret (res1 Tryz.results146 rfl (aggL _) (sizeL _) (ld14 sF)) rfl ?_
    exact ⟨A', n + 1, c', by rfl, by rw [List.length_append, hlh.out]; rfl, oF.more (by have := l1.out; omega), bF⟩
  ·
   go_simp
   first | (have kk : Blk 52 (z3.alloc (.cells #[.int .i64 x.t, .int .i64 x.k, .string x.d, j0 x.j, j1 x.j, j2 x.j, j3 x.j, j4 x.j, j5 x.j, j6 x.j, j7 x.j, j8 x.j, j9 x.j, j10 x.j] 52)) z3.heap.size (enC x) := heap_alloc_new z3 _; have hb := (Below.refl z3.heap.size z3).alloc (Nat.le_refl _) (.cells #[.int .i64 x.t, .int .i64 x.k, .string x.d, j0 x.j, j1 x.j, j2 x.j, j3 x.j, j4 x.j, j5 x.j, j6 x.j, j7 x.j, j8 x.j, j9 x.j, j10 x.j] 52); have pn := pc.alloc pc.size (.cells #[.int .i64 x.t, .int .i64 x.k, .string x.d, j0 x.j, j1 x.j, j2 x.j, j3 x.j, j4 x.j, j5 x.j, j6 x.j, j7 x.j, j8 x.j, j9 x.j, j10 x.j] 52); have hgk := pc.size; have o3 := o3.below hb; generalize z3.heap.size = g5 at *; generalize (z3.alloc (.cells #[.int .i64 x.t, .int .i64 x.k, .string x.d, j0 x.j, j1 x.j, j2 x.j, j3 x.j, j4 x.j, j5 x.j, j6 x.j, j7 x.j, j8 x.j, j9 x.j, j10 x.j] 52)) = z5 at *) | (have kk : Blk 52 (z0.alloc (.cells #[.int .i64 x.t, .int .i64 x.k, .string x.d, j0 x.j, j1 x.j, j2 x.j, j3 x.j, j4 x.j, j5 x.j, j6 x.j, j7 x.j, j8 x.j, j9 x.j, j10 x.j] 52)) z0.heap.size (enC x) := heap_alloc_new z0 _; have hb := (Below.refl z0.heap.size z0).alloc (Nat.le_refl _) (.cells #[.int .i64 x.t, .int .i64 x.k, .string x.d, j0 x.j, j1 x.j, j2 x.j, j3 x.j, j4 x.j, j5 x.j, j6 x.j, j7 x.j, j8 x.j, j9 x.j, j10 x.j] 52); have pn := pc.alloc pc.size (.cells #[.int .i64 x.t, .int .i64 x.k, .string x.d, j0 x.j, j1 x.j, j2 x.j, j3 x.j, j4 x.j, j5 x.j, j6 x.j, j7 x.j, j8 x.j, j9 x.j, j10 x.j] 52); have hgk := pc.size; have hgn := Nat.ne_of_gt lg0; have o0 := o0.below hb; generalize z0.heap.size = g5 at *; generalize (z0.alloc (.cells #[.int .i64 x.t, .int .i64 x.k, .string x.d, j0 x.j, j1 x.j, j2 x.j, j3 x.j, j4 x.j, j5 x.j, j6 x.j, j7 x.j, j8 x.j, j9 x.j, j10 x.j] 52)) = z5 at *) | (have kk : Blk 52 ((w1.alloc (.cells #[.int .i64 x.t, .int .i64 x.k, .string x.d, j0 x.j, j1 x.j, j2 x.j, j3 x.j, j4 x.j, j5 x.j, j6 x.j, j7 x.j, j8 x.j, j9 x.j, j10 x.j] 52)).drew) w1.heap.size (enC x) := Blk.drew (show Blk 52 (w1.alloc (.cells #[.int .i64 x.t, .int .i64 x.k, .string x.d, j0 x.j, j1 x.j, j2 x.j, j3 x.j, j4 x.j, j5 x.j, j6 x.j, j7 x.j, j8 x.j, j9 x.j, j10 x.j] 52)) w1.heap.size (enC x) from heap_alloc_new w1 _); have hb := ((Below.refl w1.heap.size w1).alloc (Nat.le_refl _) (.cells #[.int .i64 x.t, .int .i64 x.k, .string x.d, j0 x.j, j1 x.j, j2 x.j, j3 x.j, j4 x.j, j5 x.j, j6 x.j, j7 x.j, j8 x.j, j9 x.j, j10 x.j] 52)).drew; have pn := hb; have hgk : w1.heap.size ≤ w1.heap.size := Nat.le_refl _; generalize (w1.alloc (.cells #[.int .i64 x.t, .int .i64 x.k, .string x.d, j0 x.j, j1 x.j, j2 x.j, j3 x.j, j4 x.j, j5 x.j, j6 x.j, j7 x.j, j8 x.j, j9 x.j, j10 x.j] 52)).drew = z5 at *)
   have k5 := kk
   clear kk pc hb
   have pc := pn
   clear pn
   have s5 := HT.out _ pc
   refine hKQ.out _ _ (s5) (fun _ => ?_)
   clear hKQ KQ
   try simp only [Act.put, ka, kb, kc]
   refine rr [0] ?_
   refine rc (fun KQ hKQ => ?_) AllReadyH.nil
   go_simp
   first | (have kk : Blk 52 (z5.alloc (.cells #[] 52)) z5.heap.size [] := heap_alloc_new z5 _; have hb := (Below.refl z5.heap.size z5).alloc (Nat.le_refl _) (.cells #[] 52); have pn := pc.alloc pc.size (.cells #[] 52); have hgk := pc.size; have hgn := Nat.ne_of_lt k5.lt; have k5 := k5.below hb k5.lt; generalize z5.heap.size = g0 at *; generalize (z5.alloc (.cells #[] 52)) = z0 at *) | (have kk : Blk 52 ((w1.alloc (.cells #[] 52)).drew) w1.heap.size [] := Blk.drew (show Blk 52 (w1.alloc (.cells #[] 52)) w1.heap.size [] from heap_alloc_new w1 _); have hb := ((Below.refl w1.heap.size w1).alloc (Nat.le_refl _) (.cells #[] 52)).drew; have pn := hb; have hgk : w1.heap.size ≤ w1.heap.size := Nat.le_refl _; generalize (w1.alloc (.cells #[] 52)).drew = z0 at *)
   have o0 := OwnE.empty kk hgk
   have lg0 := kk.lt
   clear kk pc hb
   have pc := pn
   clear pn
   have s0 := HT.out _ pc
   refine hKQ.out _ _ (s0) (fun _ => ?_)
   clear hKQ KQ
   try simp only [Act.put, ka, kb, kc]
   refine rr [3] ?_
   refine rc (fun KQ hKQ => ?_) AllReadyH.nil
   refine step_appR rfl _ _ 28 rfl _ _ rfl rfl _ (app_E _ o0 (HR1.out.below pc) (by omega) pc.size) ?_
   rintro v z3 ⟨A3, c3, rfl, o3, hb3, hG3⟩
   (try simp only [Nat.zero_add, List.nil_append] at o3)
   (try simp only [Nat.zero_add])
   (try have k5 := (hG3.block _ k5.lt (by show some _ ≠ some _; intro h; exact hgn (Option.some.inj h))).trans k5)
   have pn := pc.trans hb3
   clear pc o0
   have pc := pn
   clear pn
   have s3 := HT.out _ pc
   refine hKQ.out _ _ (s3) (fun _ => ?_)
   clear hKQ KQ
   try simp only [Act.put, ka, kb, kc]
   refine rr [6] ?_
   refine rc (fun KQ hKQ => ?_) AllReadyH.nil
   refine step_appR rfl _ _ 28 rfl _ _ rfl rfl _ (app_E _ o3 (rd_one k5) (by omega) pc.size) ?_
   rintro v z6 ⟨A', c', rfl, hO, hb6, hG6⟩
   have hO := Lh hO
   have pn := pc.trans hb6
   clear pc o3 k5
   have pc := pn
   clear pn
   have s6 := HT.out _ pc
   refine hKQ.out _ _ (s6) (fun _ => ?_)
   clear hKQ KQ
   try simp only [Act.put, ka, kb, kc]
   refine tj 7 _ ?_
   try simp only [Act.put, ka, kb, kc]
   refine rr [8] ?_
   refine rc (fun KQ hKQ => ?_) AllReadyH.nil
   have c13 := HT13.out _ pc
   have df0 := fun i => (K0.out.below pc K0.out.lt).frozen i
   go_simp
   have k0 : Blk 30 (z6.setCell ⟨w.heap.size, 13, none⟩ (.slice A' (n + 1) c')) w.heap.size [.int .i64 b, .int .i64 t, j0 j, j1 j, j2 j, j3 j, j4 j, j5 j, j6 j, j7 j, j8 j, j9 j, j10 j, .slice A' (n + 1) c'] := (K0.out.below pc K0.out.lt).set_ 13 _
   have k1 : Blk 52 (z6.setCell ⟨w.heap.size, 13, none⟩ (.slice A' (n + 1) c')) (w.heap.size + 1) [.int .i64 x.t, .int .i64 x.k, .string x.d, j0 x.j, j1 x.j, j2 x.j, j3 x.j, j4 x.j, j5 x.j, j6 x.j, j7 x.j, j8 x.j, j9 x.j, j10 x.j] := (K1.out.below pc K1.out.lt).far (p := ⟨w.heap.size, 13, none⟩) (by show w.heap.size + 1 ≠ w.heap.size; omega) _
   have k2 : Blk 30 (z6.setCell ⟨w.heap.size, 13, none⟩ (.slice A' (n + 1) c')) (w.heap.size + 2) [.int .i64 0, .int .i64 0, .int .u16 0, .int .u16 0, .int .u16 0, .int .i64 0, .int .i64 0, .int .u16 0, .int .u16 0, .int .u16 0, .int .i64 0, .int .i64 0, .bool false, .slice none 0 0] := (K2.out.below pc K2.out.lt).far (p := ⟨w.heap.size, 13, none⟩) (by show w.heap.size + 2 ≠ w.heap.size; omega) _
   have b2 := (HB.out.trans (pc.mono HB.out.size)).setCell (p := ⟨w.heap.size, 13, none⟩) (Nat.le_refl _) (.slice A' (n + 1) c')
   have o2 : OwnE (z6.setCell ⟨w.heap.size, 13, none⟩ (.slice A' (n + 1) c')) w1.heap.size (.slice A' (n + 1) c') (es ++ [x]) := hO.out.far (p := ⟨w.heap.size, 13, none⟩) l0 _
   clear df0 hO pc
   generalize (z6.setCell ⟨w.heap.size, 13, none⟩ (.slice A' (n + 1) c')) = zf at *
   have s8 := blk14 k1
   refine hKQ.out _ _ (s8) (fun _ => ?_)
   clear hKQ KQ
   try simp only [Act.put]
   refine wpAnyH_done (by kernel_rfl) ?_ _
   have c14 := blk14 k0
   have c15 := blk14 k2
   have df := fun i => k2.frozen i
   replace k1 := Lh k1
   replace k0 := Lh k0
   replace k2 := Lh k2
   replace o2 := Lh o2
   replace b2 := Lh b2
   go_wp2_with fail
   have sF := put14 (.int .i64 b) (.int .i64 t) (j0 j) (j1 j) (j2 j) (j3 j) (j4 j) (j5 j) (j6 j) (j7 j) (j8 j) (j9 j) (j10 j) (.slice A' (n + 1) c') k2.out
   have bF := below14 (g := w.heap.size + 2) (.int .i64 b) (.int .i64 t) (j0 j) (j1 j) (j2 j) (j3 j) (j4 j) (j5 j) (j6 j) (j7 j) (j8 j) (j9 j) (j10 j) (.slice A' (n + 1) c') b2.out (by first | omega | simp)
   have oF := own14 (g := w.heap.size + 2) (.int .i64 b) (.int .i64 t) (j0 j) (j1 j) (j2 j) (j3 j) (j4 j) (j5 j) (j6 j) (j7 j) (j8 j) (j9 j) (j10 j) (.slice A' (n + 1) c') o2.out l1.out
   generalize ((((((((((((((zf.setCell ⟨w.heap.size + 2, 0, none⟩ (.int .i64 b)).setCell ⟨w.heap.size + 2, 1, none⟩ (.int .i64 t)).setCell ⟨w.heap.size + 2, 2, none⟩ (j0 j)).setCell ⟨w.heap.size + 2, 3, none⟩ (j1 j)).setCell ⟨w.heap.size + 2, 4, none⟩ (j2 j)).setCell ⟨w.heap.size + 2, 5, none⟩ (j3 j)).setCell ⟨w.heap.size + 2, 6, none⟩ (j4 j)).setCell ⟨w.heap.size + 2, 7, none⟩ (j5 j)).setCell ⟨w.heap.size + 2, 8, none⟩ (j6 j)).setCell ⟨w.heap.size + 2, 9, none⟩ (j7 j)).setCell ⟨w.heap.size + 2, 10, none⟩ (j8 j)).setCell ⟨w.heap.size + 2, 11, none⟩ (j9 j)).setCell ⟨w.heap.size + 2, 12, none⟩ (j10 j)).setCell ⟨w.heap.size + 2, 13, none⟩ (.slice A' (n + 1) c')) = wf at *
   (try simp only [Exit.inBlock, Exit.then])
   refine bodyPost_ret (res1 Tryz.results146 rfl (aggL _) (sizeL _) (ld14 sF)) rfl ?_
   exact ⟨A', n + 1, c', by rfl, by rw [List.length_append, hlh.out]; rfl, oF.more (by have := l1.out; omega), bF⟩
 ·
  go_simp
  first | (have kk : Blk 52 (z3.alloc (.cells #[.int .i64 x.t, .int .i64 x.k, .string x.d, j0 x.j, j1 x.j, j2 x.j, j3 x.j, j4 x.j, j5 x.j, j6 x.j, j7 x.j, j8 x.j, j9 x.j, j10 x.j] 52)) z3.heap.size (enC x) := heap_alloc_new z3 _; have hb := (Below.refl z3.heap.size z3).alloc (Nat.le_refl _) (.cells #[.int .i64 x.t, .int .i64 x.k, .string x.d, j0 x.j, j1 x.j, j2 x.j, j3 x.j, j4 x.j, j5 x.j, j6 x.j, j7 x.j, j8 x.j, j9 x.j, j10 x.j] 52); have pn := pc.alloc pc.size (.cells #[.int .i64 x.t, .int .i64 x.k, .string x.d, j0 x.j, j1 x.j, j2 x.j, j3 x.j, j4 x.j, j5 x.j, j6 x.j, j7 x.j, j8 x.j, j9 x.j, j10 x.j] 52); have hgk := pc.size; have o3 := o3.below hb; generalize z3.heap.size = g5 at *; generalize (z3.alloc (.cells #[.int .i64 x.t, .int .i64 x.k, .string x.d, j0 x.j, j1 x.j, j2 x.j, j3 x.j, j4 x.j, j5 x.j, j6 x.j, j7 x.j, j8 x.j, j9 x.j, j10 x.j] 52)) = z5 at *) | (have kk : Blk 52 (z0.alloc (.cells #[.int .i64 x.t, .int .i64 x.k, .string x.d, j0 x.j, j1 x.j, j2 x.j, j3 x.j, j4 x.j, j5 x.j, j6 x.j, j7 x.j, j8 x.j, j9 x.j, j10 x.j] 52)) z0.heap.size (enC x) := heap_alloc_new z0 _; have hb := (Below.refl z0.heap.size z0).alloc (Nat.le_refl _) (.cells #[.int .i64 x.t, .int .i64 x.k, .string x.d, j0 x.j, j1 x.j, j2 x.j, j3 x.j, j4 x.j, j5 x.j, j6 x.j, j7 x.j, j8 x.j, j9 x.j, j10 x.j] 52); have pn := pc.alloc pc.size (.cells #[.int .i64 x.t, .int .i64 x.k, .string x.d, j0 x.j, j1 x.j, j2 x.j, j3 x.j, j4 x.j, j5 x.j, j6 x.j, j7 x.j, j8 x.j, j9 x.j, j10 x.j] 52); have hgk := pc.size; have hgn := Nat.ne_of_gt lg0; have o0 := o0.below hb; generalize z0.heap.size = g5 at *; generalize (z0.alloc (.cells #[.int .i64 x.t, .int .i64 x.k, .string x.d, j0 x.j, j1 x.j, j2 x.j, j3 x.j, j4 x.j, j5 x.j, j6 x.j, j7 x.j, j8 x.j, j9 x.j, j10 x.j] 52)) = z5 at *) | (have kk : Blk 52 ((w1.alloc (.cells #[.int .i64 x.t, .int .i64 x.k, .string x.d, j0 x.j, j1 x.j, j2 x.j, j3 x.j, j4 x.j, j5 x.j, j6 x.j, j7 x.j, j8 x.j, j9 x.j, j10 x.j] 52)).drew) w1.heap.size (enC x) := Blk.drew (show Blk 52 (w1.alloc (.cells #[.int .i64 x.t, .int .i64 x.k, .string x.d, j0 x.j, j1 x.j, j2 x.j, j3 x.j, j4 x.j, j5 x.j, j6 x.j, j7 x.j, j8 x.j, j9 x.j, j10 x.j] 52)) w1.heap.size (enC x) from heap_alloc_new w1 _); have hb := ((Below.refl w1.heap.size w1).alloc (Nat.le_refl _) (.cells #[.int .i64 x.t, .int .i64 x.k, .string x.d, j0 x.j, j1 x.j, j2 x.j, j3 x.j, j4 x.j, j5 x.j, j6 x.j, j7 x.j, j8 x.j, j9 x.j, j10 x.j] 52)).drew; have pn := hb; have hgk : w1.heap.size ≤ w1.heap.size := Nat.le_refl _; generalize (w1.alloc (.cells #[.int .i64 x.t, .int .i64 x.k, .string x.d, j0 x.j, j1 x.j, j2 x.j, j3 x.j, j4 x.j, j5 x.j, j6 x.j, j7 x.j, j8 x.j, j9 x.j, j10 x.j] 52)).drew = z5 at *)
  have k5 := kk
  clear kk pc hb
  have pc := pn
  clear pn
  have s5 := HT.out _ pc
  refine hKQ.out _ _ (s5) (fun _ => ?_)
  clear hKQ KQ
  try simp only [Act.put, ka, kb, kc]
  refine rr [0, 2] ?_
  refine rc (fun KQ hKQ => ?_) (rc (fun KQ hKQ => ?_) (AllReadyH.nil))
  ·
   go_simp
   first | (have kk : Blk 52 (z5.alloc (.cells #[] 52)) z5.heap.size [] := heap_alloc_new z5 _; have hb := (Below.refl z5.heap.size z5).alloc (Nat.le_refl _) (.cells #[] 52); have pn := pc.alloc pc.size (.cells #[] 52); have hgk := pc.size; have hgn := Nat.ne_of_lt k5.lt; have k5 := k5.below hb k5.lt; generalize z5.heap.size = g0 at *; generalize (z5.alloc (.cells #[] 52)) = z0 at *) | (have kk : Blk 52 ((w1.alloc (.cells #[] 52)).drew) w1.heap.size [] := Blk.drew (show Blk 52 (w1.alloc (.cells #[] 52)) w1.heap.size [] from heap_alloc_new w1 _); have hb := ((Below.refl w1.heap.size w1).alloc (Nat.le_refl _) (.cells #[] 52)).drew; have pn := hb; have hgk : w1.heap.size ≤ w1.heap.size := Nat.le_refl _; generalize (w1.alloc (.cells #[] 52)).drew = z0 at *)
   have o0 := OwnE.empty kk hgk
   have lg0 := kk.lt
   clear kk pc hb
   have pc := pn
   clear pn
   have s0 := HT.out _ pc
   refine hKQ.out _ _ (s0) (fun _ => ?_)
   clear hKQ KQ
   try simp only [Act.put, ka, kb, kc]
   refine rr [2] ?_
   refine rc (fun KQ hKQ => ?_) AllReadyH.nil
   have c13 := HT13.out _ pc
   go_simp
   have s2 := HT.out _ pc
   refine hKQ.out _ _ (s2) (fun _ => ?_)
   clear hKQ KQ
   try simp only [Act.put, ka, kb, kc]
   refine rr [3] ?_
   refine rc (fun KQ hKQ => ?_) AllReadyH.nil
   refine step_appR rfl _ _ 28 rfl _ _ rfl rfl _ (app_E _ o0 (HR1.out.below pc) (by omega) pc.size) ?_
   rintro v z3 ⟨A3, c3, rfl, o3, hb3, hG3⟩
   (try simp only [Nat.zero_add, List.nil_append] at o3)
   (try simp only [Nat.zero_add])
   (try have k5 := (hG3.block _ k5.lt (by show some _ ≠ some _; intro h; exact hgn (Option.some.inj h))).trans k5)
   have pn := pc.trans hb3
   clear pc o0
   have pc := pn
   clear pn
   have s3 := HT.out _ pc
   refine hKQ.out _ _ (s3) (fun _ => ?_)
   clear hKQ KQ
   try simp only [Act.put, ka, kb, kc]
   refine rr [6] ?_
   refine rc (fun KQ hKQ => ?_) AllReadyH.nil
   refine step_appR rfl _ _ 28 rfl _ _ rfl rfl _ (app_E _ o3 (rd_one k5) (by omega) pc.size) ?_
   rintro v z6 ⟨A', c', rfl, hO, hb6, hG6⟩
   have hO := Lh hO
   have pn := pc.trans hb6
   clear pc o3 k5
   have pc := pn
   clear pn
   have s6 := HT.out _ pc
   refine hKQ.out _ _ (s6) (fun _ => ?_)
   clear hKQ KQ
   try simp only [Act.put, ka, kb, kc]
   refine tj 7 _ ?_
   try simp only [Act.put, ka, kb, kc]
   refine rr [8] ?_
   refine rc (fun KQ hKQ => ?_) AllReadyH.nil
   have c13 := HT13.out _ pc
   have df0 := fun i => (K0.out.below pc K0.out.lt).frozen i
   go_simp
   have k0 : Blk 30 (z6.setCell ⟨w.heap.size, 13, none⟩ (.slice A' (n + 1) c')) w.heap.size [.int .i64 b, .int .i64 t, j0 j, j1 j, j2 j, j3 j, j4 j, j5 j, j6 j, j7 j, j8 j, j9 j, j10 j, .slice A' (n + 1) c'] := (K0.out.below pc K0.out.lt).set_ 13 _
   have k1 : Blk 52 (z6.setCell ⟨w.heap.size, 13, none⟩ (.slice A' (n + 1) c')) (w.heap.size + 1) [.int .i64 x.t, .int .i64 x.k, .string x.d, j0 x.j, j1 x.j, j2 x.j, j3 x.j, j4 x.j, j5 x.j, j6 x.j, j7 x.j, j8 x.j, j9 x.j, j10 x.j] := (K1.out.below pc K1.out.lt).far (p := ⟨w.heap.size, 13, none⟩) (by show w.heap.size + 1 ≠ w.heap.size; omega) _
   have k2 : Blk 30 (z6.setCell ⟨w.heap.size, 13, none⟩ (.slice A' (n + 1) c')) (w.heap.size + 2) [.int .i64 0, .int .i64 0, .int .u16 0, .int .u16 0, .int .u16 0, .int .i64 0, .int .i64 0, .int .u16 0, .int .u16 0, .int .u16 0, .int .i64 0, .int .i64 0, .bool false, .slice none 0 0] := (K2.out.below pc K2.out.lt).far (p := ⟨w.heap.size, 13, none⟩) (by show w.heap.size + 2 ≠ w.heap.size; omega) _
   have b2 := (HB.out.trans (pc.mono HB.out.size)).setCell (p := ⟨w.heap.size, 13, none⟩) (Nat.le_refl _) (.slice A' (n + 1) c')
   have o2 : OwnE (z6.setCell ⟨w.heap.size, 13, none⟩ (.slice A' (n + 1) c')) w1.heap.size (.slice A' (n + 1) c') (es ++ [x]) := hO.out.far (p := ⟨w.heap.size, 13, none⟩) l0 _
   clear df0 hO pc
   generalize (z6.setCell ⟨w.heap.size, 13, none⟩ (.slice A' (n + 1) c')) = zf at *
   have s8 := blk14 k1
   refine hKQ.out _ _ (s8) (fun _ => ?_)
   clear hKQ KQ
   try simp only [Act.put]
   refine wpAnyH_done (by kernel_rfl) ?_ _
   have c14 := blk14 k0
   have c15 := blk14 k2
   have df := fun i => k2.frozen i
   replace k1 := Lh k1
   replace k0 := Lh k0
   replace k2 := Lh k2
   replace o2 := Lh o2
   replace b2 := Lh b2
   go_wp2_with fail
   have sF := put14 (.int .i64 b) (.int .i64 t) (j0 j) (j1 j) (j2 j) (j3 j) (j4 j) (j5 j) (j6 j) (j7 j) (j8 j) (j9 j) (j10 j) (.slice A' (n + 1) c') k2.out
   have bF := below14 (g := w.heap.size + 2) (.int .i64 b) (.int .i64 t) (j0 j) (j1 j) (j2 j) (j3 j) (j4 j) (j5 j) (j6 j) (j7 j) (j8 j) (j9 j) (j10 j) (.slice A' (n + 1) c') b2.out (by first | omega | simp)
   have oF := own14 (g := w.heap.size + 2) (.int .i64 b) (.int .i64 t) (j0 j) (j1 j) (j2 j) (j3 j) (j4 j) (j5 j) (j6 j) (j7 j) (j8 j) (j9 j) (j10 j) (.slice A' (n + 1) c') o2.out l1.out
   generalize ((((((((((((((zf.setCell ⟨w.heap.size + 2, 0, none⟩ (.int .i64 b)).setCell ⟨w.heap.size + 2, 1, none⟩ (.int .i64 t)).setCell ⟨w.heap.size + 2, 2, none⟩ (j0 j)).setCell ⟨w.heap.size + 2, 3, none⟩ (j1 j)).setCell ⟨w.heap.size + 2, 4, none⟩ (j2 j)).setCell ⟨w.heap.size + 2, 5, none⟩ (j3 j)).setCell ⟨w.heap.size + 2, 6, none⟩ (j4 j)).setCell ⟨w.heap.size + 2, 7, none⟩ (j5 j)).setCell ⟨w.heap.size + 2, 8, none⟩ (j6 j)).setCell ⟨w.heap.size + 2, 9, none⟩ (j7 j)).setCell ⟨w.heap.size + 2, 10, none⟩ (j8 j)).setCell ⟨w.heap.size + 2, 11, none⟩ (j9 j)).setCell ⟨w.heap.size + 2, 12, none⟩ (j10 j)).setCell ⟨w.heap.size + 2, 13, none⟩ (.slice A' (n + 1) c')) = wf at *
   (try simp only [Exit.inBlock, Exit.then])
   refine bodyPost_ret (res1 Tryz.results146 rfl (aggL _) (sizeL _) (ld14 sF)) rfl ?_
   exact ⟨A', n + 1, c', by rfl, by rw [List.length_append, hlh.out]; rfl, oF.more (by have := l1.out; omega), bF⟩
  ·
   have c13 := HT13.out _ pc
   go_simp
   have s2 := HT.out _ pc
   refine hKQ.out _ _ (s2) (fun _ => ?_)
   clear hKQ KQ
   try simp only [Act.put, ka, kb, kc]
   refine rr [0] ?_
   refine rc (fun KQ hKQ => ?_) AllReadyH.nil
   go_simp
   first | (have kk : Blk 52 (z5.alloc (.cells #[] 52)) z5.heap.size [] := heap_alloc_new z5 _; have hb := (Below.refl z5.heap.size z5).alloc (Nat.le_refl _) (.cells #[] 52); have pn := pc.alloc pc.size (.cells #[] 52); have hgk := pc.size; have hgn := Nat.ne_of_lt k5.lt; have k5 := k5.below hb k5.lt; generalize z5.heap.size = g0 at *; generalize (z5.alloc (.cells #[] 52)) = z0 at *) | (have kk : Blk 52 ((w1.alloc (.cells #[] 52)).drew) w1.heap.size [] := Blk.drew (show Blk 52 (w1.alloc (.cells #[] 52)) w1.heap.size [] from heap_alloc_new w1 _); have hb := ((Below.refl w1.heap.size w1).alloc (Nat.le_refl _) (.cells #[] 52)).drew; have pn := hb; have hgk : w1.heap.size ≤ w1.heap.size := Nat.le_refl _; generalize (w1.alloc (.cells #[] 52)).drew = z0 at *)
   have o0 := OwnE.empty kk hgk
   have lg0 := kk.lt
   clear kk pc hb
   have pc := pn
   clear pn
   have s0 := HT.out _ pc
   refine hKQ.out _ _ (s0) (fun _ => ?_)
   clear hKQ KQ
   try simp only [Act.put, ka, kb, kc]
   refine rr [3] ?_
   refine rc (fun KQ hKQ => ?_) AllReadyH.nil
   refine step_appR rfl _ _ 28 rfl _ _ rfl rfl _ (app_E _ o0 (HR1.out.below pc) (by omega) pc.size) ?_
   rintro v z3 ⟨A3, c3, rfl, o3, hb3, hG3⟩
   (try simp only [Nat.zero_add, List.nil_append] at o3)
   (try simp only [Nat.zero_add])
   (try have k5 := (hG3.block _ k5.lt (by show some _ ≠ some _; intro h; exact hgn (Option.some.inj h))).trans k5)
   have pn := pc.trans hb3
   clear pc o0
   have pc := pn
   clear pn
   have s3 := HT.out _ pc
   refine hKQ.out _ _ (s3) (fun _ => ?_)
   clear hKQ KQ
   try simp only [Act.put, ka, kb, kc]
   refine rr [6] ?_
   refine rc (fun KQ hKQ => ?_) AllReadyH.nil
   refine step_appR rfl _ _ 28 rfl _ _ rfl rfl _ (app_E _ o3 (rd_one k5) (by omega) pc.size) ?_
   rintro v z6 ⟨A', c', rfl, hO, hb6, hG6⟩
   have hO := Lh hO
   have pn := pc.trans hb6
   clear pc o3 k5
   have pc := pn
   clear pn
   have s6 := HT.out _ pc
   refine hKQ.out _ _ (s6) (fun _ => ?_)
   clear hKQ KQ
   try simp only [Act.put, ka, kb, kc]
   refine tj 7 _ ?_
   try simp only [Act.put, ka, kb, kc]
   refine rr [8] ?_
   refine rc (fun KQ hKQ => ?_) AllReadyH.nil
   have c13 := HT13.out _ pc
   have df0 := fun i => (K0.out.below pc K0.out.lt).frozen i
   go_simp
   have k0 : Blk 30 (z6.setCell ⟨w.heap.size, 13, none⟩ (.slice A' (n + 1) c')) w.heap.size [.int .i64 b, .int .i64 t, j0 j, j1 j, j2 j, j3 j, j4 j, j5 j, j6 j, j7 j, j8 j, j9 j, j10 j, .slice A' (n + 1) c'] := (K0.out.below pc K0.out.lt).set_ 13 _
   have k1 : Blk 52 (z6.setCell ⟨w.heap.size, 13, none⟩ (.slice A' (n + 1) c')) (w.heap.size + 1) [.int .i64 x.t, .int .i64 x.k, .string x.d, j0 x.j, j1 x.j, j2 x.j, j3 x.j, j4 x.j, j5 x.j, j6 x.j, j7 x.j, j8 x.j, j9 x.j, j10 x.j] := (K1.out.below pc K1.out.lt).far (p := ⟨w.heap.size, 13, none⟩) (by show w.heap.size + 1 ≠ w.heap.size; omega) _
   have k2 : Blk 30 (z6.setCell ⟨w.heap.size, 13, none⟩ (.slice A' (n + 1) c')) (w.heap.size + 2) [.int .i64 0, .int .i64 0, .int .u16 0, .int .u16 0, .int .u16 0, .int .i64 0, .int .i64 0, .int .u16 0, .int .u16 0, .int .u16 0, .int .i64 0, .int .i64 0, .bool false, .slice none 0 0] := (K2.out.below pc K2.out.lt).far (p := ⟨w.heap.size, 13, none⟩) (by show w.heap.size + 2 ≠ w.heap.size; omega) _
   have b2 := (HB.out.trans (pc.mono HB.out.size)).setCell (p := ⟨w.heap.size, 13, none⟩) (Nat.le_refl _) (.slice A' (n + 1) c')
   have o2 : OwnE (z6.setCell ⟨w.heap.size, 13, none⟩ (.slice A' (n + 1) c')) w1.heap.size (.slice A' (n + 1) c') (es ++ [x]) := hO.out.far (p := ⟨w.heap.size, 13, none⟩) l0 _
   clear df0 hO pc
   generalize (z6.setCell ⟨w.heap.size, 13, none⟩ (.slice A' (n + 1) c')) = zf at *
   have s8 := blk14 k1
   refine hKQ.out _ _ (s8) (fun _ => ?_)
   clear hKQ KQ
   try simp only [Act.put]
   refine wpAnyH_done (by kernel_rfl) ?_ _
   have c14 := blk14 k0
   have c15 := blk14 k2
   have df := fun i => k2.frozen i
   replace k1 := Lh k1
   replace k0 := Lh k0
   replace k2 := Lh k2
   replace o2 := Lh o2
   replace b2 := Lh b2
   go_wp2_with fail
   have sF := put14 (.int .i64 b) (.int .i64 t) (j0 j) (j1 j) (j2 j) (j3 j) (j4 j) (j5 j) (j6 j) (j7 j) (j8 j) (j9 j) (j10 j) (.slice A' (n + 1) c') k2.out
   have bF := below14 (g := w.heap.size + 2) (.int .i64 b) (.int .i64 t) (j0 j) (j1 j) (j2 j) (j3 j) (j4 j) (j5 j) (j6 j) (j7 j) (j8 j) (j9 j) (j10 j) (.slice A' (n + 1) c') b2.out (by first | omega | simp)
   have oF := own14 (g := w.heap.size + 2) (.int .i64 b) (.int .i64 t) (j0 j) (j1 j) (j2 j) (j3 j) (j4 j) (j5 j) (j6 j) (j7 j) (j8 j) (j9 j) (j10 j) (.slice A' (n + 1) c') o2.out l1.out
   generalize ((((((((((((((zf.setCell ⟨w.heap.size + 2, 0, none⟩ (.int .i64 b)).setCell ⟨w.heap.size + 2, 1, none⟩ (.int .i64 t)).setCell ⟨w.heap.size + 2, 2, none⟩ (j0 j)).setCell ⟨w.heap.size + 2, 3, none⟩ (j1 j)).setCell ⟨w.heap.size + 2, 4, none⟩ (j2 j)).setCell ⟨w.heap.size + 2, 5, none⟩ (j3 j)).setCell ⟨w.heap.size + 2, 6, none⟩ (j4 j)).setCell ⟨w.heap.size + 2, 7, none⟩ (j5 j)).setCell ⟨w.heap.size + 2, 8, none⟩ (j6 j)).setCell ⟨w.heap.size + 2, 9, none⟩ (j7 j)).setCell ⟨w.heap.size + 2, 10, none⟩ (j8 j)).setCell ⟨w.heap.size + 2, 11, none⟩ (j9 j)).setCell ⟨w.heap.size + 2, 12, none⟩ (j10 j)).setCell ⟨w.heap.size + 2, 13, none⟩ (.slice A' (n + 1) c')) = wf at *
   (try simp only [Exit.inBlock, Exit.then])
   refine bodyPost_ret (res1 Tryz.results146 rfl (aggL _) (sizeL _) (ld14 sF)) rfl ?_
   exact ⟨A', n + 1, c', by rfl, by rw [List.length_append, hlh.out]; rfl, oF.more (by have := l1.out; omega), bF⟩
end Go.Proofs.YtegnfkbmlalkeaaGreat.ref12
