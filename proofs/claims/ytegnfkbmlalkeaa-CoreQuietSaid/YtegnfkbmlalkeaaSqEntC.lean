/- The landed entries: Term, Newer, inForce, Conf, alike, joins. Conditions: the log's numbers stay far from the ends of an int. -/
import Derived.Deep.RegionHeld3
import Derived.Deep.Cut
import Derived.Lib.Hide
import Derived.Test.YtegnfkbmlalkeaaSqEntB
import Derived.Test.YtegnfkbmlalkeaaSqKitLg
import Derived.Test.YtegnfkbmlalkeaaSqJ0
namespace Go.Proofs.Ytegnfkbmlalkeaa.enti
open Go Go.RowKit Go.Proofs.Ytegnfkbmlalkeaa.kit Go.Proofs.Ytegnfkbmlalkeaa.nums Go.Proofs.Ytegnfkbmlalkeaa.cf Go.Proofs.Ytegnfkbmlalkeaa.lg
set_option linter.unusedVariables false
set_option maxHeartbeats 1000000 in
theorem term_any (L : LgL) (A : Option Addr) (n c : Nat) (i : Int) (w : World) (B : Nat) (hR : RdE w B A n L.es) (hB : B ≤ w.heap.size) (hc : n ≤ c) (hf : Fit L) : Calls Try.prog 68 #[lgV L (.slice A n c), .int .i64 i] w fun e w' => e = .returned (.tuple #[.int .i64 (termF L i).1, .bool (termF L i).2]) ∧ Below w.heap.size w w' := by
 have CA := Lib.hid (fun (w' : World) (hb : Below w.heap.size w w') => at_any L A n c i w' w.heap.size ((hR.more hB).below hb) hb.size hc hf)
 have HT : Hid (termF L i = if i = L.b then (L.t, true) else ((atF L i).1.t, (atF L i).2)) := rfl
 rw [HT.out]
 clear HT hR hB hf
 generalize atF L i = RES at *
 obtain ⟨x, bl⟩ := RES
 unfold enV at CA
 unfold lgV at *
 obtain ⟨b, t, j, es⟩ := L
 dsimp only at *
 have k0 : Blk 36 (w.alloc (.cells #[.int .i64 b, .int .i64 t, j0 j, j1 j, j2 j, j3 j, j4 j, j5 j, j6 j, j7 j, j8 j, j9 j, j10 j, .slice A n c] 36)) w.heap.size [.int .i64 b, .int .i64 t, j0 j, j1 j, j2 j, j3 j, j4 j, j5 j, j6 j, j7 j, j8 j, j9 j, j10 j, .slice A n c] := (heap_alloc_new w (.cells #[.int .i64 b, .int .i64 t, j0 j, j1 j, j2 j, j3 j, j4 j, j5 j, j6 j, j7 j, j8 j, j9 j, j10 j, .slice A n c] 36))
 have hB : Below w.heap.size w (w.alloc (.cells #[.int .i64 b, .int .i64 t, j0 j, j1 j, j2 j, j3 j, j4 j, j5 j, j6 j, j7 j, j8 j, j9 j, j10 j, .slice A n c] 36)) := ((Below.refl w.heap.size w).alloc (by first | exact Nat.le_refl _ | simp) (.cells #[.int .i64 b, .int .i64 t, j0 j, j1 j, j2 j, j3 j, j4 j, j5 j, j6 j, j7 j, j8 j, j9 j, j10 j, .slice A n c] 36))
 have HB := Lib.hid hB
 have HS : Hid (∀ wq, Below (w.alloc (.cells #[.int .i64 b, .int .i64 t, j0 j, j1 j, j2 j, j3 j, j4 j, j5 j, j6 j, j7 j, j8 j, j9 j, j10 j, .slice A n c] 36)).heap.size (w.alloc (.cells #[.int .i64 b, .int .i64 t, j0 j, j1 j, j2 j, j3 j, j4 j, j5 j, j6 j, j7 j, j8 j, j9 j, j10 j, .slice A n c] 36)) wq → (wq.cell? ⟨w.heap.size, 0, none⟩ = some (.int .i64 b) ∧ wq.cell? ⟨w.heap.size, 1, none⟩ = some (.int .i64 t) ∧ wq.cell? ⟨w.heap.size, 2, none⟩ = some (j0 j) ∧ wq.cell? ⟨w.heap.size, 3, none⟩ = some (j1 j) ∧ wq.cell? ⟨w.heap.size, 4, none⟩ = some (j2 j) ∧ wq.cell? ⟨w.heap.size, 5, none⟩ = some (j3 j) ∧ wq.cell? ⟨w.heap.size, 6, none⟩ = some (j4 j) ∧ wq.cell? ⟨w.heap.size, 7, none⟩ = some (j5 j) ∧ wq.cell? ⟨w.heap.size, 8, none⟩ = some (j6 j) ∧ wq.cell? ⟨w.heap.size, 9, none⟩ = some (j7 j) ∧ wq.cell? ⟨w.heap.size, 10, none⟩ = some (j8 j) ∧ wq.cell? ⟨w.heap.size, 11, none⟩ = some (j9 j) ∧ wq.cell? ⟨w.heap.size, 12, none⟩ = some (j10 j) ∧ wq.cell? ⟨w.heap.size, 13, none⟩ = some (.slice A n c))) := fun wq hq => blk14 (k0.below hq k0.lt)
 have q0 := Below.refl (w.alloc (.cells #[.int .i64 b, .int .i64 t, j0 j, j1 j, j2 j, j3 j, j4 j, j5 j, j6 j, j7 j, j8 j, j9 j, j10 j, .slice A n c] 36)).heap.size (w.alloc (.cells #[.int .i64 b, .int .i64 t, j0 j, j1 j, j2 j, j3 j, j4 j, j5 j, j6 j, j7 j, j8 j, j9 j, j10 j, .slice A n c] 36))
 have K0 := Lib.hid k0
 clear hB k0
 by_cases h1 : i = b
 · have h1 := h1.symm
   subst h1
   rw [if_pos rfl]
   go_enter Try.func68, Try.ntmps68
   go_upto_region 1 with (fail)
   generalize (w.alloc (.cells #[.int .i64 b, .int .i64 t, j0 j, j1 j, j2 j, j3 j, j4 j, j5 j, j6 j, j7 j, j8 j, j9 j, j10 j, .slice A n c] 36)) = w1 at *
   have r0 := HS.out _ q0
   go_wp2_with fail
   (try simp only [Exit.inBlock, Exit.then])
   refine bodyPost_ret (resT2 Try.results68 rfl rfl) rfl ?_
   exact ⟨rfl, HB.out⟩
 · rw [if_neg h1]
   have h1 : (i == b) = false := by simpa using h1
   go_enter Try.func68, Try.ntmps68
   go_upto_region 1 with (fail)
   generalize (w.alloc (.cells #[.int .i64 b, .int .i64 t, j0 j, j1 j, j2 j, j3 j, j4 j, j5 j, j6 j, j7 j, j8 j, j9 j, j10 j, .slice A n c] 36)) = w1 at *
   have r0 := HS.out _ q0
   go_wp2_with fail
   refine (CA.out _ HB.out).mono ?_
   rintro e y1 ⟨rfl, hY1⟩
   have q1 := q0.trans (hY1.mono q0.size)
   clear r0
   go_upto_region 4 with (fail)
   have sF : Blk 61 (y1.alloc (.cells #[.int .i64 x.t, .int .i64 x.k, .string x.d, j0 x.j, j1 x.j, j2 x.j, j3 x.j, j4 x.j, j5 x.j, j6 x.j, j7 x.j, j8 x.j, j9 x.j, j10 x.j] 61)) y1.heap.size [.int .i64 x.t, .int .i64 x.k, .string x.d, j0 x.j, j1 x.j, j2 x.j, j3 x.j, j4 x.j, j5 x.j, j6 x.j, j7 x.j, j8 x.j, j9 x.j, j10 x.j] := heap_alloc_new y1 (.cells #[.int .i64 x.t, .int .i64 x.k, .string x.d, j0 x.j, j1 x.j, j2 x.j, j3 x.j, j4 x.j, j5 x.j, j6 x.j, j7 x.j, j8 x.j, j9 x.j, j10 x.j] 61)
   have bF := Below.alloc (HB.out.trans (q1.mono HB.out.size)) (Below.size (HB.out.trans (q1.mono HB.out.size))) (.cells #[.int .i64 x.t, .int .i64 x.k, .string x.d, j0 x.j, j1 x.j, j2 x.j, j3 x.j, j4 x.j, j5 x.j, j6 x.j, j7 x.j, j8 x.j, j9 x.j, j10 x.j] 61)
   generalize (y1.alloc (.cells #[.int .i64 x.t, .int .i64 x.k, .string x.d, j0 x.j, j1 x.j, j2 x.j, j3 x.j, j4 x.j, j5 x.j, j6 x.j, j7 x.j, j8 x.j, j9 x.j, j10 x.j] 61)) = wf at *
   have e0 := (blk14 sF).1
   clear sF
   go_wp2_with fail
   (try simp only [Exit.inBlock, Exit.then])
   refine bodyPost_ret (resT2 Try.results68 rfl rfl) rfl ?_
   exact ⟨rfl, bF⟩
end Go.Proofs.Ytegnfkbmlalkeaa.enti
