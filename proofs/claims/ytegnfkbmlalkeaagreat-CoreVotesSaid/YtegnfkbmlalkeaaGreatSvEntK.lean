/- The landed entries: Merge. Conditions: the log's numbers stay far from the ends of an int. -/
import Derived.Deep.RegionHeld3
import Derived.Deep.Cut
import Derived.Lib.Hide
import Derived.Test.YtegnfkbmlalkeaaGreatSvEntJ
import Derived.Test.YtegnfkbmlalkeaaGreatSvJ3
import Derived.Test.YtegnfkbmlalkeaaGreatSvKitLg
import Derived.Test.YtegnfkbmlalkeaaGreatSvJ0
namespace Go.Proofs.YtegnfkbmlalkeaaGreat.enti
open Go Go.RowKit Go.Proofs.YtegnfkbmlalkeaaGreat.kit Go.Proofs.YtegnfkbmlalkeaaGreat.nums Go.Proofs.YtegnfkbmlalkeaaGreat.cf Go.Proofs.YtegnfkbmlalkeaaGreat.lg
set_option linter.unusedVariables false
theorem _root_.Go.Proofs.YtegnfkbmlalkeaaGreat.kit.RdE.drop {w : World} {B n b o : Nat} {es : List EnL} (h : RdE w B (some ⟨b, o, none⟩) n es) {p : Nat} (hp : p < n) : RdE w B (some ⟨b, o + p * 14, none⟩) (n - p) (es.drop p) := by
 refine ⟨by rw [List.length_drop, h.1], fun _ => ?_⟩
 obtain ⟨b', o', e, hlt, hc⟩ := h.2 (by omega)
 simp only [Option.some.injEq, Addr.mk.injEq, and_true] at e
 obtain ⟨rfl, rfl⟩ := e
 refine ⟨b, _, rfl, hlt, fun j x hx => ?_⟩
 rw [List.getElem?_drop] at hx
 have := hc _ _ hx
 rwa [show o + (p + j) * 14 = o + p * 14 + j * 14 by rw [Nat.add_mul]; omega] at this
set_option maxHeartbeats 4000000 in
theorem merge_any (L : LgL) (A : Option Addr) (n c : Nat) (prev term : Int) (A2 : Option Addr) (n2 c2 : Nat) (es2 : List EnL) (w : World) (B : Nat) (hR : RdE w B A n L.es) (hB : B ≤ w.heap.size) (hc : n ≤ c) (hf : Fit L) (B2 : Nat) (hE : RdE w B2 A2 n2 es2) (hB2 : B2 ≤ w.heap.size) (hc2 : n2 ≤ c2) (hn2 : n2 ≤ 1000000) :
   Calls Tryz.prog 129 #[lgV L (.slice A n c), .int .i64 prev, .int .i64 term, .slice A2 n2 c2] w fun e w' => ∃ A' n' c', e = .returned (.tuple #[lgV (mergeF L prev term es2).1 (.slice A' n' c'), .int .i64 (mergeF L prev term es2).2.1, .bool (mergeF L prev term es2).2.2]) ∧ n' = (mergeF L prev term es2).1.es.length ∧ OwnE w' w.heap.size (.slice A' n' c') (mergeF L prev term es2).1.es ∧ Below w.heap.size w w' := by
 have HR := Lib.hid hR
 have hl := hR.1
 have HF := Lib.hid hf
 have hBs := Lib.hid hB
 have HE := Lib.hid hE
 have hle := hE.1
 obtain ⟨f0, f1, f2⟩ := hf
 rw [hl] at f2
 have HM : Hid (mergeF L prev term es2 = if joinB L prev term n2 = true then ({ L with es := laidF L prev es2 }, prev + n2, true) else (L, 0, false)) := by show _ = _; unfold mergeF; rw [hle]
 generalize mergeF L prev term es2 = RES at *
 have HJ : Hid (joinB L prev term n2 = true → 0 ≤ prev ∧ prev ≤ L.b + n ∧ L.b ≤ prev + n2) := fun h => by
   unfold joinB lastF at h
   rw [hl, Bool.and_eq_true, decide_eq_true_iff] at h
   exact h.1
 have HLd : Hid (∀ (u v : Nat), (max prev L.b - L.b).toNat = u → (max prev L.b - prev).toNat = v → laidF L prev es2 = if sameN (L.es.drop u) (es2.drop v) = (es2.drop v).length then L.es else L.es.take (u + sameN (L.es.drop u) (es2.drop v)) ++ (es2.drop v).drop (sameN (L.es.drop u) (es2.drop v))) := fun u v h1 h2 => by subst h1 h2; rfl
 generalize laidF L prev es2 = LD at *
 generalize hjb : joinB L prev term n2 = jb at *
 have hlh := Lib.hid hl
 replace hle := Lib.hid hle
 clear hR hE hB hl
 unfold lgV at *
 obtain ⟨b, t, j, es⟩ := L
 dsimp only at *
 have k0 : Blk 30 (w.alloc (.cells #[.int .i64 b, .int .i64 t, j0 j, j1 j, j2 j, j3 j, j4 j, j5 j, j6 j, j7 j, j8 j, j9 j, j10 j, .slice A n c] 30)) w.heap.size [.int .i64 b, .int .i64 t, j0 j, j1 j, j2 j, j3 j, j4 j, j5 j, j6 j, j7 j, j8 j, j9 j, j10 j, .slice A n c] := (heap_alloc_new w (.cells #[.int .i64 b, .int .i64 t, j0 j, j1 j, j2 j, j3 j, j4 j, j5 j, j6 j, j7 j, j8 j, j9 j, j10 j, .slice A n c] 30))
 replace k0 : Blk 30 ((w.alloc (.cells #[.int .i64 b, .int .i64 t, j0 j, j1 j, j2 j, j3 j, j4 j, j5 j, j6 j, j7 j, j8 j, j9 j, j10 j, .slice A n c] 30)).alloc (.cells #[.int .i64 0, .int .i64 0, .int .u16 0, .int .u16 0, .int .u16 0, .int .i64 0, .int .i64 0, .int .u16 0, .int .u16 0, .int .u16 0, .int .i64 0, .int .i64 0, .bool false, .slice none 0 0] 30)) w.heap.size [.int .i64 b, .int .i64 t, j0 j, j1 j, j2 j, j3 j, j4 j, j5 j, j6 j, j7 j, j8 j, j9 j, j10 j, .slice A n c] := k0.alloc _
 have k1 : Blk 30 ((w.alloc (.cells #[.int .i64 b, .int .i64 t, j0 j, j1 j, j2 j, j3 j, j4 j, j5 j, j6 j, j7 j, j8 j, j9 j, j10 j, .slice A n c] 30)).alloc (.cells #[.int .i64 0, .int .i64 0, .int .u16 0, .int .u16 0, .int .u16 0, .int .i64 0, .int .i64 0, .int .u16 0, .int .u16 0, .int .u16 0, .int .i64 0, .int .i64 0, .bool false, .slice none 0 0] 30)) (w.heap.size + 1) [.int .i64 0, .int .i64 0, .int .u16 0, .int .u16 0, .int .u16 0, .int .i64 0, .int .i64 0, .int .u16 0, .int .u16 0, .int .u16 0, .int .i64 0, .int .i64 0, .bool false, .slice none 0 0] := (by have h := heap_alloc_new (w.alloc (.cells #[.int .i64 b, .int .i64 t, j0 j, j1 j, j2 j, j3 j, j4 j, j5 j, j6 j, j7 j, j8 j, j9 j, j10 j, .slice A n c] 30)) (.cells #[.int .i64 0, .int .i64 0, .int .u16 0, .int .u16 0, .int .u16 0, .int .i64 0, .int .i64 0, .int .u16 0, .int .u16 0, .int .u16 0, .int .i64 0, .int .i64 0, .bool false, .slice none 0 0] 30); rwa [show (w.alloc (.cells #[.int .i64 b, .int .i64 t, j0 j, j1 j, j2 j, j3 j, j4 j, j5 j, j6 j, j7 j, j8 j, j9 j, j10 j, .slice A n c] 30)).heap.size = w.heap.size + 1 by simp] at h)
 have hB : Below w.heap.size w ((w.alloc (.cells #[.int .i64 b, .int .i64 t, j0 j, j1 j, j2 j, j3 j, j4 j, j5 j, j6 j, j7 j, j8 j, j9 j, j10 j, .slice A n c] 30)).alloc (.cells #[.int .i64 0, .int .i64 0, .int .u16 0, .int .u16 0, .int .u16 0, .int .i64 0, .int .i64 0, .int .u16 0, .int .u16 0, .int .u16 0, .int .i64 0, .int .i64 0, .bool false, .slice none 0 0] 30)) := (((Below.refl w.heap.size w).alloc (by first | exact Nat.le_refl _ | (simp; done) | (simp; omega)) (.cells #[.int .i64 b, .int .i64 t, j0 j, j1 j, j2 j, j3 j, j4 j, j5 j, j6 j, j7 j, j8 j, j9 j, j10 j, .slice A n c] 30)).alloc (by first | exact Nat.le_refl _ | (simp; done) | (simp; omega)) (.cells #[.int .i64 0, .int .i64 0, .int .u16 0, .int .u16 0, .int .u16 0, .int .i64 0, .int .i64 0, .int .u16 0, .int .u16 0, .int .u16 0, .int .i64 0, .int .i64 0, .bool false, .slice none 0 0] 30))
 have HB := Lib.hid hB
 have HS : Hid (∀ wq, Below ((w.alloc (.cells #[.int .i64 b, .int .i64 t, j0 j, j1 j, j2 j, j3 j, j4 j, j5 j, j6 j, j7 j, j8 j, j9 j, j10 j, .slice A n c] 30)).alloc (.cells #[.int .i64 0, .int .i64 0, .int .u16 0, .int .u16 0, .int .u16 0, .int .i64 0, .int .i64 0, .int .u16 0, .int .u16 0, .int .u16 0, .int .i64 0, .int .i64 0, .bool false, .slice none 0 0] 30)).heap.size ((w.alloc (.cells #[.int .i64 b, .int .i64 t, j0 j, j1 j, j2 j, j3 j, j4 j, j5 j, j6 j, j7 j, j8 j, j9 j, j10 j, .slice A n c] 30)).alloc (.cells #[.int .i64 0, .int .i64 0, .int .u16 0, .int .u16 0, .int .u16 0, .int .i64 0, .int .i64 0, .int .u16 0, .int .u16 0, .int .u16 0, .int .i64 0, .int .i64 0, .bool false, .slice none 0 0] 30)) wq → (wq.cell? ⟨w.heap.size, 0, none⟩ = some (.int .i64 b) ∧ wq.cell? ⟨w.heap.size, 1, none⟩ = some (.int .i64 t) ∧ wq.cell? ⟨w.heap.size, 2, none⟩ = some (j0 j) ∧ wq.cell? ⟨w.heap.size, 3, none⟩ = some (j1 j) ∧ wq.cell? ⟨w.heap.size, 4, none⟩ = some (j2 j) ∧ wq.cell? ⟨w.heap.size, 5, none⟩ = some (j3 j) ∧ wq.cell? ⟨w.heap.size, 6, none⟩ = some (j4 j) ∧ wq.cell? ⟨w.heap.size, 7, none⟩ = some (j5 j) ∧ wq.cell? ⟨w.heap.size, 8, none⟩ = some (j6 j) ∧ wq.cell? ⟨w.heap.size, 9, none⟩ = some (j7 j) ∧ wq.cell? ⟨w.heap.size, 10, none⟩ = some (j8 j) ∧ wq.cell? ⟨w.heap.size, 11, none⟩ = some (j9 j) ∧ wq.cell? ⟨w.heap.size, 12, none⟩ = some (j10 j) ∧ wq.cell? ⟨w.heap.size, 13, none⟩ = some (.slice A n c)) ∧ (wq.cell? ⟨(w.heap.size + 1), 0, none⟩ = some (.int .i64 0) ∧ wq.cell? ⟨(w.heap.size + 1), 1, none⟩ = some (.int .i64 0) ∧ wq.cell? ⟨(w.heap.size + 1), 2, none⟩ = some (.int .u16 0) ∧ wq.cell? ⟨(w.heap.size + 1), 3, none⟩ = some (.int .u16 0) ∧ wq.cell? ⟨(w.heap.size + 1), 4, none⟩ = some (.int .u16 0) ∧ wq.cell? ⟨(w.heap.size + 1), 5, none⟩ = some (.int .i64 0) ∧ wq.cell? ⟨(w.heap.size + 1), 6, none⟩ = some (.int .i64 0) ∧ wq.cell? ⟨(w.heap.size + 1), 7, none⟩ = some (.int .u16 0) ∧ wq.cell? ⟨(w.heap.size + 1), 8, none⟩ = some (.int .u16 0) ∧ wq.cell? ⟨(w.heap.size + 1), 9, none⟩ = some (.int .u16 0) ∧ wq.cell? ⟨(w.heap.size + 1), 10, none⟩ = some (.int .i64 0) ∧ wq.cell? ⟨(w.heap.size + 1), 11, none⟩ = some (.int .i64 0) ∧ wq.cell? ⟨(w.heap.size + 1), 12, none⟩ = some (.bool false) ∧ wq.cell? ⟨(w.heap.size + 1), 13, none⟩ = some (.slice none 0 0))) := fun wq hq => ⟨blk14 (k0.below hq k0.lt), blk14 (k1.below hq k1.lt)⟩
 have q0 := Below.refl ((w.alloc (.cells #[.int .i64 b, .int .i64 t, j0 j, j1 j, j2 j, j3 j, j4 j, j5 j, j6 j, j7 j, j8 j, j9 j, j10 j, .slice A n c] 30)).alloc (.cells #[.int .i64 0, .int .i64 0, .int .u16 0, .int .u16 0, .int .u16 0, .int .i64 0, .int .i64 0, .int .u16 0, .int .u16 0, .int .u16 0, .int .i64 0, .int .i64 0, .bool false, .slice none 0 0] 30)).heap.size ((w.alloc (.cells #[.int .i64 b, .int .i64 t, j0 j, j1 j, j2 j, j3 j, j4 j, j5 j, j6 j, j7 j, j8 j, j9 j, j10 j, .slice A n c] 30)).alloc (.cells #[.int .i64 0, .int .i64 0, .int .u16 0, .int .u16 0, .int .u16 0, .int .i64 0, .int .i64 0, .int .u16 0, .int .u16 0, .int .u16 0, .int .i64 0, .int .i64 0, .bool false, .slice none 0 0] 30))
 have K0 := Lib.hid k0
 have K1 := Lib.hid k1
 clear hB k0 k1
 rcases jb with _ | _
 · have HM2 : Hid (RES = (⟨b, t, j, es⟩, 0, false)) := by show _ = _; rw [HM.out]; rfl
   clear HM HLd HJ
   go_enter Tryz.func129, Tryz.ntmps129
   go_upto_region 1 with (fail)
   generalize ((w.alloc (.cells #[.int .i64 b, .int .i64 t, j0 j, j1 j, j2 j, j3 j, j4 j, j5 j, j6 j, j7 j, j8 j, j9 j, j10 j, .slice A n c] 30)).alloc (.cells #[.int .i64 0, .int .i64 0, .int .u16 0, .int .u16 0, .int .u16 0, .int .i64 0, .int .i64 0, .int .u16 0, .int .u16 0, .int .u16 0, .int .i64 0, .int .i64 0, .bool false, .slice none 0 0] 30)) = w1 at *
   have HR1 := Lib.hid (HR.out.on (HB.out.mono hBs.out) (Nat.le_trans hBs.out HB.out.size))
   have HE1 := Lib.hid (HE.out.on (HB.out.mono hB2) (Nat.le_trans hB2 HB.out.size))
   have CJ := Lib.hid (fun w' (hb : Below w1.heap.size w1 w') => joins_any ⟨b, t, j, es⟩ A n c prev term n2 w' w1.heap.size (HR1.out.below hb) hb.size hc HF.out (by omega))
   unfold lgV at CJ
   dsimp only at CJ
   rw [hjb] at CJ
   clear hjb
   have r0 := HS.out _ q0
   go_wp2_with fail
   refine (CJ.out _ q0).mono ?_
   rintro e y1 ⟨rfl, hY1⟩
   have q1 := q0.trans (hY1.mono q0.size)
   clear r0
   have r1 := HS.out _ q1
   go_wp2_with fail
   have kl : Blk 28 (y1.alloc (.cells #[.slice A n c] 28)) y1.heap.size [.slice A n c] := heap_alloc_new y1 _
   have qa := q1.alloc q1.size (.cells #[.slice A n c] 28)
   generalize (y1.alloc (.cells #[.slice A n c] 28)) = w2 at *
   have RL := HR1.out.on qa qa.size
   refine (with1 ⟨b, t, j, es⟩ A n c w2 y1.heap.size A n c es kl RL (by omega)).mono ?_
   rintro e yz ⟨A', c', rfl, hO, hY⟩
   unfold lgV
   dsimp only
   have qz := qa.trans (hY.mono qa.size)
   have l2 := Lib.hid (show w.heap.size + 1 < w2.heap.size from Nat.lt_of_lt_of_le K1.out.lt qa.size)
   have hO := Lib.hid hO
   have df := fun i => (K1.out.below qz K1.out.lt).frozen i
   have rz := HS.out _ qz
   clear kl RL hY
   go_wp2_with fail
   have sF := put14 (.int .i64 b) (.int .i64 t) (j0 j) (j1 j) (j2 j) (j3 j) (j4 j) (j5 j) (j6 j) (j7 j) (j8 j) (j9 j) (j10 j) (.slice A' n c') (K1.out.below qz K1.out.lt)
   have bF := below14 (g := w.heap.size + 1) (.int .i64 b) (.int .i64 t) (j0 j) (j1 j) (j2 j) (j3 j) (j4 j) (j5 j) (j6 j) (j7 j) (j8 j) (j9 j) (j10 j) (.slice A' n c') (HB.out.trans (qz.mono HB.out.size)) (by first | omega | simp)
   have oF := own14 (g := w.heap.size + 1) (.int .i64 b) (.int .i64 t) (j0 j) (j1 j) (j2 j) (j3 j) (j4 j) (j5 j) (j6 j) (j7 j) (j8 j) (j9 j) (j10 j) (.slice A' n c') hO.out l2.out
   generalize ((((((((((((((yz.setCell ⟨w.heap.size + 1, 0, none⟩ (.int .i64 b)).setCell ⟨w.heap.size + 1, 1, none⟩ (.int .i64 t)).setCell ⟨w.heap.size + 1, 2, none⟩ (j0 j)).setCell ⟨w.heap.size + 1, 3, none⟩ (j1 j)).setCell ⟨w.heap.size + 1, 4, none⟩ (j2 j)).setCell ⟨w.heap.size + 1, 5, none⟩ (j3 j)).setCell ⟨w.heap.size + 1, 6, none⟩ (j4 j)).setCell ⟨w.heap.size + 1, 7, none⟩ (j5 j)).setCell ⟨w.heap.size + 1, 8, none⟩ (j6 j)).setCell ⟨w.heap.size + 1, 9, none⟩ (j7 j)).setCell ⟨w.heap.size + 1, 10, none⟩ (j8 j)).setCell ⟨w.heap.size + 1, 11, none⟩ (j9 j)).setCell ⟨w.heap.size + 1, 12, none⟩ (j10 j)).setCell ⟨w.heap.size + 1, 13, none⟩ (.slice A' n c')) = wf at *
   (try simp only [Exit.inBlock, Exit.then])
   refine bodyPost_ret (res3 Tryz.results129 rfl rfl rfl (aggL _) (sizeL _) (ld14 sF)) rfl ?_
   exact ⟨A', n, c', by rw [HM2.out]; rfl, by rw [HM2.out]; exact hlh.out.symm, by rw [HM2.out]; exact oF.more (by have := l2.out; omega), bF⟩
 · obtain ⟨g0, g1, g2⟩ := HJ.out rfl
   obtain ⟨u, hu⟩ : ∃ u : Nat, (max prev b - b).toNat = u := ⟨_, rfl⟩
   obtain ⟨v, hv⟩ : ∃ v : Nat, (max prev b - prev).toNat = v := ⟨_, rfl⟩
   have hun : u ≤ n := by omega
   have hvn : v ≤ n2 := by omega
   have hLD := HLd.out u v hu hv
   have HM2 : Hid (RES = (⟨b, t, j, LD⟩, prev + n2, true)) := by show _ = _; rw [HM.out]; rfl
   clear HM HLd HJ
   have hsl := sameN_le (es.drop u) (es2.drop v)
   rw [List.length_drop, List.length_drop, hlh.out, hle.out] at hsl
   rw [List.length_drop, hle.out] at hLD
   obtain ⟨s, hs⟩ : ∃ s : Int, s = max prev b := ⟨_, rfl⟩
   have hsu : s = b + u := by omega
   have hsv : s - prev = v := by omega
   have HSU := Lib.hid hsu
   have HSV := Lib.hid hsv
   have wv : IntKind.i64.wrap (s - prev) = (v : Int) := by rw [enti.wrap_sm (by omega) (by omega)]; omega
   have wl : IntKind.i64.wrap (prev + (n2 : Int)) = prev + (n2 : Int) := enti.wrap_sm (by omega) (by omega)
   have HLD := Lib.hid hLD
   have HU := Lib.hid (show max prev b = b + u by omega)
   have HV := Lib.hid (show max prev b - prev = v by omega)
   clear hLD hu hv hsu hsv hs HSU HSV wv s
   go_enter Tryz.func129, Tryz.ntmps129
   go_upto_region 1 with (fail)
   generalize ((w.alloc (.cells #[.int .i64 b, .int .i64 t, j0 j, j1 j, j2 j, j3 j, j4 j, j5 j, j6 j, j7 j, j8 j, j9 j, j10 j, .slice A n c] 30)).alloc (.cells #[.int .i64 0, .int .i64 0, .int .u16 0, .int .u16 0, .int .u16 0, .int .i64 0, .int .i64 0, .int .u16 0, .int .u16 0, .int .u16 0, .int .i64 0, .int .i64 0, .bool false, .slice none 0 0] 30)) = w1 at *
   have HR1 := Lib.hid (HR.out.on (HB.out.mono hBs.out) (Nat.le_trans hBs.out HB.out.size))
   have HE1 := Lib.hid (HE.out.on (HB.out.mono hB2) (Nat.le_trans hB2 HB.out.size))
   have CJ := Lib.hid (fun w' (hb : Below w1.heap.size w1 w') => joins_any ⟨b, t, j, es⟩ A n c prev term n2 w' w1.heap.size (HR1.out.below hb) hb.size hc HF.out (by omega))
   unfold lgV at CJ
   dsimp only at CJ
   rw [hjb] at CJ
   clear hjb
   have r0 := HS.out _ q0
   go_wp2_with fail
   refine (CJ.out _ q0).mono ?_
   rintro e y1 ⟨rfl, hY1⟩
   have q1 := q0.trans (hY1.mono q0.size)
   clear r0
   have r1 := HS.out _ q1
   go_wp2_with (with_reducible refine wpList_slice_lE rfl (.tmp 33) (.tmp 36) rfl A2 n2 c2 _ es2 rfl (HE1.out.below q1) .i64 _ v rfl ?hL hvn hc2 ?_)
   case hL => first | exact HV.out | (rw [enti.wrap_sm (by have := HV.out; omega) (by have := HV.out; omega)]; exact HV.out)
   intro A3 c3 hR3 hc3 hc3b
   have HR3 := Lib.hid hR3
   clear hR3
   have CB := Lib.hid (fun w' (hb : Below w1.heap.size w1 w') => behind_any ⟨b, t, j, es⟩ A n c u (max prev b) w' w1.heap.size (HR1.out.below hb) hb.size hc HF.out HU.out hun)
   unfold lgV at CB
   dsimp only at CB
   go_wp2_with fail
   refine (CB.out _ q1).mono ?_
   rintro e y2 ⟨A4, c4, rfl, hR4, hc4, hc4b, hY2⟩
   have q2 := q1.trans (hY2.mono q1.size)
   clear r1
   have r2 := HS.out _ q2
   have HR3b := Lib.hid (HR3.out.below (hY2.mono q1.size))
   have CA := Lib.hid (alike_any A4 (n - u) c4 (es.drop u) A3 (n2 - v) c3 (es2.drop v) y2 w1.heap.size w1.heap.size hR4 q2.size HR3b.out q2.size (by omega) (by omega))
   generalize hk : sameN (es.drop u) (es2.drop v) = k at *
   clear hk CB HR3 hR4
   go_wp2_with fail
   refine CA.out.mono ?_
   rintro e y3 ⟨rfl, hY3⟩
   have q3 := q2.trans (hY3.mono q2.size)
   clear r2 CA
   have r3 := HS.out _ q3
   have HR3c := Lib.hid (HR3b.out.below (hY3.mono q2.size))
   clear HR3b
   obtain ⟨hk1, hk2⟩ := hsl
   have hkk := Lib.hid hk1
   by_cases hkn : k = n2 - v
   · skip
     have HM3 : Hid (LD = es) := by show _ = _; rw [HLD.out, if_pos hkn]
     have hkb : ((k : Int) == ((n2 - v : Nat) : Int)) = true := by rw [beq_iff_eq]; omega
     clear HLD HR3c
     go_wp2_with fail
     have kl : Blk 28 (y3.alloc (.cells #[.slice A n c] 28)) y3.heap.size [.slice A n c] := heap_alloc_new y3 _
     have qa := q3.alloc q3.size (.cells #[.slice A n c] 28)
     generalize (y3.alloc (.cells #[.slice A n c] 28)) = w2 at *
     have RL := HR1.out.on qa qa.size
     refine (with1 ⟨b, t, j, es⟩ A n c w2 y3.heap.size A n c es kl RL (by omega)).mono ?_
     rintro e yz ⟨A', c', rfl, hO, hY⟩
     unfold lgV
     dsimp only
     have qz := qa.trans (hY.mono qa.size)
     have l2 := Lib.hid (show w.heap.size + 1 < w2.heap.size from Nat.lt_of_lt_of_le K1.out.lt qa.size)
     have hO := Lib.hid hO
     have df := fun i => (K1.out.below qz K1.out.lt).frozen i
     have rz := HS.out _ qz
     clear kl RL hY
     go_wp2_with fail
     have sF := put14 (.int .i64 b) (.int .i64 t) (j0 j) (j1 j) (j2 j) (j3 j) (j4 j) (j5 j) (j6 j) (j7 j) (j8 j) (j9 j) (j10 j) (.slice A' n c') (K1.out.below qz K1.out.lt)
     have bF := below14 (g := w.heap.size + 1) (.int .i64 b) (.int .i64 t) (j0 j) (j1 j) (j2 j) (j3 j) (j4 j) (j5 j) (j6 j) (j7 j) (j8 j) (j9 j) (j10 j) (.slice A' n c') (HB.out.trans (qz.mono HB.out.size)) (by first | omega | simp)
     have oF := own14 (g := w.heap.size + 1) (.int .i64 b) (.int .i64 t) (j0 j) (j1 j) (j2 j) (j3 j) (j4 j) (j5 j) (j6 j) (j7 j) (j8 j) (j9 j) (j10 j) (.slice A' n c') hO.out l2.out
     generalize ((((((((((((((yz.setCell ⟨w.heap.size + 1, 0, none⟩ (.int .i64 b)).setCell ⟨w.heap.size + 1, 1, none⟩ (.int .i64 t)).setCell ⟨w.heap.size + 1, 2, none⟩ (j0 j)).setCell ⟨w.heap.size + 1, 3, none⟩ (j1 j)).setCell ⟨w.heap.size + 1, 4, none⟩ (j2 j)).setCell ⟨w.heap.size + 1, 5, none⟩ (j3 j)).setCell ⟨w.heap.size + 1, 6, none⟩ (j4 j)).setCell ⟨w.heap.size + 1, 7, none⟩ (j5 j)).setCell ⟨w.heap.size + 1, 8, none⟩ (j6 j)).setCell ⟨w.heap.size + 1, 9, none⟩ (j7 j)).setCell ⟨w.heap.size + 1, 10, none⟩ (j8 j)).setCell ⟨w.heap.size + 1, 11, none⟩ (j9 j)).setCell ⟨w.heap.size + 1, 12, none⟩ (j10 j)).setCell ⟨w.heap.size + 1, 13, none⟩ (.slice A' n c')) = wf at *
     (try simp only [Exit.inBlock, Exit.then])
     refine bodyPost_ret (res3 Tryz.results129 rfl rfl rfl (aggL _) (sizeL _) (ld14 sF)) rfl ?_
     exact ⟨A', n, c', by rw [HM2.out, HM3.out]; rfl, by rw [HM2.out, HM3.out]; exact hlh.out.symm, by rw [HM2.out, HM3.out]; exact oF.more (by have := l2.out; omega), bF⟩
   · skip
     have HM3 : Hid (LD = es.take (u + k) ++ (es2.drop v).drop k) := by show _ = _; rw [HLD.out, if_neg hkn]
     have hkb : ((k : Int) == ((n2 - v : Nat) : Int)) = false := by rw [beq_eq_false_iff_ne]; omega
     clear HLD
     obtain ⟨b3, o3, x3, rfl, hlt3, hx3, hA3⟩ := HR3c.out.at_ (j := k) (by omega)
     clear hx3 hA3
     have hcn : ¬ (c3 = k) := by omega
     have hkl : k ≤ n2 - v := hk2
     have hkc : (k : Int) ≤ ((n2 - v : Nat) : Int) := by omega
     have HD3 := Lib.hid (HR3c.out.drop (p := k) (by omega))
     have CU := Lib.hid (fun w' (hb : Below w1.heap.size w1 w') (i : Int) (hi : i = b + ((u + k : Nat) : Int)) => upTo_any ⟨b, t, j, es⟩ A n c (u + k) i w' w1.heap.size (HR1.out.below hb) hb.size hc HF.out hi (by omega))
     unfold lgV at CU
     dsimp only at CU
     have HUk := Lib.hid (show max prev b + (k : Int) = b + ((u + k : Nat) : Int) by have := HU.out; omega)
     have wk : IntKind.i64.wrap (max prev b + (k : Int)) = max prev b + (k : Int) := enti.wrap_sm (by have := HU.out; omega) (by have := HU.out; omega)
     have l1 := Lib.hid (show w.heap.size + 1 ≤ w1.heap.size from Nat.le_of_lt K1.out.lt)
     have HT : Hid (∀ wq, Below (w.heap.size + 1) w1 wq → (wq.cell? ⟨w.heap.size, 0, none⟩ = some (.int .i64 b) ∧ wq.cell? ⟨w.heap.size, 1, none⟩ = some (.int .i64 t) ∧ wq.cell? ⟨w.heap.size, 2, none⟩ = some (j0 j) ∧ wq.cell? ⟨w.heap.size, 3, none⟩ = some (j1 j) ∧ wq.cell? ⟨w.heap.size, 4, none⟩ = some (j2 j) ∧ wq.cell? ⟨w.heap.size, 5, none⟩ = some (j3 j) ∧ wq.cell? ⟨w.heap.size, 6, none⟩ = some (j4 j) ∧ wq.cell? ⟨w.heap.size, 7, none⟩ = some (j5 j) ∧ wq.cell? ⟨w.heap.size, 8, none⟩ = some (j6 j) ∧ wq.cell? ⟨w.heap.size, 9, none⟩ = some (j7 j) ∧ wq.cell? ⟨w.heap.size, 10, none⟩ = some (j8 j) ∧ wq.cell? ⟨w.heap.size, 11, none⟩ = some (j9 j) ∧ wq.cell? ⟨w.heap.size, 12, none⟩ = some (j10 j) ∧ wq.cell? ⟨w.heap.size, 13, none⟩ = some (.slice A n c))) := fun wq hq => blk14 (K0.out.below hq (Nat.lt_succ_self _))
     go_upto_region 9 with (fail)
     clear r3
     have p0 := q3.drew
     have HBq := Lib.hid ((Below.refl w1.heap.size y3).drew)
     refine wp_region_held_drew (S := fun wq => (wq.cell? ⟨w.heap.size, 0, none⟩ = some (.int .i64 b) ∧ wq.cell? ⟨w.heap.size, 1, none⟩ = some (.int .i64 t) ∧ wq.cell? ⟨w.heap.size, 2, none⟩ = some (j0 j) ∧ wq.cell? ⟨w.heap.size, 3, none⟩ = some (j1 j) ∧ wq.cell? ⟨w.heap.size, 4, none⟩ = some (j2 j) ∧ wq.cell? ⟨w.heap.size, 5, none⟩ = some (j3 j) ∧ wq.cell? ⟨w.heap.size, 6, none⟩ = some (j4 j) ∧ wq.cell? ⟨w.heap.size, 7, none⟩ = some (j5 j) ∧ wq.cell? ⟨w.heap.size, 8, none⟩ = some (j6 j) ∧ wq.cell? ⟨w.heap.size, 9, none⟩ = some (j7 j) ∧ wq.cell? ⟨w.heap.size, 10, none⟩ = some (j8 j) ∧ wq.cell? ⟨w.heap.size, 11, none⟩ = some (j9 j) ∧ wq.cell? ⟨w.heap.size, 12, none⟩ = some (j10 j) ∧ wq.cell? ⟨w.heap.size, 13, none⟩ = some (.slice A n c))) (by kernel_rfl) ?s_lm9 (fun hHeld => ?_)
     case s_lm9 => exact HT.out _ (p0.mono l1.out)
     refine tj 0 _ ?_
     try simp only [Act.put, ka, kb, kc]
     refine tj 1 _ ?_
     try simp only [Act.put, ka, kb, kc]
     refine tj 2 _ ?_
     try simp only [Act.put, ka, kb, kc]
     refine tj 3 _ ?_
     try simp only [Act.put, ka, kb, kc]
     refine tj 4 _ ?_
     try simp only [Act.put, ka, kb, kc]
     refine tj 6 _ ?_
     try simp only [Act.put, ka, kb, kc]
     refine tj 7 _ ?_
     try simp only [Act.put, ka, kb, kc]
     refine tj 8 _ ?_
     try simp only [Act.put, ka, kb, kc]
     refine tj 11 _ ?_
     try simp only [Act.put, ka, kb, kc]
     refine rr [5] ?_
     refine rc (fun KQ hKQ => ?_) AllReadyH.nil
     go_simp
     refine (CU.out _ p0 _ HUk.out).mono ?_
     rintro e y5 ⟨A5, c5, rfl, hR5, hc5, hc5b, hY5⟩
     have p1 := p0.trans (hY5.mono p0.size)
     have t1 := HT.out _ (p1.mono l1.out)
     go_wp2_with fail
     refine hKQ.out _ _ (t1) (fun _ => ?_)
     clear hKQ KQ
     try simp only [Act.put, ka, kb, kc]
     refine rr [9] ?_
     refine rc (fun KQ hKQ => ?_) AllReadyH.nil
     go_simp
     have kl : Blk 28 (y5.alloc (.cells #[.slice A5 (u + k) c5, .slice (some ⟨b3, o3 + k * 14, none⟩) (n2 - v - k) (c3 - k)] 28)) y5.heap.size [.slice A5 (u + k) c5, .slice (some ⟨b3, o3 + k * 14, none⟩) (n2 - v - k) (c3 - k)] := heap_alloc_new y5 _
     have p2 := p1.alloc p1.size (.cells #[.slice A5 (u + k) c5, .slice (some ⟨b3, o3 + k * 14, none⟩) (n2 - v - k) (c3 - k)] 28)
     have RA := (hR5.on (Below.refl _ _) p1.size).on ((Below.refl y5.heap.size y5).alloc (Nat.le_refl _) (.cells #[.slice A5 (u + k) c5, .slice (some ⟨b3, o3 + k * 14, none⟩) (n2 - v - k) (c3 - k)] 28)) (show y5.heap.size ≤ (y5.alloc (.cells #[.slice A5 (u + k) c5, .slice (some ⟨b3, o3 + k * 14, none⟩) (n2 - v - k) (c3 - k)] 28)).heap.size by simp)
     have RB := HD3.out.on (HBq.out.trans ((hY5.mono p0.size).trans ((Below.refl w1.heap.size y5).alloc p1.size (.cells #[.slice A5 (u + k) c5, .slice (some ⟨b3, o3 + k * 14, none⟩) (n2 - v - k) (c3 - k)] 28)))) p2.size
     generalize (y5.alloc (.cells #[.slice A5 (u + k) c5, .slice (some ⟨b3, o3 + k * 14, none⟩) (n2 - v - k) (c3 - k)] 28)) = w2 at *
     have t2 := HT.out _ (p2.mono l1.out)
     refine hKQ.out _ _ (t2) (fun _ => ?_)
     clear hKQ KQ
     try simp only [Act.put, ka, kb, kc]
     refine rr [10] ?_
     refine rc (fun KQ hKQ => ?_) AllReadyH.nil
     go_simp
     refine (with2 ⟨b, t, j, es⟩ A n c w2 y5.heap.size A5 (u + k) c5 (es.take (u + k)) _ (n2 - v - k) (c3 - k) ((es2.drop v).drop k) kl RA RB (by omega)).mono ?_
     rintro e y6 ⟨A', c', rfl, hO, hY6⟩
     unfold lgV
     dsimp only
     have p3 := p2.trans (hY6.mono p2.size)
     have t3 := HT.out _ (p3.mono l1.out)
     have l2 := Lib.hid (show w.heap.size + 1 < w2.heap.size from Nat.lt_of_lt_of_le K1.out.lt p2.size)
     have c15 := blk14 (K1.out.below p3 K1.out.lt)
     have df := fun i => (K1.out.below p3 K1.out.lt).frozen i
     go_wp2_with fail
     refine hKQ.out _ _ (t3) (fun _ => ?_)
     clear hKQ KQ
     try simp only [Act.put, ka, kb, kc]
     refine rr [12] ?_
     refine rc (fun KQ hKQ => ?_) AllReadyH.nil
     go_simp
     have sF := put14 (.int .i64 b) (.int .i64 t) (j0 j) (j1 j) (j2 j) (j3 j) (j4 j) (j5 j) (j6 j) (j7 j) (j8 j) (j9 j) (j10 j) (.slice A' (u + k + (n2 - v - k)) c') (K1.out.below p3 K1.out.lt)
     have bF := below14 (g := w.heap.size + 1) (.int .i64 b) (.int .i64 t) (j0 j) (j1 j) (j2 j) (j3 j) (j4 j) (j5 j) (j6 j) (j7 j) (j8 j) (j9 j) (j10 j) (.slice A' (u + k + (n2 - v - k)) c') (HB.out.trans (p3.mono HB.out.size)) (by first | omega | simp)
     have bF2 := below14 (g := w.heap.size + 1) (.int .i64 b) (.int .i64 t) (j0 j) (j1 j) (j2 j) (j3 j) (j4 j) (j5 j) (j6 j) (j7 j) (j8 j) (j9 j) (j10 j) (.slice A' (u + k + (n2 - v - k)) c') (p3.mono l1.out) (Nat.le_refl _)
     have oF := own14 (g := w.heap.size + 1) (.int .i64 b) (.int .i64 t) (j0 j) (j1 j) (j2 j) (j3 j) (j4 j) (j5 j) (j6 j) (j7 j) (j8 j) (j9 j) (j10 j) (.slice A' (u + k + (n2 - v - k)) c') hO l2.out
     generalize ((((((((((((((y6.setCell ⟨w.heap.size + 1, 0, none⟩ (.int .i64 b)).setCell ⟨w.heap.size + 1, 1, none⟩ (.int .i64 t)).setCell ⟨w.heap.size + 1, 2, none⟩ (j0 j)).setCell ⟨w.heap.size + 1, 3, none⟩ (j1 j)).setCell ⟨w.heap.size + 1, 4, none⟩ (j2 j)).setCell ⟨w.heap.size + 1, 5, none⟩ (j3 j)).setCell ⟨w.heap.size + 1, 6, none⟩ (j4 j)).setCell ⟨w.heap.size + 1, 7, none⟩ (j5 j)).setCell ⟨w.heap.size + 1, 8, none⟩ (j6 j)).setCell ⟨w.heap.size + 1, 9, none⟩ (j7 j)).setCell ⟨w.heap.size + 1, 10, none⟩ (j8 j)).setCell ⟨w.heap.size + 1, 11, none⟩ (j9 j)).setCell ⟨w.heap.size + 1, 12, none⟩ (j10 j)).setCell ⟨w.heap.size + 1, 13, none⟩ (.slice A' (u + k + (n2 - v - k)) c')) = wf at *
     have sS := HT.out _ bF2
     refine hKQ.out _ _ (sS) (fun _ => ?_)
     clear hKQ KQ
     try simp only [Act.put]
     refine tj 13 _ ?_
     try simp only [Act.put, ka, kb, kc]
     refine tj 14 _ ?_
     try simp only [Act.put, ka, kb, kc]
     refine wpAnyH_done (by kernel_rfl) ?_ _
     go_wp2_with fail
     (try simp only [Exit.inBlock, Exit.then])
     refine bodyPost_ret (res3 Tryz.results129 rfl rfl rfl (aggL _) (sizeL _) (ld14 sF)) rfl ?_
     exact ⟨A', u + k + (n2 - v - k), c', by rw [HM2.out, HM3.out]; rfl, by rw [HM2.out, HM3.out, List.length_append, List.length_take, List.length_drop, List.length_drop, hlh.out, hle.out]; omega, by rw [HM2.out, HM3.out]; exact oF.more (by have := l2.out; omega), bF⟩
end Go.Proofs.YtegnfkbmlalkeaaGreat.enti
