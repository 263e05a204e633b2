/- What slices.Grow of nil and slices.Concat of one or two lists of entries come to, and the landed entries' with. Conditions: the lists are not too long. -/
import Derived.Lib.AppendZerosOnto
import Derived.Lib.Walk
import Derived.Deep.RegionHeld3
import Derived.Deep.Cut
import Derived.Lib.Hide
import Derived.Test.YtegnfkbmlalkeaaGreatSpJ1
import Derived.Test.YtegnfkbmlalkeaaGreatSpKitLg
import Derived.Test.YtegnfkbmlalkeaaGreatSpJ0
set_option linter.unusedVariables false
set_option maxHeartbeats 16000000
set_option maxRecDepth 10000
namespace Go.Proofs.YtegnfkbmlalkeaaGreat.enti
open Go Go.RowKit kit nums cf lg
theorem zeros_len (z : Value) (k : Nat) (h : z.cells.size = k) (n : Nat) : (Builtin.zeroCells z.cells n).size = n * k := by
 unfold Builtin.zeroCells
 simp [h]
theorem grow_zero (w : World) : Calls Tryz.prog 180 #[.slice none 0 0, .int .i64 0] w fun e w' => e = .returned (.slice none 0 0) ∧ w' = w := by
 go_enter Tryz.func180, Tryz.ntmps180
 go_wp2_with fail
 go_ret
 exact ⟨rfl, rfl⟩
theorem grow_any (n : Nat) (w : World) (h0 : 0 < n) (hn : n ≤ 3000000) : Calls Tryz.prog 180 #[.slice none 0 0, .int .i64 (n : Int)] w fun e w' => ∃ A c, e = .returned (.slice A 0 c) ∧ OwnE w' w.heap.size (.slice A 0 c) [] ∧ Below w.heap.size w w' := by
 obtain ⟨i, hi, hz0, hz1, hz2⟩ := info_parts infoE
 have hrz : ∀ ty, (Builtin.append_ #[28, 3] ty #[.slice none 0 0, .int .i64 ((n : Nat) : Int)]).run Tryz.prog w = _ := fun ty =>
  Lib.run_append_grow_zeros w 28 3 ty 52 i _ .i64 .i64 Tryz.underlying28 Tryz.underlying3 hi hz0 none 0 0 [] (run_firstCells_none w.drew i.size 0 0 0) n h0 (by rw [hz1]; omega) (by omega) (by omega) (by rw [hz2]; omega) (growslice_fits (by omega) (by rw [hz2]; omega))
 have hge := grownCap_ge w (0 + n) 0 52
 have hle := grownCap_le_maxLen w (0 + n) 0 52 (by unfold maxLen; omega)
 simp only [Nat.zero_add] at hrz hge hle
 generalize hG : grownCap w n 0 52 = G at *
 have hown : Hid (OwnE (w.drew.alloc (.cells (([] : List Value).toArray ++ Builtin.zeroCells (Value.agg #[.int .i64 0, .int .i64 0, .string ⟨#[]⟩, .int .u16 0, .int .u16 0, .int .u16 0, .int .i64 0, .int .i64 0, .int .u16 0, .int .u16 0, .int .u16 0, .int .i64 0, .int .i64 0, .bool false]).cells n ++ Builtin.zeroCells (Value.agg #[.int .i64 0, .int .i64 0, .string ⟨#[]⟩, .int .u16 0, .int .u16 0, .int .u16 0, .int .i64 0, .int .i64 0, .int .u16 0, .int .u16 0, .int .u16 0, .int .i64 0, .int .i64 0, .bool false]).cells (G - n)) 52)) w.heap.size (.slice (some ⟨w.heap.size, 0, none⟩) 0 G) []) := by
  refine ⟨rfl, .inr ⟨w.heap.size, G, _, rfl, Nat.le_refl _, heap_alloc_new w.drew _, Nat.zero_le _, hle, ?_, by simp⟩⟩
  rw [Array.size_append, Array.size_append, zeros_len _ 14 rfl, zeros_len _ 14 rfl]
  simp only [List.size_toArray, List.length_nil]
  omega
 have hbel : Hid (∀ o, Below w.heap.size w (w.drew.alloc o)) := fun o => ((Below.refl w.heap.size w).drew).alloc (Nat.le_refl _) o
 obtain ⟨y, hY, hO, hL⟩ : ∃ y, (∀ ty, (Builtin.append_ #[28, 3] ty #[.slice none 0 0, .int .i64 ((n : Nat) : Int)]).run Tryz.prog w = .ok (.slice (some ⟨w.heap.size, 0, none⟩) n G) y) ∧ Hid (OwnE y w.heap.size (.slice (some ⟨w.heap.size, 0, none⟩) 0 G) []) ∧ Hid (Below w.heap.size w y) := ⟨_, hrz, hown, hbel.out _⟩
 clear hrz hown hbel
 have h1 : ¬ ((n : Int) < 0) := by omega
 have h4 : (n : Int) > 0 := by omega
 have h5 : (0 : Int) < (n : Int) := by omega
 clear hG hge
 go_enter Tryz.func180, Tryz.ntmps180
 go_wp2_with (at_builtin; refine Lib.wpList_append_run _ rfl _ _ _ _ rfl _ _ rfl rfl _ _ (hY _) ?_)
 go_ret
 exact ⟨_, _, rfl, hO.out, hL.out⟩
structure Pc where
 A : Option Addr
 n : Nat
 c : Nat
 es : List EnL
def Pc.v (p : Pc) : Value := .slice p.A p.n p.c
def flatP (ps : List Pc) : List EnL := ps.flatMap Pc.es
theorem flatP_snoc {ps : List Pc} {i : Nat} {p : Pc} (h : ps[i]? = some p) : flatP (ps.take (i + 1)) = flatP (ps.take i) ++ p.es := by
 obtain ⟨h1, rfl⟩ := List.getElem?_eq_some_iff.1 h
 rw [List.take_succ_eq_append_getElem h1, flatP, List.flatMap_append]
 simp [flatP]
theorem flatP_le (ps : List Pc) (i : Nat) : (flatP (ps.take i)).length ≤ (flatP ps).length := by
 conv => rhs; rw [← List.take_append_drop i ps, flatP, List.flatMap_append, List.length_append]
 unfold flatP; omega
theorem grow_all (n : Nat) (w : World) (hn : n ≤ 3000000) : Calls Tryz.prog 180 #[.slice none 0 0, .int .i64 (n : Int)] w fun e w' => ∃ A c, e = .returned (.slice A 0 c) ∧ OwnE w' w.heap.size (.slice A 0 c) [] ∧ Below w.heap.size w w' := by
 rcases n with _ | n
 · exact (grow_zero w).mono fun e w' ⟨h1, h2⟩ => ⟨none, 0, h1, by subst h2; exact OwnE.nil _ _, by subst h2; exact Below.refl _ _⟩
 · exact grow_any (n + 1) w (by omega) hn
theorem concat_any (ps : List Pc) (A : Option Addr) (k c : Nat) (w : World) (B : Nat) (hR : RdV w B A k (ps.map Pc.v)) (hE : ∀ p ∈ ps, RdE w B p.A p.n p.es) (hB : B ≤ w.heap.size) (hs : (flatP ps).length ≤ 3000000) (hk : k ≤ 1000) :
  Calls Tryz.prog 172 #[.slice A k c] w fun e w' => ∃ A' c', e = .returned (.slice A' (flatP ps).length c') ∧ OwnE w' w.heap.size (.slice A' (flatP ps).length c') (flatP ps) ∧ Below w.heap.size w w' := by
 have hl : ps.length = k := by have := hR.1; simpa using this
 obtain ⟨f, hf⟩ : ∃ f : Nat → List EnL, f = fun i => flatP (ps.take i) := ⟨_, rfl⟩
 have h0 : (f 0).length = 0 := by rw [hf]; rfl
 have hF0 : f 0 = [] := by rw [hf]; rfl
 have hFk : Hid (f k = flatP ps) := by show _ = _; rw [hf]; show flatP (ps.take k) = _; rw [← hl, List.take_length]
 have hFl : ∀ i, (f i).length ≤ 3000000 := fun i => by rw [hf]; exact Nat.le_trans (flatP_le ps i) hs
 have hP := Lh (fun (i : Nat) (hi : i < k) => (show ∃ (b o : Nat) (p : Pc), A = some ⟨b, o, none⟩ ∧ b < B ∧ f (i + 1) = f i ++ p.es ∧ (f (i + 1)).length = (f i).length + p.n ∧ w.cell? ⟨b, o + i, none⟩ = some (.slice p.A p.n p.c) ∧ RdE w B p.A p.n p.es from by
  obtain ⟨b, o, e, hlt, hc⟩ := hR.2 (by omega)
  have hx : ps[i]? = some (ps[i]'(by omega)) := List.getElem?_eq_getElem _
  have hp := hE (ps[i]'(by omega)) (List.getElem_mem _)
  have hsn := flatP_snoc hx
  refine ⟨b, o, ps[i]'(by omega), e, hlt, by rw [hf]; exact hsn, by rw [hf]; show (flatP (ps.take (i + 1))).length = _; rw [hsn, List.length_append, hp.1], ?_, hp⟩
  rw [hc i hi, List.getElem?_map, hx]; rfl))
 have hFL := Lh hFl
 have hBs := Lh hB
 clear hf hR hE hs hFl hl hB
 rw [← hFk.out]
 generalize hN : (f k).length = N
 have CG := Lh (fun w => grow_all N w (by rw [← hN]; exact hFL.out k))
 have hNk := Lh hN
 have hN3 : N ≤ 3000000 := by rw [← hN]; exact hFL.out k
 clear hN
 go_enter Tryz.func172, Tryz.ntmps172
 go_wp2_with fail
 go_loopw [3, 11] (fun sv iv wr => ∃ i : Nat, i ≤ k ∧ sv = .int .i64 ((f i).length : Int) ∧ iv = .int .i64 (i : Int) ∧ wr = w) (fun _ iv _ => k - (intOf iv).toNat)
 case atStart => exact ⟨0, Nat.zero_le _, by rw [h0]; rfl, rfl, rfl⟩
 case round =>
  obtain ⟨i, hi, rfl, rfl, rfl⟩ := hrel
  by_cases hik : i < k
  ·
   obtain ⟨b, o, p, rfl, hlt, hf1, hf2, hc, hE⟩ := hP.out i hik
   have l1 := hFL.out i
   have l2 := hFL.out (i + 1)
   generalize (f i).length = m at *
   generalize hm2 : (f (i + 1)).length = m2 at *
   have hik1 : (i : Int) < (k : Int) := by omega
   have hs1 : ((m : Nat) : Int) + ((p.n : Nat) : Int) = (m2 : Int) := by omega
   have hw1 : IntKind.i64.wrap ((m : Nat) + (p.n : Nat) : Int) = (m2 : Int) := by rw [wrap_sm (by omega) (by omega)]; omega
   have hn2 : ¬ ((m2 : Int) < 0) := by omega
   have hn3 : ¬ ((m : Int) + (p.n : Int) < 0) := by omega
   clear hE hf1 hf2
   go_wp2_with fail
   go_roundw
   case rel => exact ⟨i + 1, by omega, by rw [hm2], by go_num, trivial⟩
   case measure => simp [intOf] <;> omega
  ·
   obtain rfl : i = k := by omega
   have hkk : ¬ ((i : Int) < (i : Int)) := by omega
   have hNe : (f i).length = N := hNk.out
   obtain ⟨wo, hwo⟩ : ∃ wo, wo = wr := ⟨_, rfl⟩
   subst hwo
   rw [hNe]
   go_wp2_with fail
   refine (CG.out _).mono ?_
   rintro e y1 ⟨A1, c1, rfl, hO1, hY1⟩
   have HO1 := Lh hO1
   have HY1 := Lh hY1
   clear hO1 hY1 CG
   go_wp2_with fail
   go_loopw [6, 27] (fun nv iv w2 => ∃ (q : Nat) (A' : Option Addr) (c' : Nat), q ≤ i ∧ nv = .slice A' (f q).length c' ∧ iv = .int .i64 (q : Int) ∧ Hid (OwnE w2 wo.heap.size (.slice A' (f q).length c') (f q)) ∧ Hid (Below wo.heap.size wo w2)) (fun _ iv _ => i - (intOf iv).toNat)
   case atStart => exact ⟨0, A1, c1, Nat.zero_le _, by rw [h0], rfl, (by show OwnE _ _ _ _; rw [h0, hF0]; exact HO1.out), HY1⟩
   case round =>
    obtain ⟨q, A', c', hq, rfl, rfl, HO, HY⟩ := hrel
    by_cases hqi : q < i
    ·
     obtain ⟨b, o, p, rfl, hlt, hf1, hf2, hc, hE⟩ := hP.out q hqi
     have l2 := hFL.out (q + 1)
     have hqi1 : (q : Int) < (i : Int) := by omega
     have hBl := hBs.out
     have HE := Lh ((hE.more hBs.out).below HY.out)
     have HF1 := Lh hf1
     have hc2 : wr.cell? ⟨b, o + q, none⟩ = some (.slice p.A p.n p.c) := by rw [HY.out.cell (p := ⟨b, o + q, none⟩) (by show b < _; omega)]; exact hc
     have HF2 : Hid ((f (q + 1)).length = (f q).length + p.n) := hf2
     clear hE hf1 hc
     go_wp2_with (at_builtin; with_reducible refine wpList_append_E rfl (.tmp 31) (.tmp 32) rfl wo.heap.size A' _ c' (f q) rfl HO.out wo.heap.size p.A p.n p.c p.es rfl HE.out ?hb1 HY.out.size ?_)
     case hb1 => omega
     intro A2 c2 w3 hO3 hB3 hG3
     rw [← HF1.out, ← HF2.out] at hO3
     rw [← HF2.out]
     have HO3 := Lh hO3
     have HB3 := Lh (HY.out.trans hB3)
     clear hO3 hB3 hG3
     go_wp2_with fail
     go_roundw
     case rel => exact ⟨q + 1, A2, c2, by omega, rfl, by go_num, HO3, HB3⟩
     case measure => simp [intOf] <;> omega
    ·
     obtain rfl : q = i := by omega
     have hqq : ¬ ((q : Int) < (q : Int)) := by omega
     go_wp2_with fail
     go_ret
     exact ⟨A', c', by first | rfl | rw [hNe], by rw [← hNe]; exact HO.out, HY.out⟩
theorem with_any (L : LgL) (A0 : Option Addr) (n0 c0 : Nat) (ps : List Pc) (A : Option Addr) (k c : Nat) (w : World) (B : Nat) (hR : RdV w B A k (ps.map Pc.v)) (hE : ∀ p ∈ ps, RdE w B p.A p.n p.es) (hB : B ≤ w.heap.size) (hs : (flatP ps).length ≤ 3000000) (hk : k ≤ 1000) :
  Calls Tryz.prog 151 #[lgV L (.slice A0 n0 c0), .slice A k c] w fun e w' => ∃ A' c', e = .returned (lgV L (.slice A' (flatP ps).length c')) ∧ OwnE w' w.heap.size (.slice A' (flatP ps).length c') (flatP ps) ∧ Below w.heap.size w w' := by
 have HR := Lh hR
 have HE := Lh hE
 have hBs := Lh hB
 clear hR hE hB
 unfold lgV at *
 obtain ⟨b, t, j, es⟩ := L
 dsimp only at *
 have k0 : Blk 30 (w.alloc (.cells #[.int .i64 b, .int .i64 t, j0 j, j1 j, j2 j, j3 j, j4 j, j5 j, j6 j, j7 j, j8 j, j9 j, j10 j, .slice A0 n0 c0] 30)) w.heap.size [.int .i64 b, .int .i64 t, j0 j, j1 j, j2 j, j3 j, j4 j, j5 j, j6 j, j7 j, j8 j, j9 j, j10 j, .slice A0 n0 c0] := (heap_alloc_new w (.cells #[.int .i64 b, .int .i64 t, j0 j, j1 j, j2 j, j3 j, j4 j, j5 j, j6 j, j7 j, j8 j, j9 j, j10 j, .slice A0 n0 c0] 30))
 replace k0 : Blk 30 ((w.alloc (.cells #[.int .i64 b, .int .i64 t, j0 j, j1 j, j2 j, j3 j, j4 j, j5 j, j6 j, j7 j, j8 j, j9 j, j10 j, .slice A0 n0 c0] 30)).alloc (.cells #[.int .i64 0, .int .i64 0, .int .u16 0, .int .u16 0, .int .u16 0, .int .i64 0, .int .i64 0, .int .u16 0, .int .u16 0, .int .u16 0, .int .i64 0, .int .i64 0, .bool false, .slice none 0 0] 30)) w.heap.size [.int .i64 b, .int .i64 t, j0 j, j1 j, j2 j, j3 j, j4 j, j5 j, j6 j, j7 j, j8 j, j9 j, j10 j, .slice A0 n0 c0] := k0.alloc _
 have k1 : Blk 30 ((w.alloc (.cells #[.int .i64 b, .int .i64 t, j0 j, j1 j, j2 j, j3 j, j4 j, j5 j, j6 j, j7 j, j8 j, j9 j, j10 j, .slice A0 n0 c0] 30)).alloc (.cells #[.int .i64 0, .int .i64 0, .int .u16 0, .int .u16 0, .int .u16 0, .int .i64 0, .int .i64 0, .int .u16 0, .int .u16 0, .int .u16 0, .int .i64 0, .int .i64 0, .bool false, .slice none 0 0] 30)) (w.heap.size + 1) [.int .i64 0, .int .i64 0, .int .u16 0, .int .u16 0, .int .u16 0, .int .i64 0, .int .i64 0, .int .u16 0, .int .u16 0, .int .u16 0, .int .i64 0, .int .i64 0, .bool false, .slice none 0 0] := (by have h := heap_alloc_new (w.alloc (.cells #[.int .i64 b, .int .i64 t, j0 j, j1 j, j2 j, j3 j, j4 j, j5 j, j6 j, j7 j, j8 j, j9 j, j10 j, .slice A0 n0 c0] 30)) (.cells #[.int .i64 0, .int .i64 0, .int .u16 0, .int .u16 0, .int .u16 0, .int .i64 0, .int .i64 0, .int .u16 0, .int .u16 0, .int .u16 0, .int .i64 0, .int .i64 0, .bool false, .slice none 0 0] 30); rwa [show (w.alloc (.cells #[.int .i64 b, .int .i64 t, j0 j, j1 j, j2 j, j3 j, j4 j, j5 j, j6 j, j7 j, j8 j, j9 j, j10 j, .slice A0 n0 c0] 30)).heap.size = w.heap.size + 1 by simp] at h)
 have hB : Below w.heap.size w ((w.alloc (.cells #[.int .i64 b, .int .i64 t, j0 j, j1 j, j2 j, j3 j, j4 j, j5 j, j6 j, j7 j, j8 j, j9 j, j10 j, .slice A0 n0 c0] 30)).alloc (.cells #[.int .i64 0, .int .i64 0, .int .u16 0, .int .u16 0, .int .u16 0, .int .i64 0, .int .i64 0, .int .u16 0, .int .u16 0, .int .u16 0, .int .i64 0, .int .i64 0, .bool false, .slice none 0 0] 30)) := (((Below.refl w.heap.size w).alloc (by first | exact Nat.le_refl _ | simp) (.cells #[.int .i64 b, .int .i64 t, j0 j, j1 j, j2 j, j3 j, j4 j, j5 j, j6 j, j7 j, j8 j, j9 j, j10 j, .slice A0 n0 c0] 30)).alloc (by first | exact Nat.le_refl _ | simp) (.cells #[.int .i64 0, .int .i64 0, .int .u16 0, .int .u16 0, .int .u16 0, .int .i64 0, .int .i64 0, .int .u16 0, .int .u16 0, .int .u16 0, .int .i64 0, .int .i64 0, .bool false, .slice none 0 0] 30))
 have HB := Lh hB
 have HS : Hid (∀ wq, Below ((w.alloc (.cells #[.int .i64 b, .int .i64 t, j0 j, j1 j, j2 j, j3 j, j4 j, j5 j, j6 j, j7 j, j8 j, j9 j, j10 j, .slice A0 n0 c0] 30)).alloc (.cells #[.int .i64 0, .int .i64 0, .int .u16 0, .int .u16 0, .int .u16 0, .int .i64 0, .int .i64 0, .int .u16 0, .int .u16 0, .int .u16 0, .int .i64 0, .int .i64 0, .bool false, .slice none 0 0] 30)).heap.size ((w.alloc (.cells #[.int .i64 b, .int .i64 t, j0 j, j1 j, j2 j, j3 j, j4 j, j5 j, j6 j, j7 j, j8 j, j9 j, j10 j, .slice A0 n0 c0] 30)).alloc (.cells #[.int .i64 0, .int .i64 0, .int .u16 0, .int .u16 0, .int .u16 0, .int .i64 0, .int .i64 0, .int .u16 0, .int .u16 0, .int .u16 0, .int .i64 0, .int .i64 0, .bool false, .slice none 0 0] 30)) wq → (wq.cell? ⟨w.heap.size, 0, none⟩ = some (.int .i64 b) ∧ wq.cell? ⟨w.heap.size, 1, none⟩ = some (.int .i64 t) ∧ wq.cell? ⟨w.heap.size, 2, none⟩ = some (j0 j) ∧ wq.cell? ⟨w.heap.size, 3, none⟩ = some (j1 j) ∧ wq.cell? ⟨w.heap.size, 4, none⟩ = some (j2 j) ∧ wq.cell? ⟨w.heap.size, 5, none⟩ = some (j3 j) ∧ wq.cell? ⟨w.heap.size, 6, none⟩ = some (j4 j) ∧ wq.cell? ⟨w.heap.size, 7, none⟩ = some (j5 j) ∧ wq.cell? ⟨w.heap.size, 8, none⟩ = some (j6 j) ∧ wq.cell? ⟨w.heap.size, 9, none⟩ = some (j7 j) ∧ wq.cell? ⟨w.heap.size, 10, none⟩ = some (j8 j) ∧ wq.cell? ⟨w.heap.size, 11, none⟩ = some (j9 j) ∧ wq.cell? ⟨w.heap.size, 12, none⟩ = some (j10 j) ∧ wq.cell? ⟨w.heap.size, 13, none⟩ = some (.slice A0 n0 c0)) ∧ (wq.cell? ⟨(w.heap.size + 1), 0, none⟩ = some (.int .i64 0) ∧ wq.cell? ⟨(w.heap.size + 1), 1, none⟩ = some (.int .i64 0) ∧ wq.cell? ⟨(w.heap.size + 1), 2, none⟩ = some (.int .u16 0) ∧ wq.cell? ⟨(w.heap.size + 1), 3, none⟩ = some (.int .u16 0) ∧ wq.cell? ⟨(w.heap.size + 1), 4, none⟩ = some (.int .u16 0) ∧ wq.cell? ⟨(w.heap.size + 1), 5, none⟩ = some (.int .i64 0) ∧ wq.cell? ⟨(w.heap.size + 1), 6, none⟩ = some (.int .i64 0) ∧ wq.cell? ⟨(w.heap.size + 1), 7, none⟩ = some (.int .u16 0) ∧ wq.cell? ⟨(w.heap.size + 1), 8, none⟩ = some (.int .u16 0) ∧ wq.cell? ⟨(w.heap.size + 1), 9, none⟩ = some (.int .u16 0) ∧ wq.cell? ⟨(w.heap.size + 1), 10, none⟩ = some (.int .i64 0) ∧ wq.cell? ⟨(w.heap.size + 1), 11, none⟩ = some (.int .i64 0) ∧ wq.cell? ⟨(w.heap.size + 1), 12, none⟩ = some (.bool false) ∧ wq.cell? ⟨(w.heap.size + 1), 13, none⟩ = some (.slice none 0 0))) := fun wq hq => ⟨blk14 (k0.below hq k0.lt), blk14 (k1.below hq k1.lt)⟩
 have q0 := Below.refl ((w.alloc (.cells #[.int .i64 b, .int .i64 t, j0 j, j1 j, j2 j, j3 j, j4 j, j5 j, j6 j, j7 j, j8 j, j9 j, j10 j, .slice A0 n0 c0] 30)).alloc (.cells #[.int .i64 0, .int .i64 0, .int .u16 0, .int .u16 0, .int .u16 0, .int .i64 0, .int .i64 0, .int .u16 0, .int .u16 0, .int .u16 0, .int .i64 0, .int .i64 0, .bool false, .slice none 0 0] 30)).heap.size ((w.alloc (.cells #[.int .i64 b, .int .i64 t, j0 j, j1 j, j2 j, j3 j, j4 j, j5 j, j6 j, j7 j, j8 j, j9 j, j10 j, .slice A0 n0 c0] 30)).alloc (.cells #[.int .i64 0, .int .i64 0, .int .u16 0, .int .u16 0, .int .u16 0, .int .i64 0, .int .i64 0, .int .u16 0, .int .u16 0, .int .u16 0, .int .i64 0, .int .i64 0, .bool false, .slice none 0 0] 30))
 have K0 := Lh k0
 have K1 := Lh k1
 clear hB k0 k1
 go_enter Tryz.func151, Tryz.ntmps151
 go_upto_region 1 with (fail)
 generalize ((w.alloc (.cells #[.int .i64 b, .int .i64 t, j0 j, j1 j, j2 j, j3 j, j4 j, j5 j, j6 j, j7 j, j8 j, j9 j, j10 j, .slice A0 n0 c0] 30)).alloc (.cells #[.int .i64 0, .int .i64 0, .int .u16 0, .int .u16 0, .int .u16 0, .int .i64 0, .int .i64 0, .int .u16 0, .int .u16 0, .int .u16 0, .int .i64 0, .int .i64 0, .bool false, .slice none 0 0] 30)) = w1 at *
 have CC := Lh (fun w' (hb : Below w1.heap.size w1 w') => concat_any ps A k c w' w1.heap.size ((HR.out.on (HB.out.mono hBs.out) (Nat.le_trans hBs.out HB.out.size)).below hb) (fun p hp => ((HE.out p hp).on (HB.out.mono hBs.out) (Nat.le_trans hBs.out HB.out.size)).below hb) hb.size hs hk)
 have r0 := HS.out _ q0
 have df0 := fun i => K0.out.frozen i
 go_wp2_with fail
 refine (CC.out _ q0).mono ?_
 rintro e y1 ⟨A', c', rfl, hO1, hY1⟩
 have hO1 := Lh (hO1.more q0.size)
 have q1 := q0.trans (hY1.mono q0.size)
 clear r0 df0
 have r1 := HS.out _ q1
 have df0 := fun i => (K0.out.below q1 K0.out.lt).frozen i
 go_upto_region 2 with (fail)
 have k0 : Blk 30 (y1.setCell ⟨w.heap.size, 13, none⟩ (.slice A' (flatP ps).length c')) w.heap.size [.int .i64 b, .int .i64 t, j0 j, j1 j, j2 j, j3 j, j4 j, j5 j, j6 j, j7 j, j8 j, j9 j, j10 j, (.slice A' (flatP ps).length c')] := (K0.out.below q1 K0.out.lt).set_ 13 _
 have k1 : Blk 30 (y1.setCell ⟨w.heap.size, 13, none⟩ (.slice A' (flatP ps).length c')) (w.heap.size + 1) [.int .i64 0, .int .i64 0, .int .u16 0, .int .u16 0, .int .u16 0, .int .i64 0, .int .i64 0, .int .u16 0, .int .u16 0, .int .u16 0, .int .i64 0, .int .i64 0, .bool false, .slice none 0 0] := (K1.out.below q1 K1.out.lt).far (p := ⟨w.heap.size, 13, none⟩) (by show w.heap.size + 1 ≠ w.heap.size; omega) _
 have b2 := (HB.out.trans (q1.mono HB.out.size)).setCell (p := ⟨w.heap.size, 13, none⟩) (Nat.le_refl _) (.slice A' (flatP ps).length c')
 have l0 := K0.out.lt
 have l1 := K1.out.lt
 have o2 : OwnE (y1.setCell ⟨w.heap.size, 13, none⟩ (.slice A' (flatP ps).length c')) w1.heap.size (.slice A' (flatP ps).length c') (flatP ps) := hO1.out.far (p := ⟨w.heap.size, 13, none⟩) l0 (.slice A' (flatP ps).length c')
 clear r1 df0
 generalize (y1.setCell ⟨w.heap.size, 13, none⟩ (.slice A' (flatP ps).length c')) = y2 at *
 have c14 := blk14 k0
 have c15 := blk14 k1
 have df := fun i => k1.frozen i
 have k1 := Lh k1
 have k0 := Lh k0
 have o2 := Lh o2
 have b2 := Lh b2
 have l1 := Lh l1
 go_wp2_with fail
 have sF := put14 (.int .i64 b) (.int .i64 t) (j0 j) (j1 j) (j2 j) (j3 j) (j4 j) (j5 j) (j6 j) (j7 j) (j8 j) (j9 j) (j10 j) ((.slice A' (flatP ps).length c')) k1.out
 have bF := below14 (g := w.heap.size + 1) (.int .i64 b) (.int .i64 t) (j0 j) (j1 j) (j2 j) (j3 j) (j4 j) (j5 j) (j6 j) (j7 j) (j8 j) (j9 j) (j10 j) ((.slice A' (flatP ps).length c')) b2.out (by first | omega | simp)
 have oF := own14 (g := w.heap.size + 1) (.int .i64 b) (.int .i64 t) (j0 j) (j1 j) (j2 j) (j3 j) (j4 j) (j5 j) (j6 j) (j7 j) (j8 j) (j9 j) (j10 j) ((.slice A' (flatP ps).length c')) o2.out l1.out
 generalize ((((((((((((((y2.setCell ⟨w.heap.size + 1, 0, none⟩ (.int .i64 b)).setCell ⟨w.heap.size + 1, 1, none⟩ (.int .i64 t)).setCell ⟨w.heap.size + 1, 2, none⟩ (j0 j)).setCell ⟨w.heap.size + 1, 3, none⟩ (j1 j)).setCell ⟨w.heap.size + 1, 4, none⟩ (j2 j)).setCell ⟨w.heap.size + 1, 5, none⟩ (j3 j)).setCell ⟨w.heap.size + 1, 6, none⟩ (j4 j)).setCell ⟨w.heap.size + 1, 7, none⟩ (j5 j)).setCell ⟨w.heap.size + 1, 8, none⟩ (j6 j)).setCell ⟨w.heap.size + 1, 9, none⟩ (j7 j)).setCell ⟨w.heap.size + 1, 10, none⟩ (j8 j)).setCell ⟨w.heap.size + 1, 11, none⟩ (j9 j)).setCell ⟨w.heap.size + 1, 12, none⟩ (j10 j)).setCell ⟨w.heap.size + 1, 13, none⟩ ((.slice A' (flatP ps).length c'))) = wf at *
 (try simp only [Exit.inBlock, Exit.then])
 refine bodyPost_ret (res1 Tryz.results151 rfl (aggL _) (sizeL _) (ld14 sF)) rfl ?_
 exact ⟨A', c', by rfl, (by exact oF.more (Nat.le_of_lt (Nat.lt_of_lt_of_le (Nat.lt_succ_self _) (Nat.le_of_lt l1.out)))), bF⟩
end Go.Proofs.YtegnfkbmlalkeaaGreat.enti
