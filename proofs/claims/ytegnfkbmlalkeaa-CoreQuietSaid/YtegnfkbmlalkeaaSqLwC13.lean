/- The statements' Conf. Conditions: those that the theorem names. -/
import Derived.Deep.RegionHeld3
import Derived.Deep.Cut
import Derived.Lib.Hide
import Derived.Test.YtegnfkbmlalkeaaSqJ4
import Derived.Test.YtegnfkbmlalkeaaSqJ2
import Derived.Test.YtegnfkbmlalkeaaSqJ1
import Derived.Test.YtegnfkbmlalkeaaSqKitLg
import Derived.Test.YtegnfkbmlalkeaaSqJ0
namespace Go.Proofs.Ytegnfkbmlalkeaa.law13
open Go Go.RowKit Go.Proofs.Ytegnfkbmlalkeaa.kit Go.Proofs.Ytegnfkbmlalkeaa.nums Go.Proofs.Ytegnfkbmlalkeaa.cf Go.Proofs.Ytegnfkbmlalkeaa.lg Go.Proofs.Ytegnfkbmlalkeaa.cr Go.Proofs.Ytegnfkbmlalkeaa.se
set_option linter.unusedVariables false
theorem rb_j1 {w : World} {a : Act} {o : Oper} {q0 : Operand} (c : CfL) (ho : o.op = .build 30 #[(0, q0)]) (h0 : a.eval q0 = cfV c) : (execOp a.eval o).run Try.prog w = .ok (.value (jV ⟨c, zeroC, false⟩)) w := by
 have hr : (Instr.build 30 #[(0, cfV c)]).run Try.prog w = .ok (jV ⟨c, zeroC, false⟩) w := by kernel_rfl
 unfold execOp
 simp [ho, h0, hr]
theorem resTC {P : Program} {fn : Func} {tmps : Array Value} {t T n g : Nat} {w : World} {cs : Array Value} {t1 : Nat} {v1 : Value} (hr : fn.results = #[.tmp t1, .cell t T]) (ht : tmps[t]? = some (.pointer (some ⟨g, 0, none⟩))) (h1 : tmps[t1]? = some v1) (ha : (isAgg T).run P w = .ok true w) (hs : (sizeOf T).run P w = .ok n w) (hl : (loadCellsFrom ⟨g, 0, none⟩ 0 n #[]).run P w = .ok cs w) :
   (results fn tmps).run P w = .ok (.tuple #[v1, .agg cs]) w := by
 simp [results, asAddr, loadVar, loadCells, hr, ht, h1, ha, hs, hl]
set_option maxHeartbeats 8000000 in
set_option maxRecDepth 10000 in
theorem conf_any (x y z e : Nat) (w : World) (hx : x < 256) (hy : y < 256) (hz : z < 256) (he : e < 256) : Calls Try.prog 5 #[shpV x y z e] w fun e_ w' => e_ = .returned (.tuple #[.int .i64 ((1 + x % 4 + y % 3 + z % 3 : Nat) : Int), jV (shJ (1 + x % 4) (y % 3) (z % 3) e)]) ∧ Below w.heap.size w w' := by
 obtain ⟨v, hv⟩ : ∃ q : Nat, q = 1 + x % 4 := ⟨_, rfl⟩
 obtain ⟨t, ht⟩ : ∃ q : Nat, q = y % 3 := ⟨_, rfl⟩
 obtain ⟨l, hl⟩ : ∃ q : Nat, q = z % 3 := ⟨_, rfl⟩
 rw [← hv, ← ht, ← hl]
 obtain ⟨N, hN⟩ : ∃ N : Nat, N = v + t + l := ⟨_, rfl⟩
 rw [← hN]
 have hvb : 1 ≤ v ∧ v ≤ 4 := by omega
 have htb : t ≤ 2 := by omega
 have hlb : l ≤ 2 := by omega
 have wx : IntKind.i64.wrap (x : Int) = (x : Int) := wrap_sm (by omega) (by omega)
 have wy : IntKind.i64.wrap (y : Int) = (y : Int) := wrap_sm (by omega) (by omega)
 have wz : IntKind.i64.wrap (z : Int) = (z : Int) := wrap_sm (by omega) (by omega)
 have we : IntKind.i64.wrap (e : Int) = (e : Int) := wrap_sm (by omega) (by omega)
 have tx : Int.tmod (x : Int) 4 = ((x % 4 : Nat) : Int) := by rw [Int.tmod_eq_emod_of_nonneg (by omega)]; omega
 have ty : Int.tmod (y : Int) 3 = (t : Int) := by rw [Int.tmod_eq_emod_of_nonneg (by omega)]; omega
 have tz : Int.tmod (z : Int) 3 = (l : Int) := by rw [Int.tmod_eq_emod_of_nonneg (by omega)]; omega
 have wv : IntKind.i64.wrap (1 + ((x % 4 : Nat) : Int)) = (v : Int) := by rw [wrap_sm (by omega) (by omega)]; omega
 generalize ((x % 4 : Nat) : Int) = x4 at tx wv
 replace hv := Lib.hid hv
 replace ht := Lib.hid ht
 replace hl := Lib.hid hl
 go_enter Try.func5, Try.ntmps5
 have LT0 := True.intro
 go_wp2_with (first | go_skip | go_skip | refine box_S rfl _ rfl x y z e rfl ?_)
 intro y1 kS e1 s1
 clear s1 LT0
 have HB := e1
 clear e1
 have LEkO : Hid (w.heap.size ≤ y1.heap.size) := HB.size
 go_wp2_with (first | go_skip | refine al_J rfl rfl ?_ | (first | refine lo_S _ rfl rfl rfl kS ?_))
 intro y2 kO e2 s2
 clear s2
 replace kO : Blk _ _ _ (jC zeroJ) := kO
 replace HB := bt HB e2
 replace kS := kS.b e2
 clear e2
 generalize y1.heap.size = gkO at *
 have k0 : y2.cell? ⟨w.heap.size, 0, none⟩ = some (.int .u8 (x : Int)) := kS.cell 0
 have k1 : y2.cell? ⟨w.heap.size, 1, none⟩ = some (.int .u8 (y : Int)) := kS.cell 1
 have k2 : y2.cell? ⟨w.heap.size, 2, none⟩ = some (.int .u8 (z : Int)) := kS.cell 2
 go_upto_region 1 with (first | go_skip | refine lo_S _ rfl rfl rfl kS ?_ | refine lo_Jj kO ?_)
 clear k0 k1 k2
 refine wp_region_held_drew (S := fun wq => wq.cell? ⟨w.heap.size, 0, none⟩ = some (.int .u8 (x : Int)) ∧ wq.cell? ⟨w.heap.size, 1, none⟩ = some (.int .u8 (y : Int)) ∧ wq.cell? ⟨w.heap.size, 2, none⟩ = some (.int .u8 (z : Int))) (by kernel_rfl) ?s_lwc1 (fun hHeld => ?_)
 case s_lwc1 => exact ⟨kS.cell 0, kS.cell 1, kS.cell 2⟩
 have hD := (Below.refl y2.heap.size y2).drew
 replace HB := bt HB hD
 replace kS := kS.b hD
 replace kO := kO.b hD
 clear hD
 generalize y2.drew = y3 at *
 refine tj 0 _ ?_
 try simp only [Act.put, ka, kb, kc]
 refine tj 1 _ ?_
 try simp only [Act.put, ka, kb, kc]
 refine tj 2 _ ?_
 try simp only [Act.put, ka, kb, kc]
 refine tj 3 _ ?_
 try simp only [Act.put, ka, kb, kc]
 refine tj 4 _ ?_
 try simp only [Act.put, ka, kb, kc]
 refine tj 5 _ ?_
 try simp only [Act.put, ka, kb, kc]
 refine tj 6 _ ?_
 try simp only [Act.put, ka, kb, kc]
 refine tj 7 _ ?_
 try simp only [Act.put, ka, kb, kc]
 refine tj 8 _ ?_
 try simp only [Act.put, ka, kb, kc]
 refine tj 9 _ ?_
 try simp only [Act.put, ka, kb, kc]
 refine tj 10 _ ?_
 try simp only [Act.put, ka, kb, kc]
 refine tj 11 _ ?_
 try simp only [Act.put, ka, kb, kc]
 refine tj 12 _ ?_
 try simp only [Act.put, ka, kb, kc]
 refine tj 13 _ ?_
 try simp only [Act.put, ka, kb, kc]
 refine tj 14 _ ?_
 try simp only [Act.put, ka, kb, kc]
 refine tj 15 _ ?_
 try simp only [Act.put, ka, kb, kc]
 refine wpAnyH_done (by kernel_rfl) ?_ _
 clear tx ty tz wx wy wz wv
 have LTkSkF := Lib.hid kS.lt
 have LTkOkF := Lib.hid kO.lt
 have LEkF : Hid (w.heap.size ≤ y3.heap.size) := HB.size
 go_wp2_with (first | go_skip | refine al_F rfl rfl ?_ | (first | refine lo_S _ rfl rfl rfl kS ?_ | refine lo_Jj kO ?_))
 intro y4 kF e4 s4
 clear s4
 replace kF : Blk _ _ _ (cfC zeroC) := kF
 replace HB := bt HB e4
 replace kS := kS.b e4
 replace kO := kO.b e4
 clear e4
 generalize y3.heap.size = gkF at *
 have wb : IntKind.i64.wrap ((v : Int) + (t : Int)) = ((v + t : Nat) : Int) := by rw [wrap_sm (by omega) (by omega)]; omega
 have wc : IntKind.i64.wrap (((v + t : Nat) : Int) + (l : Int)) = ((v + t + l : Nat) : Int) := by rw [wrap_sm (by omega) (by omega)]; omega
 obtain ⟨q, hq⟩ : ∃ q : Nat, q = v + t := ⟨_, rfl⟩
 rw [← hN, ← hq] at wc
 rw [← hq] at wb
 have hqb : v ≤ q ∧ q ≤ 6 ∧ q ≤ N ∧ N ≤ 8 := by omega
 replace hq := Lib.hid hq
 replace hN := Lib.hid hN
 have HB0 := Lib.hid HB
 have BS : Hid (∀ w', Below gkF y4 w' → Blk 23 w' w.heap.size (shpC x y z e)) := Lib.hid (fun w' hb => kS.below hb LTkSkF.out)
 have BO : Hid (∀ w', Below gkF y4 w' → Blk 30 w' gkO (jC zeroJ)) := Lib.hid (fun w' hb => kO.below hb LTkOkF.out)
 have hle0 : Hid (w.heap.size ≤ gkF) := LEkF
 go_wp2_with go_skip
 go_loopw [8] (fun iv wr => ∃ m : Nat, m ≤ N ∧ iv = .int .i64 ((m + 1 : Nat) : Int) ∧ Hid (Blk 28 wr gkF (cfC (shTo v t m))) ∧ Hid (Below gkF y4 wr)) (fun iv _ => N + 1 - (intOf iv).toNat)
 case atStart => exact ⟨0, by omega, rfl, Lib.hid kF, Lib.hid (Below.refl _ _)⟩
 case round =>
   obtain ⟨m, hm, rfl, HkF, HBr⟩ := hrel
   clear HB kF kS kO
   by_cases hmN : m < N
   · skip
     have kF := HkF.out
     have HB := HBr.out
     have ck : ((m + 1 : Nat) : Int) ≤ (N : Int) := by omega
     have wk : IntKind.i64.wrap (((m + 1 : Nat) : Int) + 1) = ((m + 1 + 1 : Nat) : Int) := by rw [wrap_sm (by omega) (by omega)]; omega
     obtain ⟨h16v, h16w, h16l⟩ := shTo_lt v t m
     have hS : Hid (shTo v t (m + 1) = if m + 1 ≤ v then { shTo v t m with v := withF (shTo v t m).v ((m + 1 : Nat) : Int) } else if m + 1 ≤ v + t then { shTo v t m with w := withF (shTo v t m).w ((m + 1 : Nat) : Int) } else { shTo v t m with l := withF (shTo v t m).l ((m + 1 : Nat) : Int) }) := Lib.hid rfl
     obtain ⟨F2, hF2⟩ : ∃ q, shTo v t (m + 1) = q := ⟨_, rfl⟩
     rw [hF2] at hS
     generalize shTo v t m = F at *
     replace hF2 := Lib.hid hF2
     replace h16v := Lib.hid h16v
     replace h16w := Lib.hid h16w
     replace h16l := Lib.hid h16l
     by_cases hv1 : m + 1 ≤ v
     · skip
       have cv : ((m + 1 : Nat) : Int) ≤ (v : Int) := by omega
       have hE : Hid (F2 = { F with v := withF F.v ((m + 1 : Nat) : Int) }) := by show _ = _; rw [hS.out, if_pos hv1]
       clear hS
       have cf : wr.cell? ⟨gkF, 0, none⟩ = some (.int .u16 (F.v : Int)) := kF.cell 0
       go_wp2_with (first | go_skip | refine lo_Fj kF ?_)
       refine (ref9.with_any F.v ((m + 1 : Nat) : Int) wr h16v.out (by omega) (by omega)).mono ?_
       rintro e y51 ⟨rfl, hW⟩
       subst hW
       obtain ⟨W2, hW2⟩ : ∃ q, withF F.v ((m + 1 : Nat) : Int) = q := ⟨_, rfl⟩
       rw [hW2] at hE ⊢
       clear hW2
       have df := fun i => kF.frozen i
       go_wp2_with go_skip
       clear df cf
       have kF2 : Blk 28 _ gkF (cfC { F with v := W2 }) := kF.set_ 0 (.int .u16 (W2 : Int))
       have pO := put_set wr gkF (0) (.int .u16 (W2 : Int))
       generalize (wr.setCell ⟨gkF, 0, none⟩ (.int .u16 (W2 : Int))) = y52 at *
       replace HB := pO.below _ _ HB (Nat.le_refl _)
       clear kF
       have kF := kF2
       clear kF2 pO
       go_roundw
       case rel => exact ⟨m + 1, by omega, rfl, Lib.hid (by rw [hF2.out, hE.out]; exact kF), Lib.hid HB⟩
       case measure => simp only [intOf]; omega
     by_cases hq1 : m + 1 ≤ q
     · skip
       have cv : ¬ ((m + 1 : Nat) : Int) ≤ (v : Int) := by omega
       have cq : ((m + 1 : Nat) : Int) ≤ (q : Int) := by omega
       have hE : Hid (F2 = { F with w := withF F.w ((m + 1 : Nat) : Int) }) := by show _ = _; rw [hS.out, if_neg hv1, if_pos (by have := hq.out; omega)]
       clear hS
       have cf : wr.cell? ⟨gkF, 1, none⟩ = some (.int .u16 (F.w : Int)) := kF.cell 1
       go_wp2_with (first | go_skip | refine lo_Fj kF ?_)
       refine (ref9.with_any F.w ((m + 1 : Nat) : Int) wr h16w.out (by omega) (by omega)).mono ?_
       rintro e y51 ⟨rfl, hW⟩
       subst hW
       obtain ⟨W2, hW2⟩ : ∃ q, withF F.w ((m + 1 : Nat) : Int) = q := ⟨_, rfl⟩
       rw [hW2] at hE ⊢
       clear hW2
       have df := fun i => kF.frozen i
       go_wp2_with go_skip
       clear df cf
       have kF2 : Blk 28 _ gkF (cfC { F with w := W2 }) := kF.set_ 1 (.int .u16 (W2 : Int))
       have pO := put_set wr gkF (1) (.int .u16 (W2 : Int))
       generalize (wr.setCell ⟨gkF, 1, none⟩ (.int .u16 (W2 : Int))) = y52 at *
       replace HB := pO.below _ _ HB (Nat.le_refl _)
       clear kF
       have kF := kF2
       clear kF2 pO
       go_roundw
       case rel => exact ⟨m + 1, by omega, rfl, Lib.hid (by rw [hF2.out, hE.out]; exact kF), Lib.hid HB⟩
       case measure => simp only [intOf]; omega
     · skip
       have cv : ¬ ((m + 1 : Nat) : Int) ≤ (v : Int) := by omega
       have cq : ¬ ((m + 1 : Nat) : Int) ≤ (q : Int) := by omega
       have hE : Hid (F2 = { F with l := withF F.l ((m + 1 : Nat) : Int) }) := by show _ = _; rw [hS.out, if_neg hv1, if_neg (by have := hq.out; omega)]
       clear hS
       have cf : wr.cell? ⟨gkF, 2, none⟩ = some (.int .u16 (F.l : Int)) := kF.cell 2
       go_wp2_with (first | go_skip | refine lo_Fj kF ?_)
       refine (ref9.with_any F.l ((m + 1 : Nat) : Int) wr h16l.out (by omega) (by omega)).mono ?_
       rintro e y51 ⟨rfl, hW⟩
       subst hW
       obtain ⟨W2, hW2⟩ : ∃ q, withF F.l ((m + 1 : Nat) : Int) = q := ⟨_, rfl⟩
       rw [hW2] at hE ⊢
       clear hW2
       have df := fun i => kF.frozen i
       go_wp2_with go_skip
       clear df cf
       have kF2 : Blk 28 _ gkF (cfC { F with l := W2 }) := kF.set_ 2 (.int .u16 (W2 : Int))
       have pO := put_set wr gkF (2) (.int .u16 (W2 : Int))
       generalize (wr.setCell ⟨gkF, 2, none⟩ (.int .u16 (W2 : Int))) = y52 at *
       replace HB := pO.below _ _ HB (Nat.le_refl _)
       clear kF
       have kF := kF2
       clear kF2 pO
       go_roundw
       case rel => exact ⟨m + 1, by omega, rfl, Lib.hid (by rw [hF2.out, hE.out]; exact kF), Lib.hid HB⟩
       case measure => simp only [intOf]; omega
   · skip
     have kF := HkF.out
     have HB := HBr.out
     obtain rfl : m = N := by omega
     have ck : ¬ (((m + 1 : Nat) : Int) ≤ (m : Int)) := by omega
     obtain ⟨ls, hls⟩ : ∃ L : Nat, L = q / 2 + 1 := ⟨_, rfl⟩
     have hlsb : 1 ≤ ls ∧ ls ≤ q := by omega
     obtain ⟨D, hD⟩ : ∃ D : Nat, D = q - ls + 1 := ⟨_, rfl⟩
     have hDb : 1 ≤ D ∧ D ≤ 7 := by omega
     obtain ⟨E, hE⟩ : ∃ E : Nat, E = e % D := ⟨_, rfl⟩
     have hEb : E < D := by rw [hE]; exact Nat.mod_lt _ (by omega)
     obtain ⟨EE, hEE⟩ : ∃ q : Nat, q = ls + E := ⟨_, rfl⟩
     obtain ⟨KK, hKK⟩ : ∃ k : Nat, k = q - EE + 1 := ⟨_, rfl⟩
     have hsE : shE v t e = EE := by unfold shE; rw [← hq.out, ← hls, ← hD, ← hE, ← hEE]
     have hsK : shK v t e = KK := by unfold shK; rw [← hq.out, hsE, ← hKK]
     have d1 : Int.tdiv (q : Int) 2 = ((q / 2 : Nat) : Int) := by rw [Int.tdiv_eq_ediv_of_nonneg (by omega)]; omega
     have d2 : IntKind.i64.wrap (((q / 2 : Nat) : Int) + 1) = (ls : Int) := by rw [wrap_sm (by omega) (by omega)]; omega
     have d0 : IntKind.i64.wrap ((q / 2 : Nat) : Int) = ((q / 2 : Nat) : Int) := wrap_sm (by omega) (by omega)
     generalize ((q / 2 : Nat) : Int) = qh at d0 d1 d2
     have d3 : IntKind.i64.wrap ((q : Int) - (ls : Int)) = ((q - ls : Nat) : Int) := by rw [wrap_sm (by omega) (by omega)]; omega
     have d4 : IntKind.i64.wrap (((q - ls : Nat) : Int) + 1) = (D : Int) := by rw [wrap_sm (by omega) (by omega)]; omega
     generalize ((q - ls : Nat) : Int) = ql at d3 d4
     have d5 : Int.tmod (e : Int) (D : Int) = (E : Int) := by rw [Int.tmod_eq_emod_of_nonneg (by omega)]; rw [hE]; omega
     have d5b : (e : Int) % (D : Int) = (E : Int) := by rw [hE]; omega
     have d5c : IntKind.i64.wrap (E : Int) = (E : Int) := wrap_sm (by omega) (by omega)
     have d6 : IntKind.i64.wrap ((ls : Int) + (E : Int)) = (EE : Int) := by rw [wrap_sm (by omega) (by omega)]; omega
     have d7 : IntKind.i64.wrap ((q : Int) - (EE : Int)) = ((q - EE : Nat) : Int) := by rw [wrap_sm (by omega) (by omega)]; omega
     have d8 : IntKind.i64.wrap (((q - EE : Nat) : Int) + 1) = (KK : Int) := by rw [wrap_sm (by omega) (by omega)]; omega
     generalize ((q - EE : Nat) : Int) = qe at d7 d8
     have dz : ¬ (D : Int) = 0 := by omega
     have dz3 : ¬ D = 0 := by omega
     have dz3 : ¬ D = 0 := by omega
     have dz2 : ((D : Int) == 0) = false := beq_eq_false_iff_ne.2 dz
     replace hls := Lib.hid hls
     replace hD := Lib.hid hD
     replace hE := Lib.hid hE
     replace hEE := Lib.hid hEE
     replace hKK := Lib.hid hKK
     replace hsE := Lib.hid hsE
     replace hsK := Lib.hid hsK
     replace hlsb := Lib.hid hlsb
     replace hDb := Lib.hid hDb
     replace hEb := Lib.hid hEb
     have hFm : Hid (shTo v t m = shTo v t m) := Lib.hid rfl
     have hek := shTo_ek v t m
     have hF3 : Hid ({ shTo v t m with e := (EE : Int), k := (KK : Int) } = shC v t l e) := by show _ = _; unfold shC; rw [hsE.out, hsK.out, ← hN.out]
     generalize shTo v t m = F at *
     clear hFm hek
     have kS := (BS.out _ HB).cell 3
     have k3 : wr.cell? ⟨w.heap.size, 3, none⟩ = some (.int .u8 (e : Int)) := kS
     clear kS
     have df := fun i => kF.frozen i
     have cR : wr.cell? ⟨gkF, 3, none⟩ = some (.int .i64 F.e) := kF.cell 3
     go_upto_region 13 with (go_skip)
     clear df cR k3
     have kF2 : Blk 28 _ gkF (cfC { F with e := (EE : Int) }) := kF.set_ 3 (.int .i64 (EE : Int))
     have pO := put_set wr gkF (3) (.int .i64 (EE : Int))
     generalize (wr.setCell ⟨gkF, 3, none⟩ (.int .i64 (EE : Int))) = y51 at *
     replace HB := pO.below _ _ HB (Nat.le_refl _)
     clear kF
     have kF := kF2
     clear kF2 pO
     have df := fun i => kF.frozen i
     have cR : y51.cell? ⟨gkF, 3, none⟩ = some (.int .i64 (EE : Int)) := kF.cell 3
     have cR4 : y51.cell? ⟨gkF, 4, none⟩ = some (.int .i64 F.k) := kF.cell 4
     go_upto_region 14 with (go_skip)
     clear df cR cR4
     have kF2 : Blk 28 _ gkF (cfC { F with e := (EE : Int), k := (KK : Int) }) := kF.set_ 4 (.int .i64 (KK : Int))
     have pO := put_set y51 gkF (4) (.int .i64 (KK : Int))
     generalize (y51.setCell ⟨gkF, 4, none⟩ (.int .i64 (KK : Int))) = y52 at *
     replace HB := pO.below _ _ HB (Nat.le_refl _)
     clear kF
     have kF := kF2
     clear kF2 pO
     rw [hF3.out] at kF
     have kO := BO.out _ HB
     replace HB := HB0.out.trans (HB.mono hle0.out)
     refine wp_region_held_drew (S := fun wq => Blk 28 wq gkF (cfC (shC v t l e))) (by kernel_rfl) ?s_lwc14 (fun hHeld => ?_)
     case s_lwc14 => exact kF
     have hD := (Below.refl y52.heap.size y52).drew
     replace HB := bt HB hD
     replace kO := kO.b hD
     replace kF := kF.b hD
     clear hD
     generalize y52.drew = y53 at *
     refine tj 0 _ ?_
     try simp only [Act.put, ka, kb, kc]
     refine tj 1 _ ?_
     try simp only [Act.put, ka, kb, kc]
     refine tj 2 _ ?_
     try simp only [Act.put, ka, kb, kc]
     refine tj 3 _ ?_
     try simp only [Act.put, ka, kb, kc]
     refine tj 4 _ ?_
     try simp only [Act.put, ka, kb, kc]
     refine tj 5 ((cfV (shC v t l e))) ?_ (hy := fun wq hSw => run_ldv rfl rfl hSw (aggF _) (sizeF _))
     try simp only [Act.put, ka, kb, kc]
     refine tj 6 ((jV ⟨shC v t l e, zeroC, false⟩)) ?_ (hy := fun wq hSw => rb_j1 (shC v t l e) rfl rfl)
     try simp only [Act.put, ka, kb, kc]
     refine tj 7 _ ?_
     try simp only [Act.put, ka, kb, kc]
     refine rr [8] ?_
     refine rc (fun KQ hKQ => ?_) AllReadyH.nil
     refine step_stAt rfl 30 _ _ rfl (cells := (jC (shJ v t l e)).toArray) (jC (shJ v t l e)) rfl rfl kO sizeJv (by show 0 + 11 ≤ 11; omega) (j_one _) rfl ?_
     intro y54 kO2 pO
     replace kF := kF.put pO (Nat.ne_of_gt LTkOkF.out)
     replace HB := pO.below _ _ HB LEkO.out
     clear kO
     have kO := kO2
     clear kO2 pO
     refine hKQ.out _ _ (kF) (fun _ => ?_)
     clear hKQ KQ
     try simp only [Act.put]
     refine wpAnyH_done (by kernel_rfl) ?_ _
     go_wp2_with (first | go_skip | refine lo_Jj kO ?_ | refine lo_Fj kF ?_)
     (try simp only [Exit.then])
     refine bodyPost_ret (resTC Try.results5 rfl rfl (aggJ _) (sizeJ _) (ldJv kO)) rfl ?_
     exact ⟨rfl, HB⟩
end Go.Proofs.Ytegnfkbmlalkeaa.law13
