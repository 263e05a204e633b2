/- The document's run: winning. Conditions: those that the theorem names. -/
import Derived.Deep.RegionHeld3
import Derived.Deep.Cut
import Derived.Lib.Hide
import Derived.Test.YtegnfkbmlalkeaaGreatStJ3
import Derived.Test.YtegnfkbmlalkeaaGreatStJ0
import Derived.Test.YtegnfkbmlalkeaaGreatStRefI13
import Derived.Test.YtegnfkbmlalkeaaGreatStKitLg
set_option linter.unusedVariables false
set_option maxHeartbeats 16000000
set_option maxRecDepth 10000
namespace Go.Proofs.YtegnfkbmlalkeaaGreat.ref13
open Go Go.RowKit kit nums cf lg cr se
theorem endC_nx (d : CoL) : (endC d).nx = d.nx := by unfold endC; split <;> (try split) <;> rfl
theorem endC_lg (d : CoL) : (endC d).lg = d.lg := by unfold endC; split <;> (try split) <;> rfl
theorem endC_id (d : CoL) : (endC d).id = d.id := by unfold endC; split <;> (try split) <;> rfl
theorem endC_cm (d : CoL) : (endC d).cm = d.cm := by unfold endC; split <;> (try split) <;> rfl
theorem good_end {d : CoL} {N : Nat} (h : GoodN d N) : GoodN (endC d) N := by
 unfold GoodN conC
 rw [endC_lg, endC_id, endC_cm]; exact h
theorem good_more {d : CoL} {N M : Nat} (h : GoodN d N) (hm : N ≤ M) : GoodN d M := ⟨h.1, Nat.le_trans h.2.1 hm, h.2.2⟩
theorem good_cou {c : CoL} {N : Nat} (h : GoodN c N) (hN : N ≤ 900000) : GoodN (couC c) (N + 1) := by
 unfold couC
 dsimp only
 split
 ·
  rename_i hc
  exact good_end (good_cnt (good_fin (good_cnt h) hN hc.2).1)
 · exact good_more (good_end (good_cnt h)) (Nat.le_succ _)
theorem couC_nx (c : CoL) : (couC c).nx = c.nx := by
 unfold couC
 dsimp only
 split
 · rw [endC_nx]; rfl
 · rw [endC_nx]; rfl
theorem rn_ext {c : CoL} {f f' h h' : Nat → Int} (hf : ∀ k, k < 10 → f k = f' k) (hh : ∀ k, k < 10 → h k = h' k) (s v : Value) : rnC { c with nx := f, mt := h } s v = rnC { c with nx := f', mt := h' } s v := by
 simp only [rnC, hf 0 (by omega), hf 1 (by omega), hf 2 (by omega), hf 3 (by omega), hf 4 (by omega), hf 5 (by omega), hf 6 (by omega), hf 7 (by omega), hf 8 (by omega), hf 9 (by omega), hh 0 (by omega), hh 1 (by omega), hh 2 (by omega), hh 3 (by omega), hh 4 (by omega), hh 5 (by omega), hh 6 (by omega), hh 7 (by omega), hh 8 (by omega), hh 9 (by omega)]
theorem upd_lt (f : Nat → Int) (k : Nat) (v : Int) : upd (fun i => if i < k then v else f i) k v = fun i => if i < k + 1 then v else f i := by
 funext i
 show (if i = k then v else if i < k then v else f i) = _
 by_cases h1 : i = k
 · rw [if_pos h1, if_pos (by omega)]
 ·
  by_cases h2 : i < k
  · rw [if_neg h1, if_pos h2, if_pos (by omega)]
  · rw [if_neg h1, if_neg h2, if_neg (by omega)]
def leadC (c : CoL) : CoL := { c with ro := 2, le := c.id, wa := 0, he := 0 }
def leadK (c : CoL) (k : Nat) : CoL := { leadC c with nx := fun i => if i < k then lastF c.lg + 1 else c.nx i, mt := fun i => if i < k then 0 else c.mt i }
def leadA (c : CoL) : CoL := { c with ro := 2, le := c.id, wa := 0, he := 0, nx := fun _ => lastF c.lg + 1, mt := z10 }
theorem lead_zero (c : CoL) (s v : Value) : rnC (leadC c) s v = rnC (leadK c 0) s v := rfl
theorem lead_all (c : CoL) (s v : Value) : rnC (leadK c 10) s v = rnC (leadA c) s v := rn_ext (c := leadC c) (fun k hk => by simp [hk]) (fun k hk => by simp [hk, z10]) s v
theorem lead_step (c : CoL) (k : Nat) : { leadK c k with nx := upd (leadK c k).nx k (lastF c.lg + 1), mt := upd (leadK c k).mt k 0 } = leadK c (k + 1) := by
 unfold leadK
 simp only [upd_lt]
theorem winC_lead (c : CoL) : winC c = couC (pushC (leadA c) zE) := rfl
theorem good_lead {c : CoL} (h : GoodN c 700000) : GoodN (pushC (leadA c) zE) 700001 := by
 obtain ⟨h1, h2, h3, h4, h5, h6, h7, h8⟩ := h
 have hc : conC (pushC (leadA c) zE) = conC c := by rw [conC_push]; rfl
 have hl := lastF_push (leadA c) zE
 have hlen : (pushC (leadA c) zE).lg.es.length = c.lg.es.length + 1 := by show (c.lg.es ++ [_]).length = _; simp
 exact ⟨⟨h1.1, h1.2.1, by rw [hlen]; omega⟩, by rw [hlen]; omega, h3, h4, by rw [hc]; exact h5, by rw [hc]; exact h6, h7, by rw [hl]; exact Int.le_trans h8 (by show lastF c.lg ≤ lastF c.lg + 1; omega)⟩
theorem wins_any (g : Nat) (c : CoL) (ms : List MsL) (o : Rw) (w : World) (hI : RunI w g c ms o) (hg : GoodN c 700000) (hl2 : lastF c.lg ≤ 2199023255550) (hl : ms.length ≤ 900) : Calls Tryz.prog 69 #[.pointer (some ⟨g, 0, none⟩)] w fun e w' => e = .returned (.tuple #[]) ∧ ∃ o', RunI w' g (winC c) (ms ++ allF (winC c)) o' ∧ Ch g o w w' ∧ Nx o o' w := by
 have HG := Lh hg
 have hlb := hg.1.2.1
 have hll := hg.1.2.2
 have hb0 := hg.1.1
 have hla : Hid (lastF c.lg ≤ 2199023255550) := hl2
 have hla0 : Hid (0 ≤ lastF c.lg) := by show _ ≤ _; unfold lastF; omega
 replace hlb := Lh hlb
 replace hll := Lh hll
 replace hb0 := Lh hb0
 clear hg hl2
 have hFc := Lh HG.out.1
 obtain ⟨A0, n0, p0, v0, kR, hR⟩ := hI
 have HC := Ch.refl g o w
 have HN := Nx.refl o w
 have cR0 : _ = some (Value.int .i64 c.id) := kR.cell 0
 go_enter Tryz.func69, Tryz.ntmps69
 have df := fun i => kR.frozen i
 have cR1 : _ = some _ := kR.cell 1
 have cR4 : _ = some _ := kR.cell 4
 have cR5 : _ = some _ := kR.cell 5
 have cR24 : _ = some _ := kR.cell 24
 go_wp2_with fail
 clear df cR1 cR4 cR5 cR24
 have kR2 : Blk 99 _ g (rnC { c with ro := 2 } (.slice A0 n0 p0) v0) := kR.set_ 1 (.int .i64 2)
 have pO := put_set w g (1) (.int .i64 2)
 clear kR
 generalize (w.setCell ⟨g, 1, none⟩ (.int .i64 2)) = y1 at *
 replace hR := hR.put pO
 replace HC := HC.trans HN (Ch.of_put _ pO pO.low)
 have kR := kR2
 clear kR2 pO
 have kR2 : Blk 99 _ g (rnC { c with ro := 2, le := c.id } (.slice A0 n0 p0) v0) := kR.set_ 4 (.int .i64 c.id)
 have pO := put_set y1 g (4) (.int .i64 c.id)
 clear kR
 generalize (y1.setCell ⟨g, 4, none⟩ (.int .i64 c.id)) = y2 at *
 replace hR := hR.put pO
 replace HC := HC.trans HN (Ch.of_put _ pO pO.low)
 have kR := kR2
 clear kR2 pO
 have kR2 : Blk 99 _ g (rnC { c with ro := 2, le := c.id, wa := 0 } (.slice A0 n0 p0) v0) := kR.set_ 5 (.int .i64 0)
 have pO := put_set y2 g (5) (.int .i64 0)
 clear kR
 generalize (y2.setCell ⟨g, 5, none⟩ (.int .i64 0)) = y3 at *
 replace hR := hR.put pO
 replace HC := HC.trans HN (Ch.of_put _ pO pO.low)
 have kR := kR2
 clear kR2 pO
 have kR2 : Blk 99 _ g (rnC (leadC c) (.slice A0 n0 p0) v0) := kR.set_ 24 (.int .u16 0)
 have pO := put_set y3 g (24) (.int .u16 0)
 clear kR
 generalize (y3.setCell ⟨g, 24, none⟩ (.int .u16 0)) = y4 at *
 replace hR := hR.put pO
 replace HC := HC.trans HN (Ch.of_put _ pO pO.low)
 have kR := kR2
 clear kR2 pO
 clear cR0
 rw [lead_zero] at kR
 have BI : Hid (∃ A n p v, Blk 99 y4 g (rnC (leadK c 0) (.slice A n p) v) ∧ RunR y4 g o A n p c.lg.es v ms) := ⟨_, _, _, _, kR, hR⟩
 have BC := Lh HC
 have BN := Lh HN
 clear kR hR HC HN
 go_loopw [2] (fun iv wr => ∃ k : Nat, k ≤ 10 ∧ iv = .int .i64 (k : Int) ∧ Hid (∃ A n p v, Blk 99 wr g (rnC (leadK c k) (.slice A n p) v) ∧ RunR wr g o A n p c.lg.es v ms) ∧ Hid (Ch g o w wr)) (fun iv _ => 10 - (intOf iv).toNat)
 case atStart => exact ⟨0, by omega, rfl, BI, BC⟩
 case round =>
  obtain ⟨k, hk, rfl, HI1, HC1⟩ := hrel
  obtain ⟨A0, n0, p0, v0, kR, hR⟩ := HI1.out
  have HC := HC1.out
  have HN := BN.out
  clear HI1 HC1 BI BC
  by_cases hk10 : k < 10
  ·
   have ck : (k : Int) < 10 := by omega
   have c0k : (0 : Int) ≤ (k : Int) := by omega
   have wk : IntKind.i64.wrap ((k : Int) + 1) = ((k + 1 : Nat) : Int) := by rw [wrap_sm (by omega) (by omega)]; omega
   obtain ⟨la, hlae⟩ : ∃ q, lastF c.lg = q := ⟨_, rfl⟩
   have wl : IntKind.i64.wrap (la + 1) = la + 1 := by have := hla.out; have := hla0.out; rw [← hlae]; rw [wrap_sm (by omega) (by omega)]
   replace hlae := Lh hlae
   go_upto_region 4 with (first | refine lo_rLj kR ?_ | refine lo_rCj kR ?_)
   refine wp_region_held_drew (S := fun wq => At wq g 8 (lgC c.lg (.slice A0 n0 p0))) (by kernel_rfl) ?s_win4 (fun hHeld => ?_)
   case s_win4 => exact by have h := at_rL kR; exact h
   have hD := (Below.refl wr.heap.size wr).drew
   replace HC := HC.trans HN (Ch.of_below g _ hD)
   replace kR := kR.b hD
   replace hR := hR.below hD
   clear hD
   generalize wr.drew = y21 at *
   iterate 8 (refine tx 0 _ ?_; try simp only [Act.put, ka, kb, kc])
   refine tj 8 (lgV c.lg (.slice A0 n0 p0)) ?_ (hy := fun wq hSw => run_ldAt rfl rfl hSw (aggL _) (sizeL _))
   try simp only [Act.put, ka, kb, kc]
   iterate 3 (refine tx 11 _ ?_; try simp only [Act.put, ka, kb, kc])
   iterate 3 (refine tx 16 _ ?_; try simp only [Act.put, ka, kb, kc])
   refine rr [9] ?_
   refine rc (fun KQ hKQ => ?_) AllReadyH.nil
   go_simp
   have CC := ref12.rlast_any c.lg A0 n0 p0 y21 hR.rd.1 hFc.out
   rw [hlae.out] at CC
   refine CC.mono ?_
   rintro e2 y84 ⟨rfl, hY⟩
   clear CC
   replace HC := HC.trans HN (Ch.of_below g _ hY)
   replace kR := kR.b hY
   replace hR := hR.below hY
   clear hY
   go_wp2_with fail
   refine hKQ.out _ _ ((by have h := at_rL kR; exact h)) (fun _ => ?_)
   clear hKQ KQ
   try simp only [Act.put, ka, kb, kc]
   refine tj 10 _ ?_
   try simp only [Act.put, ka, kb, kc]
   refine tj 14 _ ?_
   try simp only [Act.put, ka, kb, kc]
   refine rr [15] ?_
   refine rc (fun KQ hKQ => ?_) AllReadyH.nil
   have df := fun i => kR.frozen i
   have cR := rn_nx kR hk10
   go_simp
   clear df cR
   have kR2 : Blk 99 _ g (rnC { leadK c k with nx := upd (leadK c k).nx k (la + 1) } (.slice A0 n0 p0) v0) := set_nx kR hk10 (la + 1)
   have pO := put_set y84 g (25 + k) (.int .i64 (la + 1))
   clear kR
   generalize (y84.setCell ⟨g, 25 + k, none⟩ (.int .i64 (la + 1))) = y85 at *
   replace hR := hR.put pO
   replace HC := HC.trans HN (Ch.of_put _ pO pO.low)
   have kR := kR2
   clear kR2 pO
   refine hKQ.out _ _ ((by have h := at_rL kR; exact h)) (fun _ => ?_)
   clear hKQ KQ
   try simp only [Act.put]
   refine tj 19 _ ?_
   try simp only [Act.put, ka, kb, kc]
   refine rr [20] ?_
   refine rc (fun KQ hKQ => ?_) AllReadyH.nil
   have df := fun i => kR.frozen i
   have cR := rn_mt kR hk10
   go_simp
   clear df cR
   have kR2 : Blk 99 _ g (rnC (leadK c (k + 1)) (.slice A0 n0 p0) v0) := (by rw [← lead_step, hlae.out]; exact set_mt kR hk10 0)
   have pO := put_set y85 g (35 + k) (.int .i64 0)
   clear kR
   generalize (y85.setCell ⟨g, 35 + k, none⟩ (.int .i64 0)) = y86 at *
   replace hR := hR.put pO
   replace HC := HC.trans HN (Ch.of_put _ pO pO.low)
   have kR := kR2
   clear kR2 pO
   refine hKQ.out _ _ ((by have h := at_rL kR; exact h)) (fun _ => ?_)
   clear hKQ KQ
   try simp only [Act.put]
   refine wpAnyH_done (by kernel_rfl) ?_ _
   go_wp2_with fail
   go_roundw
   case rel => exact ⟨k + 1, by omega, rfl, Lh ⟨_, _, _, _, kR, hR⟩, Lh HC⟩
   case measure => simp only [intOf]; omega
  ·
   obtain rfl : k = 10 := by omega
   have ck : ¬ (((10 : Nat) : Int) < 10) := by omega
   rw [lead_all] at kR
   have HGL := Lh (good_lead HG.out)
   have HGW := Lh (good_cou HGL.out (by omega))
   go_wp2_with (first | refine lo_rLj kR ?_ | refine lo_rCj kR ?_ | refine bd_e0 rfl rfl ?_)
   refine (push_any g (leadA c) ms _ zE wr ⟨_, _, _, _, kR, hR⟩ hFc.out (by have := HG.out.2.1; show c.lg.es.length ≤ _; omega) ⟨HG.out.2.2.1, HG.out.2.2.2.1⟩).mono ?_
   rintro e y41 ⟨rfl, o41, ⟨A41, n41, p41, v41, kR2, hR2⟩, hc, hn⟩
   have HN2 := HN.trans HC.size hn
   replace HC := HC.trans HN hc
   replace HN := HN2
   clear HN2 kR hR hc hn
   have kR := kR2
   have hR := hR2
   clear kR2 hR2
   go_wp2_with (first | refine lo_rLj kR ?_ | refine lo_rCj kR ?_)
   refine (counts_any g (pushC (leadA c) zE) ms _ y41 ⟨_, _, _, _, kR, hR⟩ (good_more HGL.out (by omega))).mono ?_
   rintro e y42 ⟨rfl, o42, ⟨A42, n42, p42, v42, kR2, hR2⟩, hc, hn⟩
   have HN2 := HN.trans HC.size hn
   replace HC := HC.trans HN hc
   replace HN := HN2
   clear HN2 kR hR hc hn
   have kR := kR2
   have hR := hR2
   clear kR2 hR2
   go_wp2_with (first | refine lo_rLj kR ?_ | refine lo_rCj kR ?_)
   have hnw : Hid (∀ n : Int, 1 ≤ n → n ≤ 9 → 0 ≤ nxF (winC c) n ∧ nxF (winC c) n ≤ 2199023255552) := fun n _ _ => by
    show 0 ≤ (winC c).nx n.toNat ∧ (winC c).nx n.toNat ≤ _
    rw [winC_lead, couC_nx]
    show 0 ≤ lastF c.lg + 1 ∧ lastF c.lg + 1 ≤ _
    have := hla.out
    have := hla0.out
    omega
   refine (all_any g (winC c) ms _ y42 ⟨_, _, _, _, kR, hR⟩ HGW.out.1 HGW.out.2.2.2.2.1 HGW.out.2.2.2.2.2.1 hnw.out hl).mono ?_
   rintro e y43 ⟨rfl, o43, ⟨A43, n43, p43, v43, kR2, hR2⟩, hc, hn⟩
   have HN2 := HN.trans HC.size hn
   replace HC := HC.trans HN hc
   replace HN := HN2
   clear HN2 kR hR hc hn
   have kR := kR2
   have hR := hR2
   clear kR2 hR2
   go_wp2_with fail
   go_end0
   exact ⟨rfl, _, ⟨_, _, _, _, kR, hR⟩, HC, HN⟩
end Go.Proofs.YtegnfkbmlalkeaaGreat.ref13
