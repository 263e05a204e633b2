/- The document's run: counting. Conditions: those that the theorem names. -/
import Derived.Deep.RegionHeld3
import Derived.Deep.Cut
import Derived.Lib.Hide
import Derived.Test.YtegnfkbmlalkeaaGreatSpJ3
import Derived.Test.YtegnfkbmlalkeaaGreatSpJ0
import Derived.Test.YtegnfkbmlalkeaaGreatSpRefE13
import Derived.Test.YtegnfkbmlalkeaaGreatSpRefHc12
import Derived.Test.YtegnfkbmlalkeaaGreatSpRef10d
import Derived.Test.YtegnfkbmlalkeaaGreatSpKitLg
set_option linter.unusedVariables false
set_option maxHeartbeats 16000000
set_option maxRecDepth 10000
namespace Go.Proofs.YtegnfkbmlalkeaaGreat.ref13
open Go Go.RowKit kit nums cf lg cr se
def couN : Nat → CoL → CoL
 | 0, d => endC (cntC d)
 | f + 1, d => if atC (cntC d).lg ≤ (cntC d).cm ∧ (conC (cntC d)).two = true then couN f (pushC (cntC d) (fiE (conC (cntC d)))) else endC (cntC d)
def couM : Nat → CoL → CoL
 | 0, D => endC D
 | f + 1, D => if atC D.lg ≤ D.cm ∧ (conC D).two = true then couN f (pushC D (fiE (conC D))) else endC D
theorem couN_M (f : Nat) (d : CoL) : couN f d = couM f (cntC d) := by cases f <;> rfl
theorem couC_N (c : CoL) : couC c = couN 1 c := rfl
theorem seek_top (p : Int → Bool) (lo : Int) (k : Nat) (h : p (lo + ((k + 1 : Nat) : Int)) = false) : seekF p lo (k + 1) = seekF p lo k := by
 show (if p (lo + ((k + 1 : Nat) : Int)) = true then _ else _) = _
 rw [h]; rfl
theorem seek_hit (p : Int → Bool) (lo : Int) (k : Nat) (h : p (lo + ((k + 1 : Nat) : Int)) = true) : seekF p lo (k + 1) = lo + ((k + 1 : Nat) : Int) := by
 show (if p (lo + ((k + 1 : Nat) : Int)) = true then _ else _) = _
 rw [h]; rfl
theorem seek_le (p : Int → Bool) (lo : Int) : ∀ k, lo ≤ seekF p lo k ∧ seekF p lo k ≤ lo + k
 | 0 => by simp [seekF]
 | k + 1 => by
  have := seek_le p lo k
  unfold seekF
  split <;> omega
theorem conC_push (d : CoL) (x : EnL) : conC (pushC d x) = if x.k = 2 then x.j else conC d := by
 unfold conC pushC pushF confF
 rw [List.foldl_append]; rfl
theorem lastF_push (d : CoL) (x : EnL) : lastF (pushC d x).lg = lastF d.lg + 1 := by unfold lastF pushC pushF; simp; omega
theorem good_fin {d : CoL} {N : Nat} (h : GoodN d N) (hN : N ≤ 900000) (ht : (conC d).two = true) : GoodN (pushC d (fiE (conC d))) (N + 1) ∧ (conC (pushC d (fiE (conC d)))).two = false := by
 obtain ⟨h1, h2, h3, h4, h5, h6, h7, h8⟩ := h
 have hc : conC (pushC d (fiE (conC d))) = finalJ (conC d) := by rw [conC_push]; rfl
 have hl := lastF_push d (fiE (conC d))
 have hlen : (pushC d (fiE (conC d))).lg.es.length = d.lg.es.length + 1 := by show (d.lg.es ++ [_]).length = _; simp
 have hf : finalJ (conC d) = ⟨(conC d).b, zeroC, false⟩ := by unfold finalJ; rw [ht]; rfl
 refine ⟨⟨⟨h1.1, h1.2.1, by rw [hlen]; omega⟩, by rw [hlen]; omega, h3, h4, by rw [hc]; exact final_ok h5, ?_, h7, by rw [hl]; exact Int.le_trans h8 (by omega)⟩, by rw [hc, hf]⟩
 rw [hc, hf]
 unfold mayJ
 rw [mayJ_b h6 ht]; rfl
theorem good_cnt {d : CoL} {N : Nat} (h : GoodN d N) : GoodN (cntC d) N := by
 obtain ⟨h1, h2, h3, h4, h5, h6, h7, h8⟩ := h
 have hs := seek_le (cmtP d) d.cm (lastF d.lg - d.cm).toNat
 exact ⟨h1, h2, h3, h4, h5, h6, Int.le_trans h7 hs.1, by show seekF _ _ _ ≤ lastF d.lg; omega⟩
def lenV : Option Value → Nat
 | some (.slice _ n _) => n
 | _ => 0
theorem counts_any (g : Nat) (c : CoL) (ms : List MsL) (o : Rw) (w : World) (hI : RunI w g c ms o) (hg : GoodN c 800000) : Calls Tryz.prog 94 #[.pointer (some ⟨g, 0, none⟩)] w fun e w' => e = .returned (.tuple #[]) ∧ ∃ o', RunI w' g (couC c) ms o' ∧ Ch g o w w' ∧ Nx o o' w := by
 have HG := Lh hg
 clear hg
 rw [couC_N]
 obtain ⟨A0, n0, p0, v0, kR, hR⟩ := hI
 have HC := Ch.refl g o w
 have HN := Nx.refl o w
 have BI : Hid (RunI w g c ms o) := ⟨_, _, _, _, kR, hR⟩
 have BC := Lh HC
 have BN := Lh HN
 clear kR hR HC HN
 go_enter Tryz.func94, Tryz.ntmps94
 go_wp2_with fail
 go_loopw [2] (fun _ wr => ∃ (f : Nat) (d : CoL) (o1 : Rw), Hid (couN 1 c = couN f d) ∧ Hid (f = 0 → (conC d).two = false) ∧ Hid (d.lg.es.length + f = c.lg.es.length + 1) ∧ Hid (GoodN d (800001 - f)) ∧ f ≤ 1 ∧ Hid (RunI wr g d ms o1) ∧ Hid (Ch g o w wr) ∧ Hid (Nx o o1 w)) (fun _ wr => c.lg.es.length + 1 - lenV (wr.cell? ⟨g, 21, none⟩))
 case atStart => exact ⟨1, c, o, rfl, Lh (fun h => absurd h (by omega)), rfl, HG, by omega, BI, BC, BN⟩
 case round =>
  obtain ⟨f, d, o1, HR, HT, HL, HGd, hf1, HI1, HC1, HN1⟩ := hrel
  obtain ⟨A0, n0, p0, v0, kR, hR⟩ := HI1.out
  have HC := HC1.out
  have HN := HN1.out
  have hml : lenV (wr.cell? ⟨g, 21, none⟩) = d.lg.es.length := by rw [show wr.cell? ⟨g, 21, none⟩ = some (.slice A0 n0 p0) from kR.cell 21]; exact hR.rd.1.symm
  replace hml := Lh hml
  replace hf1 := Lh hf1
  clear HI1 HC1 HN1 BI BC BN
  have hFd := Lh HGd.out.1
  obtain ⟨f0, f1, f2⟩ := HGd.out.1
  have hlb : Hid (lastF d.lg ≤ 2199024255552) := by show _ ≤ _; unfold lastF; omega
  have hcm0 : Hid (0 ≤ d.cm ∧ d.cm ≤ lastF d.lg) := ⟨by have := HGd.out.2.2.2.2.2.2.1; omega, HGd.out.2.2.2.2.2.2.2⟩
  clear f0 f1 f2
  go_wp2_with (first | refine lo_rLj kR ?_ | refine lo_rCj kR ?_)
  have CC := ref12.rlast_any d.lg A0 n0 p0 wr hR.rd.1 hFd.out
  refine (CC).mono ?_
  rintro e y11 ⟨rfl, hY⟩
  replace HC := HC.trans HN (Ch.of_below g _ hY)
  replace kR := kR.b hY
  replace hR := hR.below hY
  clear hY
  clear CC
  obtain ⟨K, hK⟩ : ∃ K : Nat, lastF d.lg = d.cm + (K : Int) := ⟨(lastF d.lg - d.cm).toNat, by have := hcm0.out; omega⟩
  have HSK : Hid ((lastF d.lg - d.cm).toNat = K) := by show _ = _; omega
  rw [hK]
  replace hK := Lh hK
  obtain ⟨P, hP⟩ : ∃ P, cmtP d = P := ⟨_, rfl⟩
  have HCN : Hid (cntC d = { d with cm := seekF P d.cm K, sf := max d.sf (leastC d) }) := by show _ = _; unfold cntC; rw [HSK.out, hP]
  replace hP := Lh hP
  clear HSK
  have BI : Hid (RunI y11 g d ms o1) := ⟨_, _, _, _, kR, hR⟩
  have BC := Lh HC
  have BN := Lh HN
  clear kR hR HC HN
  go_wp2_with fail
  go_loopw [2] (fun iv wz => ∃ (z : Int) (d1 : CoL) (o2 : Rw), iv = .int .i64 z ∧ Hid ((∃ k : Nat, k ≤ K ∧ z = d.cm + (k : Int) ∧ d1 = d ∧ seekF P d.cm K = seekF P d.cm k) ∨ (d.cm ≤ z ∧ z < seekF P d.cm K ∧ d1 = { d with cm := seekF P d.cm K })) ∧ Hid (RunI wz g d1 ms o2) ∧ Hid (Ch g o w wz) ∧ Hid (Nx o o2 w)) (fun iv _ => (intOf iv - d.cm + 1).toNat)
  case atStart => exact ⟨_, d, o1, rfl, Lh (.inl ⟨K, Nat.le_refl _, rfl, rfl, rfl⟩), BI, BC, BN⟩
  case round =>
   obtain ⟨z, d1, o2, rfl, HZ, HI1, HC1, HN1⟩ := hrel
   obtain ⟨A0, n0, p0, v0, kR, hR⟩ := HI1.out
   have HC := HC1.out
   have HN := HN1.out
   clear HI1 HC1 HN1 BI BC BN
   by_cases hgt : d1.cm < z
   ·
    have hA : ∃ k : Nat, k + 1 ≤ K ∧ z = d.cm + ((k + 1 : Nat) : Int) ∧ d1 = d ∧ seekF P d.cm K = seekF P d.cm (k + 1) := by
     rcases HZ.out with ⟨k, hk, hz, hd, hs⟩ | ⟨hz0, hz, hd⟩
     ·
      rcases k with _ | k
      · rw [hd] at hgt; omega
      · exact ⟨k, hk, hz, hd, hs⟩
     · rw [hd] at hgt; dsimp only at hgt; omega
    obtain ⟨k, hk, hz, hd, hs⟩ := hA
    subst hd
    clear HZ
    have hgt2 : z > d1.cm := hgt
    have cc6 : _ = some (Value.int .i64 d1.cm) := kR.cell 6
    have wz : IntKind.i64.wrap (z - 1) = z - 1 := by have := hlb.out; have := hcm0.out; have := hK.out; rw [wrap_sm (by omega) (by omega)]
    have hz0 : (0 : Int) ≤ z := by have := hcm0.out; omega
    replace hz := Lh hz
    replace hs := Lh hs
    replace hk := Lh hk
    go_wp2_with (first | refine lo_rLj kR ?_ | refine lo_rCj kR ?_)
    clear cc6
    have CC := ref12.rterm_any d1.lg A0 n0 p0 z wr wr.heap.size hR.rd (Nat.le_refl _) hR.cap hFd.out
    obtain ⟨tv, htv⟩ : ∃ q, (termF d1.lg z).1 = q := ⟨_, rfl⟩
    rw [htv] at CC
    replace htv := Lh htv
    refine (CC).mono ?_
    rintro e y31 ⟨rfl, hY⟩
    replace HC := HC.trans HN (Ch.of_below g _ hY)
    replace kR := kR.b hY
    replace hR := hR.below hY
    clear hY
    clear CC
    by_cases ht : tv = d1.tm
    ·
     have hb : (tv == d1.tm) = true := by simp [ht]
     have cc2 : _ = some (Value.int .i64 d1.tm) := kR.cell 2
     go_wp2_with (first | refine lo_rLj kR ?_ | refine lo_rCj kR ?_)
     clear cc2
     have CC := conf_any g d1 ms o2 y31 ⟨_, _, _, _, kR, hR⟩ hFd.out
     refine (CC).mono ?_
     rintro e y32 ⟨rfl, hY⟩
     replace HC := HC.trans HN (Ch.of_below g _ hY)
     replace kR := kR.b hY
     replace hR := hR.below hY
     clear hY
     clear CC
     go_wp2_with (first | refine lo_rLj kR ?_ | refine lo_rCj kR ?_)
     have CC := has_any g d1 ms o2 z y32 ⟨_, _, _, _, kR, hR⟩
     refine (CC).mono ?_
     rintro e y33 ⟨rfl, hY⟩
     replace HC := HC.trans HN (Ch.of_below g _ hY)
     replace kR := kR.b hY
     replace hR := hR.below hY
     clear hY
     clear CC
     go_wp2_with (first | refine lo_rLj kR ?_ | refine lo_rCj kR ?_)
     have CC := ref10.commits_any (conC d1) (hasC d1 z) y33 HGd.out.2.2.2.2.1 (has_lt d1 z 9) HGd.out.2.2.2.2.2.1
     obtain ⟨pz, hpz⟩ : ∃ q, coJ (conC d1) (hasC d1 z) = q := ⟨_, rfl⟩
     rw [hpz] at CC
     have hPz : Hid (P z = pz) := by show _ = _; rw [← hP.out]; unfold cmtP; rw [htv.out, hpz, decide_eq_true ht, Bool.true_and]
     refine (CC).mono ?_
     rintro e y34 ⟨rfl, hY⟩
     replace HC := HC.trans HN (Ch.of_below g _ hY)
     replace kR := kR.b hY
     replace hR := hR.below hY
     clear hY
     clear CC hpz
     rcases pz with _ | _
     ·
      go_wp2_with fail
      go_roundw
      case rel => exact ⟨z - 1, d1, _, rfl, Lh (.inl ⟨k, by have := hk.out; omega, by have := hz.out; omega, rfl, by rw [hs.out]; exact seek_top _ _ _ (by rw [← hz.out]; exact hPz.out)⟩), Lh ⟨_, _, _, _, kR, hR⟩, Lh HC, Lh HN⟩
      case measure => have := hz.out; simp only [intOf]; omega
     ·
      have df := fun i => kR.frozen i
      have cR6 : _ = some _ := kR.cell 6
      go_wp2_with fail
      clear df cR6
      have kR2 : Blk 99 _ g (rnC { d1 with cm := z } (.slice A0 n0 p0) v0) := kR.set_ 6 (.int .i64 z)
      have pO := put_set y34 g (6) (.int .i64 z)
      clear kR
      generalize (y34.setCell ⟨g, 6, none⟩ (.int .i64 z)) = y35 at *
      replace hR := hR.put pO
      replace HC := HC.trans HN (Ch.of_put _ pO pO.low)
      have kR := kR2
      clear kR2 pO
      have hsk : Hid (seekF P d1.cm K = z) := by show _ = _; rw [hs.out, seek_hit _ _ _ (by rw [← hz.out]; exact hPz.out)]; exact hz.out.symm
      go_wp2_with fail
      go_roundw
      case rel => exact ⟨z - 1, { d1 with cm := z }, _, rfl, Lh (.inr ⟨by have := hz.out; omega, by rw [hsk.out]; omega, by rw [hsk.out]⟩), Lh ⟨_, _, _, _, kR, hR⟩, Lh HC, Lh HN⟩
      case measure => have := hz.out; simp only [intOf]; omega
    ·
     have hb : (tv == d1.tm) = false := by simp [ht]
     have cc2 : _ = some (Value.int .i64 d1.tm) := kR.cell 2
     have hPz : Hid (P z = false) := by show _ = _; rw [← hP.out]; unfold cmtP; rw [htv.out, decide_eq_false ht, Bool.false_and]
     go_wp2_with fail
     go_roundw
     case rel => exact ⟨z - 1, d1, _, rfl, Lh (.inl ⟨k, by have := hk.out; omega, by have := hz.out; omega, rfl, by rw [hs.out]; exact seek_top _ _ _ (by rw [← hz.out]; exact hPz.out)⟩), Lh ⟨_, _, _, _, kR, hR⟩, Lh HC, Lh HN⟩
     case measure => have := hz.out; simp only [intOf]; omega
   ·
    have hD : d1 = { d with cm := seekF P d.cm K } := by
     rcases HZ.out with ⟨k, hk, hz, hd, hs⟩ | ⟨hz0, hz, hd⟩
     ·
      rcases k with _ | k
      · rw [hd, hs]; rfl
      · rw [hd] at hgt; omega
     · exact hd
    have hgt2 : ¬ z > d1.cm := hgt
    clear HZ
    have hD2 : Hid ({ d1 with sf := max d1.sf (leastC d1) } = cntC d) := by show _ = _; rw [HCN.out, hD]; rfl
    have hlg : d1.lg = d.lg := by rw [hD]
    have hco : conC d1 = conC d := by unfold conC; rw [hlg]
    have cc6 : _ = some (Value.int .i64 d1.cm) := kR.cell 6
    replace hD := Lh hD
    replace hlg := Lh hlg
    replace hco := Lh hco
    have hFe : Hid (Fit d1.lg) := by show Fit _; rw [hlg.out]; exact hFd.out
    have hje : Hid ((conC d1).ok) := by show JtL.ok _; rw [hco.out]; exact HGd.out.2.2.2.2.1
    go_upto_region 6 with (first | refine lo_rLj kR ?_ | refine lo_rCj kR ?_)
    clear cc6
    refine tail.region (S := fun wq => wq.cell? ⟨g, 7, none⟩ = some (.int .i64 d1.sf)) [12] (by kernel_rfl) (kR.drew.cell 7) (fun hHeld => ?_)
    have hD := (Below.refl wr.heap.size wr).drew
    replace HC := HC.trans HN (Ch.of_below g _ hD)
    replace kR := kR.b hD
    replace hR := hR.below hD
    clear hD
    generalize wr.drew = y61 at *
    have sS : y61.cell? ⟨g, 7, none⟩ = some (.int .i64 d1.sf) := kR.cell 7
    refine tail.tt 0 (v := ?v_0_1) (?y_0_1) ?_
    case y_0_1 => (intro wq hSw; (try dsimp only at hSw); go_simp; first | done | with_reducible rfl)
    try simp only [Act.put, ka, kb, kc]
    refine tail.tt 1 (v := ?v_1_1) (?y_1_1) ?_
    case y_1_1 => (intro wq hSw; (try dsimp only at hSw); go_simp; first | done | with_reducible rfl)
    try simp only [Act.put, ka, kb, kc]
    refine tail.tt 2 (v := ?v_2_1) (?y_2_1) ?_
    case y_2_1 => (intro wq hSw; (try dsimp only at hSw); go_simp; first | done | with_reducible rfl)
    try simp only [Act.put, ka, kb, kc]
    refine tail.tt 3 (v := ?v_3_1) (?y_3_1) ?_
    case y_3_1 => (intro wq hSw; (try dsimp only at hSw); go_simp; first | done | with_reducible rfl)
    try simp only [Act.put, ka, kb, kc]
    refine tail.tt 4 (v := ?v_4_1) (?y_4_1) ?_
    case y_4_1 => (intro wq hSw; (try dsimp only at hSw); go_simp; first | done | with_reducible rfl)
    try simp only [Act.put, ka, kb, kc]
    refine tail.tt 5 (v := ?v_5_1) (?y_5_1) ?_
    case y_5_1 => (intro wq hSw; (try dsimp only at hSw); go_simp; first | done | with_reducible rfl)
    try simp only [Act.put, ka, kb, kc]
    refine tail.tt 6 (v := ?v_6_1) (?y_6_1) ?_
    case y_6_1 => (intro wq hSw; (try dsimp only at hSw); go_simp; first | done | with_reducible rfl)
    try simp only [Act.put, ka, kb, kc]
    refine tail.tn 7 (fun KQ hKQ => ?_)
    go_simp
    have CC := least_any g d1 ms o2 y61 ⟨_, _, _, _, kR, hR⟩ hFe.out hje.out
    obtain ⟨lz, hlz⟩ : ∃ q, leastC d1 = q := ⟨_, rfl⟩
    rw [hlz] at CC
    refine CC.mono ?_
    rintro e2 y81 ⟨rfl, hY⟩
    clear CC
    replace HC := HC.trans HN (Ch.of_below g _ hY)
    replace kR := kR.b hY
    replace hR := hR.below hY
    clear hY
    clear sS
    have sS : y81.cell? ⟨g, 7, none⟩ = some (.int .i64 d1.sf) := kR.cell 7
    replace hlz := Lh hlz
    go_wp2_with fail
    refine hKQ.out _ _ ?s_7 ?_
    case s_7 => exact .inr sS
    clear hKQ KQ
    try simp only [Act.put, ka, kb, kc]
    refine tail.tt 8 (v := ?v_8_1) (?y_8_1) ?_
    case y_8_1 => (intro wq hSw; (try dsimp only at hSw); go_simp; first | done | with_reducible rfl)
    try simp only [Act.put, ka, kb, kc]
    refine tail.tt 9 (v := ?v_9_1) (?y_9_1) ?_
    case y_9_1 => (intro wq hSw; (try dsimp only at hSw); go_simp; first | done | with_reducible rfl)
    try simp only [Act.put, ka, kb, kc]
    refine tail.tt 10 (v := ?v_10_1) (?y_10_1) ?_
    case y_10_1 => (intro wq hSw; (try dsimp only at hSw); go_simp; first | done | with_reducible rfl)
    try simp only [Act.put, ka, kb, kc]
    refine tail.tt 11 (v := ?v_11_1) (?y_11_1) ?_
    case y_11_1 => (intro wq hSw; (try dsimp only at hSw); go_simp; first | done | with_reducible rfl)
    try simp only [Act.put, ka, kb, kc]
    refine tail.tn 12 (fun KQ hKQ => ?_)
    have df := fun i => kR.frozen i
    have cR : _ = some _ := kR.cell 7
    go_simp
    clear df cR sS
    have kR2 : Blk 99 _ g (rnC (cntC d) (.slice A0 n0 p0) v0) := (by rw [← hD2.out, hlz.out, show max d1.sf lz = (if d1.sf < lz then lz else d1.sf) by split <;> omega]; exact kR.set_ 7 (.int .i64 (if d1.sf < lz then lz else d1.sf)))
    have pO := put_set y81 g (7) (.int .i64 (if d1.sf < lz then lz else d1.sf))
    clear kR
    generalize (y81.setCell ⟨g, 7, none⟩ (.int .i64 (if d1.sf < lz then lz else d1.sf))) = y82 at *
    replace hR := hR.put pO
    replace HC := HC.trans HN (Ch.of_put _ pO pO.low)
    have kR := kR2
    clear kR2 pO
    refine hKQ.out _ _ ?s_12 ?_
    case s_12 => exact .inl (by decide)
    clear hKQ KQ
    try simp only [Act.put]
    refine tail.done (by kernel_rfl) ?_ _
    generalize (if d1.sf < lz then lz else d1.sf) = mx at *
    have hle : Hid ((cntC d).lg = d.lg) := rfl
    obtain ⟨D, hDD⟩ : ∃ q, cntC d = q := ⟨_, rfl⟩
    have HGD : Hid (GoodN D (800001 - f)) := by show GoodN _ _; rw [← hDD]; exact good_cnt HGd.out
    have HLD : Hid (D.lg.es.length + f = c.lg.es.length + 1) := by show _ = _; rw [← hDD]; exact HL.out
    have HTD : Hid (f = 0 → (conC D).two = false) := by show _ → _; rw [← hDD]; exact HT.out
    have HRD : Hid (couN f d = couM f D) := by show _ = _; rw [← hDD]; exact couN_M f d
    rw [hDD] at kR
    rw [hlg.out, show d.lg.es = D.lg.es by rw [← hDD]; rfl] at hR
    replace hDD := Lh hDD
    have hFD := Lh HGD.out.1
    clear hle hD hD2 hlz hlg hco hFe hje HGd HT HCN hFd hlb hcm0 hK hP
    go_wp2_with (first | refine lo_rLj kR ?_ | refine lo_rCj kR ?_)
    have CC := ref12.rconfat2_any D.lg A0 n0 p0 y82 y82.heap.size hR.rd (Nat.le_refl _) hR.cap hFD.out
    refine (CC).mono ?_
    rintro e y63 ⟨rfl, hY⟩
    replace HC := HC.trans HN (Ch.of_below g _ hY)
    replace kR := kR.b hY
    replace hR := hR.below hY
    clear hY
    clear CC
    have akJ := hR.fresh kR.lt (Nat.le_refl _)
    go_wp2_with (first | refine al_J rfl rfl ?_ | (first | refine lo_rLj kR ?_ | refine lo_rCj kR ?_))
    intro x64 zkJ e64 s64
    clear s64
    go_wp2_with (refine st_Jv rfl _ _ rfl (conC D) rfl rfl _ zkJ rfl ?_)
    intro y64 kJ q64
    have t64 := q64.below _ _ e64 (Nat.le_refl _)
    clear q64 e64 zkJ
    replace HC := HC.trans HN (Ch.of_below g _ t64)
    replace kR := kR.b t64
    replace hR := hR.below t64
    clear t64
    generalize y63.heap.size = gkJ at *
    have cc6 : _ = some (Value.int .i64 D.cm) := kR.cell 6
    by_cases h1 : cnoF D.lg ≤ D.cm
    ·
     have hgt3 : ¬ cnoF D.lg > D.cm := by omega
     have cj : _ = some (Value.bool (conC D).two) := kJ.cell 10
     obtain ⟨tw, htw⟩ : ∃ q, (conC D).two = q := ⟨_, rfl⟩
     rw [htw] at cj
     replace htw := Lh htw
     rcases tw with _ | _
     ·
      have hend : Hid (couM f D = if ledF (conC D) D.id then D else yieC D) := by
       show _ = _
       have he : endC D = if ledF (conC D) D.id then D else yieC D := by unfold endC; rw [if_pos (show atC D.lg ≤ D.cm from h1)]
       rw [← he]
       rcases f with _ | f
       · rfl
       · show (if _ then _ else _) = _; rw [if_neg (by rw [htw.out]; simp)]
      go_upto_region 10 with (first | refine lo_rLj kR ?_ | refine lo_rCj kR ?_ | refine lo_Jj kJ ?_)
      clear cc6 cj
      refine wp_region_held_drew (S := fun wq => Blk 27 wq gkJ (jC (conC D)) ∧ wq.cell? ⟨g, 0, none⟩ = some (.int .i64 D.id)) (by kernel_rfl) ?s_cnt10 (fun hHeld => ?_)
      case s_cnt10 => exact ⟨kJ, kR.cell 0⟩
      have hD := (Below.refl y64.heap.size y64).drew
      replace HC := HC.trans HN (Ch.of_below g _ hD)
      replace kR := kR.b hD
      replace kJ := kJ.b hD
      replace hR := hR.below hD
      clear hD
      generalize y64.drew = y65 at *
      refine tj 0 _ ?_ (hy := fun wq hSw => rld_J rfl rfl (And.left hSw))
      try simp only [Act.put, ka, kb, kc]
      iterate 5 (refine tx 1 _ ?_; try simp only [Act.put, ka, kb, kc])
      refine rr [6] ?_
      refine rc (fun KQ hKQ => ?_) AllReadyH.nil
      go_simp
      have CC := ref10.leads_any (conC D) D.id y65 HGD.out.2.2.2.2.1 (by have := HGD.out.2.2.1; omega) (by have := HGD.out.2.2.2.1; omega)
      obtain ⟨lb, hlb⟩ : ∃ q, ledF (conC D) D.id = q := ⟨_, rfl⟩
      rw [hlb] at CC
      replace hlb := Lh hlb
      refine CC.mono ?_
      rintro e2 y83 ⟨rfl, hY⟩
      clear CC
      replace HC := HC.trans HN (Ch.of_below g _ hY)
      replace kR := kR.b hY
      replace kJ := kJ.b hY
      replace hR := hR.below hY
      clear hY
      go_wp2_with fail
      refine hKQ.out _ _ (⟨kJ, kR.cell 0⟩) (fun _ => ?_)
      clear hKQ KQ
      try simp only [Act.put, ka, kb, kc]
      refine tj 7 _ ?_
      try simp only [Act.put, ka, kb, kc]
      refine wpAnyH_done (by kernel_rfl) ?_ _
      rcases lb with _ | _
      ·
       go_wp2_with fail
       refine (yields_any g D ms _ y83 ⟨_, _, _, _, kR, hR⟩).mono ?_
       rintro e y66 ⟨rfl, o66, ⟨A66, n66, p66, v66, kR2, hR2⟩, hc, hn⟩
       have a2 := akJ.next hn kJ.lt
       replace kJ := kJ.ch hc akJ
       replace akJ := a2
       clear a2
       have HN2 := HN.trans HC.size hn
       replace HC := HC.trans HN hc
       replace HN := HN2
       clear HN2 kR hR hc hn
       have kR := kR2
       have hR := hR2
       clear kR2 hR2
       go_wp2_with fail
       refine bodyPost_ret (v := .tuple #[]) (by simp [results, Tryz.results94, go_sem]) rfl ?_
       have hfin : couN 1 c = yieC D := by rw [HR.out, HRD.out]; rw [hend.out, hlb.out]; rfl
       rw [hfin]
       exact ⟨rfl, _, ⟨_, _, _, _, kR, hR⟩, HC, HN⟩
      ·
       go_wp2_with fail
       refine bodyPost_ret (v := .tuple #[]) (by simp [results, Tryz.results94, go_sem]) rfl ?_
       have hfin : couN 1 c = D := by rw [HR.out, HRD.out]; rw [hend.out, hlb.out]; rfl
       rw [hfin]
       exact ⟨rfl, _, ⟨_, _, _, _, kR, hR⟩, HC, HN⟩
     ·
      obtain ⟨f2, hf2⟩ : ∃ f2, f = f2 + 1 := by
       rcases f with _ | f2
       · have := HTD.out rfl; rw [htw.out] at this; cases this
       · exact ⟨f2, rfl⟩
      subst hf2
      have hf20 : f2 = 0 := by have := hf1.out; omega
      subst hf20
      have hgo : Hid (couN 1 c = couN 0 (pushC D (fiE (conC D)))) := by show _ = _; rw [HR.out, HRD.out]; show (if _ then _ else _) = _; rw [if_pos ⟨h1, htw.out⟩]
      have hgf := good_fin HGD.out (by omega) htw.out
      replace hgf := Lh hgf
      go_wp2_with (first | refine lo_rLj kR ?_ | refine lo_rCj kR ?_ | refine lo_Jj kJ ?_)
      clear cc6 cj
      have CC := ref10.final_any (conC D) y64
      refine (CC).mono ?_
      rintro e y65 ⟨rfl, hY⟩
      replace HC := HC.trans HN (Ch.of_below g _ hY)
      replace kR := kR.b hY
      replace kJ := kJ.b hY
      replace hR := hR.below hY
      clear hY
      clear CC
      go_wp2_with (first | refine lo_rLj kR ?_ | refine lo_rCj kR ?_ | refine lo_Jj kJ ?_ | refine bd_ej (finalJ (conC D)) rfl rfl rfl ?_)
      refine (push_any g D ms _ (fiE (conC D)) y65 ⟨_, _, _, _, kR, hR⟩ hFD.out (by have := HGD.out.2.1; omega) ⟨HGD.out.2.2.1, HGD.out.2.2.2.1⟩).mono ?_
      rintro e y66 ⟨rfl, o66, ⟨A66, n66, p66, v66, kR2, hR2⟩, hc, hn⟩
      have a2 := akJ.next hn kJ.lt
      replace kJ := kJ.ch hc akJ
      replace akJ := a2
      clear a2
      have HN2 := HN.trans HC.size hn
      replace HC := HC.trans HN hc
      replace HN := HN2
      clear HN2 kR hR hc hn
      have kR := kR2
      have hR := hR2
      clear kR2 hR2
      go_wp2_with fail
      go_roundw
      case rel => exact ⟨0, _, _, hgo, Lh (fun _ => hgf.out.2), Lh (by show (D.lg.es ++ [_]).length + 0 = _; rw [List.length_append]; have := HLD.out; simp; omega), Lh hgf.out.1, by omega, Lh ⟨_, _, _, _, kR, hR⟩, Lh HC, Lh HN⟩
      case measure =>
       have h9 : n66 = D.lg.es.length + 1 := by
        have := hR.rd.1
        rw [← this]
        show (D.lg.es ++ [_]).length = _
        simp
       rw [hml.out]
       have h8 : lenV (y66.cell? ⟨g, 21, none⟩) = n66 := by rw [show y66.cell? ⟨g, 21, none⟩ = some (.slice A66 n66 p66) from kR.cell 21]; rfl
       rw [h8]
       have := HL.out
       have := HLD.out
       omega
    ·
     have hgt3 : cnoF D.lg > D.cm := by omega
     have hend : Hid (couM f D = D) := by
      show _ = _
      have he : endC D = D := by unfold endC; rw [if_neg (show ¬ atC D.lg ≤ D.cm from h1)]
      rcases f with _ | f
      · exact he
      · show (if _ then _ else _) = _; rw [if_neg (fun h => h1 h.1)]; exact he
     go_wp2_with fail
     refine bodyPost_ret (v := .tuple #[]) (by simp [results, Tryz.results94, go_sem]) rfl ?_
     have hfin : couN 1 c = D := by rw [HR.out, HRD.out]; rw [hend.out]
     rw [hfin]
     exact ⟨rfl, _, ⟨_, _, _, _, kR, hR⟩, HC, HN⟩
end Go.Proofs.YtegnfkbmlalkeaaGreat.ref13
