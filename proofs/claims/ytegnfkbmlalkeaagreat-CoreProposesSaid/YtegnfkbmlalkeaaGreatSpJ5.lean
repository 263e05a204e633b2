/- The document's Tick: plain words, patience. Conditions: those that each theorem names. -/
import Derived.Deep.RegionHeld3
import Derived.Deep.Cut
import Derived.Lib.Hide
import Derived.Test.YtegnfkbmlalkeaaGreatSpKitCl
import Derived.Test.YtegnfkbmlalkeaaGreatSpJ4
import Derived.Test.YtegnfkbmlalkeaaGreatSpRefI13
import Derived.Test.YtegnfkbmlalkeaaGreatSpKitLg
import Derived.Test.YtegnfkbmlalkeaaGreatSpJ0
import Derived.Test.YtegnfkbmlalkeaaGreatSpJ3
import Derived.Test.YtegnfkbmlalkeaaGreatSpSetsI
import Derived.Test.YtegnfkbmlalkeaaGreatSpEntL
import Derived.Test.YtegnfkbmlalkeaaGreatSpJ2
import Derived.Test.YtegnfkbmlalkeaaGreatSpCorG13
import Derived.Test.YtegnfkbmlalkeaaGreatSpEntD
import Derived.Test.YtegnfkbmlalkeaaGreatSpConfJ
import Derived.Test.YtegnfkbmlalkeaaGreatSpRef10c
set_option linter.unusedVariables false
set_option maxHeartbeats 16000000
set_option maxRecDepth 10000
namespace Go.Proofs.YtegnfkbmlalkeaaGreat.cor
open Go Go.RowKit kit nums cf lg cr se
theorem committed_any (c : CoL) (A : Option Addr) (n p : Nat) (j : JtL) (w : World) (B : Nat) (hR : RdE w B A n c.lg.es) (hB : B ≤ w.heap.size) (hp : n ≤ p) (hf : Fit c.lg) (hk : c.lg.b ≤ c.cm ∧ c.cm ≤ lastF c.lg) (hc : conC c = j) (hj : j.ok) : Calls Tryz.prog 141 #[crV c (.slice A n p), jV j] w fun e w' => e = .returned (.int .i64 (seekF (cmtP c) c.cm (lastF c.lg - c.cm).toNat)) ∧ Below w.heap.size w w' := by
 have HF := Lh hf
 have hlen := Lh hR.len
 have HJ := Lh hj
 have hco := Lh hc
 obtain ⟨cm, hcm⟩ : ∃ q, c.cm = q := ⟨_, rfl⟩
 obtain ⟨la, hla⟩ : ∃ q, lastF c.lg = q := ⟨_, rfl⟩
 obtain ⟨b, hb0⟩ : ∃ q, c.lg.b = q := ⟨_, rfl⟩
 obtain ⟨tm, htm⟩ : ∃ q, c.tm = q := ⟨_, rfl⟩
 rw [hb0, hcm, hla] at hk
 have hb1 : 0 ≤ b ∧ la ≤ 2199024255552 := by rw [← hb0, ← hla]; have h1 := hf.1; have h2 := hf.2.1; have h3 := hf.2.2; refine ⟨h1, ?_⟩; unfold lastF; omega
 rw [hla, hcm]
 obtain ⟨P, hP⟩ : ∃ q : Int → Bool, cmtP c = q := ⟨_, rfl⟩
 have hPx : Hid (∀ i, P i = (decide ((termF c.lg i).1 = tm) && coJ j (hasC c i))) := fun i => by rw [← hP]; unfold cmtP; rw [hc, ← htm]
 rw [hP]
 clear hP hf hj hc
 have hmx : max cm b = cm := by omega
 have hmi : (if cm < b then b else cm) = cm := by split <;> omega
 replace hcm := Lh hcm
 replace hla := Lh hla
 replace hb0 := Lh hb0
 replace htm := Lh htm
 replace hk := Lh hk
 replace hb1 := Lh hb1
 have R0 := hR.more hB
 clear hR hB
 go_enter Tryz.func141, Tryz.ntmps141
 go_wp2_with (first | refine box_C rfl _ rfl c (.slice A n p) rfl ?_ | fail)
 intro y1 kC e1 s1
 clear s1
 have HB := e1
 replace R0 := R0.on e1 e1.size
 clear e1
 go_wp2_with (first | refine box_J rfl _ rfl j rfl ?_ | (first | refine lo_Cj kC ?_ | refine lo_cLj kC ?_ | refine lo_cJj kC ?_))
 intro y2 kJ e2 s2
 clear s2
 replace HB := bt HB e2
 replace kC := kC.b e2
 replace R0 := R0.on e2 e2.size
 clear e2
 generalize y1.heap.size = gkJ at *
 go_wp2_with (first | refine lo_Cj kC ?_ | refine lo_cLj kC ?_ | refine lo_cJj kC ?_ | refine lo_Jj kJ ?_)
 have CC := enti.last_any c.lg A n p y2 hlen.out HF.out
 rw [hla.out] at CC
 refine (CC).mono ?_
 rintro e y3 ⟨rfl, hY⟩
 replace HB := bt HB hY
 replace kC := kC.b hY
 replace kJ := kJ.b hY
 replace R0 := R0.on hY hY.size
 clear hY
 clear CC
 have BkC := Lh kC
 clear kC
 have BkJ := Lh kJ
 clear kJ
 have BR0 := Lh R0
 clear R0
 have BH := Lh HB
 clear HB
 have ccm : y3.cell? ⟨w.heap.size, 6, none⟩ = some (.int .i64 cm) := by rw [← hcm.out]; exact BkC.out.cell 6
 have cb : y3.cell? ⟨w.heap.size, 8, none⟩ = some (.int .i64 b) := by rw [← hb0.out]; exact BkC.out.cell 8
 go_wp2_with fail
 go_loopw [5] (fun iv wr => ∃ i : Int, cm ≤ i ∧ i ≤ la ∧ iv = .int .i64 i ∧ Hid (Below y3.heap.size y3 wr) ∧ Hid (seekF P cm (la - cm).toNat = seekF P cm (i - cm).toNat)) (fun iv _ => (intOf iv - cm).toNat)
 case atStart => exact ⟨la, hk.out.2, by omega, rfl, Lh (Below.refl _ _), Lh rfl⟩
 case round =>
  obtain ⟨i, hi1, hi2, rfl, HY, HS⟩ := hrel
  clear ccm cb
  by_cases hgt : cm < i
  ·
   have kC := BkC.out.below HY.out BkC.out.lt
   have kJ := BkJ.out.below HY.out BkJ.out.lt
   have R0 := BR0.out.on HY.out HY.out.size
   have HB := HY.out
   obtain ⟨k, hk1⟩ : ∃ k : Nat, i = cm + ((k + 1 : Nat) : Int) := ⟨(i - cm - 1).toNat, by omega⟩
   have HS2 : Hid (seekF P cm (la - cm).toNat = seekF P cm (k + 1)) := by show _ = _; rw [HS.out, hk1]; congr 1; omega
   clear HS
   have hi64 := Lh (show -1 ≤ i ∧ i ≤ 2199024255552 from ⟨by have := hb1.out; have := hk.out; omega, by have := hb1.out; omega⟩)
   replace hk1 := Lh hk1
   have hig : i > cm := hgt
   have wi : IntKind.i64.wrap (i - 1) = i - 1 := by have := hi64.out; rw [wrap_sm (by omega) (by omega)]
   have ccm : wr.cell? ⟨w.heap.size, 6, none⟩ = some (.int .i64 cm) := by rw [← hcm.out]; exact kC.cell 6
   have cb : wr.cell? ⟨w.heap.size, 8, none⟩ = some (.int .i64 b) := by rw [← hb0.out]; exact kC.cell 8
   go_wp2_with (first | refine lo_Cj kC ?_ | refine lo_cLj kC ?_ | refine lo_cJj kC ?_ | refine lo_Jj kJ ?_)
   obtain ⟨tv, htv⟩ : ∃ q, (termF c.lg i).1 = q := ⟨_, rfl⟩
   obtain ⟨tb, htb⟩ : ∃ q, (termF c.lg i).2 = q := ⟨_, rfl⟩
   have CC := enti.term_any c.lg A n p i wr wr.heap.size R0 (Nat.le_refl _) hp HF.out
   rw [htv, htb] at CC
   replace htv := Lh htv
   clear htb
   refine (CC).mono ?_
   rintro e y51 ⟨rfl, hY⟩
   replace HB := bt HB hY
   replace kC := kC.b hY
   replace kJ := kJ.b hY
   replace R0 := R0.on hY hY.size
   clear hY
   clear CC ccm cb
   by_cases he : tv = tm
   ·
    have hbe : (tv == tm) = true := by simp [he]
    replace he := Lh he
    go_upto_region 5 with (first | refine lo_Cj kC ?_ | refine lo_cLj kC ?_ | refine lo_cJj kC ?_ | refine lo_Jj kJ ?_)
    obtain ⟨co, hcoz⟩ : ∃ q, coJ j (hasC c i) = q := ⟨_, rfl⟩
    replace hcoz := Lh hcoz
    have hPi : Hid (P i = co) := by show _ = _; rw [hPx.out, htv.out, he.out, hcoz.out, decide_eq_true rfl, Bool.true_and]
    refine wp_region_held_drew (S := fun wq => Blk 33 wq w.heap.size (crC c (.slice A n p)) ∧ Blk 27 wq gkJ (jC j) ∧ wq.cell? ⟨w.heap.size, 2, none⟩ = some (.int .i64 tm)) (by kernel_rfl) ?s_cmt5a (fun hHeld => ?_)
    case s_cmt5a => exact ⟨kC, kJ, by rw [← htm.out]; exact kC.cell 2⟩
    have hD := (Below.refl y51.heap.size y51).drew
    replace HB := bt HB hD
    replace kC := kC.b hD
    replace kJ := kJ.b hD
    replace R0 := R0.on hD hD.size
    clear hD
    generalize y51.drew = y52 at *
    iterate 5 (refine tx 0 _ ?_; try simp only [Act.put, ka, kb, kc])
    refine tj 5 _ ?_ (hy := fun wq hSw => rld_J rfl rfl (And.left <| And.right hSw))
    try simp only [Act.put, ka, kb, kc]
    refine tj 6 _ ?_ (hy := fun wq hSw => rld_C rfl rfl (And.left hSw))
    try simp only [Act.put, ka, kb, kc]
    refine tj 7 _ ?_
    try simp only [Act.put, ka, kb, kc]
    refine rr [8] ?_
    refine rc (fun KQ hKQ => ?_) AllReadyH.nil
    go_simp
    have CC := holders_any c A n p i y52
    refine (CC).mono ?_
    rintro e y53 ⟨rfl, hY⟩
    replace HB := bt HB hY
    replace kC := kC.b hY
    replace kJ := kJ.b hY
    replace R0 := R0.on hY hY.size
    clear hY
    clear CC
    go_wp2_with fail
    refine hKQ.out _ _ (⟨kC, kJ, by rw [← htm.out]; exact kC.cell 2⟩) (fun _ => ?_)
    clear hKQ KQ
    try simp only [Act.put, ka, kb, kc]
    refine rr [9] ?_
    refine rc (fun KQ hKQ => ?_) AllReadyH.nil
    go_simp
    have CC := confi.commits_any j (hasC c i) y53 HJ.out (ref13.has_lt c i 9)
    rw [hcoz.out] at CC
    refine (CC).mono ?_
    rintro e y54 ⟨rfl, hY⟩
    replace HB := bt HB hY
    replace kC := kC.b hY
    replace kJ := kJ.b hY
    replace R0 := R0.on hY hY.size
    clear hY
    clear CC
    go_wp2_with fail
    refine hKQ.out _ _ (⟨kC, kJ, by rw [← htm.out]; exact kC.cell 2⟩) (fun _ => ?_)
    clear hKQ KQ
    try simp only [Act.put, ka, kb, kc]
    refine tj 10 _ ?_
    try simp only [Act.put, ka, kb, kc]
    refine wpAnyH_done (by kernel_rfl) ?_ _
    rcases co with _ | _
    ·
     go_wp2_with fail
     go_roundw
     case rel => exact ⟨i - 1, by omega, by omega, rfl, Lh HB, Lh (by rw [HS2.out, ref13.seek_top P cm k (by rw [← hk1.out]; exact hPi.out)]; congr 1; have := hk1.out; omega)⟩
     case measure => simp only [intOf]; omega
    ·
     go_wp2_with fail
     go_ret
     rw [HS2.out, ref13.seek_hit P cm k (by rw [← hk1.out]; exact hPi.out), ← hk1.out]
     exact ⟨rfl, BH.out.trans (HB.mono BH.out.size)⟩
   ·
    have hbe : (tv == tm) = false := by simp [he]
    have hPi : Hid (P i = false) := by show _ = _; rw [hPx.out, htv.out, decide_eq_false he, Bool.false_and]
    replace he := Lh he
    go_upto_region 5 with (first | refine lo_Cj kC ?_ | refine lo_cLj kC ?_ | refine lo_cJj kC ?_ | refine lo_Jj kJ ?_)
    refine wp_region_held_drew (S := fun wq => Blk 33 wq w.heap.size (crC c (.slice A n p)) ∧ Blk 27 wq gkJ (jC j) ∧ wq.cell? ⟨w.heap.size, 2, none⟩ = some (.int .i64 tm)) (by kernel_rfl) ?s_cmt5b (fun hHeld => ?_)
    case s_cmt5b => exact ⟨kC, kJ, by rw [← htm.out]; exact kC.cell 2⟩
    have hD := (Below.refl y51.heap.size y51).drew
    replace HB := bt HB hD
    replace kC := kC.b hD
    replace kJ := kJ.b hD
    replace R0 := R0.on hD hD.size
    clear hD
    generalize y51.drew = y52 at *
    iterate 5 (refine tx 0 _ ?_; try simp only [Act.put, ka, kb, kc])
    refine kit.tv 5 ?_
    try simp only [Act.put, ka, kb, kc]
    refine kit.tv 6 ?_
    try simp only [Act.put, ka, kb, kc]
    refine kit.tv 7 ?_
    try simp only [Act.put, ka, kb, kc]
    refine kit.tv 8 ?_
    try simp only [Act.put, ka, kb, kc]
    refine kit.tv 9 ?_
    try simp only [Act.put, ka, kb, kc]
    refine tj 10 _ ?_
    try simp only [Act.put, ka, kb, kc]
    refine wpAnyH_done (by kernel_rfl) ?_ _
    go_wp2_with fail
    go_roundw
    case rel => exact ⟨i - 1, by omega, by omega, rfl, Lh HB, Lh (by rw [HS2.out, ref13.seek_top P cm k (by rw [← hk1.out]; exact hPi.out)]; congr 1; have := hk1.out; omega)⟩
    case measure => simp only [intOf]; omega
  ·
   have kC := BkC.out.below HY.out BkC.out.lt
   have kJ := BkJ.out.below HY.out BkJ.out.lt
   have R0 := BR0.out.on HY.out HY.out.size
   have HB := HY.out
   obtain rfl : i = cm := by omega
   have hig : ¬ (i > i) := by omega
   have HS2 : Hid (seekF P i (la - i).toNat = i) := by show _ = _; rw [HS.out, Int.sub_self]; rfl
   clear HS
   have ccm : wr.cell? ⟨w.heap.size, 6, none⟩ = some (.int .i64 i) := by rw [← hcm.out]; exact kC.cell 6
   have cb : wr.cell? ⟨w.heap.size, 8, none⟩ = some (.int .i64 b) := by rw [← hb0.out]; exact kC.cell 8
   go_wp2_with fail
   go_ret
   rw [HS2.out]
   exact ⟨rfl, BH.out.trans (HB.mono BH.out.size)⟩
end Go.Proofs.YtegnfkbmlalkeaaGreat.cor
namespace Go.Proofs.YtegnfkbmlalkeaaGreat.ref13
open Go Go.RowKit kit nums cf lg cr se
theorem endC_nx (d : CoL) : (endC d).nx = d.nx := by unfold endC; split <;> (try split) <;> rfl
theorem endC_lg (d : CoL) : (endC d).lg = d.lg := by unfold endC; split <;> (try split) <;> rfl
theorem endC_id (d : CoL) : (endC d).id = d.id := by unfold endC; split <;> (try split) <;> rfl
theorem endC_cm (d : CoL) : (endC d).cm = d.cm := by unfold endC; split <;> (try split) <;> rfl
theorem good_end {d : CoL} {N : Nat} (h : GoodN d N) : GoodN (endC d) N := by
 unfold GoodN conC
 rw [endC_lg, endC_id, endC_cm]; exact h
theorem good_more {d : CoL} {N M : Nat} (h : GoodN d N) (hm : N ≤ M) : GoodN d M := ⟨h.1, Nat.le_trans h.2.1 hm, h.2.2⟩
theorem good_cou {c : CoL} {N : Nat} (h : GoodN c N) (hN : N ≤ 900000) : GoodN (couC c) (N + 1) := by
 unfold couC
 dsimp only
 split
 ·
  rename_i hc
  exact good_end (good_cnt (good_fin (good_cnt h) hN hc.2).1)
 · exact good_more (good_end (good_cnt h)) (Nat.le_succ _)
theorem couC_nx (c : CoL) : (couC c).nx = c.nx := by
 unfold couC
 dsimp only
 split
 · rw [endC_nx]; rfl
 · rw [endC_nx]; rfl
theorem upd_lt (f : Nat → Int) (k : Nat) (v : Int) : upd (fun i => if i < k then v else f i) k v = fun i => if i < k + 1 then v else f i := by
 funext i
 show (if i = k then v else if i < k then v else f i) = _
 by_cases h1 : i = k
 · rw [if_pos h1, if_pos (by omega)]
 ·
  by_cases h2 : i < k
  · rw [if_neg h1, if_pos h2, if_pos (by omega)]
  · rw [if_neg h1, if_neg h2, if_neg (by omega)]
def leadA (c : CoL) : CoL := { c with ro := 2, le := c.id, wa := 0, he := 0, nx := fun _ => lastF c.lg + 1, mt := z10 }
theorem good_lead {c : CoL} (h : GoodN c 700000) : GoodN (pushC (leadA c) zE) 700001 := by
 obtain ⟨h1, h2, h3, h4, h5, h6, h7, h8⟩ := h
 have hc : conC (pushC (leadA c) zE) = conC c := by rw [conC_push]; rfl
 have hl := lastF_push (leadA c) zE
 have hlen : (pushC (leadA c) zE).lg.es.length = c.lg.es.length + 1 := by show (c.lg.es ++ [_]).length = _; simp
 exact ⟨⟨h1.1, h1.2.1, by rw [hlen]; omega⟩, by rw [hlen]; omega, h3, h4, by rw [hc]; exact h5, by rw [hc]; exact h6, h7, by rw [hl]; exact Int.le_trans h8 (by show lastF c.lg ≤ lastF c.lg + 1; omega)⟩
end Go.Proofs.YtegnfkbmlalkeaaGreat.ref13
namespace Go.Proofs.YtegnfkbmlalkeaaGreat.cor
open Go Go.RowKit kit nums cf lg cr se
theorem clone_any (es : List EnL) (A : Option Addr) (n p : Nat) (w : World) (B : Nat) (hR : RdE w B A n es) (hB : B ≤ w.heap.size) (hn : n ≤ 1000000) : Calls Tryz.prog 110 #[.slice A n p] w fun e w' => ∃ A' c', e = .returned (.slice A' n c') ∧ OwnE w' w.heap.size (.slice A' n c') es ∧ Below w.heap.size w w' := by
 have R0 := hR.more hB
 clear hR hB
 rcases A with _ | a
 ·
  have h0 : n = 0 := by
   rcases Nat.eq_zero_or_pos n with h | h
   · exact h
   ·
    obtain ⟨b, o, e, _⟩ := R0.2 h
    cases e
  subst h0
  have hes : es = [] := List.length_eq_zero_iff.1 R0.1
  subst hes
  have he := Lib.run_eql_slice_nil (P := Tryz.prog) w 28 52 none 0 p 0 0 Tryz.underlying28
  go_enter Tryz.func110, Tryz.ntmps110
  go_wp2_with fail
  go_ret
  exact ⟨none, 0, rfl, OwnE.nil _ _, Below.refl _ _⟩
 have kk : Blk 52 (w.alloc (.cells #[] 52)) w.heap.size [] := heap_alloc_new w _
 have q1 := (Below.refl w.heap.size w).alloc (Nat.le_refl _) (.cells #[] 52)
 have o0 := OwnE.empty (base := w.heap.size) kk (Nat.le_refl _)
 have RL := R0.on q1 q1.size
 clear kk
 have o0 := Lh o0
 have he := Lib.run_eql_slice_nil (P := Tryz.prog) w 28 52 (some a) n p 0 0 Tryz.underlying28
 go_enter Tryz.func110, Tryz.ntmps110
 go_wp2_with (at_builtin; with_reducible refine wpList_append_E rfl (.tmp 5) (.tmp 6) rfl w.heap.size _ 0 0 [] rfl o0.out _ (some a) n p es rfl RL (by omega) q1.size ?_)
 intro A' c' y1 hO hY hG
 (try simp only [Nat.zero_add, List.nil_append] at hO)
 (try simp only [Nat.zero_add])
 go_wp2_with fail
 go_ret
 exact ⟨A', c', rfl, hO, q1.trans hY⟩
theorem own_any (c : CoL) (A : Option Addr) (n p : Nat) (w : World) (B : Nat) (hR : RdE w B A n c.lg.es) (hB : B ≤ w.heap.size) (hp : n ≤ p) (hn : n ≤ 1000000) : Calls Tryz.prog 57 #[crV c (.slice A n p)] w fun e w' => ∃ A' p', e = .returned (crV c (.slice A' n p')) ∧ RdE w' w'.heap.size A' n c.lg.es ∧ n ≤ p' ∧ OldNew w.heap.size A n A' n ∧ (∀ b off, A' = some ⟨b, off, none⟩ → w.heap.size ≤ b) ∧ Below w.heap.size w w' := by
 have hn2 := Lh hn
 have R0 := hR.more hB
 clear hR hB
 go_enter Tryz.func57, Tryz.ntmps57
 have NIR0kC := Lh (NotIn.of_rd R0 (Nat.le_refl _))
 have LEkC : Hid (w.heap.size ≤ w.heap.size) := Nat.le_refl _
 go_wp2_with (first | refine box_C rfl _ rfl c (.slice A n p) rfl ?_ | fail)
 intro y1 kC e1 s1
 clear s1
 have HB := e1
 replace R0 := R0.on e1 e1.size
 clear e1
 have LTkCkO := Lh kC.lt
 have NIR0kO := Lh (NotIn.of_rd R0 (Nat.le_refl _))
 have LEkO : Hid (w.heap.size ≤ y1.heap.size) := HB.size
 go_wp2_with (first | refine al_C rfl rfl ?_ | (first | refine lo_Cj kC ?_ | refine lo_cLj kC ?_ | refine lo_cJj kC ?_))
 intro y2 kO e2 s2
 clear s2
 replace kO : Blk _ _ _ (crC zC (.slice none 0 0)) := kO
 replace HB := bt HB e2
 replace kC := kC.b e2
 replace R0 := R0.on e2 e2.size
 clear e2
 generalize y1.heap.size = gkO at *
 have c21 : _ = some (Value.slice A n p) := kC.cell 21
 go_wp2_with (first | refine lo_Cj kC ?_ | refine lo_cLj kC ?_ | refine lo_cJj kC ?_ | refine lo_Cj kO ?_ | refine lo_cLj kO ?_ | refine lo_cJj kO ?_)
 clear c21
 refine (clone_any c.lg.es A n p y2 y2.heap.size R0 (Nat.le_refl _) hn2.out).mono ?_
 rintro e y3 ⟨A1, p1, rfl, hO, hY⟩
 have NIR1kC := Lh (NotIn.of_own hO kC.lt)
 have NIR1kO := Lh (NotIn.of_own hO kO.lt)
 have hNew : Hid (∀ b off, A1 = some ⟨b, off, none⟩ → w.heap.size ≤ b) := fun b off e => Nat.le_trans HB.size (hO.blk_lt b off e).1
 have ON12 : Hid (OldNew w.heap.size A n A1 n) := OldNew.own hO HB.size
 have R1 := hO.cap.2.2.2
 have hp1 := hO.cap.2.1
 clear hO
 replace HB := bt HB hY
 replace kC := kC.b hY
 replace kO := kO.b hY
 replace R0 := R0.on hY hY.size
 clear hY
 have n1e : Hid (n = n) := rfl
 have df := fun i => kC.frozen i
 have cR21 : _ = some _ := kC.cell 21
 go_upto_region 2 with (fail)
 clear df cR21
 have kC2 : Blk 33 _ w.heap.size (crC c (.slice A1 n p1)) := kC.set_ 21 (.slice A1 n p1)
 have pO := put_set y3 w.heap.size (21) (.slice A1 n p1)
 generalize (y3.setCell ⟨w.heap.size, 21, none⟩ (.slice A1 n p1)) = y4 at *
 replace kO := kO.put pO (Nat.ne_of_gt LTkCkO.out)
 replace R0 := R0.putS pO NIR0kC.out
 replace R1 := R1.putS pO NIR1kC.out
 replace HB := pO.below _ _ HB LEkC.out
 clear kC
 have kC := kC2
 clear kC2 pO
 go_wp2_with (first | refine st_C rfl _ _ rfl c A1 n p1 rfl rfl _ kO rfl ?_ | (first | refine lo_Cj kC ?_ | refine lo_cLj kC ?_ | refine lo_cJj kC ?_ | refine lo_Cj kO ?_ | refine lo_cLj kO ?_ | refine lo_cJj kO ?_))
 intro y5 kO2 pO
 replace kC := kC.put pO (Nat.ne_of_lt LTkCkO.out)
 replace R0 := R0.putS pO NIR0kO.out
 replace R1 := R1.putS pO NIR1kO.out
 replace HB := pO.below _ _ HB LEkO.out
 clear kO
 have kO := kO2
 clear kO2 pO
 go_wp2_with (first | refine lo_Cj kC ?_ | refine lo_cLj kC ?_ | refine lo_cJj kC ?_ | refine lo_Cj kO ?_ | refine lo_cLj kO ?_ | refine lo_cJj kO ?_)
 (try simp only [Exit.inBlock, Exit.then])
 refine bodyPost_ret (res1 Tryz.results57 rfl (aggC _) (sizeC _) (ldCv kO)) rfl ?_
 exact ⟨A1, p1, rfl, R1, hp1, ON12.out, hNew.out, HB⟩
theorem others_any (c : CoL) (A : Option Addr) (n p : Nat) (s : Nat) (w : World) (hs : s < 65536) (hi : 0 ≤ c.id ∧ c.id ≤ 9) : Calls Tryz.prog 120 #[crV c (.slice A n p), .int .u16 (s : Int)] w fun e w' => ∃ A' c', e = .returned (.slice A' (listF (lessF s c.id)).length c') ∧ RdV w' w'.heap.size A' (listF (lessF s c.id)).length (ref9.i64s (listF (lessF s c.id))) ∧ Below w.heap.size w w' := by
 have hid := Lh hi
 have hs2 := Lh hs
 clear hi hs
 go_enter Tryz.func120, Tryz.ntmps120
 go_wp2_with (first | refine box_C rfl _ rfl c (.slice A n p) rfl ?_ | fail)
 intro y1 kC e1 s1
 clear s1
 have HB := e1
 clear e1
 have c0 : _ = some (Value.int .i64 c.id) := kC.cell 0
 go_wp2_with (first | refine lo_Cj kC ?_ | refine lo_cLj kC ?_ | refine lo_cJj kC ?_)
 clear c0
 refine (seti.less_any s c.id y1 hs2.out (by have := hid.out; omega) (by have := hid.out; omega)).mono ?_
 rintro e y2 ⟨rfl, hY⟩
 replace HB := bt HB hY
 replace kC := kC.b hY
 clear hY
 go_wp2_with (first | refine lo_Cj kC ?_ | refine lo_cLj kC ?_ | refine lo_cJj kC ?_)
 have CC := seti.list_any (lessF s c.id) y2 (Nat.lt_of_le_of_lt (lessF_le s c.id) hs2.out)
 unfold ref9.IsIs at CC
 refine CC.mono ?_
 rintro e2 yz ⟨A5, c5, rfl, hO5, hY⟩
 obtain ⟨A6, c6, e6, h7, -, R5⟩ := hO5.slice
 rw [ref9.i64s_length] at e6 h7 R5
 injection e6 with e6 _ e7
 subst e6
 subst e7
 clear hO5
 replace HB := bt HB hY
 clear CC hY kC
 replace R5 := Lh R5
 go_wp2_with fail
 go_ret
 exact ⟨A5, c5, rfl, R5.out, HB⟩
theorem lastTerm_any (L : LgL) (A : Option Addr) (n p : Nat) (w : World) (B : Nat) (hR : RdE w B A n L.es) (hB : B ≤ w.heap.size) (hp : n ≤ p) (hf : Fit L) : Calls Tryz.prog 52 #[lgV L (.slice A n p)] w fun e w' => e = .returned (.int .i64 (termF L (lastF L)).1) ∧ Below w.heap.size w w' := by
 have R0 := hR.more hB
 have HF := Lh hf
 have hlen := Lh hR.len
 clear hR hB hf
 go_enter Tryz.func52, Tryz.ntmps52
 go_wp2_with (first | refine box_L rfl _ rfl L (.slice A n p) rfl ?_ | fail)
 intro y1 kL e1 s1
 clear s1
 have HB := e1
 replace R0 := R0.on e1 e1.size
 clear e1
 obtain ⟨la, hla⟩ : ∃ q, lastF L = q := ⟨_, rfl⟩
 replace hla := Lh hla
 obtain ⟨tv, htv⟩ : ∃ q, (termF L la).1 = q := ⟨_, rfl⟩
 replace htv := Lh htv
 obtain ⟨tb, htb⟩ : ∃ q, (termF L la).2 = q := ⟨_, rfl⟩
 replace htb := Lh htb
 go_upto_region 1 with (first | refine lo_Lj kL ?_ | refine lo_lJj kL ?_)
 refine wp_region_held_drew (S := fun wq => Blk 30 wq w.heap.size (lgC L (.slice A n p))) (by kernel_rfl) ?s_clt1 (fun hHeld => ?_)
 case s_clt1 => exact kL
 have hD := (Below.refl y1.heap.size y1).drew
 replace HB := bt HB hD
 replace kL := kL.b hD
 replace R0 := R0.on hD hD.size
 clear hD
 generalize y1.drew = y2 at *
 refine tj 0 _ ?_ (hy := fun wq hSw => rld_L rfl rfl (id hSw))
 try simp only [Act.put, ka, kb, kc]
 refine tj 1 _ ?_ (hy := fun wq hSw => rld_L rfl rfl (id hSw))
 try simp only [Act.put, ka, kb, kc]
 refine rr [2] ?_
 refine rc (fun KQ hKQ => ?_) AllReadyH.nil
 go_simp
 have CC := enti.last_any L A n p y2 hlen.out HF.out
 rw [hla.out] at CC
 refine (CC).mono ?_
 rintro e y3 ⟨rfl, hY⟩
 replace HB := bt HB hY
 replace kL := kL.b hY
 replace R0 := R0.on hY hY.size
 clear hY
 clear CC
 go_wp2_with fail
 refine hKQ.out _ _ (kL) (fun _ => ?_)
 clear hKQ KQ
 try simp only [Act.put, ka, kb, kc]
 refine rr [3] ?_
 refine rc (fun KQ hKQ => ?_) AllReadyH.nil
 go_simp
 have CC := enti.term_any L A n p la y3 y3.heap.size R0 (Nat.le_refl _) hp HF.out
 rw [htv.out, htb.out] at CC
 refine (CC).mono ?_
 rintro e y4 ⟨rfl, hY⟩
 replace HB := bt HB hY
 replace kL := kL.b hY
 replace R0 := R0.on hY hY.size
 clear hY
 clear CC
 go_wp2_with fail
 refine hKQ.out _ _ (kL) (fun _ => ?_)
 clear hKQ KQ
 try simp only [Act.put, ka, kb, kc]
 iterate 5 (refine tx 4 _ ?_; try simp only [Act.put, ka, kb, kc])
 refine wpAnyH_done (by kernel_rfl) ?_ _
 go_wp2_with fail
 go_ret
 exact ⟨by rw [hla.out, htv.out]; rfl, HB⟩
end Go.Proofs.YtegnfkbmlalkeaaGreat.cor
namespace Go.Proofs.YtegnfkbmlalkeaaGreat.cor
open Go Go.RowKit kit nums cf lg cr se
theorem less_listTo (s n : Nat) (h1 : 1 ≤ n) (h9 : n ≤ 9) : ∀ k, k ≤ 9 → listTo (lessF s (n : Int)) k = (listTo s k).filter (fun m => !(m == (n : Int)))
 | 0, _ => rfl
 | k + 1, hk => by
  have ih := less_listTo s n h1 h9 k (by omega)
  have hb : (lessF s (n : Int)).testBit (k + 1) = (s.testBit (k + 1) && !decide (k + 1 = n)) := by
   unfold lessF
   rw [hasF_node h1 h9, bitF_node h1 h9]
   split
   ·
    rename_i hs
    rw [less_bit hs]
    by_cases e : k + 1 = n <;> simp [e]
   ·
    rename_i hs
    by_cases e : k + 1 = n
    · rw [e, Bool.eq_false_iff.2 hs]; rfl
    · simp [e]
  show (if (lessF s (n : Int)).testBit (k + 1) then listTo (lessF s (n : Int)) k ++ [((k + 1 : Nat) : Int)] else listTo (lessF s (n : Int)) k) = (if s.testBit (k + 1) then listTo s k ++ [((k + 1 : Nat) : Int)] else listTo s k).filter _
  rw [hb, ih]
  by_cases hs : s.testBit (k + 1) = true
  ·
   by_cases e : k + 1 = n
   · rw [hs, e]; simp
   ·
    rw [hs, decide_eq_false e, if_pos (by rfl), if_pos (by rfl), List.filter_append]
    rw [List.filter_cons_of_pos (by simp; omega), List.filter_nil]
  · rw [Bool.eq_false_iff.2 hs]; simp
theorem less_list {s n : Nat} (h1 : 1 ≤ n) (h9 : n ≤ 9) : listF (lessF s (n : Int)) = (listF s).filter (fun m => !(m == (n : Int))) := less_listTo s n h1 h9 9 (by omega)
theorem less_listI {s : Nat} {n : Int} (h : 1 ≤ n ∧ n ≤ 9) : listF (lessF s n) = (listF s).filter (fun m => !(m == n)) := by
 obtain ⟨k, rfl⟩ : ∃ k : Nat, n = (k : Int) := ⟨n.toNat, by omega⟩
 exact less_list (by omega) (by omega)
def sdT (c : CoL) (l : List Int) (k : Nat) : List MsL := (l.take k).map (sendF c)
theorem sdT_next {c : CoL} {l : List Int} {k : Nat} {n : Int} (h : l[k]? = some n) : sdT c l (k + 1) = sdT c l k ++ [sendF c n] := by
 unfold sdT; rw [ref9.take_get h, List.map_append]; rfl
theorem sdT_len {c : CoL} {l : List Int} {k : Nat} (h : k ≤ l.length) : (sdT c l k).length = k := by
 unfold sdT; rw [List.length_map, List.length_take]; omega
theorem sendAll_any (c : CoL) (A : Option Addr) (n p : Nat) (w : World) (B : Nat) (hR : RdE w B A n c.lg.es) (hB : B ≤ w.heap.size) (hp : n ≤ p) (hf : Fit c.lg) (hi : 1 ≤ c.id ∧ c.id ≤ 9) (hj : (conC c).ok) (hx : ∀ j : Nat, 1 ≤ (j : Int) → (j : Int) ≤ 9 → 0 ≤ c.nx j ∧ c.nx j ≤ 2199023255552) : Calls Tryz.prog 91 #[crV c (.slice A n p)] w fun e w' => ∃ A' n' c' B', e = .returned (.slice A' n' c') ∧ OutL w' B' (.slice A' n' c') (allF c) ∧ w.heap.size ≤ B' ∧ B' ≤ w'.heap.size ∧ Below w.heap.size w w' := by
 have HF := Lh hf
 have HJ := Lh hj
 have HX := Lh hx
 have hid := Lh hi
 have hmem := Lh (un_lt (mem_lt hj.1) (mem_lt hj.2))
 have hAl : Hid (allF c = (listF (lessF (unF (conC c) memF) c.id)).map (sendF c)) := by show _ = _; rw [less_listI hi]; rfl
 have HL := Lh (fun z (hz : z ∈ listF (lessF (unF (conC c) memF) c.id)) => ref9.list_node hz)
 have hl9 := ref9.list_len (lessF (unF (conC c) memF) c.id)
 obtain ⟨l, hl⟩ : ∃ q, listF (lessF (unF (conC c) memF) c.id) = q := ⟨_, rfl⟩
 rw [hl] at hAl HL hl9
 obtain ⟨N, hN⟩ : ∃ q, l.length = q := ⟨_, rfl⟩
 rw [hN] at hl9
 have hAl2 : Hid (allF c = sdT c l N) := by show _ = _; unfold sdT; rw [hAl.out, ← hN, List.take_length]
 rw [hAl2.out]
 clear hAl hAl2 hf hj hx hi
 replace hl := Lh hl
 replace hN := Lh hN
 have R0 := hR.more hB
 clear hR hB
 go_enter Tryz.func91, Tryz.ntmps91
 go_wp2_with (first | refine box_C rfl _ rfl c (.slice A n p) rfl ?_ | fail)
 intro y1 kC e1 s1
 clear s1
 have HB := e1
 replace R0 := R0.on e1 e1.size
 clear e1
 go_upto_region 2 with (first | refine lo_Cj kC ?_ | refine lo_cLj kC ?_ | refine lo_cJj kC ?_)
 refine wp_region_held_drew (S := fun wq => Blk 33 wq w.heap.size (crC c (.slice A n p))) (by kernel_rfl) ?s_sal2 (fun hHeld => ?_)
 case s_sal2 => exact kC
 have hD := (Below.refl y1.heap.size y1).drew
 replace HB := bt HB hD
 replace kC := kC.b hD
 replace R0 := R0.on hD hD.size
 clear hD
 generalize y1.drew = y2 at *
 refine tj 0 _ ?_ (hy := fun wq hSw => rld_C rfl rfl (id hSw))
 try simp only [Act.put, ka, kb, kc]
 refine tj 1 _ ?_
 try simp only [Act.put, ka, kb, kc]
 refine tj 2 _ ?_ (hy := fun wq hSw => rld_cL rfl rfl (id hSw))
 try simp only [Act.put, ka, kb, kc]
 refine tj 7 _ ?_
 try simp only [Act.put, ka, kb, kc]
 refine rr [3] ?_
 refine rc (fun KQ hKQ => ?_) AllReadyH.nil
 go_simp
 have CC := enti.conf_any c.lg A n p y2 y2.heap.size R0 (Nat.le_refl _) hp HF.out
 refine (CC).mono ?_
 rintro e y3 ⟨rfl, hY⟩
 replace HB := bt HB hY
 replace kC := kC.b hY
 replace R0 := R0.on hY hY.size
 clear hY
 clear CC
 go_wp2_with fail
 refine hKQ.out _ _ (kC) (fun _ => ?_)
 clear hKQ KQ
 try simp only [Act.put, ka, kb, kc]
 refine rr [4] ?_
 refine rc (fun KQ hKQ => ?_) AllReadyH.nil
 go_simp
 have CC := confi.membersJ_any (conC c) y3 HJ.out
 refine (CC).mono ?_
 rintro e y4 ⟨rfl, hY⟩
 replace HB := bt HB hY
 replace kC := kC.b hY
 replace R0 := R0.on hY hY.size
 clear hY
 clear CC
 go_wp2_with fail
 refine hKQ.out _ _ (kC) (fun _ => ?_)
 clear hKQ KQ
 try simp only [Act.put, ka, kb, kc]
 refine rr [5] ?_
 refine rc (fun KQ hKQ => ?_) AllReadyH.nil
 go_simp
 have CC := others_any c A n p (unF (conC c) memF) y4 hmem.out (by have := hid.out; omega)
 rw [hl.out, hN.out] at CC
 refine CC.mono ?_
 rintro e y5 ⟨A5, c5, rfl, hR5, hY⟩
 clear CC
 replace HB := bt HB hY
 replace kC := kC.b hY
 replace R0 := R0.on hY hY.size
 clear hY
 replace hR5 := Lh hR5
 go_wp2_with fail
 refine hKQ.out _ _ (kC) (fun _ => ?_)
 clear hKQ KQ
 try simp only [Act.put, ka, kb, kc]
 refine tj 6 _ ?_
 try simp only [Act.put, ka, kb, kc]
 refine wpAnyH_done (by kernel_rfl) ?_ _
 have BkC := Lh kC
 clear kC
 have BR0 := Lh R0
 clear R0
 have BH := Lh HB
 clear HB
 have BY := hR5
 clear hR5
 go_wp2_with fail
 go_loopw [3, 13] (fun sv iv wr => ∃ (k : Nat) (A6 : Option Addr) (c6 : Nat), k ≤ N ∧ sv = .slice A6 k c6 ∧ iv = .int .i64 (k : Int) ∧ Hid (Below y5.heap.size y5 wr) ∧ Hid (OutL wr y5.heap.size (.slice A6 k c6) (sdT c l k))) (fun _ iv _ => N - (intOf iv).toNat)
 case atStart => exact ⟨0, none, 0, by omega, rfl, rfl, Lh (Below.refl _ _), Lh (OutL.nil _ _)⟩
 case round =>
  obtain ⟨k, A6, c6, hk, rfl, rfl, HY, HO⟩ := hrel
  by_cases hkN : k < N
  ·
   have kC := BkC.out.below HY.out BkC.out.lt
   have R0 := BR0.out.on HY.out HY.out.size
   have HB := HY.out
   have ck : (k : Int) < (N : Int) := by omega
   have c0k : (0 : Int) ≤ (k : Int) := by omega
   have wk : IntKind.i64.wrap ((k : Int) + 1) = ((k + 1 : Nat) : Int) := by rw [wrap_sm (by omega) (by omega)]; omega
   have hR5 := BY.out.below HY.out
   obtain ⟨pl, ol, z, hA5, hz, cz⟩ := ref9.rdv_at hR5 k hkN
   subst hA5
   have hz9 := HL.out z (List.mem_of_getElem? hz)
   obtain ⟨j, rfl⟩ : ∃ j : Nat, z = (j : Int) := ⟨z.toNat, by omega⟩
   have hj9 : Hid (j < 10) := by show _ < _; omega
   have hlk : Hid ((sdT c l k).length = k) := sdT_len (by rw [hN.out]; omega)
   replace hz := Lh hz
   replace hz9 := Lh hz9
   clear hR5
   have hO := HO.out
   clear HO
   go_wp2_with (first | refine lo_Cj kC ?_ | refine lo_cLj kC ?_ | refine lo_cJj kC ?_)
   clear cz
   refine (send_any c A n p j wr wr.heap.size R0 (Nat.le_refl _) hp HF.out hj9.out (HX.out j hz9.out.1 hz9.out.2)).mono ?_
   rintro e y51 ⟨A7, n7, p7, rfl, hE7, hY⟩
   replace hE7 := Lh (hE7.more HB.size)
   replace HB := bt HB hY
   replace kC := kC.b hY
   replace R0 := R0.on hY hY.size
   replace hO := hO.below hY
   clear hY
   go_wp2_with (first | refine kit.bs_M rfl _ rfl (sendF c (j : Int)) A7 n7 p7 rfl ?_ | (first | refine lo_Cj kC ?_ | refine lo_cLj kC ?_ | refine lo_cJj kC ?_))
   intro y52 kB hX
   replace hE7 := Lh (hE7.out.below hX)
   replace HB := bt HB hX
   replace kC := kC.b hX
   replace R0 := R0.on hX hX.size
   replace hO := hO.below hX
   clear hX
   go_wp2_with (at_builtin; refine kit.app_M rfl (.tmp 17) (.tmp 21) rfl y5.heap.size A6 k c6 _ rfl y51.heap.size rfl hlk.out hO (sendF c (j : Int)) A7 n7 p7 kB hE7.out (by omega) HB.size ?_)
   intro A8 c8 y53 hO2 hB2
   have HB2 := Lh (HB.trans hB2)
   have hO3 := Lh hO2
   clear hO hO2 hB2 HB kB kC R0
   go_wp2_with fail
   go_roundw
   case rel => exact ⟨k + 1, A8, c8, by omega, rfl, rfl, HB2, Lh (by rw [sdT_next hz.out]; exact hO3.out)⟩
   case measure => simp only [intOf]; omega
  ·
   have kC := BkC.out.below HY.out BkC.out.lt
   have R0 := BR0.out.on HY.out HY.out.size
   have HB := HY.out
   obtain rfl : k = N := by omega
   have ck : ¬ ((k : Int) < (k : Int)) := by omega
   go_wp2_with fail
   go_ret
   exact ⟨A6, k, c6, rfl, y5.heap.size, HO.out, BH.out.size, HB.size, BH.out.trans (HB.mono BH.out.size)⟩
end Go.Proofs.YtegnfkbmlalkeaaGreat.cor
namespace Go.Proofs.YtegnfkbmlalkeaaGreat.ref13
open Go Go.RowKit kit nums cf lg cr se
theorem rb_lss {w : World} {a : Act} {o : Oper} {p q : Operand} {x y : Int} {b : Bool} (ho : o.op = .binOp .lss 3 p q 3) (hp : a.eval p = .int .i64 x) (hq : a.eval q = .int .i64 y) (hb : decide (x < y) = b) : (execOp a.eval o).run Tryz.prog w = .ok (.value (.bool b)) w := by
 subst hb
 unfold execOp
 simp only [ho, hp, hq]
 go_simp
theorem rb_geq {w : World} {a : Act} {o : Oper} {p q : Operand} {x y : Int} {b : Bool} (ho : o.op = .binOp .geq 3 p q 3) (hp : a.eval p = .int .i64 x) (hq : a.eval q = .int .i64 y) (hb : decide (x ≥ y) = b) : (execOp a.eval o).run Tryz.prog w = .ok (.value (.bool b)) w := by
 subst hb
 unfold execOp
 simp only [ho, hp, hq]
 go_simp
end Go.Proofs.YtegnfkbmlalkeaaGreat.ref13
