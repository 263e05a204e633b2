/- The landed core: committed. Conditions: those that the theorem names. -/
import Derived.Deep.RegionHeld3
import Derived.Deep.Cut
import Derived.Lib.Hide
import Derived.Test.YtegnfkbmlalkeaaSqKitCl
import Derived.Test.YtegnfkbmlalkeaaSqJ4
import Derived.Test.YtegnfkbmlalkeaaSqJ3
import Derived.Test.YtegnfkbmlalkeaaSqKitLg
import Derived.Test.YtegnfkbmlalkeaaSqJ0
namespace Go.Proofs.Ytegnfkbmlalkeaa.cor
open Go Go.RowKit Go.Proofs.Ytegnfkbmlalkeaa.kit Go.Proofs.Ytegnfkbmlalkeaa.nums Go.Proofs.Ytegnfkbmlalkeaa.cf Go.Proofs.Ytegnfkbmlalkeaa.lg Go.Proofs.Ytegnfkbmlalkeaa.cr Go.Proofs.Ytegnfkbmlalkeaa.se
set_option linter.unusedVariables false
set_option maxHeartbeats 2000000 in
set_option maxRecDepth 10000 in
theorem committed_any (c : CoL) (A : Option Addr) (n p : Nat) (j : JtL) (w : World) (B : Nat) (hR : RdE w B A n c.lg.es) (hB : B ≤ w.heap.size) (hp : n ≤ p) (hf : Fit c.lg) (hk : c.lg.b ≤ c.cm ∧ c.cm ≤ lastF c.lg) (hc : conC c = j) (hj : j.ok) : Calls Try.prog 77 #[crV c (.slice A n p), jV j] w fun e w' => e = .returned (.int .i64 (seekF (cmtP c) c.cm (lastF c.lg - c.cm).toNat)) ∧ Below w.heap.size w w' := by
 have HF := Lib.hid hf
 have hlen := Lib.hid hR.len
 have HJ := Lib.hid hj
 have hco := Lib.hid hc
 obtain ⟨cm, hcm⟩ : ∃ q, c.cm = q := ⟨_, rfl⟩
 obtain ⟨la, hla⟩ : ∃ q, lastF c.lg = q := ⟨_, rfl⟩
 obtain ⟨b, hb0⟩ : ∃ q, c.lg.b = q := ⟨_, rfl⟩
 obtain ⟨tm, htm⟩ : ∃ q, c.tm = q := ⟨_, rfl⟩
 rw [hb0, hcm, hla] at hk
 have hb1 : 0 ≤ b ∧ la ≤ 2199024255552 := by rw [← hb0, ← hla]; have h1 := hf.1; have h2 := hf.2.1; have h3 := hf.2.2; refine ⟨h1, ?_⟩; unfold lastF; omega
 rw [hla, hcm]
 obtain ⟨P, hP⟩ : ∃ q : Int → Bool, cmtP c = q := ⟨_, rfl⟩
 have hPx : Hid (∀ i, P i = (decide ((termF c.lg i).1 = tm) && coJ j (hasC c i))) := fun i => by rw [← hP]; unfold cmtP; rw [hc, ← htm]
 rw [hP]
 clear hP hf hj hc
 have hmx : max cm b = cm := by omega
 have hmi : (if cm < b then b else cm) = cm := by split <;> omega
 replace hcm := Lib.hid hcm
 replace hla := Lib.hid hla
 replace hb0 := Lib.hid hb0
 replace htm := Lib.hid htm
 replace hk := Lib.hid hk
 replace hb1 := Lib.hid hb1
 have R0 := hR.more hB
 clear hR hB
 go_enter Try.func77, Try.ntmps77
 go_wp2_with (first | refine box_C rfl _ rfl c (.slice A n p) rfl ?_ | fail)
 intro y1 kC e1 s1
 clear s1
 have HB := e1
 replace R0 := R0.on e1 e1.size
 clear e1
 go_wp2_with (first | refine box_J rfl _ rfl j rfl ?_ | (first | refine lo_Cj kC ?_ | refine lo_cLj kC ?_ | refine lo_cJj kC ?_))
 intro y2 kJ e2 s2
 clear s2
 replace HB := bt HB e2
 replace kC := kC.b e2
 replace R0 := R0.on e2 e2.size
 clear e2
 generalize y1.heap.size = gkJ at *
 go_wp2_with (first | refine lo_Cj kC ?_ | refine lo_cLj kC ?_ | refine lo_cJj kC ?_ | refine lo_Jj kJ ?_)
 have CC := enti.last_any c.lg A n p y2 hlen.out HF.out
 rw [hla.out] at CC
 refine (CC).mono ?_
 rintro e y3 ⟨rfl, hY⟩
 replace HB := bt HB hY
 replace kC := kC.b hY
 replace kJ := kJ.b hY
 replace R0 := R0.on hY hY.size
 clear hY
 clear CC
 have BkC := Lib.hid kC
 clear kC
 have BkJ := Lib.hid kJ
 clear kJ
 have BR0 := Lib.hid R0
 clear R0
 have BH := Lib.hid HB
 clear HB
 have ccm : y3.cell? ⟨w.heap.size, 6, none⟩ = some (.int .i64 cm) := by rw [← hcm.out]; exact BkC.out.cell 6
 have cb : y3.cell? ⟨w.heap.size, 8, none⟩ = some (.int .i64 b) := by rw [← hb0.out]; exact BkC.out.cell 8
 go_wp2_with fail
 go_loopw [5] (fun iv wr => ∃ i : Int, cm ≤ i ∧ i ≤ la ∧ iv = .int .i64 i ∧ Hid (Below y3.heap.size y3 wr) ∧ Hid (seekF P cm (la - cm).toNat = seekF P cm (i - cm).toNat)) (fun iv _ => (intOf iv - cm).toNat)
 case atStart => exact ⟨la, hk.out.2, by omega, rfl, Lib.hid (Below.refl _ _), Lib.hid rfl⟩
 case round =>
   obtain ⟨i, hi1, hi2, rfl, HY, HS⟩ := hrel
   clear ccm cb
   by_cases hgt : cm < i
   · skip
     have kC := BkC.out.below HY.out BkC.out.lt
     have kJ := BkJ.out.below HY.out BkJ.out.lt
     have R0 := BR0.out.on HY.out HY.out.size
     have HB := HY.out
     obtain ⟨k, hk1⟩ : ∃ k : Nat, i = cm + ((k + 1 : Nat) : Int) := ⟨(i - cm - 1).toNat, by omega⟩
     have HS2 : Hid (seekF P cm (la - cm).toNat = seekF P cm (k + 1)) := by show _ = _; rw [HS.out, hk1]; congr 1; omega
     clear HS
     have hi64 := Lib.hid (show -1 ≤ i ∧ i ≤ 2199024255552 from ⟨by have := hb1.out; have := hk.out; omega, by have := hb1.out; omega⟩)
     replace hk1 := Lib.hid hk1
     have hig : i > cm := hgt
     have wi : IntKind.i64.wrap (i - 1) = i - 1 := by have := hi64.out; rw [wrap_sm (by omega) (by omega)]
     have ccm : wr.cell? ⟨w.heap.size, 6, none⟩ = some (.int .i64 cm) := by rw [← hcm.out]; exact kC.cell 6
     have cb : wr.cell? ⟨w.heap.size, 8, none⟩ = some (.int .i64 b) := by rw [← hb0.out]; exact kC.cell 8
     go_wp2_with (first | refine lo_Cj kC ?_ | refine lo_cLj kC ?_ | refine lo_cJj kC ?_ | refine lo_Jj kJ ?_)
     obtain ⟨tv, htv⟩ : ∃ q, (termF c.lg i).1 = q := ⟨_, rfl⟩
     obtain ⟨tb, htb⟩ : ∃ q, (termF c.lg i).2 = q := ⟨_, rfl⟩
     have CC := enti.term_any c.lg A n p i wr wr.heap.size R0 (Nat.le_refl _) hp HF.out
     rw [htv, htb] at CC
     replace htv := Lib.hid htv
     clear htb
     refine (CC).mono ?_
     rintro e y51 ⟨rfl, hY⟩
     replace HB := bt HB hY
     replace kC := kC.b hY
     replace kJ := kJ.b hY
     replace R0 := R0.on hY hY.size
     clear hY
     clear CC ccm cb
     by_cases he : tv = tm
     · skip
       have hbe : (tv == tm) = true := by simp [he]
       replace he := Lib.hid he
       go_upto_region 5 with (first | refine lo_Cj kC ?_ | refine lo_cLj kC ?_ | refine lo_cJj kC ?_ | refine lo_Jj kJ ?_)
       obtain ⟨co, hcoz⟩ : ∃ q, coJ j (hasC c i) = q := ⟨_, rfl⟩
       replace hcoz := Lib.hid hcoz
       have hPi : Hid (P i = co) := by show _ = _; rw [hPx.out, htv.out, he.out, hcoz.out, decide_eq_true rfl, Bool.true_and]
       refine wp_region_held_drew (S := fun wq => Blk 39 wq w.heap.size (crC c (.slice A n p)) ∧ Blk 30 wq gkJ (jC j) ∧ wq.cell? ⟨w.heap.size, 2, none⟩ = some (.int .i64 tm)) (by kernel_rfl) ?s_cmt5a (fun hHeld => ?_)
       case s_cmt5a => exact ⟨kC, kJ, by rw [← htm.out]; exact kC.cell 2⟩
       have hD := (Below.refl y51.heap.size y51).drew
       replace HB := bt HB hD
       replace kC := kC.b hD
       replace kJ := kJ.b hD
       replace R0 := R0.on hD hD.size
       clear hD
       generalize y51.drew = y52 at *
       refine tj 0 _ ?_
       try simp only [Act.put, ka, kb, kc]
       refine tj 1 _ ?_
       try simp only [Act.put, ka, kb, kc]
       refine tj 2 _ ?_
       try simp only [Act.put, ka, kb, kc]
       refine tj 3 _ ?_
       try simp only [Act.put, ka, kb, kc]
       refine tj 4 _ ?_
       try simp only [Act.put, ka, kb, kc]
       refine tj 5 _ ?_ (hy := fun wq hSw => rld_J rfl rfl (And.left <| And.right hSw))
       try simp only [Act.put, ka, kb, kc]
       refine tj 6 _ ?_ (hy := fun wq hSw => rld_C rfl rfl (And.left hSw))
       try simp only [Act.put, ka, kb, kc]
       refine tj 7 _ ?_
       try simp only [Act.put, ka, kb, kc]
       refine rr [8] ?_
       refine rc (fun KQ hKQ => ?_) AllReadyH.nil
       go_simp
       have CC := holders_any c A n p i y52
       refine (CC).mono ?_
       rintro e y53 ⟨rfl, hY⟩
       replace HB := bt HB hY
       replace kC := kC.b hY
       replace kJ := kJ.b hY
       replace R0 := R0.on hY hY.size
       clear hY
       clear CC
       go_wp2_with fail
       refine hKQ.out _ _ (⟨kC, kJ, by rw [← htm.out]; exact kC.cell 2⟩) (fun _ => ?_)
       clear hKQ KQ
       try simp only [Act.put, ka, kb, kc]
       refine rr [9] ?_
       refine rc (fun KQ hKQ => ?_) AllReadyH.nil
       go_simp
       have CC := confi.commits_any j (hasC c i) y53 HJ.out (ref13.has_lt c i 9)
       rw [hcoz.out] at CC
       refine (CC).mono ?_
       rintro e y54 ⟨rfl, hY⟩
       replace HB := bt HB hY
       replace kC := kC.b hY
       replace kJ := kJ.b hY
       replace R0 := R0.on hY hY.size
       clear hY
       clear CC
       go_wp2_with fail
       refine hKQ.out _ _ (⟨kC, kJ, by rw [← htm.out]; exact kC.cell 2⟩) (fun _ => ?_)
       clear hKQ KQ
       try simp only [Act.put, ka, kb, kc]
       refine tj 10 _ ?_
       try simp only [Act.put, ka, kb, kc]
       refine wpAnyH_done (by kernel_rfl) ?_ _
       rcases co with _ | _
       · skip
         go_wp2_with fail
         go_roundw
         case rel => exact ⟨i - 1, by omega, by omega, rfl, Lib.hid HB, Lib.hid (by rw [HS2.out, ref13.seek_top P cm k (by rw [← hk1.out]; exact hPi.out)]; congr 1; have := hk1.out; omega)⟩
         case measure => simp only [intOf]; omega
       · skip
         go_wp2_with fail
         go_ret
         rw [HS2.out, ref13.seek_hit P cm k (by rw [← hk1.out]; exact hPi.out), ← hk1.out]
         exact ⟨rfl, BH.out.trans (HB.mono BH.out.size)⟩
     · skip
       have hbe : (tv == tm) = false := by simp [he]
       have hPi : Hid (P i = false) := by show _ = _; rw [hPx.out, htv.out, decide_eq_false he, Bool.false_and]
       replace he := Lib.hid he
       go_upto_region 5 with (first | refine lo_Cj kC ?_ | refine lo_cLj kC ?_ | refine lo_cJj kC ?_ | refine lo_Jj kJ ?_)
       refine wp_region_held_drew (S := fun wq => Blk 39 wq w.heap.size (crC c (.slice A n p)) ∧ Blk 30 wq gkJ (jC j) ∧ wq.cell? ⟨w.heap.size, 2, none⟩ = some (.int .i64 tm)) (by kernel_rfl) ?s_cmt5b (fun hHeld => ?_)
       case s_cmt5b => exact ⟨kC, kJ, by rw [← htm.out]; exact kC.cell 2⟩
       have hD := (Below.refl y51.heap.size y51).drew
       replace HB := bt HB hD
       replace kC := kC.b hD
       replace kJ := kJ.b hD
       replace R0 := R0.on hD hD.size
       clear hD
       generalize y51.drew = y52 at *
       refine tj 0 _ ?_
       try simp only [Act.put, ka, kb, kc]
       refine tj 1 _ ?_
       try simp only [Act.put, ka, kb, kc]
       refine tj 2 _ ?_
       try simp only [Act.put, ka, kb, kc]
       refine tj 3 _ ?_
       try simp only [Act.put, ka, kb, kc]
       refine tj 4 _ ?_
       try simp only [Act.put, ka, kb, kc]
       refine kit.tv 5 ?_
       try simp only [Act.put, ka, kb, kc]
       refine kit.tv 6 ?_
       try simp only [Act.put, ka, kb, kc]
       refine kit.tv 7 ?_
       try simp only [Act.put, ka, kb, kc]
       refine kit.tv 8 ?_
       try simp only [Act.put, ka, kb, kc]
       refine kit.tv 9 ?_
       try simp only [Act.put, ka, kb, kc]
       refine tj 10 _ ?_
       try simp only [Act.put, ka, kb, kc]
       refine wpAnyH_done (by kernel_rfl) ?_ _
       go_wp2_with fail
       go_roundw
       case rel => exact ⟨i - 1, by omega, by omega, rfl, Lib.hid HB, Lib.hid (by rw [HS2.out, ref13.seek_top P cm k (by rw [← hk1.out]; exact hPi.out)]; congr 1; have := hk1.out; omega)⟩
       case measure => simp only [intOf]; omega
   · skip
     have kC := BkC.out.below HY.out BkC.out.lt
     have kJ := BkJ.out.below HY.out BkJ.out.lt
     have R0 := BR0.out.on HY.out HY.out.size
     have HB := HY.out
     obtain rfl : i = cm := by omega
     have hig : ¬ (i > i) := by omega
     have HS2 : Hid (seekF P i (la - i).toNat = i) := by show _ = _; rw [HS.out, Int.sub_self]; rfl
     clear HS
     have ccm : wr.cell? ⟨w.heap.size, 6, none⟩ = some (.int .i64 i) := by rw [← hcm.out]; exact kC.cell 6
     have cb : wr.cell? ⟨w.heap.size, 8, none⟩ = some (.int .i64 b) := by rw [← hb0.out]; exact kC.cell 8
     go_wp2_with fail
     go_ret
     rw [HS2.out]
     exact ⟨rfl, BH.out.trans (HB.mono BH.out.size)⟩
end Go.Proofs.Ytegnfkbmlalkeaa.cor
