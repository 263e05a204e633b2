/- What the statements' begun comes to. No condition. -/
import Derived.Deep.RegionHeld3
import Derived.Deep.Cut
import Derived.Lib.Hide
import Derived.Test.YtegnfkbmlalkeaaGreatSpJ4
import Derived.Test.YtegnfkbmlalkeaaGreatSpCorWv13
import Derived.Test.YtegnfkbmlalkeaaGreatSpCorM13
import Derived.Test.YtegnfkbmlalkeaaGreatSpJ0
import Derived.Test.YtegnfkbmlalkeaaGreatSpKitLg
set_option linter.unusedVariables false
set_option maxHeartbeats 16000000
set_option maxRecDepth 10000
namespace Go.Proofs.YtegnfkbmlalkeaaGreat.law13
open Go Go.RowKit kit nums cf lg cr se
theorem zeroJ_ok : zeroJ.ok := ⟨zero_ok, zero_ok⟩
theorem three_any (w : World) : Calls Tryz.prog 46 #[] w fun e w' => e = .returned (jV threeJ) ∧ Below w.heap.size w w' := by
 go_enter Tryz.func46, Tryz.ntmps46
 have LEkO : Hid (w.heap.size ≤ w.heap.size) := Nat.le_refl _
 go_wp2_with (first | go_skip | refine al_J rfl rfl ?_ | fail)
 intro y1 kO e1 s1
 clear s1
 replace kO : Blk _ _ _ (jC zeroJ) := kO
 have HB := e1
 clear e1
 go_wp2_with (first | go_skip | refine st_Jv rfl _ _ rfl threeJ rfl rfl _ kO rfl ?_ | (first | refine lo_Jj kO ?_ | refine bd_f3 14 2 2 rfl rfl rfl rfl rfl ?_ | refine bd_j1 threeC rfl rfl rfl ?_))
 intro y2 kO2 pO
 replace HB := pO.below _ _ HB LEkO.out
 clear kO
 have kO := kO2
 clear kO2 pO
 go_wp2_with (first | go_skip | refine lo_Jj kO ?_)
 (try simp only [Exit.inBlock, Exit.then])
 refine bodyPost_ret (res1 Tryz.results46 rfl (aggJ _) (sizeJ _) (ldJv kO)) rfl ?_
 exact ⟨rfl, HB⟩
theorem begun_any (w : World) : Calls Tryz.prog 11 #[] w fun e w' => e = .returned (.bool true) ∧ Below w.heap.size w w' := by
 go_enter Tryz.func11, Tryz.ntmps11
 go_wp2_with go_skip
 refine (three_any w).mono ?_
 rintro e y1 ⟨rfl, hY⟩
 have HB := hY
 clear hY
 go_wp2_with go_skip
 refine (cor.new_any 1 threeJ y1).mono ?_
 rintro e y2 ⟨rfl, hY⟩
 replace HB := bt HB hY
 clear hY
 have LEkC : Hid (w.heap.size ≤ y2.heap.size) := HB.size
 go_wp2_with (first | go_skip | refine al_C rfl rfl ?_ | fail)
 intro y3 kC e3 s3
 clear s3
 replace kC : Blk _ _ _ (crC zC (.slice none 0 0)) := kC
 replace HB := bt HB e3
 clear e3
 generalize y2.heap.size = gkC at *
 go_wp2_with (first | go_skip | refine st_C rfl _ _ rfl (newC 1 threeJ) none 0 0 rfl rfl _ kC rfl ?_ | (first | refine lo_Cj kC ?_ | refine lo_cLj kC ?_ | refine lo_cJj kC ?_))
 intro y4 kC2 pO
 replace HB := pO.below _ _ HB LEkC.out
 clear kC
 have kC := kC2
 clear kC2 pO
 go_wp2_with go_skip
 have HB0 := Lh HB
 have hle0 : Hid (w.heap.size ≤ gkC) := LEkC
 go_loopw [2, 3] (fun ov iv wr => ∃ (k : Nat) (A : Option Addr) (n p : Nat) (Ao : Option Addr) (co : Nat), k ≤ 16 ∧ iv = .int .i64 (k : Int) ∧ ov = .slice Ao (bO k) co ∧ Hid (Blk 33 wr gkC (crC (bT k) (.slice A n p))) ∧ Hid (RdE wr wr.heap.size A n (bT k).lg.es) ∧ Hid (NotIn gkC A n) ∧ Hid (n ≤ p) ∧ Hid (Below gkC y4 wr)) (fun ov iv _ => 16 - (intOf iv).toNat)
 case atStart => exact ⟨0, none, 0, 0, none, 0, by omega, rfl, rfl, Lh kC, Lh (RdE.nil _ _ _), Lh (NotIn.nil _ _), Lh (Nat.le_refl _), Lh (Below.refl _ _)⟩
 case round =>
  obtain ⟨k, A, n, p, Ao, co, hk, rfl, rfl, HkC, HR, HN, Hp, HBr⟩ := hrel
  clear HB kC
  by_cases hk16 : k < 16
  ·
   have kC := HkC.out
   have R0 := HR.out
   have NIR0kC := HN
   have HB := HBr.out
   have ck : (k : Int) < 16 := by omega
   have wk : IntKind.i64.wrap ((k : Int) + 1) = ((k + 1 : Nat) : Int) := by rw [wrap_sm (by omega) (by omega)]; omega
   have hpat : patF 1 = 16 := rfl
   have hb2 := Lh (bO_le k (by omega))
   have hG := Lh (bT_good (k := k) (by omega))
   have hT : Hid ((tickF (bT k)).1 = bT (k + 1)) := Lh rfl
   have hTO : Hid ((tickF (bT k)).2.length = bO (k + 1)) := Lh rfl
   go_wp2_with (first | go_skip | refine lo_Cj kC ?_ | refine lo_cLj kC ?_ | refine lo_cJj kC ?_)
   have CC := cor.pat_any 1 wr (by omega)
   rw [hpat] at CC
   refine (CC).mono ?_
   rintro e y51 ⟨rfl, hW⟩
   subst hW
   clear CC hpat
   go_wp2_with (first | go_skip | refine lo_Cj kC ?_ | refine lo_cLj kC ?_ | refine lo_cJj kC ?_)
   refine (cor.tick_any (bT k) A n p wr wr.heap.size R0 (Nat.le_refl _) Hp.out hG.out).mono ?_
   rintro e y52 ⟨A1, n1, p1, v9, B9, rfl, RB, hp1, ON9, hO, hB9, hB8, hY⟩
   have NIR1kC := Lh (NIR0kC.out.next ON9 kC.lt)
   have R1 := RB.more hB8
   clear RB ON9
   replace hp1 := Lh hp1
   obtain ⟨Ao1, co1, rfl⟩ := hO.form
   clear hO hB9 hB8
   replace HB := HB.trans (hY.mono (Nat.le_of_lt kC.lt))
   replace kC := kC.b hY
   replace R0 := R0.on hY hY.size
   clear hY
   rw [hTO.out]
   rw [hT.out] at R1 ⊢
   go_wp2_with (first | go_skip | refine st_C rfl _ _ rfl (bT (k + 1)) A1 n1 p1 rfl rfl _ kC rfl ?_ | (first | refine lo_Cj kC ?_ | refine lo_cLj kC ?_ | refine lo_cJj kC ?_))
   intro y53 kC2 pO
   replace R0 := R0.putS pO NIR0kC.out
   replace R1 := R1.putS pO NIR1kC.out
   replace HB := pO.below _ _ HB (Nat.le_refl _)
   clear kC
   have kC := kC2
   clear kC2 pO
   go_wp2_with (first | go_skip | refine lo_Cj kC ?_ | refine lo_cLj kC ?_ | refine lo_cJj kC ?_)
   go_roundw
   case rel => exact ⟨k + 1, A1, n1, p1, Ao1, co1, by omega, rfl, rfl, Lh kC, Lh R1, NIR1kC, hp1, Lh HB⟩
   case measure => simp only [intOf]; omega
  ·
   have kC := HkC.out
   have R0 := HR.out
   have NIR0kC := HN
   have HB := HBr.out
   obtain rfl : k = 16 := by omega
   have ck : ¬ (((16 : Nat) : Int) < 16) := by omega
   have hpat : patF 1 = 16 := rfl
   obtain ⟨he1, he2, he3, he4⟩ := bT_end
   have hdf := Lh bT_deaf.1
   have htm1 := Lh bT_deaf.2
   have hG := Lh (bT_good (k := 16) (by omega))
   have hlen := Lh (bT_fr 16).len
   generalize bT 16 = cc at *
   rw [he2]
   clear he2
   replace he4 := Lh he4
   replace he3 := Lh he3
   replace he1 := Lh he1
   go_wp2_with (first | go_skip | refine lo_Cj kC ?_ | refine lo_cLj kC ?_ | refine lo_cJj kC ?_)
   have CC := cor.pat_any 1 wr (by omega)
   rw [hpat] at CC
   refine (CC).mono ?_
   rintro e y51 ⟨rfl, hW⟩
   subst hW
   clear CC hpat
   go_wp2_with (first | go_skip | refine lo_Cj kC ?_ | refine lo_cLj kC ?_ | refine lo_cJj kC ?_ | refine bd_vot 2 2 1 1 true rfl rfl rfl rfl rfl rfl rfl ?_)
   refine (cor.stepVote_any cc A n p votM none 0 0 wr wr.heap.size R0 (Nat.le_refl _) Hp.out 0 (RdE.nil _ _ _) (Nat.zero_le _) (Nat.le_refl _) hG.out (fun x hx => by cases hx) zeroJ_ok (by have := hlen.out; omega) (by decide) hdf.out htm1.out rfl).mono ?_
   rintro e y52 ⟨A1, n1, p1, v9, B9, rfl, RB, hp1, ON9, hO, hB9, hB8, hY⟩
   have NIR1kC := Lh (NIR0kC.out.next ON9 kC.lt)
   have R1 := RB.more hB8
   clear RB ON9
   replace hp1 := Lh hp1
   obtain ⟨Ao1, co1, rfl⟩ := hO.form
   clear hO hB9 hB8
   replace HB := HB.trans (hY.mono (Nat.le_of_lt kC.lt))
   replace kC := kC.b hY
   replace R0 := R0.on hY hY.size
   clear hY
   rw [he4.out]
   obtain ⟨dd, hdd⟩ : ∃ q, (stepF cc votM).1 = q := ⟨_, rfl⟩
   rw [hdd] at he3 R1 ⊢
   clear hdd
   have LTkCkD := Lh kC.lt
   have NIR0kD := Lh (NotIn.of_rd R0 (Nat.le_refl _))
   have NIR1kD := Lh (NotIn.of_rd R1 (Nat.le_refl _))
   have LEkD : Hid (gkC ≤ y52.heap.size) := Lh (Nat.le_of_lt kC.lt)
   go_wp2_with (first | go_skip | refine al_C rfl rfl ?_ | (first | refine lo_Cj kC ?_ | refine lo_cLj kC ?_ | refine lo_cJj kC ?_))
   intro y53 kD e53 s53
   clear s53
   replace kD : Blk _ _ _ (crC zC (.slice none 0 0)) := kD
   replace HB := HB.trans (e53.mono (Nat.le_of_lt kC.lt))
   replace kC := kC.b e53
   replace R0 := R0.on e53 e53.size
   replace R1 := R1.on e53 e53.size
   clear e53
   generalize y52.heap.size = gkD at *
   go_wp2_with (first | go_skip | refine st_C rfl _ _ rfl dd A1 n1 p1 rfl rfl _ kD rfl ?_ | (first | refine lo_Cj kC ?_ | refine lo_cLj kC ?_ | refine lo_cJj kC ?_ | refine lo_Cj kD ?_ | refine lo_cLj kD ?_ | refine lo_cJj kD ?_))
   intro y54 kD2 pO
   replace kC := kC.put pO (Nat.ne_of_lt LTkCkD.out)
   replace R0 := R0.putS pO NIR0kD.out
   replace R1 := R1.putS pO NIR1kD.out
   replace HB := pO.below _ _ HB LEkD.out
   clear kD
   have kD := kD2
   clear kD2 pO
   have c1 : y54.cell? ⟨gkC, 1, none⟩ = some (.int .i64 1) := by rw [← he1.out]; exact kC.cell 1
   have c2 : y54.cell? ⟨gkD, 1, none⟩ = some (.int .i64 2) := by rw [← he3.out]; exact kD.cell 1
   go_wp2_with (first | go_skip | refine lo_Cj kC ?_ | refine lo_cLj kC ?_ | refine lo_cJj kC ?_ | refine lo_Cj kD ?_ | refine lo_cLj kD ?_ | refine lo_cJj kD ?_)
   go_ret
   exact ⟨rfl, HB0.out.trans (HB.mono hle0.out)⟩
end Go.Proofs.YtegnfkbmlalkeaaGreat.law13
