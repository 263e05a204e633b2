/- The landed core: clone, own, others, lastTerm. Conditions: those that the theorems name. -/
import Derived.Deep.CutBlock
import Derived.BigQuiet
import Derived.Deep.RegionHeld3
import Derived.Deep.Cut
import Derived.Lib.Hide
import Derived.Test.YtegnfkbmlalkeaaSqKitCl
import Derived.Test.YtegnfkbmlalkeaaSqJ4
import Derived.Test.YtegnfkbmlalkeaaSqSetsI
import Derived.Test.YtegnfkbmlalkeaaSqEntD
import Derived.Test.YtegnfkbmlalkeaaSqEntJ
import Derived.Test.YtegnfkbmlalkeaaSqKitLg
import Derived.Test.YtegnfkbmlalkeaaSqJ0
import Derived.Test.YtegnfkbmlalkeaaSqEntC
import Derived.Test.YtegnfkbmlalkeaaSqJ3
namespace Go.Proofs.Ytegnfkbmlalkeaa.cor
open Go Go.RowKit Go.Proofs.Ytegnfkbmlalkeaa.kit Go.Proofs.Ytegnfkbmlalkeaa.nums Go.Proofs.Ytegnfkbmlalkeaa.cf Go.Proofs.Ytegnfkbmlalkeaa.lg Go.Proofs.Ytegnfkbmlalkeaa.cr Go.Proofs.Ytegnfkbmlalkeaa.se
set_option linter.unusedVariables false
set_option maxHeartbeats 2000000 in
set_option maxRecDepth 10000 in
theorem clone_any (es : List EnL) (A : Option Addr) (n p : Nat) (w : World) (B : Nat) (hR : RdE w B A n es) (hB : B ≤ w.heap.size) (hn : n ≤ 1000000) : Calls Try.prog 30 #[.slice A n p] w fun e w' => ∃ A' c', e = .returned (.slice A' n c') ∧ OwnE w' w.heap.size (.slice A' n c') es ∧ Below w.heap.size w w' := by
 have R0 := hR.more hB
 clear hR hB
 rcases A with _ | a
 · skip
   have h0 : n = 0 := by
     rcases Nat.eq_zero_or_pos n with h | h
     · exact h
     · obtain ⟨b, o, e, _⟩ := R0.2 h
       cases e
   subst h0
   have hes : es = [] := List.length_eq_zero_iff.1 R0.1
   subst hes
   have he := Lib.run_eql_slice_nil (P := Try.prog) w 34 61 none 0 p 0 0 Try.underlying34
   go_enter Try.func30, Try.ntmps30
   go_wp2_with fail
   go_ret
   exact ⟨none, 0, rfl, OwnE.nil _ _, Below.refl _ _⟩
 have kk : Blk 61 (w.alloc (.cells #[] 61)) w.heap.size [] := heap_alloc_new w _
 have q1 := (Below.refl w.heap.size w).alloc (Nat.le_refl _) (.cells #[] 61)
 have o0 := OwnE.empty (base := w.heap.size) kk (Nat.le_refl _)
 have RL := R0.on q1 q1.size
 clear kk
 have o0 := Lib.hid o0
 have he := Lib.run_eql_slice_nil (P := Try.prog) w 34 61 (some a) n p 0 0 Try.underlying34
 go_enter Try.func30, Try.ntmps30
 go_wp2_with (at_builtin; with_reducible refine wpList_append_E rfl (.tmp 5) (.tmp 6) rfl w.heap.size _ 0 0 [] rfl o0.out _ (some a) n p es rfl RL (by omega) q1.size ?_)
 intro A' c' y1 hO hY hG
 (try simp only [Nat.zero_add, List.nil_append] at hO)
 (try simp only [Nat.zero_add])
 go_wp2_with fail
 go_ret
 exact ⟨A', c', rfl, hO, q1.trans hY⟩
set_option maxHeartbeats 2000000 in
set_option maxRecDepth 10000 in
theorem own_any (c : CoL) (A : Option Addr) (n p : Nat) (w : World) (B : Nat) (hR : RdE w B A n c.lg.es) (hB : B ≤ w.heap.size) (hp : n ≤ p) (hn : n ≤ 1000000) : Calls Try.prog 14 #[crV c (.slice A n p)] w fun e w' => ∃ A' p', e = .returned (crV c (.slice A' n p')) ∧ RdE w' w'.heap.size A' n c.lg.es ∧ n ≤ p' ∧ OldNew w.heap.size A n A' n ∧ (∀ b off, A' = some ⟨b, off, none⟩ → w.heap.size ≤ b) ∧ Below w.heap.size w w' := by
 have hn2 := Lib.hid hn
 have R0 := hR.more hB
 clear hR hB
 go_enter Try.func14, Try.ntmps14
 have NIR0kC := Lib.hid (NotIn.of_rd R0 (Nat.le_refl _))
 have LEkC : Hid (w.heap.size ≤ w.heap.size) := Nat.le_refl _
 go_wp2_with (first | refine box_C rfl _ rfl c (.slice A n p) rfl ?_ | fail)
 intro y1 kC e1 s1
 clear s1
 have HB := e1
 replace R0 := R0.on e1 e1.size
 clear e1
 have LTkCkO := Lib.hid kC.lt
 have NIR0kO := Lib.hid (NotIn.of_rd R0 (Nat.le_refl _))
 have LEkO : Hid (w.heap.size ≤ y1.heap.size) := HB.size
 go_wp2_with (first | refine al_C rfl rfl ?_ | (first | refine lo_Cj kC ?_ | refine lo_cLj kC ?_ | refine lo_cJj kC ?_))
 intro y2 kO e2 s2
 clear s2
 replace kO : Blk _ _ _ (crC zC (.slice none 0 0)) := kO
 replace HB := bt HB e2
 replace kC := kC.b e2
 replace R0 := R0.on e2 e2.size
 clear e2
 generalize y1.heap.size = gkO at *
 have c21 : _ = some (Value.slice A n p) := kC.cell 21
 go_wp2_with (first | refine lo_Cj kC ?_ | refine lo_cLj kC ?_ | refine lo_cJj kC ?_ | refine lo_Cj kO ?_ | refine lo_cLj kO ?_ | refine lo_cJj kO ?_)
 clear c21
 refine (clone_any c.lg.es A n p y2 y2.heap.size R0 (Nat.le_refl _) hn2.out).mono ?_
 rintro e y3 ⟨A1, p1, rfl, hO, hY⟩
 have NIR1kC := Lib.hid (NotIn.of_own hO kC.lt)
 have NIR1kO := Lib.hid (NotIn.of_own hO kO.lt)
 have hNew : Hid (∀ b off, A1 = some ⟨b, off, none⟩ → w.heap.size ≤ b) := fun b off e => Nat.le_trans HB.size (hO.blk_lt b off e).1
 have ON12 : Hid (OldNew w.heap.size A n A1 n) := OldNew.own hO HB.size
 have R1 := hO.cap.2.2.2
 have hp1 := hO.cap.2.1
 clear hO
 replace HB := bt HB hY
 replace kC := kC.b hY
 replace kO := kO.b hY
 replace R0 := R0.on hY hY.size
 clear hY
 have n1e : Hid (n = n) := rfl
 have df := fun i => kC.frozen i
 have cR21 : _ = some _ := kC.cell 21
 go_upto_region 2 with (fail)
 clear df cR21
 have kC2 : Blk 39 _ w.heap.size (crC c (.slice A1 n p1)) := kC.set_ 21 (.slice A1 n p1)
 have pO := put_set y3 w.heap.size (21) (.slice A1 n p1)
 generalize (y3.setCell ⟨w.heap.size, 21, none⟩ (.slice A1 n p1)) = y4 at *
 replace kO := kO.put pO (Nat.ne_of_gt LTkCkO.out)
 replace R0 := R0.putS pO NIR0kC.out
 replace R1 := R1.putS pO NIR1kC.out
 replace HB := pO.below _ _ HB LEkC.out
 clear kC
 have kC := kC2
 clear kC2 pO
 go_wp2_with (first | refine st_C rfl _ _ rfl c A1 n p1 rfl rfl _ kO rfl ?_ | (first | refine lo_Cj kC ?_ | refine lo_cLj kC ?_ | refine lo_cJj kC ?_ | refine lo_Cj kO ?_ | refine lo_cLj kO ?_ | refine lo_cJj kO ?_))
 intro y5 kO2 pO
 replace kC := kC.put pO (Nat.ne_of_lt LTkCkO.out)
 replace R0 := R0.putS pO NIR0kO.out
 replace R1 := R1.putS pO NIR1kO.out
 replace HB := pO.below _ _ HB LEkO.out
 clear kO
 have kO := kO2
 clear kO2 pO
 go_wp2_with (first | refine lo_Cj kC ?_ | refine lo_cLj kC ?_ | refine lo_cJj kC ?_ | refine lo_Cj kO ?_ | refine lo_cLj kO ?_ | refine lo_cJj kO ?_)
 (try simp only [Exit.inBlock, Exit.then])
 refine bodyPost_ret (res1 Try.results14 rfl (aggC _) (sizeC _) (ldCv kO)) rfl ?_
 exact ⟨A1, p1, rfl, R1, hp1, ON12.out, hNew.out, HB⟩
set_option maxHeartbeats 2000000 in
set_option maxRecDepth 10000 in
theorem others_any (c : CoL) (A : Option Addr) (n p : Nat) (s : Nat) (w : World) (hs : s < 65536) (hi : 0 ≤ c.id ∧ c.id ≤ 9) : Calls Try.prog 41 #[crV c (.slice A n p), .int .u16 (s : Int)] w fun e w' => ∃ A' c', e = .returned (.slice A' (listF (lessF s c.id)).length c') ∧ RdV w' w'.heap.size A' (listF (lessF s c.id)).length (ref9.i64s (listF (lessF s c.id))) ∧ Below w.heap.size w w' := by
 have hid := Lib.hid hi
 have hs2 := Lib.hid hs
 clear hi hs
 go_enter Try.func41, Try.ntmps41
 go_wp2_with (first | refine box_C rfl _ rfl c (.slice A n p) rfl ?_ | fail)
 intro y1 kC e1 s1
 clear s1
 have HB := e1
 clear e1
 have c0 : _ = some (Value.int .i64 c.id) := kC.cell 0
 go_wp2_with (first | refine lo_Cj kC ?_ | refine lo_cLj kC ?_ | refine lo_cJj kC ?_)
 clear c0
 refine (seti.less_any s c.id y1 hs2.out (by have := hid.out; omega) (by have := hid.out; omega)).mono ?_
 rintro e y2 ⟨rfl, hY⟩
 replace HB := bt HB hY
 replace kC := kC.b hY
 clear hY
 go_wp2_with (first | refine lo_Cj kC ?_ | refine lo_cLj kC ?_ | refine lo_cJj kC ?_)
 have CC := seti.list_any (lessF s c.id) y2 (Nat.lt_of_le_of_lt (lessF_le s c.id) hs2.out)
 unfold ref9.IsIs at CC
 refine CC.mono ?_
 rintro e2 yz ⟨A5, c5, rfl, hO5, hY⟩
 obtain ⟨A6, c6, e6, h7, -, R5⟩ := hO5.slice
 rw [ref9.i64s_length] at e6 h7 R5
 injection e6 with e6 _ e7
 subst e6
 subst e7
 clear hO5
 replace HB := bt HB hY
 clear CC hY kC
 replace R5 := Lib.hid R5
 go_wp2_with fail
 go_ret
 exact ⟨A5, c5, rfl, R5.out, HB⟩
set_option maxHeartbeats 2000000 in
set_option maxRecDepth 10000 in
theorem lastTerm_any (L : LgL) (A : Option Addr) (n p : Nat) (w : World) (B : Nat) (hR : RdE w B A n L.es) (hB : B ≤ w.heap.size) (hp : n ≤ p) (hf : Fit L) : Calls Try.prog 45 #[lgV L (.slice A n p)] w fun e w' => e = .returned (.int .i64 (termF L (lastF L)).1) ∧ Below w.heap.size w w' := by
 have R0 := hR.more hB
 have HF := Lib.hid hf
 have hlen := Lib.hid hR.len
 clear hR hB hf
 go_enter Try.func45, Try.ntmps45
 go_wp2_with (first | refine box_L rfl _ rfl L (.slice A n p) rfl ?_ | fail)
 intro y1 kL e1 s1
 clear s1
 have HB := e1
 replace R0 := R0.on e1 e1.size
 clear e1
 obtain ⟨la, hla⟩ : ∃ q, lastF L = q := ⟨_, rfl⟩
 replace hla := Lib.hid hla
 obtain ⟨tv, htv⟩ : ∃ q, (termF L la).1 = q := ⟨_, rfl⟩
 replace htv := Lib.hid htv
 obtain ⟨tb, htb⟩ : ∃ q, (termF L la).2 = q := ⟨_, rfl⟩
 replace htb := Lib.hid htb
 go_upto_region 1 with (first | refine lo_Lj kL ?_ | refine lo_lJj kL ?_)
 refine wp_region_held_drew (S := fun wq => Blk 36 wq w.heap.size (lgC L (.slice A n p))) (by kernel_rfl) ?s_clt1 (fun hHeld => ?_)
 case s_clt1 => exact kL
 have hD := (Below.refl y1.heap.size y1).drew
 replace HB := bt HB hD
 replace kL := kL.b hD
 replace R0 := R0.on hD hD.size
 clear hD
 generalize y1.drew = y2 at *
 refine tj 0 _ ?_ (hy := fun wq hSw => rld_L rfl rfl (id hSw))
 try simp only [Act.put, ka, kb, kc]
 refine tj 1 _ ?_ (hy := fun wq hSw => rld_L rfl rfl (id hSw))
 try simp only [Act.put, ka, kb, kc]
 refine rr [2] ?_
 refine rc (fun KQ hKQ => ?_) AllReadyH.nil
 go_simp
 have CC := enti.last_any L A n p y2 hlen.out HF.out
 rw [hla.out] at CC
 refine (CC).mono ?_
 rintro e y3 ⟨rfl, hY⟩
 replace HB := bt HB hY
 replace kL := kL.b hY
 replace R0 := R0.on hY hY.size
 clear hY
 clear CC
 go_wp2_with fail
 refine hKQ.out _ _ (kL) (fun _ => ?_)
 clear hKQ KQ
 try simp only [Act.put, ka, kb, kc]
 refine rr [3] ?_
 refine rc (fun KQ hKQ => ?_) AllReadyH.nil
 go_simp
 have CC := enti.term_any L A n p la y3 y3.heap.size R0 (Nat.le_refl _) hp HF.out
 rw [htv.out, htb.out] at CC
 refine (CC).mono ?_
 rintro e y4 ⟨rfl, hY⟩
 replace HB := bt HB hY
 replace kL := kL.b hY
 replace R0 := R0.on hY hY.size
 clear hY
 clear CC
 go_wp2_with fail
 refine hKQ.out _ _ (kL) (fun _ => ?_)
 clear hKQ KQ
 try simp only [Act.put, ka, kb, kc]
 refine tj 4 _ ?_
 try simp only [Act.put, ka, kb, kc]
 refine tj 5 _ ?_
 try simp only [Act.put, ka, kb, kc]
 refine tj 6 _ ?_
 try simp only [Act.put, ka, kb, kc]
 refine tj 7 _ ?_
 try simp only [Act.put, ka, kb, kc]
 refine tj 8 _ ?_
 try simp only [Act.put, ka, kb, kc]
 refine wpAnyH_done (by kernel_rfl) ?_ _
 go_wp2_with fail
 go_ret
 exact ⟨by rw [hla.out, htv.out]; rfl, HB⟩
end Go.Proofs.Ytegnfkbmlalkeaa.cor
