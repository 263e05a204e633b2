/- The landed core: sendAll. Conditions: those that the theorems name. -/
import Derived.Deep.RegionHeld3
import Derived.Deep.Cut
import Derived.Lib.Hide
import Derived.Test.YtegnfkbmlalkeaaGreatSvJ2
import Derived.Test.YtegnfkbmlalkeaaGreatSvCorA13
import Derived.Test.YtegnfkbmlalkeaaGreatSvJ0
import Derived.Test.YtegnfkbmlalkeaaGreatSvEntL
import Derived.Test.YtegnfkbmlalkeaaGreatSvEntK
import Derived.Test.YtegnfkbmlalkeaaGreatSvKitLg
import Derived.Test.YtegnfkbmlalkeaaGreatSvCorG13
import Derived.Test.YtegnfkbmlalkeaaGreatSvEntD
import Derived.Test.YtegnfkbmlalkeaaGreatSvConfJ
import Derived.Test.YtegnfkbmlalkeaaGreatSvJ1
namespace Go.Proofs.YtegnfkbmlalkeaaGreat.cor
open Go Go.RowKit Go.Proofs.YtegnfkbmlalkeaaGreat.kit Go.Proofs.YtegnfkbmlalkeaaGreat.nums Go.Proofs.YtegnfkbmlalkeaaGreat.cf Go.Proofs.YtegnfkbmlalkeaaGreat.lg Go.Proofs.YtegnfkbmlalkeaaGreat.cr Go.Proofs.YtegnfkbmlalkeaaGreat.se
set_option linter.unusedVariables false
set_option maxHeartbeats 2000000 in
set_option maxRecDepth 10000 in
theorem clone_any (es : List EnL) (A : Option Addr) (n p : Nat) (w : World) (B : Nat) (hR : RdE w B A n es) (hB : B ≤ w.heap.size) (hn : n ≤ 1000000) : Calls Tryz.prog 110 #[.slice A n p] w fun e w' => ∃ A' c', e = .returned (.slice A' n c') ∧ OwnE w' w.heap.size (.slice A' n c') es ∧ Below w.heap.size w w' := by
 have R0 := hR.more hB
 clear hR hB
 rcases A with _ | a
 · skip
   have h0 : n = 0 := by
     rcases Nat.eq_zero_or_pos n with h | h
     · exact h
     · obtain ⟨b, o, e, _⟩ := R0.2 h
       cases e
   subst h0
   have hes : es = [] := List.length_eq_zero_iff.1 R0.1
   subst hes
   have he := Lib.run_eql_slice_nil (P := Tryz.prog) w 28 52 none 0 p 0 0 Tryz.underlying28
   go_enter Tryz.func110, Tryz.ntmps110
   go_wp2_with fail
   go_ret
   exact ⟨none, 0, rfl, OwnE.nil _ _, Below.refl _ _⟩
 have kk : Blk 52 (w.alloc (.cells #[] 52)) w.heap.size [] := heap_alloc_new w _
 have q1 := (Below.refl w.heap.size w).alloc (Nat.le_refl _) (.cells #[] 52)
 have o0 := OwnE.empty (base := w.heap.size) kk (Nat.le_refl _)
 have RL := R0.on q1 q1.size
 clear kk
 have o0 := Lib.hid o0
 have he := Lib.run_eql_slice_nil (P := Tryz.prog) w 28 52 (some a) n p 0 0 Tryz.underlying28
 go_enter Tryz.func110, Tryz.ntmps110
 go_wp2_with (at_builtin; with_reducible refine wpList_append_E rfl (.tmp 5) (.tmp 6) rfl w.heap.size _ 0 0 [] rfl o0.out _ (some a) n p es rfl RL (by omega) q1.size ?_)
 intro A' c' y1 hO hY hG
 (try simp only [Nat.zero_add, List.nil_append] at hO)
 (try simp only [Nat.zero_add])
 go_wp2_with fail
 go_ret
 exact ⟨A', c', rfl, hO, q1.trans hY⟩
set_option maxHeartbeats 2000000 in
set_option maxRecDepth 10000 in
theorem own_any (c : CoL) (A : Option Addr) (n p : Nat) (w : World) (B : Nat) (hR : RdE w B A n c.lg.es) (hB : B ≤ w.heap.size) (hp : n ≤ p) (hn : n ≤ 1000000) : Calls Tryz.prog 57 #[crV c (.slice A n p)] w fun e w' => ∃ A' p', e = .returned (crV c (.slice A' n p')) ∧ RdE w' w'.heap.size A' n c.lg.es ∧ n ≤ p' ∧ OldNew w.heap.size A n A' n ∧ (∀ b off, A' = some ⟨b, off, none⟩ → w.heap.size ≤ b) ∧ Below w.heap.size w w' := by
 have hn2 := Lib.hid hn
 have R0 := hR.more hB
 clear hR hB
 go_enter Tryz.func57, Tryz.ntmps57
 have NIR0kC := Lib.hid (NotIn.of_rd R0 (Nat.le_refl _))
 have LEkC : Hid (w.heap.size ≤ w.heap.size) := Nat.le_refl _
 go_wp2_with (first | refine box_C rfl _ rfl c (.slice A n p) rfl ?_ | fail)
 intro y1 kC e1 s1
 clear s1
 have HB := e1
 replace R0 := R0.on e1 e1.size
 clear e1
 have LTkCkO := Lib.hid kC.lt
 have NIR0kO := Lib.hid (NotIn.of_rd R0 (Nat.le_refl _))
 have LEkO : Hid (w.heap.size ≤ y1.heap.size) := HB.size
 go_wp2_with (first | refine al_C rfl rfl ?_ | (first | refine lo_Cj kC ?_ | refine lo_cLj kC ?_ | refine lo_cJj kC ?_))
 intro y2 kO e2 s2
 clear s2
 replace kO : Blk _ _ _ (crC zC (.slice none 0 0)) := kO
 replace HB := bt HB e2
 replace kC := kC.b e2
 replace R0 := R0.on e2 e2.size
 clear e2
 generalize y1.heap.size = gkO at *
 have c21 : _ = some (Value.slice A n p) := kC.cell 21
 go_wp2_with (first | refine lo_Cj kC ?_ | refine lo_cLj kC ?_ | refine lo_cJj kC ?_ | refine lo_Cj kO ?_ | refine lo_cLj kO ?_ | refine lo_cJj kO ?_)
 clear c21
 refine (clone_any c.lg.es A n p y2 y2.heap.size R0 (Nat.le_refl _) hn2.out).mono ?_
 rintro e y3 ⟨A1, p1, rfl, hO, hY⟩
 have NIR1kC := Lib.hid (NotIn.of_own hO kC.lt)
 have NIR1kO := Lib.hid (NotIn.of_own hO kO.lt)
 have hNew : Hid (∀ b off, A1 = some ⟨b, off, none⟩ → w.heap.size ≤ b) := fun b off e => Nat.le_trans HB.size (hO.blk_lt b off e).1
 have ON12 : Hid (OldNew w.heap.size A n A1 n) := OldNew.own hO HB.size
 have R1 := hO.cap.2.2.2
 have hp1 := hO.cap.2.1
 clear hO
 replace HB := bt HB hY
 replace kC := kC.b hY
 replace kO := kO.b hY
 replace R0 := R0.on hY hY.size
 clear hY
 have n1e : Hid (n = n) := rfl
 have df := fun i => kC.frozen i
 have cR21 : _ = some _ := kC.cell 21
 go_upto_region 2 with (fail)
 clear df cR21
 have kC2 : Blk 33 _ w.heap.size (crC c (.slice A1 n p1)) := kC.set_ 21 (.slice A1 n p1)
 have pO := put_set y3 w.heap.size (21) (.slice A1 n p1)
 generalize (y3.setCell ⟨w.heap.size, 21, none⟩ (.slice A1 n p1)) = y4 at *
 replace kO := kO.put pO (Nat.ne_of_gt LTkCkO.out)
 replace R0 := R0.putS pO NIR0kC.out
 replace R1 := R1.putS pO NIR1kC.out
 replace HB := pO.below _ _ HB LEkC.out
 clear kC
 have kC := kC2
 clear kC2 pO
 go_wp2_with (first | refine st_C rfl _ _ rfl c A1 n p1 rfl rfl _ kO rfl ?_ | (first | refine lo_Cj kC ?_ | refine lo_cLj kC ?_ | refine lo_cJj kC ?_ | refine lo_Cj kO ?_ | refine lo_cLj kO ?_ | refine lo_cJj kO ?_))
 intro y5 kO2 pO
 replace kC := kC.put pO (Nat.ne_of_lt LTkCkO.out)
 replace R0 := R0.putS pO NIR0kO.out
 replace R1 := R1.putS pO NIR1kO.out
 replace HB := pO.below _ _ HB LEkO.out
 clear kO
 have kO := kO2
 clear kO2 pO
 go_wp2_with (first | refine lo_Cj kC ?_ | refine lo_cLj kC ?_ | refine lo_cJj kC ?_ | refine lo_Cj kO ?_ | refine lo_cLj kO ?_ | refine lo_cJj kO ?_)
 (try simp only [Exit.inBlock, Exit.then])
 refine bodyPost_ret (res1 Tryz.results57 rfl (aggC _) (sizeC _) (ldCv kO)) rfl ?_
 exact ⟨A1, p1, rfl, R1, hp1, ON12.out, hNew.out, HB⟩
set_option maxHeartbeats 2000000 in
set_option maxRecDepth 10000 in
theorem others_any (c : CoL) (A : Option Addr) (n p : Nat) (s : Nat) (w : World) (hs : s < 65536) (hi : 0 ≤ c.id ∧ c.id ≤ 9) : Calls Tryz.prog 120 #[crV c (.slice A n p), .int .u16 (s : Int)] w fun e w' => ∃ A' c', e = .returned (.slice A' (listF (lessF s c.id)).length c') ∧ RdV w' w'.heap.size A' (listF (lessF s c.id)).length (ref9.i64s (listF (lessF s c.id))) ∧ Below w.heap.size w w' := by
 have hid := Lib.hid hi
 have hs2 := Lib.hid hs
 clear hi hs
 go_enter Tryz.func120, Tryz.ntmps120
 go_wp2_with (first | refine box_C rfl _ rfl c (.slice A n p) rfl ?_ | fail)
 intro y1 kC e1 s1
 clear s1
 have HB := e1
 clear e1
 have c0 : _ = some (Value.int .i64 c.id) := kC.cell 0
 go_wp2_with (first | refine lo_Cj kC ?_ | refine lo_cLj kC ?_ | refine lo_cJj kC ?_)
 clear c0
 refine (seti.less_any s c.id y1 hs2.out (by have := hid.out; omega) (by have := hid.out; omega)).mono ?_
 rintro e y2 ⟨rfl, hY⟩
 replace HB := bt HB hY
 replace kC := kC.b hY
 clear hY
 go_wp2_with (first | refine lo_Cj kC ?_ | refine lo_cLj kC ?_ | refine lo_cJj kC ?_)
 have CC := seti.list_any (lessF s c.id) y2 (Nat.lt_of_le_of_lt (lessF_le s c.id) hs2.out)
 unfold ref9.IsIs at CC
 refine CC.mono ?_
 rintro e2 yz ⟨A5, c5, rfl, hO5, hY⟩
 obtain ⟨A6, c6, e6, h7, -, R5⟩ := hO5.slice
 rw [ref9.i64s_length] at e6 h7 R5
 injection e6 with e6 _ e7
 subst e6
 subst e7
 clear hO5
 replace HB := bt HB hY
 clear CC hY kC
 replace R5 := Lib.hid R5
 go_wp2_with fail
 go_ret
 exact ⟨A5, c5, rfl, R5.out, HB⟩
set_option maxHeartbeats 2000000 in
set_option maxRecDepth 10000 in
theorem lastTerm_any (L : LgL) (A : Option Addr) (n p : Nat) (w : World) (B : Nat) (hR : RdE w B A n L.es) (hB : B ≤ w.heap.size) (hp : n ≤ p) (hf : Fit L) : Calls Tryz.prog 52 #[lgV L (.slice A n p)] w fun e w' => e = .returned (.int .i64 (termF L (lastF L)).1) ∧ Below w.heap.size w w' := by
 have R0 := hR.more hB
 have HF := Lib.hid hf
 have hlen := Lib.hid hR.len
 clear hR hB hf
 go_enter Tryz.func52, Tryz.ntmps52
 go_wp2_with (first | refine box_L rfl _ rfl L (.slice A n p) rfl ?_ | fail)
 intro y1 kL e1 s1
 clear s1
 have HB := e1
 replace R0 := R0.on e1 e1.size
 clear e1
 obtain ⟨la, hla⟩ : ∃ q, lastF L = q := ⟨_, rfl⟩
 replace hla := Lib.hid hla
 obtain ⟨tv, htv⟩ : ∃ q, (termF L la).1 = q := ⟨_, rfl⟩
 replace htv := Lib.hid htv
 obtain ⟨tb, htb⟩ : ∃ q, (termF L la).2 = q := ⟨_, rfl⟩
 replace htb := Lib.hid htb
 go_upto_region 1 with (first | refine lo_Lj kL ?_ | refine lo_lJj kL ?_)
 refine wp_region_held_drew (S := fun wq => Blk 30 wq w.heap.size (lgC L (.slice A n p))) (by kernel_rfl) ?s_clt1 (fun hHeld => ?_)
 case s_clt1 => exact kL
 have hD := (Below.refl y1.heap.size y1).drew
 replace HB := bt HB hD
 replace kL := kL.b hD
 replace R0 := R0.on hD hD.size
 clear hD
 generalize y1.drew = y2 at *
 refine tj 0 _ ?_ (hy := fun wq hSw => rld_L rfl rfl (id hSw))
 try simp only [Act.put, ka, kb, kc]
 refine tj 1 _ ?_ (hy := fun wq hSw => rld_L rfl rfl (id hSw))
 try simp only [Act.put, ka, kb, kc]
 refine rr [2] ?_
 refine rc (fun KQ hKQ => ?_) AllReadyH.nil
 go_simp
 have CC := enti.last_any L A n p y2 hlen.out HF.out
 rw [hla.out] at CC
 refine (CC).mono ?_
 rintro e y3 ⟨rfl, hY⟩
 replace HB := bt HB hY
 replace kL := kL.b hY
 replace R0 := R0.on hY hY.size
 clear hY
 clear CC
 go_wp2_with fail
 refine hKQ.out _ _ (kL) (fun _ => ?_)
 clear hKQ KQ
 try simp only [Act.put, ka, kb, kc]
 refine rr [3] ?_
 refine rc (fun KQ hKQ => ?_) AllReadyH.nil
 go_simp
 have CC := enti.term_any L A n p la y3 y3.heap.size R0 (Nat.le_refl _) hp HF.out
 rw [htv.out, htb.out] at CC
 refine (CC).mono ?_
 rintro e y4 ⟨rfl, hY⟩
 replace HB := bt HB hY
 replace kL := kL.b hY
 replace R0 := R0.on hY hY.size
 clear hY
 clear CC
 go_wp2_with fail
 refine hKQ.out _ _ (kL) (fun _ => ?_)
 clear hKQ KQ
 try simp only [Act.put, ka, kb, kc]
 refine tj 4 _ ?_
 try simp only [Act.put, ka, kb, kc]
 refine tj 5 _ ?_
 try simp only [Act.put, ka, kb, kc]
 refine tj 6 _ ?_
 try simp only [Act.put, ka, kb, kc]
 refine tj 7 _ ?_
 try simp only [Act.put, ka, kb, kc]
 refine tj 8 _ ?_
 try simp only [Act.put, ka, kb, kc]
 refine wpAnyH_done (by kernel_rfl) ?_ _
 go_wp2_with fail
 go_ret
 exact ⟨by rw [hla.out, htv.out]; rfl, HB⟩
end Go.Proofs.YtegnfkbmlalkeaaGreat.cor
namespace Go.Proofs.YtegnfkbmlalkeaaGreat.cor
open Go Go.RowKit Go.Proofs.YtegnfkbmlalkeaaGreat.kit Go.Proofs.YtegnfkbmlalkeaaGreat.nums Go.Proofs.YtegnfkbmlalkeaaGreat.cf Go.Proofs.YtegnfkbmlalkeaaGreat.lg Go.Proofs.YtegnfkbmlalkeaaGreat.cr Go.Proofs.YtegnfkbmlalkeaaGreat.se
set_option linter.unusedVariables false
theorem less_listTo (s n : Nat) (h1 : 1 ≤ n) (h9 : n ≤ 9) : ∀ k, k ≤ 9 → listTo (lessF s (n : Int)) k = (listTo s k).filter (fun m => !(m == (n : Int)))
 | 0, _ => rfl
 | k + 1, hk => by
   have ih := less_listTo s n h1 h9 k (by omega)
   have hb : (lessF s (n : Int)).testBit (k + 1) = (s.testBit (k + 1) && !decide (k + 1 = n)) := by
     unfold lessF
     rw [hasF_node h1 h9, bitF_node h1 h9]
     split
     · rename_i hs
       rw [less_bit hs]
       by_cases e : k + 1 = n <;> simp [e]
     · rename_i hs
       by_cases e : k + 1 = n
       · rw [e, Bool.eq_false_iff.2 hs]; rfl
       · simp [e]
   show (if (lessF s (n : Int)).testBit (k + 1) then listTo (lessF s (n : Int)) k ++ [((k + 1 : Nat) : Int)] else listTo (lessF s (n : Int)) k) = (if s.testBit (k + 1) then listTo s k ++ [((k + 1 : Nat) : Int)] else listTo s k).filter _
   rw [hb, ih]
   by_cases hs : s.testBit (k + 1) = true
   · by_cases e : k + 1 = n
     · rw [hs, e]; simp
     · rw [hs, decide_eq_false e, if_pos (by rfl), if_pos (by rfl), List.filter_append]
       rw [List.filter_cons_of_pos (by simp; omega), List.filter_nil]
   · rw [Bool.eq_false_iff.2 hs]; simp
theorem less_list {s n : Nat} (h1 : 1 ≤ n) (h9 : n ≤ 9) : listF (lessF s (n : Int)) = (listF s).filter (fun m => !(m == (n : Int))) := less_listTo s n h1 h9 9 (by omega)
theorem less_listI {s : Nat} {n : Int} (h : 1 ≤ n ∧ n ≤ 9) : listF (lessF s n) = (listF s).filter (fun m => !(m == n)) := by
 obtain ⟨k, rfl⟩ : ∃ k : Nat, n = (k : Int) := ⟨n.toNat, by omega⟩
 exact less_list (by omega) (by omega)
def sdT (c : CoL) (l : List Int) (k : Nat) : List MsL := (l.take k).map (sendF c)
theorem sdT_next {c : CoL} {l : List Int} {k : Nat} {n : Int} (h : l[k]? = some n) : sdT c l (k + 1) = sdT c l k ++ [sendF c n] := by
 unfold sdT; rw [ref9.take_get h, List.map_append]; rfl
theorem sdT_len {c : CoL} {l : List Int} {k : Nat} (h : k ≤ l.length) : (sdT c l k).length = k := by
 unfold sdT; rw [List.length_map, List.length_take]; omega
set_option maxHeartbeats 2000000 in
set_option maxRecDepth 10000 in
theorem sendAll_any (c : CoL) (A : Option Addr) (n p : Nat) (w : World) (B : Nat) (hR : RdE w B A n c.lg.es) (hB : B ≤ w.heap.size) (hp : n ≤ p) (hf : Fit c.lg) (hi : 1 ≤ c.id ∧ c.id ≤ 9) (hj : (conC c).ok) (hx : ∀ j : Nat, 1 ≤ (j : Int) → (j : Int) ≤ 9 → 0 ≤ c.nx j ∧ c.nx j ≤ 2199023255552) : Calls Tryz.prog 91 #[crV c (.slice A n p)] w fun e w' => ∃ A' n' c' B', e = .returned (.slice A' n' c') ∧ OutL w' B' (.slice A' n' c') (allF c) ∧ w.heap.size ≤ B' ∧ B' ≤ w'.heap.size ∧ Below w.heap.size w w' := by
 have HF := Lib.hid hf
 have HJ := Lib.hid hj
 have HX := Lib.hid hx
 have hid := Lib.hid hi
 have hmem := Lib.hid (un_lt (mem_lt hj.1) (mem_lt hj.2))
 have hAl : Hid (allF c = (listF (lessF (unF (conC c) memF) c.id)).map (sendF c)) := by show _ = _; rw [less_listI hi]; rfl
 have HL := Lib.hid (fun z (hz : z ∈ listF (lessF (unF (conC c) memF) c.id)) => ref9.list_node hz)
 have hl9 := ref9.list_len (lessF (unF (conC c) memF) c.id)
 obtain ⟨l, hl⟩ : ∃ q, listF (lessF (unF (conC c) memF) c.id) = q := ⟨_, rfl⟩
 rw [hl] at hAl HL hl9
 obtain ⟨N, hN⟩ : ∃ q, l.length = q := ⟨_, rfl⟩
 rw [hN] at hl9
 have hAl2 : Hid (allF c = sdT c l N) := by show _ = _; unfold sdT; rw [hAl.out, ← hN, List.take_length]
 rw [hAl2.out]
 clear hAl hAl2 hf hj hx hi
 replace hl := Lib.hid hl
 replace hN := Lib.hid hN
 have R0 := hR.more hB
 clear hR hB
 go_enter Tryz.func91, Tryz.ntmps91
 go_wp2_with (first | refine box_C rfl _ rfl c (.slice A n p) rfl ?_ | fail)
 intro y1 kC e1 s1
 clear s1
 have HB := e1
 replace R0 := R0.on e1 e1.size
 clear e1
 go_upto_region 2 with (first | refine lo_Cj kC ?_ | refine lo_cLj kC ?_ | refine lo_cJj kC ?_)
 refine wp_region_held_drew (S := fun wq => Blk 33 wq w.heap.size (crC c (.slice A n p))) (by kernel_rfl) ?s_sal2 (fun hHeld => ?_)
 case s_sal2 => exact kC
 have hD := (Below.refl y1.heap.size y1).drew
 replace HB := bt HB hD
 replace kC := kC.b hD
 replace R0 := R0.on hD hD.size
 clear hD
 generalize y1.drew = y2 at *
 refine tj 0 _ ?_ (hy := fun wq hSw => rld_C rfl rfl (id hSw))
 try simp only [Act.put, ka, kb, kc]
 refine tj 1 _ ?_
 try simp only [Act.put, ka, kb, kc]
 refine tj 2 _ ?_ (hy := fun wq hSw => rld_cL rfl rfl (id hSw))
 try simp only [Act.put, ka, kb, kc]
 refine tj 7 _ ?_
 try simp only [Act.put, ka, kb, kc]
 refine rr [3] ?_
 refine rc (fun KQ hKQ => ?_) AllReadyH.nil
 go_simp
 have CC := enti.conf_any c.lg A n p y2 y2.heap.size R0 (Nat.le_refl _) hp HF.out
 refine (CC).mono ?_
 rintro e y3 ⟨rfl, hY⟩
 replace HB := bt HB hY
 replace kC := kC.b hY
 replace R0 := R0.on hY hY.size
 clear hY
 clear CC
 go_wp2_with fail
 refine hKQ.out _ _ (kC) (fun _ => ?_)
 clear hKQ KQ
 try simp only [Act.put, ka, kb, kc]
 refine rr [4] ?_
 refine rc (fun KQ hKQ => ?_) AllReadyH.nil
 go_simp
 have CC := confi.membersJ_any (conC c) y3 HJ.out
 refine (CC).mono ?_
 rintro e y4 ⟨rfl, hY⟩
 replace HB := bt HB hY
 replace kC := kC.b hY
 replace R0 := R0.on hY hY.size
 clear hY
 clear CC
 go_wp2_with fail
 refine hKQ.out _ _ (kC) (fun _ => ?_)
 clear hKQ KQ
 try simp only [Act.put, ka, kb, kc]
 refine rr [5] ?_
 refine rc (fun KQ hKQ => ?_) AllReadyH.nil
 go_simp
 have CC := others_any c A n p (unF (conC c) memF) y4 hmem.out (by have := hid.out; omega)
 rw [hl.out, hN.out] at CC
 refine CC.mono ?_
 rintro e y5 ⟨A5, c5, rfl, hR5, hY⟩
 clear CC
 replace HB := bt HB hY
 replace kC := kC.b hY
 replace R0 := R0.on hY hY.size
 clear hY
 replace hR5 := Lib.hid hR5
 go_wp2_with fail
 refine hKQ.out _ _ (kC) (fun _ => ?_)
 clear hKQ KQ
 try simp only [Act.put, ka, kb, kc]
 refine tj 6 _ ?_
 try simp only [Act.put, ka, kb, kc]
 refine wpAnyH_done (by kernel_rfl) ?_ _
 have BkC := Lib.hid kC
 clear kC
 have BR0 := Lib.hid R0
 clear R0
 have BH := Lib.hid HB
 clear HB
 have BY := hR5
 clear hR5
 go_wp2_with fail
 go_loopw [3, 13] (fun sv iv wr => ∃ (k : Nat) (A6 : Option Addr) (c6 : Nat), k ≤ N ∧ sv = .slice A6 k c6 ∧ iv = .int .i64 (k : Int) ∧ Hid (Below y5.heap.size y5 wr) ∧ Hid (OutL wr y5.heap.size (.slice A6 k c6) (sdT c l k))) (fun _ iv _ => N - (intOf iv).toNat)
 case atStart => exact ⟨0, none, 0, by omega, rfl, rfl, Lib.hid (Below.refl _ _), Lib.hid (OutL.nil _ _)⟩
 case round =>
   obtain ⟨k, A6, c6, hk, rfl, rfl, HY, HO⟩ := hrel
   by_cases hkN : k < N
   · skip
     have kC := BkC.out.below HY.out BkC.out.lt
     have R0 := BR0.out.on HY.out HY.out.size
     have HB := HY.out
     have ck : (k : Int) < (N : Int) := by omega
     have c0k : (0 : Int) ≤ (k : Int) := by omega
     have wk : IntKind.i64.wrap ((k : Int) + 1) = ((k + 1 : Nat) : Int) := by rw [wrap_sm (by omega) (by omega)]; omega
     have hR5 := BY.out.below HY.out
     obtain ⟨pl, ol, z, hA5, hz, cz⟩ := ref9.rdv_at hR5 k hkN
     subst hA5
     have hz9 := HL.out z (List.mem_of_getElem? hz)
     obtain ⟨j, rfl⟩ : ∃ j : Nat, z = (j : Int) := ⟨z.toNat, by omega⟩
     have hj9 : Hid (j < 10) := by show _ < _; omega
     have hlk : Hid ((sdT c l k).length = k) := sdT_len (by rw [hN.out]; omega)
     replace hz := Lib.hid hz
     replace hz9 := Lib.hid hz9
     clear hR5
     have hO := HO.out
     clear HO
     go_wp2_with (first | refine lo_Cj kC ?_ | refine lo_cLj kC ?_ | refine lo_cJj kC ?_)
     clear cz
     refine (send_any c A n p j wr wr.heap.size R0 (Nat.le_refl _) hp HF.out hj9.out (HX.out j hz9.out.1 hz9.out.2)).mono ?_
     rintro e y51 ⟨A7, n7, p7, rfl, hE7, hY⟩
     replace hE7 := Lib.hid (hE7.more HB.size)
     replace HB := bt HB hY
     replace kC := kC.b hY
     replace R0 := R0.on hY hY.size
     replace hO := hO.below hY
     clear hY
     go_wp2_with (first | refine kit.bs_M rfl _ rfl (sendF c (j : Int)) A7 n7 p7 rfl ?_ | (first | refine lo_Cj kC ?_ | refine lo_cLj kC ?_ | refine lo_cJj kC ?_))
     intro y52 kB hX
     replace hE7 := Lib.hid (hE7.out.below hX)
     replace HB := bt HB hX
     replace kC := kC.b hX
     replace R0 := R0.on hX hX.size
     replace hO := hO.below hX
     clear hX
     go_wp2_with (at_builtin; refine kit.app_M rfl (.tmp 17) (.tmp 21) rfl y5.heap.size A6 k c6 _ rfl y51.heap.size rfl hlk.out hO (sendF c (j : Int)) A7 n7 p7 kB hE7.out (by omega) HB.size ?_)
     intro A8 c8 y53 hO2 hB2
     have HB2 := Lib.hid (HB.trans hB2)
     have hO3 := Lib.hid hO2
     clear hO hO2 hB2 HB kB kC R0
     go_wp2_with fail
     go_roundw
     case rel => exact ⟨k + 1, A8, c8, by omega, rfl, rfl, HB2, Lib.hid (by rw [sdT_next hz.out]; exact hO3.out)⟩
     case measure => simp only [intOf]; omega
   · skip
     have kC := BkC.out.below HY.out BkC.out.lt
     have R0 := BR0.out.on HY.out HY.out.size
     have HB := HY.out
     obtain rfl : k = N := by omega
     have ck : ¬ ((k : Int) < (k : Int)) := by omega
     go_wp2_with fail
     go_ret
     exact ⟨A6, k, c6, rfl, y5.heap.size, HO.out, BH.out.size, HB.size, BH.out.trans (HB.mono BH.out.size)⟩
end Go.Proofs.YtegnfkbmlalkeaaGreat.cor
