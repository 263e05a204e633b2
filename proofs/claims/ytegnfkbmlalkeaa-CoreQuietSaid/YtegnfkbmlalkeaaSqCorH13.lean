/- The landed core: sendAll. Conditions: those that the theorems name. -/
import Derived.Deep.RegionHeld3
import Derived.Deep.Cut
import Derived.Lib.Hide
import Derived.Test.YtegnfkbmlalkeaaSqKitCl
import Derived.Test.YtegnfkbmlalkeaaSqCorB13
import Derived.Test.YtegnfkbmlalkeaaSqCorG13
import Derived.Test.YtegnfkbmlalkeaaSqEntD
import Derived.Test.YtegnfkbmlalkeaaSqConfJ
import Derived.Test.YtegnfkbmlalkeaaSqJ1
import Derived.Test.YtegnfkbmlalkeaaSqJ0
import Derived.Test.YtegnfkbmlalkeaaSqKitLg
namespace Go.Proofs.Ytegnfkbmlalkeaa.cor
open Go Go.RowKit Go.Proofs.Ytegnfkbmlalkeaa.kit Go.Proofs.Ytegnfkbmlalkeaa.nums Go.Proofs.Ytegnfkbmlalkeaa.cf Go.Proofs.Ytegnfkbmlalkeaa.lg Go.Proofs.Ytegnfkbmlalkeaa.cr Go.Proofs.Ytegnfkbmlalkeaa.se
set_option linter.unusedVariables false
theorem less_listTo (s n : Nat) (h1 : 1 ≤ n) (h9 : n ≤ 9) : ∀ k, k ≤ 9 → listTo (lessF s (n : Int)) k = (listTo s k).filter (fun m => !(m == (n : Int)))
 | 0, _ => rfl
 | k + 1, hk => by
   have ih := less_listTo s n h1 h9 k (by omega)
   have hb : (lessF s (n : Int)).testBit (k + 1) = (s.testBit (k + 1) && !decide (k + 1 = n)) := by
     unfold lessF
     rw [hasF_node h1 h9, bitF_node h1 h9]
     split
     · rename_i hs
       rw [less_bit hs]
       by_cases e : k + 1 = n <;> simp [e]
     · rename_i hs
       by_cases e : k + 1 = n
       · rw [e, Bool.eq_false_iff.2 hs]; rfl
       · simp [e]
   show (if (lessF s (n : Int)).testBit (k + 1) then listTo (lessF s (n : Int)) k ++ [((k + 1 : Nat) : Int)] else listTo (lessF s (n : Int)) k) = (if s.testBit (k + 1) then listTo s k ++ [((k + 1 : Nat) : Int)] else listTo s k).filter _
   rw [hb, ih]
   by_cases hs : s.testBit (k + 1) = true
   · by_cases e : k + 1 = n
     · rw [hs, e]; simp
     · rw [hs, decide_eq_false e, if_pos (by rfl), if_pos (by rfl), List.filter_append]
       rw [List.filter_cons_of_pos (by simp; omega), List.filter_nil]
   · rw [Bool.eq_false_iff.2 hs]; simp
theorem less_list {s n : Nat} (h1 : 1 ≤ n) (h9 : n ≤ 9) : listF (lessF s (n : Int)) = (listF s).filter (fun m => !(m == (n : Int))) := less_listTo s n h1 h9 9 (by omega)
theorem less_listI {s : Nat} {n : Int} (h : 1 ≤ n ∧ n ≤ 9) : listF (lessF s n) = (listF s).filter (fun m => !(m == n)) := by
 obtain ⟨k, rfl⟩ : ∃ k : Nat, n = (k : Int) := ⟨n.toNat, by omega⟩
 exact less_list (by omega) (by omega)
def sdT (c : CoL) (l : List Int) (k : Nat) : List MsL := (l.take k).map (sendF c)
theorem sdT_next {c : CoL} {l : List Int} {k : Nat} {n : Int} (h : l[k]? = some n) : sdT c l (k + 1) = sdT c l k ++ [sendF c n] := by
 unfold sdT; rw [ref9.take_get h, List.map_append]; rfl
theorem sdT_len {c : CoL} {l : List Int} {k : Nat} (h : k ≤ l.length) : (sdT c l k).length = k := by
 unfold sdT; rw [List.length_map, List.length_take]; omega
set_option maxHeartbeats 2000000 in
set_option maxRecDepth 10000 in
theorem sendAll_any (c : CoL) (A : Option Addr) (n p : Nat) (w : World) (B : Nat) (hR : RdE w B A n c.lg.es) (hB : B ≤ w.heap.size) (hp : n ≤ p) (hf : Fit c.lg) (hi : 1 ≤ c.id ∧ c.id ≤ 9) (hj : (conC c).ok) (hx : ∀ j : Nat, 1 ≤ (j : Int) → (j : Int) ≤ 9 → 0 ≤ c.nx j ∧ c.nx j ≤ 2199023255552) : Calls Try.prog 31 #[crV c (.slice A n p)] w fun e w' => ∃ A' n' c' B', e = .returned (.slice A' n' c') ∧ OutL w' B' (.slice A' n' c') (allF c) ∧ w.heap.size ≤ B' ∧ B' ≤ w'.heap.size ∧ Below w.heap.size w w' := by
 have HF := Lib.hid hf
 have HJ := Lib.hid hj
 have HX := Lib.hid hx
 have hid := Lib.hid hi
 have hmem := Lib.hid (un_lt (mem_lt hj.1) (mem_lt hj.2))
 have hAl : Hid (allF c = (listF (lessF (unF (conC c) memF) c.id)).map (sendF c)) := by show _ = _; rw [less_listI hi]; rfl
 have HL := Lib.hid (fun z (hz : z ∈ listF (lessF (unF (conC c) memF) c.id)) => ref9.list_node hz)
 have hl9 := ref9.list_len (lessF (unF (conC c) memF) c.id)
 obtain ⟨l, hl⟩ : ∃ q, listF (lessF (unF (conC c) memF) c.id) = q := ⟨_, rfl⟩
 rw [hl] at hAl HL hl9
 obtain ⟨N, hN⟩ : ∃ q, l.length = q := ⟨_, rfl⟩
 rw [hN] at hl9
 have hAl2 : Hid (allF c = sdT c l N) := by show _ = _; unfold sdT; rw [hAl.out, ← hN, List.take_length]
 rw [hAl2.out]
 clear hAl hAl2 hf hj hx hi
 replace hl := Lib.hid hl
 replace hN := Lib.hid hN
 have R0 := hR.more hB
 clear hR hB
 go_enter Try.func31, Try.ntmps31
 go_wp2_with (first | refine box_C rfl _ rfl c (.slice A n p) rfl ?_ | fail)
 intro y1 kC e1 s1
 clear s1
 have HB := e1
 replace R0 := R0.on e1 e1.size
 clear e1
 go_upto_region 2 with (first | refine lo_Cj kC ?_ | refine lo_cLj kC ?_ | refine lo_cJj kC ?_)
 refine wp_region_held_drew (S := fun wq => Blk 39 wq w.heap.size (crC c (.slice A n p))) (by kernel_rfl) ?s_sal2 (fun hHeld => ?_)
 case s_sal2 => exact kC
 have hD := (Below.refl y1.heap.size y1).drew
 replace HB := bt HB hD
 replace kC := kC.b hD
 replace R0 := R0.on hD hD.size
 clear hD
 generalize y1.drew = y2 at *
 refine tj 0 _ ?_ (hy := fun wq hSw => rld_C rfl rfl (id hSw))
 try simp only [Act.put, ka, kb, kc]
 refine tj 1 _ ?_
 try simp only [Act.put, ka, kb, kc]
 refine tj 2 _ ?_ (hy := fun wq hSw => rld_cL rfl rfl (id hSw))
 try simp only [Act.put, ka, kb, kc]
 refine tj 7 _ ?_
 try simp only [Act.put, ka, kb, kc]
 refine rr [3] ?_
 refine rc (fun KQ hKQ => ?_) AllReadyH.nil
 go_simp
 have CC := enti.conf_any c.lg A n p y2 y2.heap.size R0 (Nat.le_refl _) hp HF.out
 refine (CC).mono ?_
 rintro e y3 ⟨rfl, hY⟩
 replace HB := bt HB hY
 replace kC := kC.b hY
 replace R0 := R0.on hY hY.size
 clear hY
 clear CC
 go_wp2_with fail
 refine hKQ.out _ _ (kC) (fun _ => ?_)
 clear hKQ KQ
 try simp only [Act.put, ka, kb, kc]
 refine rr [4] ?_
 refine rc (fun KQ hKQ => ?_) AllReadyH.nil
 go_simp
 have CC := confi.membersJ_any (conC c) y3 HJ.out
 refine (CC).mono ?_
 rintro e y4 ⟨rfl, hY⟩
 replace HB := bt HB hY
 replace kC := kC.b hY
 replace R0 := R0.on hY hY.size
 clear hY
 clear CC
 go_wp2_with fail
 refine hKQ.out _ _ (kC) (fun _ => ?_)
 clear hKQ KQ
 try simp only [Act.put, ka, kb, kc]
 refine rr [5] ?_
 refine rc (fun KQ hKQ => ?_) AllReadyH.nil
 go_simp
 have CC := others_any c A n p (unF (conC c) memF) y4 hmem.out (by have := hid.out; omega)
 rw [hl.out, hN.out] at CC
 refine CC.mono ?_
 rintro e y5 ⟨A5, c5, rfl, hR5, hY⟩
 clear CC
 replace HB := bt HB hY
 replace kC := kC.b hY
 replace R0 := R0.on hY hY.size
 clear hY
 replace hR5 := Lib.hid hR5
 go_wp2_with fail
 refine hKQ.out _ _ (kC) (fun _ => ?_)
 clear hKQ KQ
 try simp only [Act.put, ka, kb, kc]
 refine tj 6 _ ?_
 try simp only [Act.put, ka, kb, kc]
 refine wpAnyH_done (by kernel_rfl) ?_ _
 have BkC := Lib.hid kC
 clear kC
 have BR0 := Lib.hid R0
 clear R0
 have BH := Lib.hid HB
 clear HB
 have BY := hR5
 clear hR5
 go_wp2_with fail
 go_loopw [3, 13] (fun sv iv wr => ∃ (k : Nat) (A6 : Option Addr) (c6 : Nat), k ≤ N ∧ sv = .slice A6 k c6 ∧ iv = .int .i64 (k : Int) ∧ Hid (Below y5.heap.size y5 wr) ∧ Hid (OutL wr y5.heap.size (.slice A6 k c6) (sdT c l k))) (fun _ iv _ => N - (intOf iv).toNat)
 case atStart => exact ⟨0, none, 0, by omega, rfl, rfl, Lib.hid (Below.refl _ _), Lib.hid (OutL.nil _ _)⟩
 case round =>
   obtain ⟨k, A6, c6, hk, rfl, rfl, HY, HO⟩ := hrel
   by_cases hkN : k < N
   · skip
     have kC := BkC.out.below HY.out BkC.out.lt
     have R0 := BR0.out.on HY.out HY.out.size
     have HB := HY.out
     have ck : (k : Int) < (N : Int) := by omega
     have c0k : (0 : Int) ≤ (k : Int) := by omega
     have wk : IntKind.i64.wrap ((k : Int) + 1) = ((k + 1 : Nat) : Int) := by rw [wrap_sm (by omega) (by omega)]; omega
     have hR5 := BY.out.below HY.out
     obtain ⟨pl, ol, z, hA5, hz, cz⟩ := ref9.rdv_at hR5 k hkN
     subst hA5
     have hz9 := HL.out z (List.mem_of_getElem? hz)
     obtain ⟨j, rfl⟩ : ∃ j : Nat, z = (j : Int) := ⟨z.toNat, by omega⟩
     have hj9 : Hid (j < 10) := by show _ < _; omega
     have hlk : Hid ((sdT c l k).length = k) := sdT_len (by rw [hN.out]; omega)
     replace hz := Lib.hid hz
     replace hz9 := Lib.hid hz9
     clear hR5
     have hO := HO.out
     clear HO
     go_wp2_with (first | refine lo_Cj kC ?_ | refine lo_cLj kC ?_ | refine lo_cJj kC ?_)
     clear cz
     refine (send_any c A n p j wr wr.heap.size R0 (Nat.le_refl _) hp HF.out hj9.out (HX.out j hz9.out.1 hz9.out.2)).mono ?_
     rintro e y51 ⟨A7, n7, p7, rfl, hE7, hY⟩
     replace hE7 := Lib.hid (hE7.more HB.size)
     replace HB := bt HB hY
     replace kC := kC.b hY
     replace R0 := R0.on hY hY.size
     replace hO := hO.below hY
     clear hY
     go_wp2_with (first | refine kit.bs_M rfl _ rfl (sendF c (j : Int)) A7 n7 p7 rfl ?_ | (first | refine lo_Cj kC ?_ | refine lo_cLj kC ?_ | refine lo_cJj kC ?_))
     intro y52 kB hX
     replace hE7 := Lib.hid (hE7.out.below hX)
     replace HB := bt HB hX
     replace kC := kC.b hX
     replace R0 := R0.on hX hX.size
     replace hO := hO.below hX
     clear hX
     go_wp2_with (at_builtin; refine kit.app_M rfl (.tmp 17) (.tmp 21) rfl y5.heap.size A6 k c6 _ rfl y51.heap.size rfl hlk.out hO (sendF c (j : Int)) A7 n7 p7 kB hE7.out (by omega) HB.size ?_)
     intro A8 c8 y53 hO2 hB2
     have HB2 := Lib.hid (HB.trans hB2)
     have hO3 := Lib.hid hO2
     clear hO hO2 hB2 HB kB kC R0
     go_wp2_with fail
     go_roundw
     case rel => exact ⟨k + 1, A8, c8, by omega, rfl, rfl, HB2, Lib.hid (by rw [sdT_next hz.out]; exact hO3.out)⟩
     case measure => simp only [intOf]; omega
   · skip
     have kC := BkC.out.below HY.out BkC.out.lt
     have R0 := BR0.out.on HY.out HY.out.size
     have HB := HY.out
     obtain rfl : k = N := by omega
     have ck : ¬ ((k : Int) < (k : Int)) := by omega
     go_wp2_with fail
     go_ret
     exact ⟨A6, k, c6, rfl, y5.heap.size, HO.out, BH.out.size, HB.size, BH.out.trans (HB.mono BH.out.size)⟩
end Go.Proofs.Ytegnfkbmlalkeaa.cor
