/- The landed core: May, by what fails first. Conditions: those that the theorems name. -/
import Derived.Deep.RegionHeld3
import Derived.Deep.Cut
import Derived.Lib.Hide
import Derived.Test.YtegnfkbmlalkeaaGreatStKitCl
import Derived.Test.YtegnfkbmlalkeaaGreatStJ4
import Derived.Test.YtegnfkbmlalkeaaGreatStRefI13
import Derived.Test.YtegnfkbmlalkeaaGreatStKitLg
import Derived.Test.YtegnfkbmlalkeaaGreatStJ0
import Derived.Test.YtegnfkbmlalkeaaGreatStCorG13
import Derived.Test.YtegnfkbmlalkeaaGreatStEntD
import Derived.Test.YtegnfkbmlalkeaaGreatStConfJ
import Derived.Test.YtegnfkbmlalkeaaGreatStRef10c
import Derived.Test.YtegnfkbmlalkeaaGreatStCorMb13
set_option linter.unusedVariables false
set_option maxHeartbeats 16000000
set_option maxRecDepth 10000
namespace Go.Proofs.YtegnfkbmlalkeaaGreat.cor
open Go Go.RowKit kit nums cf lg cr se
theorem committed_any (c : CoL) (A : Option Addr) (n p : Nat) (j : JtL) (w : World) (B : Nat) (hR : RdE w B A n c.lg.es) (hB : B ≤ w.heap.size) (hp : n ≤ p) (hf : Fit c.lg) (hk : c.lg.b ≤ c.cm ∧ c.cm ≤ lastF c.lg) (hc : conC c = j) (hj : j.ok) : Calls Tryz.prog 141 #[crV c (.slice A n p), jV j] w fun e w' => e = .returned (.int .i64 (seekF (cmtP c) c.cm (lastF c.lg - c.cm).toNat)) ∧ Below w.heap.size w w' := by
 have HF := Lh hf
 have hlen := Lh hR.len
 have HJ := Lh hj
 have hco := Lh hc
 obtain ⟨cm, hcm⟩ : ∃ q, c.cm = q := ⟨_, rfl⟩
 obtain ⟨la, hla⟩ : ∃ q, lastF c.lg = q := ⟨_, rfl⟩
 obtain ⟨b, hb0⟩ : ∃ q, c.lg.b = q := ⟨_, rfl⟩
 obtain ⟨tm, htm⟩ : ∃ q, c.tm = q := ⟨_, rfl⟩
 rw [hb0, hcm, hla] at hk
 have hb1 : 0 ≤ b ∧ la ≤ 2199024255552 := by rw [← hb0, ← hla]; have h1 := hf.1; have h2 := hf.2.1; have h3 := hf.2.2; refine ⟨h1, ?_⟩; unfold lastF; omega
 rw [hla, hcm]
 obtain ⟨P, hP⟩ : ∃ q : Int → Bool, cmtP c = q := ⟨_, rfl⟩
 have hPx : Hid (∀ i, P i = (decide ((termF c.lg i).1 = tm) && coJ j (hasC c i))) := fun i => by rw [← hP]; unfold cmtP; rw [hc, ← htm]
 rw [hP]
 clear hP hf hj hc
 have hmx : max cm b = cm := by omega
 have hmi : (if cm < b then b else cm) = cm := by split <;> omega
 replace hcm := Lh hcm
 replace hla := Lh hla
 replace hb0 := Lh hb0
 replace htm := Lh htm
 replace hk := Lh hk
 replace hb1 := Lh hb1
 have R0 := hR.more hB
 clear hR hB
 go_enter Tryz.func141, Tryz.ntmps141
 go_wp2_with (first | refine box_C rfl _ rfl c (.slice A n p) rfl ?_ | fail)
 intro y1 kC e1 s1
 clear s1
 have HB := e1
 replace R0 := R0.on e1 e1.size
 clear e1
 go_wp2_with (first | refine box_J rfl _ rfl j rfl ?_ | (first | refine lo_Cj kC ?_ | refine lo_cLj kC ?_ | refine lo_cJj kC ?_))
 intro y2 kJ e2 s2
 clear s2
 replace HB := bt HB e2
 replace kC := kC.b e2
 replace R0 := R0.on e2 e2.size
 clear e2
 generalize y1.heap.size = gkJ at *
 go_wp2_with (first | refine lo_Cj kC ?_ | refine lo_cLj kC ?_ | refine lo_cJj kC ?_ | refine lo_Jj kJ ?_)
 have CC := enti.last_any c.lg A n p y2 hlen.out HF.out
 rw [hla.out] at CC
 refine (CC).mono ?_
 rintro e y3 ⟨rfl, hY⟩
 replace HB := bt HB hY
 replace kC := kC.b hY
 replace kJ := kJ.b hY
 replace R0 := R0.on hY hY.size
 clear hY
 clear CC
 have BkC := Lh kC
 clear kC
 have BkJ := Lh kJ
 clear kJ
 have BR0 := Lh R0
 clear R0
 have BH := Lh HB
 clear HB
 have ccm : y3.cell? ⟨w.heap.size, 6, none⟩ = some (.int .i64 cm) := by rw [← hcm.out]; exact BkC.out.cell 6
 have cb : y3.cell? ⟨w.heap.size, 8, none⟩ = some (.int .i64 b) := by rw [← hb0.out]; exact BkC.out.cell 8
 go_wp2_with fail
 go_loopw [5] (fun iv wr => ∃ i : Int, cm ≤ i ∧ i ≤ la ∧ iv = .int .i64 i ∧ Hid (Below y3.heap.size y3 wr) ∧ Hid (seekF P cm (la - cm).toNat = seekF P cm (i - cm).toNat)) (fun iv _ => (intOf iv - cm).toNat)
 case atStart => exact ⟨la, hk.out.2, by omega, rfl, Lh (Below.refl _ _), Lh rfl⟩
 case round =>
  obtain ⟨i, hi1, hi2, rfl, HY, HS⟩ := hrel
  clear ccm cb
  by_cases hgt : cm < i
  ·
   have kC := BkC.out.below HY.out BkC.out.lt
   have kJ := BkJ.out.below HY.out BkJ.out.lt
   have R0 := BR0.out.on HY.out HY.out.size
   have HB := HY.out
   obtain ⟨k, hk1⟩ : ∃ k : Nat, i = cm + ((k + 1 : Nat) : Int) := ⟨(i - cm - 1).toNat, by omega⟩
   have HS2 : Hid (seekF P cm (la - cm).toNat = seekF P cm (k + 1)) := by show _ = _; rw [HS.out, hk1]; congr 1; omega
   clear HS
   have hi64 := Lh (show -1 ≤ i ∧ i ≤ 2199024255552 from ⟨by have := hb1.out; have := hk.out; omega, by have := hb1.out; omega⟩)
   replace hk1 := Lh hk1
   have hig : i > cm := hgt
   have wi : IntKind.i64.wrap (i - 1) = i - 1 := by have := hi64.out; rw [wrap_sm (by omega) (by omega)]
   have ccm : wr.cell? ⟨w.heap.size, 6, none⟩ = some (.int .i64 cm) := by rw [← hcm.out]; exact kC.cell 6
   have cb : wr.cell? ⟨w.heap.size, 8, none⟩ = some (.int .i64 b) := by rw [← hb0.out]; exact kC.cell 8
   go_wp2_with (first | refine lo_Cj kC ?_ | refine lo_cLj kC ?_ | refine lo_cJj kC ?_ | refine lo_Jj kJ ?_)
   obtain ⟨tv, htv⟩ : ∃ q, (termF c.lg i).1 = q := ⟨_, rfl⟩
   obtain ⟨tb, htb⟩ : ∃ q, (termF c.lg i).2 = q := ⟨_, rfl⟩
   have CC := enti.term_any c.lg A n p i wr wr.heap.size R0 (Nat.le_refl _) hp HF.out
   rw [htv, htb] at CC
   replace htv := Lh htv
   clear htb
   refine (CC).mono ?_
   rintro e y51 ⟨rfl, hY⟩
   replace HB := bt HB hY
   replace kC := kC.b hY
   replace kJ := kJ.b hY
   replace R0 := R0.on hY hY.size
   clear hY
   clear CC ccm cb
   by_cases he : tv = tm
   ·
    have hbe : (tv == tm) = true := by simp [he]
    replace he := Lh he
    go_upto_region 5 with (first | refine lo_Cj kC ?_ | refine lo_cLj kC ?_ | refine lo_cJj kC ?_ | refine lo_Jj kJ ?_)
    obtain ⟨co, hcoz⟩ : ∃ q, coJ j (hasC c i) = q := ⟨_, rfl⟩
    replace hcoz := Lh hcoz
    have hPi : Hid (P i = co) := by show _ = _; rw [hPx.out, htv.out, he.out, hcoz.out, decide_eq_true rfl, Bool.true_and]
    refine wp_region_held_drew (S := fun wq => Blk 33 wq w.heap.size (crC c (.slice A n p)) ∧ Blk 27 wq gkJ (jC j) ∧ wq.cell? ⟨w.heap.size, 2, none⟩ = some (.int .i64 tm)) (by kernel_rfl) ?s_cmt5a (fun hHeld => ?_)
    case s_cmt5a => exact ⟨kC, kJ, by rw [← htm.out]; exact kC.cell 2⟩
    have hD := (Below.refl y51.heap.size y51).drew
    replace HB := bt HB hD
    replace kC := kC.b hD
    replace kJ := kJ.b hD
    replace R0 := R0.on hD hD.size
    clear hD
    generalize y51.drew = y52 at *
    iterate 5 (refine tx 0 _ ?_; try simp only [Act.put, ka, kb, kc])
    refine tj 5 _ ?_ (hy := fun wq hSw => rld_J rfl rfl (And.left <| And.right hSw))
    try simp only [Act.put, ka, kb, kc]
    refine tj 6 _ ?_ (hy := fun wq hSw => rld_C rfl rfl (And.left hSw))
    try simp only [Act.put, ka, kb, kc]
    refine tj 7 _ ?_
    try simp only [Act.put, ka, kb, kc]
    refine rr [8] ?_
    refine rc (fun KQ hKQ => ?_) AllReadyH.nil
    go_simp
    have CC := holders_any c A n p i y52
    refine (CC).mono ?_
    rintro e y53 ⟨rfl, hY⟩
    replace HB := bt HB hY
    replace kC := kC.b hY
    replace kJ := kJ.b hY
    replace R0 := R0.on hY hY.size
    clear hY
    clear CC
    go_wp2_with fail
    refine hKQ.out _ _ (⟨kC, kJ, by rw [← htm.out]; exact kC.cell 2⟩) (fun _ => ?_)
    clear hKQ KQ
    try simp only [Act.put, ka, kb, kc]
    refine rr [9] ?_
    refine rc (fun KQ hKQ => ?_) AllReadyH.nil
    go_simp
    have CC := confi.commits_any j (hasC c i) y53 HJ.out (ref13.has_lt c i 9)
    rw [hcoz.out] at CC
    refine (CC).mono ?_
    rintro e y54 ⟨rfl, hY⟩
    replace HB := bt HB hY
    replace kC := kC.b hY
    replace kJ := kJ.b hY
    replace R0 := R0.on hY hY.size
    clear hY
    clear CC
    go_wp2_with fail
    refine hKQ.out _ _ (⟨kC, kJ, by rw [← htm.out]; exact kC.cell 2⟩) (fun _ => ?_)
    clear hKQ KQ
    try simp only [Act.put, ka, kb, kc]
    refine tj 10 _ ?_
    try simp only [Act.put, ka, kb, kc]
    refine wpAnyH_done (by kernel_rfl) ?_ _
    rcases co with _ | _
    ·
     go_wp2_with fail
     go_roundw
     case rel => exact ⟨i - 1, by omega, by omega, rfl, Lh HB, Lh (by rw [HS2.out, ref13.seek_top P cm k (by rw [← hk1.out]; exact hPi.out)]; congr 1; have := hk1.out; omega)⟩
     case measure => simp only [intOf]; omega
    ·
     go_wp2_with fail
     go_ret
     rw [HS2.out, ref13.seek_hit P cm k (by rw [← hk1.out]; exact hPi.out), ← hk1.out]
     exact ⟨rfl, BH.out.trans (HB.mono BH.out.size)⟩
   ·
    have hbe : (tv == tm) = false := by simp [he]
    have hPi : Hid (P i = false) := by show _ = _; rw [hPx.out, htv.out, decide_eq_false he, Bool.false_and]
    replace he := Lh he
    go_upto_region 5 with (first | refine lo_Cj kC ?_ | refine lo_cLj kC ?_ | refine lo_cJj kC ?_ | refine lo_Jj kJ ?_)
    refine wp_region_held_drew (S := fun wq => Blk 33 wq w.heap.size (crC c (.slice A n p)) ∧ Blk 27 wq gkJ (jC j) ∧ wq.cell? ⟨w.heap.size, 2, none⟩ = some (.int .i64 tm)) (by kernel_rfl) ?s_cmt5b (fun hHeld => ?_)
    case s_cmt5b => exact ⟨kC, kJ, by rw [← htm.out]; exact kC.cell 2⟩
    have hD := (Below.refl y51.heap.size y51).drew
    replace HB := bt HB hD
    replace kC := kC.b hD
    replace kJ := kJ.b hD
    replace R0 := R0.on hD hD.size
    clear hD
    generalize y51.drew = y52 at *
    iterate 5 (refine tx 0 _ ?_; try simp only [Act.put, ka, kb, kc])
    refine kit.tv 5 ?_
    try simp only [Act.put, ka, kb, kc]
    refine kit.tv 6 ?_
    try simp only [Act.put, ka, kb, kc]
    refine kit.tv 7 ?_
    try simp only [Act.put, ka, kb, kc]
    refine kit.tv 8 ?_
    try simp only [Act.put, ka, kb, kc]
    refine kit.tv 9 ?_
    try simp only [Act.put, ka, kb, kc]
    refine tj 10 _ ?_
    try simp only [Act.put, ka, kb, kc]
    refine wpAnyH_done (by kernel_rfl) ?_ _
    go_wp2_with fail
    go_roundw
    case rel => exact ⟨i - 1, by omega, by omega, rfl, Lh HB, Lh (by rw [HS2.out, ref13.seek_top P cm k (by rw [← hk1.out]; exact hPi.out)]; congr 1; have := hk1.out; omega)⟩
    case measure => simp only [intOf]; omega
  ·
   have kC := BkC.out.below HY.out BkC.out.lt
   have kJ := BkJ.out.below HY.out BkJ.out.lt
   have R0 := BR0.out.on HY.out HY.out.size
   have HB := HY.out
   obtain rfl : i = cm := by omega
   have hig : ¬ (i > i) := by omega
   have HS2 : Hid (seekF P i (la - i).toNat = i) := by show _ = _; rw [HS.out, Int.sub_self]; rfl
   clear HS
   have ccm : wr.cell? ⟨w.heap.size, 6, none⟩ = some (.int .i64 i) := by rw [← hcm.out]; exact kC.cell 6
   have cb : wr.cell? ⟨w.heap.size, 8, none⟩ = some (.int .i64 b) := by rw [← hb0.out]; exact kC.cell 8
   go_wp2_with fail
   go_ret
   rw [HS2.out]
   exact ⟨rfl, BH.out.trans (HB.mono BH.out.size)⟩
end Go.Proofs.YtegnfkbmlalkeaaGreat.cor
namespace Go.Proofs.YtegnfkbmlalkeaaGreat.cor
open Go Go.RowKit kit nums cf lg cr se
theorem less_listTo (s n : Nat) (h1 : 1 ≤ n) (h9 : n ≤ 9) : ∀ k, k ≤ 9 → listTo (lessF s (n : Int)) k = (listTo s k).filter (fun m => !(m == (n : Int)))
 | 0, _ => rfl
 | k + 1, hk => by
  have ih := less_listTo s n h1 h9 k (by omega)
  have hb : (lessF s (n : Int)).testBit (k + 1) = (s.testBit (k + 1) && !decide (k + 1 = n)) := by
   unfold lessF
   rw [hasF_node h1 h9, bitF_node h1 h9]
   split
   ·
    rename_i hs
    rw [less_bit hs]
    by_cases e : k + 1 = n <;> simp [e]
   ·
    rename_i hs
    by_cases e : k + 1 = n
    · rw [e, Bool.eq_false_iff.2 hs]; rfl
    · simp [e]
  show (if (lessF s (n : Int)).testBit (k + 1) then listTo (lessF s (n : Int)) k ++ [((k + 1 : Nat) : Int)] else listTo (lessF s (n : Int)) k) = (if s.testBit (k + 1) then listTo s k ++ [((k + 1 : Nat) : Int)] else listTo s k).filter _
  rw [hb, ih]
  by_cases hs : s.testBit (k + 1) = true
  ·
   by_cases e : k + 1 = n
   · rw [hs, e]; simp
   ·
    rw [hs, decide_eq_false e, if_pos (by rfl), if_pos (by rfl), List.filter_append]
    rw [List.filter_cons_of_pos (by simp; omega), List.filter_nil]
  · rw [Bool.eq_false_iff.2 hs]; simp
theorem less_list {s n : Nat} (h1 : 1 ≤ n) (h9 : n ≤ 9) : listF (lessF s (n : Int)) = (listF s).filter (fun m => !(m == (n : Int))) := less_listTo s n h1 h9 9 (by omega)
theorem less_listI {s : Nat} {n : Int} (h : 1 ≤ n ∧ n ≤ 9) : listF (lessF s n) = (listF s).filter (fun m => !(m == n)) := by
 obtain ⟨k, rfl⟩ : ∃ k : Nat, n = (k : Int) := ⟨n.toNat, by omega⟩
 exact less_list (by omega) (by omega)
def sdT (c : CoL) (l : List Int) (k : Nat) : List MsL := (l.take k).map (sendF c)
theorem sdT_next {c : CoL} {l : List Int} {k : Nat} {n : Int} (h : l[k]? = some n) : sdT c l (k + 1) = sdT c l k ++ [sendF c n] := by
 unfold sdT; rw [ref9.take_get h, List.map_append]; rfl
theorem sdT_len {c : CoL} {l : List Int} {k : Nat} (h : k ≤ l.length) : (sdT c l k).length = k := by
 unfold sdT; rw [List.length_map, List.length_take]; omega
theorem sendAll_any (c : CoL) (A : Option Addr) (n p : Nat) (w : World) (B : Nat) (hR : RdE w B A n c.lg.es) (hB : B ≤ w.heap.size) (hp : n ≤ p) (hf : Fit c.lg) (hi : 1 ≤ c.id ∧ c.id ≤ 9) (hj : (conC c).ok) (hx : ∀ j : Nat, 1 ≤ (j : Int) → (j : Int) ≤ 9 → 0 ≤ c.nx j ∧ c.nx j ≤ 2199023255552) : Calls Tryz.prog 91 #[crV c (.slice A n p)] w fun e w' => ∃ A' n' c' B', e = .returned (.slice A' n' c') ∧ OutL w' B' (.slice A' n' c') (allF c) ∧ w.heap.size ≤ B' ∧ B' ≤ w'.heap.size ∧ Below w.heap.size w w' := by
 have HF := Lh hf
 have HJ := Lh hj
 have HX := Lh hx
 have hid := Lh hi
 have hmem := Lh (un_lt (mem_lt hj.1) (mem_lt hj.2))
 have hAl : Hid (allF c = (listF (lessF (unF (conC c) memF) c.id)).map (sendF c)) := by show _ = _; rw [less_listI hi]; rfl
 have HL := Lh (fun z (hz : z ∈ listF (lessF (unF (conC c) memF) c.id)) => ref9.list_node hz)
 have hl9 := ref9.list_len (lessF (unF (conC c) memF) c.id)
 obtain ⟨l, hl⟩ : ∃ q, listF (lessF (unF (conC c) memF) c.id) = q := ⟨_, rfl⟩
 rw [hl] at hAl HL hl9
 obtain ⟨N, hN⟩ : ∃ q, l.length = q := ⟨_, rfl⟩
 rw [hN] at hl9
 have hAl2 : Hid (allF c = sdT c l N) := by show _ = _; unfold sdT; rw [hAl.out, ← hN, List.take_length]
 rw [hAl2.out]
 clear hAl hAl2 hf hj hx hi
 replace hl := Lh hl
 replace hN := Lh hN
 have R0 := hR.more hB
 clear hR hB
 go_enter Tryz.func91, Tryz.ntmps91
 go_wp2_with (first | refine box_C rfl _ rfl c (.slice A n p) rfl ?_ | fail)
 intro y1 kC e1 s1
 clear s1
 have HB := e1
 replace R0 := R0.on e1 e1.size
 clear e1
 go_upto_region 2 with (first | refine lo_Cj kC ?_ | refine lo_cLj kC ?_ | refine lo_cJj kC ?_)
 refine wp_region_held_drew (S := fun wq => Blk 33 wq w.heap.size (crC c (.slice A n p))) (by kernel_rfl) ?s_sal2 (fun hHeld => ?_)
 case s_sal2 => exact kC
 have hD := (Below.refl y1.heap.size y1).drew
 replace HB := bt HB hD
 replace kC := kC.b hD
 replace R0 := R0.on hD hD.size
 clear hD
 generalize y1.drew = y2 at *
 refine tj 0 _ ?_ (hy := fun wq hSw => rld_C rfl rfl (id hSw))
 try simp only [Act.put, ka, kb, kc]
 refine tj 1 _ ?_
 try simp only [Act.put, ka, kb, kc]
 refine tj 2 _ ?_ (hy := fun wq hSw => rld_cL rfl rfl (id hSw))
 try simp only [Act.put, ka, kb, kc]
 refine tj 7 _ ?_
 try simp only [Act.put, ka, kb, kc]
 refine rr [3] ?_
 refine rc (fun KQ hKQ => ?_) AllReadyH.nil
 go_simp
 have CC := enti.conf_any c.lg A n p y2 y2.heap.size R0 (Nat.le_refl _) hp HF.out
 refine (CC).mono ?_
 rintro e y3 ⟨rfl, hY⟩
 replace HB := bt HB hY
 replace kC := kC.b hY
 replace R0 := R0.on hY hY.size
 clear hY
 clear CC
 go_wp2_with fail
 refine hKQ.out _ _ (kC) (fun _ => ?_)
 clear hKQ KQ
 try simp only [Act.put, ka, kb, kc]
 refine rr [4] ?_
 refine rc (fun KQ hKQ => ?_) AllReadyH.nil
 go_simp
 have CC := confi.membersJ_any (conC c) y3 HJ.out
 refine (CC).mono ?_
 rintro e y4 ⟨rfl, hY⟩
 replace HB := bt HB hY
 replace kC := kC.b hY
 replace R0 := R0.on hY hY.size
 clear hY
 clear CC
 go_wp2_with fail
 refine hKQ.out _ _ (kC) (fun _ => ?_)
 clear hKQ KQ
 try simp only [Act.put, ka, kb, kc]
 refine rr [5] ?_
 refine rc (fun KQ hKQ => ?_) AllReadyH.nil
 go_simp
 have CC := others_any c A n p (unF (conC c) memF) y4 hmem.out (by have := hid.out; omega)
 rw [hl.out, hN.out] at CC
 refine CC.mono ?_
 rintro e y5 ⟨A5, c5, rfl, hR5, hY⟩
 clear CC
 replace HB := bt HB hY
 replace kC := kC.b hY
 replace R0 := R0.on hY hY.size
 clear hY
 replace hR5 := Lh hR5
 go_wp2_with fail
 refine hKQ.out _ _ (kC) (fun _ => ?_)
 clear hKQ KQ
 try simp only [Act.put, ka, kb, kc]
 refine tj 6 _ ?_
 try simp only [Act.put, ka, kb, kc]
 refine wpAnyH_done (by kernel_rfl) ?_ _
 have BkC := Lh kC
 clear kC
 have BR0 := Lh R0
 clear R0
 have BH := Lh HB
 clear HB
 have BY := hR5
 clear hR5
 go_wp2_with fail
 go_loopw [3, 13] (fun sv iv wr => ∃ (k : Nat) (A6 : Option Addr) (c6 : Nat), k ≤ N ∧ sv = .slice A6 k c6 ∧ iv = .int .i64 (k : Int) ∧ Hid (Below y5.heap.size y5 wr) ∧ Hid (OutL wr y5.heap.size (.slice A6 k c6) (sdT c l k))) (fun _ iv _ => N - (intOf iv).toNat)
 case atStart => exact ⟨0, none, 0, by omega, rfl, rfl, Lh (Below.refl _ _), Lh (OutL.nil _ _)⟩
 case round =>
  obtain ⟨k, A6, c6, hk, rfl, rfl, HY, HO⟩ := hrel
  by_cases hkN : k < N
  ·
   have kC := BkC.out.below HY.out BkC.out.lt
   have R0 := BR0.out.on HY.out HY.out.size
   have HB := HY.out
   have ck : (k : Int) < (N : Int) := by omega
   have c0k : (0 : Int) ≤ (k : Int) := by omega
   have wk : IntKind.i64.wrap ((k : Int) + 1) = ((k + 1 : Nat) : Int) := by rw [wrap_sm (by omega) (by omega)]; omega
   have hR5 := BY.out.below HY.out
   obtain ⟨pl, ol, z, hA5, hz, cz⟩ := ref9.rdv_at hR5 k hkN
   subst hA5
   have hz9 := HL.out z (List.mem_of_getElem? hz)
   obtain ⟨j, rfl⟩ : ∃ j : Nat, z = (j : Int) := ⟨z.toNat, by omega⟩
   have hj9 : Hid (j < 10) := by show _ < _; omega
   have hlk : Hid ((sdT c l k).length = k) := sdT_len (by rw [hN.out]; omega)
   replace hz := Lh hz
   replace hz9 := Lh hz9
   clear hR5
   have hO := HO.out
   clear HO
   go_wp2_with (first | refine lo_Cj kC ?_ | refine lo_cLj kC ?_ | refine lo_cJj kC ?_)
   clear cz
   refine (send_any c A n p j wr wr.heap.size R0 (Nat.le_refl _) hp HF.out hj9.out (HX.out j hz9.out.1 hz9.out.2)).mono ?_
   rintro e y51 ⟨A7, n7, p7, rfl, hE7, hY⟩
   replace hE7 := Lh (hE7.more HB.size)
   replace HB := bt HB hY
   replace kC := kC.b hY
   replace R0 := R0.on hY hY.size
   replace hO := hO.below hY
   clear hY
   go_wp2_with (first | refine kit.bs_M rfl _ rfl (sendF c (j : Int)) A7 n7 p7 rfl ?_ | (first | refine lo_Cj kC ?_ | refine lo_cLj kC ?_ | refine lo_cJj kC ?_))
   intro y52 kB hX
   replace hE7 := Lh (hE7.out.below hX)
   replace HB := bt HB hX
   replace kC := kC.b hX
   replace R0 := R0.on hX hX.size
   replace hO := hO.below hX
   clear hX
   go_wp2_with (at_builtin; refine kit.app_M rfl (.tmp 17) (.tmp 21) rfl y5.heap.size A6 k c6 _ rfl y51.heap.size rfl hlk.out hO (sendF c (j : Int)) A7 n7 p7 kB hE7.out (by omega) HB.size ?_)
   intro A8 c8 y53 hO2 hB2
   have HB2 := Lh (HB.trans hB2)
   have hO3 := Lh hO2
   clear hO hO2 hB2 HB kB kC R0
   go_wp2_with fail
   go_roundw
   case rel => exact ⟨k + 1, A8, c8, by omega, rfl, rfl, HB2, Lh (by rw [sdT_next hz.out]; exact hO3.out)⟩
   case measure => simp only [intOf]; omega
  ·
   have kC := BkC.out.below HY.out BkC.out.lt
   have R0 := BR0.out.on HY.out HY.out.size
   have HB := HY.out
   obtain rfl : k = N := by omega
   have ck : ¬ ((k : Int) < (k : Int)) := by omega
   go_wp2_with fail
   go_ret
   exact ⟨A6, k, c6, rfl, y5.heap.size, HO.out, BH.out.size, HB.size, BH.out.trans (HB.mono BH.out.size)⟩
end Go.Proofs.YtegnfkbmlalkeaaGreat.cor
namespace Go.Proofs.YtegnfkbmlalkeaaGreat.cor
open Go Go.RowKit kit nums cf lg cr se
theorem may_7 (c : CoL) (A : Option Addr) (n p : Nat) (w : World) (B : Nat) (hR : RdE w B A n c.lg.es) (hB : B ≤ w.heap.size) (hp : n ≤ p) (hn : n ≤ 1000000) (hj : c.lg.j.ok) (hok : ∀ x ∈ c.lg.es, x.j.ok) (e0 : (nodeB c.id) = true) (e1 : (upB c.ro 2) = true) (e2 : (upB c.tm 1099511627776) = true) (e3 : (upB c.vo 9) = true) (e4 : (upB c.le 9) = true) (e5 : (mayG c.lg) = true) (e6 : (decide ((termF c.lg (lastF c.lg)).1 ≤ c.tm)) = true) (e7 : (decide (c.lg.b ≤ c.cm ∧ c.cm ≤ lastF c.lg)) = false) : Calls Tryz.prog 13 #[crV c (.slice A n p)] w fun e w' => e = .returned (.bool (mayK c)) ∧ Below w.heap.size w w' := by
 have HOk := Lh hok
 have HJ := Lh hj
 have hn2 := Lh hn
 have hlen := Lh hR.len
 have hF : Hid (mayK c = false) := Lh (by rw [mayK_form, e0, e1, e2, e3, e4, e5, e6, e7]; rfl)
 have h0 := Lh e0
 have h1 := Lh e1
 have h2 := Lh e2
 have h3 := Lh e3
 have h4 := Lh e4
 have h5 := Lh e5
 have h6 := Lh e6
 have h7 := Lh e7
 have hFit := Lh (fit_mayG hR.len hn e5)
 obtain ⟨lw, hlw⟩ : ∃ q, IntKind.i64.wrap (c.lg.b + (n : Int)) = q := ⟨_, rfl⟩
 have hlwE : Hid (lw = lastF c.lg) := Lh (by rw [← hlw]; exact fit_last hR.len hFit.out)
 obtain ⟨tv, htv⟩ : ∃ q, (termF c.lg (lastF c.lg)).1 = q := ⟨_, rfl⟩
 clear hok hj hn e0 e1 e2 e3 e4 e5 e6 e7
 replace hlw := Lh hlw
 replace htv := Lh htv
 have R0 := hR.more hB
 clear hR hB
 go_enter Tryz.func13, Tryz.ntmps13
 go_wp2_with (first | go_skip | refine box_C rfl _ rfl c (.slice A n p) rfl ?_ | fail)
 intro y1 kC e1 s1
 clear s1
 have HB := e1
 replace R0 := R0.on e1 e1.size
 clear e1
 go_wp2_with (first | go_skip | refine lo_Cj kC ?_ | refine lo_cLj kC ?_ | refine lo_cJj kC ?_)
 have CC := last_all c.lg A n p y1
 rw [hlw.out] at CC
 refine (CC).mono ?_
 rintro e y2 ⟨rfl, hY⟩
 replace HB := bt HB hY
 replace kC := kC.b hY
 replace R0 := R0.on hY hY.size
 clear hY
 clear CC
 go_upto_region 2 with (first | go_skip | refine lo_Cj kC ?_ | refine lo_cLj kC ?_ | refine lo_cJj kC ?_)
 simp only [List.append_eq, List.cons_append, List.nil_append]
 refine wp_region_held_drew (S := fun wq => At wq w.heap.size 8 (lgC c.lg (.slice A n p)) ∧ At wq w.heap.size 25 (a10C c.nx) ∧ At wq w.heap.size 35 (a10C c.mt) ∧ wq.cell? ⟨w.heap.size, 0, none⟩ = some (.int .i64 c.id) ∧ wq.cell? ⟨w.heap.size, 1, none⟩ = some (.int .i64 c.ro) ∧ wq.cell? ⟨w.heap.size, 2, none⟩ = some (.int .i64 c.tm) ∧ wq.cell? ⟨w.heap.size, 3, none⟩ = some (.int .i64 c.vo) ∧ wq.cell? ⟨w.heap.size, 4, none⟩ = some (.int .i64 c.le) ∧ wq.cell? ⟨w.heap.size, 5, none⟩ = some (.int .i64 c.wa) ∧ wq.cell? ⟨w.heap.size, 6, none⟩ = some (.int .i64 c.cm) ∧ wq.cell? ⟨w.heap.size, 7, none⟩ = some (.int .i64 c.sf) ∧ wq.cell? ⟨w.heap.size, 8, none⟩ = some (.int .i64 c.lg.b)) (by kernel_rfl) ?s_may2_7 (fun hHeld => ?_)
 case s_may2_7 => exact ⟨at_cL kC, at_cN kC, at_cT kC, kC.cell 0, kC.cell 1, kC.cell 2, kC.cell 3, kC.cell 4, kC.cell 5, kC.cell 6, kC.cell 7, kC.cell 8⟩
 have hD := (Below.refl y2.heap.size y2).drew
 replace HB := bt HB hD
 replace kC := kC.b hD
 replace R0 := R0.on hD hD.size
 clear hD
 generalize y2.drew = y3 at *
 iterate 2 (refine tx 0 _ ?_; try simp only [Act.put, ka, kb, kc])
 refine rr [2] ?_
 refine rc (fun KQ hKQ => ?_) AllReadyH.nil
 go_simp
 have CC := isnode_any c.id y3
 rw [h0.out] at CC
 refine (CC).mono ?_
 rintro e y4 ⟨rfl, hW⟩
 subst hW
 clear CC
 go_wp2_with fail
 refine hKQ.out _ _ (⟨at_cL kC, at_cN kC, at_cT kC, kC.cell 0, kC.cell 1, kC.cell 2, kC.cell 3, kC.cell 4, kC.cell 5, kC.cell 6, kC.cell 7, kC.cell 8⟩) (fun _ => ?_)
 clear hKQ KQ
 try simp only [Act.put, ka, kb, kc]
 iterate 3 (refine tx 3 _ ?_; try simp only [Act.put, ka, kb, kc])
 refine rr [6] ?_
 refine rc (fun KQ hKQ => ?_) AllReadyH.nil
 go_simp
 have CC := within_any c.ro 0 2 y3
 rw [wi_up, h1.out] at CC
 refine (CC).mono ?_
 rintro e y5 ⟨rfl, hW⟩
 subst hW
 clear CC
 go_wp2_with fail
 refine hKQ.out _ _ (⟨at_cL kC, at_cN kC, at_cT kC, kC.cell 0, kC.cell 1, kC.cell 2, kC.cell 3, kC.cell 4, kC.cell 5, kC.cell 6, kC.cell 7, kC.cell 8⟩) (fun _ => ?_)
 clear hKQ KQ
 try simp only [Act.put, ka, kb, kc]
 iterate 4 (refine tx 7 _ ?_; try simp only [Act.put, ka, kb, kc])
 refine rr [11] ?_
 refine rc (fun KQ hKQ => ?_) AllReadyH.nil
 go_simp
 have CC := within_any c.tm 0 1099511627776 y3
 rw [wi_up, h2.out] at CC
 refine (CC).mono ?_
 rintro e y6 ⟨rfl, hW⟩
 subst hW
 clear CC
 go_wp2_with fail
 refine hKQ.out _ _ (⟨at_cL kC, at_cN kC, at_cT kC, kC.cell 0, kC.cell 1, kC.cell 2, kC.cell 3, kC.cell 4, kC.cell 5, kC.cell 6, kC.cell 7, kC.cell 8⟩) (fun _ => ?_)
 clear hKQ KQ
 try simp only [Act.put, ka, kb, kc]
 iterate 4 (refine tx 12 _ ?_; try simp only [Act.put, ka, kb, kc])
 refine rr [16] ?_
 refine rc (fun KQ hKQ => ?_) AllReadyH.nil
 go_simp
 have CC := within_any c.vo 0 9 y3
 rw [wi_up, h3.out] at CC
 refine (CC).mono ?_
 rintro e y7 ⟨rfl, hW⟩
 subst hW
 clear CC
 go_wp2_with fail
 refine hKQ.out _ _ (⟨at_cL kC, at_cN kC, at_cT kC, kC.cell 0, kC.cell 1, kC.cell 2, kC.cell 3, kC.cell 4, kC.cell 5, kC.cell 6, kC.cell 7, kC.cell 8⟩) (fun _ => ?_)
 clear hKQ KQ
 try simp only [Act.put, ka, kb, kc]
 iterate 4 (refine tx 17 _ ?_; try simp only [Act.put, ka, kb, kc])
 refine rr [21] ?_
 refine rc (fun KQ hKQ => ?_) AllReadyH.nil
 go_simp
 have CC := within_any c.le 0 9 y3
 rw [wi_up, h4.out] at CC
 refine (CC).mono ?_
 rintro e y8 ⟨rfl, hW⟩
 subst hW
 clear CC
 go_wp2_with fail
 refine hKQ.out _ _ (⟨at_cL kC, at_cN kC, at_cT kC, kC.cell 0, kC.cell 1, kC.cell 2, kC.cell 3, kC.cell 4, kC.cell 5, kC.cell 6, kC.cell 7, kC.cell 8⟩) (fun _ => ?_)
 clear hKQ KQ
 try simp only [Act.put, ka, kb, kc]
 iterate 3 (refine tx 22 _ ?_; try simp only [Act.put, ka, kb, kc])
 refine tj 25 ((lgV c.lg (.slice A n p))) ?_ (hy := fun wq hSw => run_ldAt rfl rfl hSw.1 (aggL _) (sizeL _))
 try simp only [Act.put, ka, kb, kc]
 refine rr [26] ?_
 refine rc (fun KQ hKQ => ?_) AllReadyH.nil
 go_simp
 have CC := mayLog_any c.lg A n p y3 y3.heap.size R0 (Nat.le_refl _) (by have := hn2.out; omega) HJ.out HOk.out
 rw [h5.out] at CC
 refine (CC).mono ?_
 rintro e y9 ⟨rfl, hY⟩
 replace HB := bt HB hY
 replace kC := kC.b hY
 replace R0 := R0.on hY hY.size
 clear hY
 clear CC
 go_wp2_with fail
 refine hKQ.out _ _ (⟨at_cL kC, at_cN kC, at_cT kC, kC.cell 0, kC.cell 1, kC.cell 2, kC.cell 3, kC.cell 4, kC.cell 5, kC.cell 6, kC.cell 7, kC.cell 8⟩) (fun _ => ?_)
 clear hKQ KQ
 try simp only [Act.put, ka, kb, kc]
 iterate 3 (refine tx 27 _ ?_; try simp only [Act.put, ka, kb, kc])
 refine tj 30 ((lgV c.lg (.slice A n p))) ?_ (hy := fun wq hSw => run_ldAt rfl rfl hSw.1 (aggL _) (sizeL _))
 try simp only [Act.put, ka, kb, kc]
 iterate 2 (refine tx 32 _ ?_; try simp only [Act.put, ka, kb, kc])
 refine rr [31] ?_
 refine rc (fun KQ hKQ => ?_) AllReadyH.nil
 go_simp
 have CC := lastTerm_any c.lg A n p y9 y9.heap.size R0 (Nat.le_refl _) hp hFit.out
 rw [htv.out] at CC
 refine (CC).mono ?_
 rintro e y10 ⟨rfl, hY⟩
 replace HB := bt HB hY
 replace kC := kC.b hY
 replace R0 := R0.on hY hY.size
 clear hY
 clear CC
 go_wp2_with fail
 refine hKQ.out _ _ (⟨at_cL kC, at_cN kC, at_cT kC, kC.cell 0, kC.cell 1, kC.cell 2, kC.cell 3, kC.cell 4, kC.cell 5, kC.cell 6, kC.cell 7, kC.cell 8⟩) (fun _ => ?_)
 clear hKQ KQ
 try simp only [Act.put, ka, kb, kc]
 refine tj 34 ((.bool true)) ?_ (hy := fun wq hSw => rb_leq rfl rfl rfl (by have := h6.out; rw [htv.out] at this; exact this))
 try simp only [Act.put, ka, kb, kc]
 iterate 8 (refine tx 35 _ ?_; try simp only [Act.put, ka, kb, kc])
 refine rr [43] ?_
 refine rc (fun KQ hKQ => ?_) AllReadyH.nil
 go_simp
 have CC := within_any c.cm c.lg.b lw y10
 rw [show wiB c.cm c.lg.b lw = false by rw [hlwE.out, wi_and]; exact h7.out] at CC
 refine (CC).mono ?_
 rintro e y11 ⟨rfl, hW⟩
 subst hW
 clear CC
 go_wp2_with fail
 refine hKQ.out _ _ (⟨at_cL kC, at_cN kC, at_cT kC, kC.cell 0, kC.cell 1, kC.cell 2, kC.cell 3, kC.cell 4, kC.cell 5, kC.cell 6, kC.cell 7, kC.cell 8⟩) (fun _ => ?_)
 clear hKQ KQ
 try simp only [Act.put, ka, kb, kc]
 iterate 2 (refine tx 44 _ ?_; try simp only [Act.put, ka, kb, kc])
 refine skips [(46, 53), (47, 54), (48, 55)] (fuel := 18) ?_
 simp only [List.foldl_cons, List.foldl_nil, List.setIfInBounds_toArray, List.set_cons_zero, List.set_cons_succ]
 iterate 2 (refine tx 49 _ ?_; try simp only [Act.put, ka, kb, kc])
 refine skips [(51, 58), (52, 59), (53, 60)] (fuel := 13) ?_
 simp only [List.foldl_cons, List.foldl_nil, List.setIfInBounds_toArray, List.set_cons_zero, List.set_cons_succ]
 iterate 2 (refine tx 54 _ ?_; try simp only [Act.put, ka, kb, kc])
 refine skips [(56, 63), (57, 64), (58, 65)] (fuel := 8) ?_
 simp only [List.foldl_cons, List.foldl_nil, List.setIfInBounds_toArray, List.set_cons_zero, List.set_cons_succ]
 iterate 2 (refine tx 59 _ ?_; try simp only [Act.put, ka, kb, kc])
 refine skips [(61, 68), (62, 69), (63, 70), (64, 71)] (fuel := 2) ?_
 simp only [List.foldl_cons, List.foldl_nil, List.setIfInBounds_toArray, List.set_cons_zero, List.set_cons_succ]
 iterate 2 (refine tx 65 _ ?_; try simp only [Act.put, ka, kb, kc])
 refine wpAnyH_done (by kernel_rfl) ?_ _
 simp only [Exit.then]
 refine (‹∀ (a : Act) (w : World), Code.wp _ Code.ret _ a w → _›) _ _ (wp_ret ?_)
 first | (show bodyPost _ _ _ Exit.ret _ _) | (simp only [Exit.then]; show bodyPost _ _ _ Exit.ret _ _) | (simp only [Exit.then, Exit.inBlock]; show bodyPost _ _ _ Exit.ret _ _)
 refine bodyPost_ret (v := .bool false) (by simp [results, Tryz.results13, go_sem]) rfl ?_
 rw [hF.out]
 exact ⟨rfl, HB⟩
end Go.Proofs.YtegnfkbmlalkeaaGreat.cor
namespace Go.Proofs.YtegnfkbmlalkeaaGreat.cor
open Go Go.RowKit kit nums cf lg cr se
theorem may_8 (c : CoL) (A : Option Addr) (n p : Nat) (w : World) (B : Nat) (hR : RdE w B A n c.lg.es) (hB : B ≤ w.heap.size) (hp : n ≤ p) (hn : n ≤ 1000000) (hj : c.lg.j.ok) (hok : ∀ x ∈ c.lg.es, x.j.ok) (e0 : (nodeB c.id) = true) (e1 : (upB c.ro 2) = true) (e2 : (upB c.tm 1099511627776) = true) (e3 : (upB c.vo 9) = true) (e4 : (upB c.le 9) = true) (e5 : (mayG c.lg) = true) (e6 : (decide ((termF c.lg (lastF c.lg)).1 ≤ c.tm)) = true) (e7 : (decide (c.lg.b ≤ c.cm ∧ c.cm ≤ lastF c.lg)) = true) (e8 : (upB c.wa 1099511627776) = false) : Calls Tryz.prog 13 #[crV c (.slice A n p)] w fun e w' => e = .returned (.bool (mayK c)) ∧ Below w.heap.size w w' := by
 have HOk := Lh hok
 have HJ := Lh hj
 have hn2 := Lh hn
 have hlen := Lh hR.len
 have hF : Hid (mayK c = false) := Lh (by rw [mayK_form, e0, e1, e2, e3, e4, e5, e6, e7, e8]; rfl)
 have h0 := Lh e0
 have h1 := Lh e1
 have h2 := Lh e2
 have h3 := Lh e3
 have h4 := Lh e4
 have h5 := Lh e5
 have h6 := Lh e6
 have h7 := Lh e7
 have h8 := Lh e8
 have hFit := Lh (fit_mayG hR.len hn e5)
 obtain ⟨lw, hlw⟩ : ∃ q, IntKind.i64.wrap (c.lg.b + (n : Int)) = q := ⟨_, rfl⟩
 have hlwE : Hid (lw = lastF c.lg) := Lh (by rw [← hlw]; exact fit_last hR.len hFit.out)
 obtain ⟨tv, htv⟩ : ∃ q, (termF c.lg (lastF c.lg)).1 = q := ⟨_, rfl⟩
 clear hok hj hn e0 e1 e2 e3 e4 e5 e6 e7 e8
 replace hlw := Lh hlw
 replace htv := Lh htv
 have R0 := hR.more hB
 clear hR hB
 go_enter Tryz.func13, Tryz.ntmps13
 go_wp2_with (first | go_skip | refine box_C rfl _ rfl c (.slice A n p) rfl ?_ | fail)
 intro y1 kC e1 s1
 clear s1
 have HB := e1
 replace R0 := R0.on e1 e1.size
 clear e1
 go_wp2_with (first | go_skip | refine lo_Cj kC ?_ | refine lo_cLj kC ?_ | refine lo_cJj kC ?_)
 have CC := last_all c.lg A n p y1
 rw [hlw.out] at CC
 refine (CC).mono ?_
 rintro e y2 ⟨rfl, hY⟩
 replace HB := bt HB hY
 replace kC := kC.b hY
 replace R0 := R0.on hY hY.size
 clear hY
 clear CC
 go_upto_region 2 with (first | go_skip | refine lo_Cj kC ?_ | refine lo_cLj kC ?_ | refine lo_cJj kC ?_)
 simp only [List.append_eq, List.cons_append, List.nil_append]
 refine wp_region_held_drew (S := fun wq => At wq w.heap.size 8 (lgC c.lg (.slice A n p)) ∧ At wq w.heap.size 25 (a10C c.nx) ∧ At wq w.heap.size 35 (a10C c.mt) ∧ wq.cell? ⟨w.heap.size, 0, none⟩ = some (.int .i64 c.id) ∧ wq.cell? ⟨w.heap.size, 1, none⟩ = some (.int .i64 c.ro) ∧ wq.cell? ⟨w.heap.size, 2, none⟩ = some (.int .i64 c.tm) ∧ wq.cell? ⟨w.heap.size, 3, none⟩ = some (.int .i64 c.vo) ∧ wq.cell? ⟨w.heap.size, 4, none⟩ = some (.int .i64 c.le) ∧ wq.cell? ⟨w.heap.size, 5, none⟩ = some (.int .i64 c.wa) ∧ wq.cell? ⟨w.heap.size, 6, none⟩ = some (.int .i64 c.cm) ∧ wq.cell? ⟨w.heap.size, 7, none⟩ = some (.int .i64 c.sf) ∧ wq.cell? ⟨w.heap.size, 8, none⟩ = some (.int .i64 c.lg.b)) (by kernel_rfl) ?s_may2_8 (fun hHeld => ?_)
 case s_may2_8 => exact ⟨at_cL kC, at_cN kC, at_cT kC, kC.cell 0, kC.cell 1, kC.cell 2, kC.cell 3, kC.cell 4, kC.cell 5, kC.cell 6, kC.cell 7, kC.cell 8⟩
 have hD := (Below.refl y2.heap.size y2).drew
 replace HB := bt HB hD
 replace kC := kC.b hD
 replace R0 := R0.on hD hD.size
 clear hD
 generalize y2.drew = y3 at *
 iterate 2 (refine tx 0 _ ?_; try simp only [Act.put, ka, kb, kc])
 refine rr [2] ?_
 refine rc (fun KQ hKQ => ?_) AllReadyH.nil
 go_simp
 have CC := isnode_any c.id y3
 rw [h0.out] at CC
 refine (CC).mono ?_
 rintro e y4 ⟨rfl, hW⟩
 subst hW
 clear CC
 go_wp2_with fail
 refine hKQ.out _ _ (⟨at_cL kC, at_cN kC, at_cT kC, kC.cell 0, kC.cell 1, kC.cell 2, kC.cell 3, kC.cell 4, kC.cell 5, kC.cell 6, kC.cell 7, kC.cell 8⟩) (fun _ => ?_)
 clear hKQ KQ
 try simp only [Act.put, ka, kb, kc]
 iterate 3 (refine tx 3 _ ?_; try simp only [Act.put, ka, kb, kc])
 refine rr [6] ?_
 refine rc (fun KQ hKQ => ?_) AllReadyH.nil
 go_simp
 have CC := within_any c.ro 0 2 y3
 rw [wi_up, h1.out] at CC
 refine (CC).mono ?_
 rintro e y5 ⟨rfl, hW⟩
 subst hW
 clear CC
 go_wp2_with fail
 refine hKQ.out _ _ (⟨at_cL kC, at_cN kC, at_cT kC, kC.cell 0, kC.cell 1, kC.cell 2, kC.cell 3, kC.cell 4, kC.cell 5, kC.cell 6, kC.cell 7, kC.cell 8⟩) (fun _ => ?_)
 clear hKQ KQ
 try simp only [Act.put, ka, kb, kc]
 iterate 4 (refine tx 7 _ ?_; try simp only [Act.put, ka, kb, kc])
 refine rr [11] ?_
 refine rc (fun KQ hKQ => ?_) AllReadyH.nil
 go_simp
 have CC := within_any c.tm 0 1099511627776 y3
 rw [wi_up, h2.out] at CC
 refine (CC).mono ?_
 rintro e y6 ⟨rfl, hW⟩
 subst hW
 clear CC
 go_wp2_with fail
 refine hKQ.out _ _ (⟨at_cL kC, at_cN kC, at_cT kC, kC.cell 0, kC.cell 1, kC.cell 2, kC.cell 3, kC.cell 4, kC.cell 5, kC.cell 6, kC.cell 7, kC.cell 8⟩) (fun _ => ?_)
 clear hKQ KQ
 try simp only [Act.put, ka, kb, kc]
 iterate 4 (refine tx 12 _ ?_; try simp only [Act.put, ka, kb, kc])
 refine rr [16] ?_
 refine rc (fun KQ hKQ => ?_) AllReadyH.nil
 go_simp
 have CC := within_any c.vo 0 9 y3
 rw [wi_up, h3.out] at CC
 refine (CC).mono ?_
 rintro e y7 ⟨rfl, hW⟩
 subst hW
 clear CC
 go_wp2_with fail
 refine hKQ.out _ _ (⟨at_cL kC, at_cN kC, at_cT kC, kC.cell 0, kC.cell 1, kC.cell 2, kC.cell 3, kC.cell 4, kC.cell 5, kC.cell 6, kC.cell 7, kC.cell 8⟩) (fun _ => ?_)
 clear hKQ KQ
 try simp only [Act.put, ka, kb, kc]
 iterate 4 (refine tx 17 _ ?_; try simp only [Act.put, ka, kb, kc])
 refine rr [21] ?_
 refine rc (fun KQ hKQ => ?_) AllReadyH.nil
 go_simp
 have CC := within_any c.le 0 9 y3
 rw [wi_up, h4.out] at CC
 refine (CC).mono ?_
 rintro e y8 ⟨rfl, hW⟩
 subst hW
 clear CC
 go_wp2_with fail
 refine hKQ.out _ _ (⟨at_cL kC, at_cN kC, at_cT kC, kC.cell 0, kC.cell 1, kC.cell 2, kC.cell 3, kC.cell 4, kC.cell 5, kC.cell 6, kC.cell 7, kC.cell 8⟩) (fun _ => ?_)
 clear hKQ KQ
 try simp only [Act.put, ka, kb, kc]
 iterate 3 (refine tx 22 _ ?_; try simp only [Act.put, ka, kb, kc])
 refine tj 25 ((lgV c.lg (.slice A n p))) ?_ (hy := fun wq hSw => run_ldAt rfl rfl hSw.1 (aggL _) (sizeL _))
 try simp only [Act.put, ka, kb, kc]
 refine rr [26] ?_
 refine rc (fun KQ hKQ => ?_) AllReadyH.nil
 go_simp
 have CC := mayLog_any c.lg A n p y3 y3.heap.size R0 (Nat.le_refl _) (by have := hn2.out; omega) HJ.out HOk.out
 rw [h5.out] at CC
 refine (CC).mono ?_
 rintro e y9 ⟨rfl, hY⟩
 replace HB := bt HB hY
 replace kC := kC.b hY
 replace R0 := R0.on hY hY.size
 clear hY
 clear CC
 go_wp2_with fail
 refine hKQ.out _ _ (⟨at_cL kC, at_cN kC, at_cT kC, kC.cell 0, kC.cell 1, kC.cell 2, kC.cell 3, kC.cell 4, kC.cell 5, kC.cell 6, kC.cell 7, kC.cell 8⟩) (fun _ => ?_)
 clear hKQ KQ
 try simp only [Act.put, ka, kb, kc]
 iterate 3 (refine tx 27 _ ?_; try simp only [Act.put, ka, kb, kc])
 refine tj 30 ((lgV c.lg (.slice A n p))) ?_ (hy := fun wq hSw => run_ldAt rfl rfl hSw.1 (aggL _) (sizeL _))
 try simp only [Act.put, ka, kb, kc]
 iterate 2 (refine tx 32 _ ?_; try simp only [Act.put, ka, kb, kc])
 refine rr [31] ?_
 refine rc (fun KQ hKQ => ?_) AllReadyH.nil
 go_simp
 have CC := lastTerm_any c.lg A n p y9 y9.heap.size R0 (Nat.le_refl _) hp hFit.out
 rw [htv.out] at CC
 refine (CC).mono ?_
 rintro e y10 ⟨rfl, hY⟩
 replace HB := bt HB hY
 replace kC := kC.b hY
 replace R0 := R0.on hY hY.size
 clear hY
 clear CC
 go_wp2_with fail
 refine hKQ.out _ _ (⟨at_cL kC, at_cN kC, at_cT kC, kC.cell 0, kC.cell 1, kC.cell 2, kC.cell 3, kC.cell 4, kC.cell 5, kC.cell 6, kC.cell 7, kC.cell 8⟩) (fun _ => ?_)
 clear hKQ KQ
 try simp only [Act.put, ka, kb, kc]
 refine tj 34 ((.bool true)) ?_ (hy := fun wq hSw => rb_leq rfl rfl rfl (by have := h6.out; rw [htv.out] at this; exact this))
 try simp only [Act.put, ka, kb, kc]
 iterate 8 (refine tx 35 _ ?_; try simp only [Act.put, ka, kb, kc])
 refine rr [43] ?_
 refine rc (fun KQ hKQ => ?_) AllReadyH.nil
 go_simp
 have CC := within_any c.cm c.lg.b lw y10
 rw [show wiB c.cm c.lg.b lw = true by rw [hlwE.out, wi_and]; exact h7.out] at CC
 refine (CC).mono ?_
 rintro e y11 ⟨rfl, hW⟩
 subst hW
 clear CC
 go_wp2_with fail
 refine hKQ.out _ _ (⟨at_cL kC, at_cN kC, at_cT kC, kC.cell 0, kC.cell 1, kC.cell 2, kC.cell 3, kC.cell 4, kC.cell 5, kC.cell 6, kC.cell 7, kC.cell 8⟩) (fun _ => ?_)
 clear hKQ KQ
 try simp only [Act.put, ka, kb, kc]
 iterate 4 (refine tx 44 _ ?_; try simp only [Act.put, ka, kb, kc])
 refine rr [48] ?_
 refine rc (fun KQ hKQ => ?_) AllReadyH.nil
 go_simp
 have CC := within_any c.wa 0 1099511627776 y10
 rw [wi_up, h8.out] at CC
 refine (CC).mono ?_
 rintro e y12 ⟨rfl, hW⟩
 subst hW
 clear CC
 go_wp2_with fail
 refine hKQ.out _ _ (⟨at_cL kC, at_cN kC, at_cT kC, kC.cell 0, kC.cell 1, kC.cell 2, kC.cell 3, kC.cell 4, kC.cell 5, kC.cell 6, kC.cell 7, kC.cell 8⟩) (fun _ => ?_)
 clear hKQ KQ
 try simp only [Act.put, ka, kb, kc]
 iterate 2 (refine tx 49 _ ?_; try simp only [Act.put, ka, kb, kc])
 refine skips [(51, 58), (52, 59), (53, 60)] (fuel := 13) ?_
 simp only [List.foldl_cons, List.foldl_nil, List.setIfInBounds_toArray, List.set_cons_zero, List.set_cons_succ]
 iterate 2 (refine tx 54 _ ?_; try simp only [Act.put, ka, kb, kc])
 refine skips [(56, 63), (57, 64), (58, 65)] (fuel := 8) ?_
 simp only [List.foldl_cons, List.foldl_nil, List.setIfInBounds_toArray, List.set_cons_zero, List.set_cons_succ]
 iterate 2 (refine tx 59 _ ?_; try simp only [Act.put, ka, kb, kc])
 refine skips [(61, 68), (62, 69), (63, 70), (64, 71)] (fuel := 2) ?_
 simp only [List.foldl_cons, List.foldl_nil, List.setIfInBounds_toArray, List.set_cons_zero, List.set_cons_succ]
 iterate 2 (refine tx 65 _ ?_; try simp only [Act.put, ka, kb, kc])
 refine wpAnyH_done (by kernel_rfl) ?_ _
 simp only [Exit.then]
 refine (‹∀ (a : Act) (w : World), Code.wp _ Code.ret _ a w → _›) _ _ (wp_ret ?_)
 first | (show bodyPost _ _ _ Exit.ret _ _) | (simp only [Exit.then]; show bodyPost _ _ _ Exit.ret _ _) | (simp only [Exit.then, Exit.inBlock]; show bodyPost _ _ _ Exit.ret _ _)
 refine bodyPost_ret (v := .bool false) (by simp [results, Tryz.results13, go_sem]) rfl ?_
 rw [hF.out]
 exact ⟨rfl, HB⟩
end Go.Proofs.YtegnfkbmlalkeaaGreat.cor
namespace Go.Proofs.YtegnfkbmlalkeaaGreat.cor
open Go Go.RowKit kit nums cf lg cr se
theorem may_9 (c : CoL) (A : Option Addr) (n p : Nat) (w : World) (B : Nat) (hR : RdE w B A n c.lg.es) (hB : B ≤ w.heap.size) (hp : n ≤ p) (hn : n ≤ 1000000) (hj : c.lg.j.ok) (hok : ∀ x ∈ c.lg.es, x.j.ok) (e0 : (nodeB c.id) = true) (e1 : (upB c.ro 2) = true) (e2 : (upB c.tm 1099511627776) = true) (e3 : (upB c.vo 9) = true) (e4 : (upB c.le 9) = true) (e5 : (mayG c.lg) = true) (e6 : (decide ((termF c.lg (lastF c.lg)).1 ≤ c.tm)) = true) (e7 : (decide (c.lg.b ≤ c.cm ∧ c.cm ≤ lastF c.lg)) = true) (e8 : (upB c.wa 1099511627776) = true) (e9 : (upB c.sf 1099511627776) = false) : Calls Tryz.prog 13 #[crV c (.slice A n p)] w fun e w' => e = .returned (.bool (mayK c)) ∧ Below w.heap.size w w' := by
 have HOk := Lh hok
 have HJ := Lh hj
 have hn2 := Lh hn
 have hlen := Lh hR.len
 have hF : Hid (mayK c = false) := Lh (by rw [mayK_form, e0, e1, e2, e3, e4, e5, e6, e7, e8, e9]; rfl)
 have h0 := Lh e0
 have h1 := Lh e1
 have h2 := Lh e2
 have h3 := Lh e3
 have h4 := Lh e4
 have h5 := Lh e5
 have h6 := Lh e6
 have h7 := Lh e7
 have h8 := Lh e8
 have h9 := Lh e9
 have hFit := Lh (fit_mayG hR.len hn e5)
 obtain ⟨lw, hlw⟩ : ∃ q, IntKind.i64.wrap (c.lg.b + (n : Int)) = q := ⟨_, rfl⟩
 have hlwE : Hid (lw = lastF c.lg) := Lh (by rw [← hlw]; exact fit_last hR.len hFit.out)
 obtain ⟨tv, htv⟩ : ∃ q, (termF c.lg (lastF c.lg)).1 = q := ⟨_, rfl⟩
 clear hok hj hn e0 e1 e2 e3 e4 e5 e6 e7 e8 e9
 replace hlw := Lh hlw
 replace htv := Lh htv
 have R0 := hR.more hB
 clear hR hB
 go_enter Tryz.func13, Tryz.ntmps13
 go_wp2_with (first | go_skip | refine box_C rfl _ rfl c (.slice A n p) rfl ?_ | fail)
 intro y1 kC e1 s1
 clear s1
 have HB := e1
 replace R0 := R0.on e1 e1.size
 clear e1
 go_wp2_with (first | go_skip | refine lo_Cj kC ?_ | refine lo_cLj kC ?_ | refine lo_cJj kC ?_)
 have CC := last_all c.lg A n p y1
 rw [hlw.out] at CC
 refine (CC).mono ?_
 rintro e y2 ⟨rfl, hY⟩
 replace HB := bt HB hY
 replace kC := kC.b hY
 replace R0 := R0.on hY hY.size
 clear hY
 clear CC
 go_upto_region 2 with (first | go_skip | refine lo_Cj kC ?_ | refine lo_cLj kC ?_ | refine lo_cJj kC ?_)
 simp only [List.append_eq, List.cons_append, List.nil_append]
 refine wp_region_held_drew (S := fun wq => At wq w.heap.size 8 (lgC c.lg (.slice A n p)) ∧ At wq w.heap.size 25 (a10C c.nx) ∧ At wq w.heap.size 35 (a10C c.mt) ∧ wq.cell? ⟨w.heap.size, 0, none⟩ = some (.int .i64 c.id) ∧ wq.cell? ⟨w.heap.size, 1, none⟩ = some (.int .i64 c.ro) ∧ wq.cell? ⟨w.heap.size, 2, none⟩ = some (.int .i64 c.tm) ∧ wq.cell? ⟨w.heap.size, 3, none⟩ = some (.int .i64 c.vo) ∧ wq.cell? ⟨w.heap.size, 4, none⟩ = some (.int .i64 c.le) ∧ wq.cell? ⟨w.heap.size, 5, none⟩ = some (.int .i64 c.wa) ∧ wq.cell? ⟨w.heap.size, 6, none⟩ = some (.int .i64 c.cm) ∧ wq.cell? ⟨w.heap.size, 7, none⟩ = some (.int .i64 c.sf) ∧ wq.cell? ⟨w.heap.size, 8, none⟩ = some (.int .i64 c.lg.b)) (by kernel_rfl) ?s_may2_9 (fun hHeld => ?_)
 case s_may2_9 => exact ⟨at_cL kC, at_cN kC, at_cT kC, kC.cell 0, kC.cell 1, kC.cell 2, kC.cell 3, kC.cell 4, kC.cell 5, kC.cell 6, kC.cell 7, kC.cell 8⟩
 have hD := (Below.refl y2.heap.size y2).drew
 replace HB := bt HB hD
 replace kC := kC.b hD
 replace R0 := R0.on hD hD.size
 clear hD
 generalize y2.drew = y3 at *
 iterate 2 (refine tx 0 _ ?_; try simp only [Act.put, ka, kb, kc])
 refine rr [2] ?_
 refine rc (fun KQ hKQ => ?_) AllReadyH.nil
 go_simp
 have CC := isnode_any c.id y3
 rw [h0.out] at CC
 refine (CC).mono ?_
 rintro e y4 ⟨rfl, hW⟩
 subst hW
 clear CC
 go_wp2_with fail
 refine hKQ.out _ _ (⟨at_cL kC, at_cN kC, at_cT kC, kC.cell 0, kC.cell 1, kC.cell 2, kC.cell 3, kC.cell 4, kC.cell 5, kC.cell 6, kC.cell 7, kC.cell 8⟩) (fun _ => ?_)
 clear hKQ KQ
 try simp only [Act.put, ka, kb, kc]
 iterate 3 (refine tx 3 _ ?_; try simp only [Act.put, ka, kb, kc])
 refine rr [6] ?_
 refine rc (fun KQ hKQ => ?_) AllReadyH.nil
 go_simp
 have CC := within_any c.ro 0 2 y3
 rw [wi_up, h1.out] at CC
 refine (CC).mono ?_
 rintro e y5 ⟨rfl, hW⟩
 subst hW
 clear CC
 go_wp2_with fail
 refine hKQ.out _ _ (⟨at_cL kC, at_cN kC, at_cT kC, kC.cell 0, kC.cell 1, kC.cell 2, kC.cell 3, kC.cell 4, kC.cell 5, kC.cell 6, kC.cell 7, kC.cell 8⟩) (fun _ => ?_)
 clear hKQ KQ
 try simp only [Act.put, ka, kb, kc]
 iterate 4 (refine tx 7 _ ?_; try simp only [Act.put, ka, kb, kc])
 refine rr [11] ?_
 refine rc (fun KQ hKQ => ?_) AllReadyH.nil
 go_simp
 have CC := within_any c.tm 0 1099511627776 y3
 rw [wi_up, h2.out] at CC
 refine (CC).mono ?_
 rintro e y6 ⟨rfl, hW⟩
 subst hW
 clear CC
 go_wp2_with fail
 refine hKQ.out _ _ (⟨at_cL kC, at_cN kC, at_cT kC, kC.cell 0, kC.cell 1, kC.cell 2, kC.cell 3, kC.cell 4, kC.cell 5, kC.cell 6, kC.cell 7, kC.cell 8⟩) (fun _ => ?_)
 clear hKQ KQ
 try simp only [Act.put, ka, kb, kc]
 iterate 4 (refine tx 12 _ ?_; try simp only [Act.put, ka, kb, kc])
 refine rr [16] ?_
 refine rc (fun KQ hKQ => ?_) AllReadyH.nil
 go_simp
 have CC := within_any c.vo 0 9 y3
 rw [wi_up, h3.out] at CC
 refine (CC).mono ?_
 rintro e y7 ⟨rfl, hW⟩
 subst hW
 clear CC
 go_wp2_with fail
 refine hKQ.out _ _ (⟨at_cL kC, at_cN kC, at_cT kC, kC.cell 0, kC.cell 1, kC.cell 2, kC.cell 3, kC.cell 4, kC.cell 5, kC.cell 6, kC.cell 7, kC.cell 8⟩) (fun _ => ?_)
 clear hKQ KQ
 try simp only [Act.put, ka, kb, kc]
 iterate 4 (refine tx 17 _ ?_; try simp only [Act.put, ka, kb, kc])
 refine rr [21] ?_
 refine rc (fun KQ hKQ => ?_) AllReadyH.nil
 go_simp
 have CC := within_any c.le 0 9 y3
 rw [wi_up, h4.out] at CC
 refine (CC).mono ?_
 rintro e y8 ⟨rfl, hW⟩
 subst hW
 clear CC
 go_wp2_with fail
 refine hKQ.out _ _ (⟨at_cL kC, at_cN kC, at_cT kC, kC.cell 0, kC.cell 1, kC.cell 2, kC.cell 3, kC.cell 4, kC.cell 5, kC.cell 6, kC.cell 7, kC.cell 8⟩) (fun _ => ?_)
 clear hKQ KQ
 try simp only [Act.put, ka, kb, kc]
 iterate 3 (refine tx 22 _ ?_; try simp only [Act.put, ka, kb, kc])
 refine tj 25 ((lgV c.lg (.slice A n p))) ?_ (hy := fun wq hSw => run_ldAt rfl rfl hSw.1 (aggL _) (sizeL _))
 try simp only [Act.put, ka, kb, kc]
 refine rr [26] ?_
 refine rc (fun KQ hKQ => ?_) AllReadyH.nil
 go_simp
 have CC := mayLog_any c.lg A n p y3 y3.heap.size R0 (Nat.le_refl _) (by have := hn2.out; omega) HJ.out HOk.out
 rw [h5.out] at CC
 refine (CC).mono ?_
 rintro e y9 ⟨rfl, hY⟩
 replace HB := bt HB hY
 replace kC := kC.b hY
 replace R0 := R0.on hY hY.size
 clear hY
 clear CC
 go_wp2_with fail
 refine hKQ.out _ _ (⟨at_cL kC, at_cN kC, at_cT kC, kC.cell 0, kC.cell 1, kC.cell 2, kC.cell 3, kC.cell 4, kC.cell 5, kC.cell 6, kC.cell 7, kC.cell 8⟩) (fun _ => ?_)
 clear hKQ KQ
 try simp only [Act.put, ka, kb, kc]
 iterate 3 (refine tx 27 _ ?_; try simp only [Act.put, ka, kb, kc])
 refine tj 30 ((lgV c.lg (.slice A n p))) ?_ (hy := fun wq hSw => run_ldAt rfl rfl hSw.1 (aggL _) (sizeL _))
 try simp only [Act.put, ka, kb, kc]
 iterate 2 (refine tx 32 _ ?_; try simp only [Act.put, ka, kb, kc])
 refine rr [31] ?_
 refine rc (fun KQ hKQ => ?_) AllReadyH.nil
 go_simp
 have CC := lastTerm_any c.lg A n p y9 y9.heap.size R0 (Nat.le_refl _) hp hFit.out
 rw [htv.out] at CC
 refine (CC).mono ?_
 rintro e y10 ⟨rfl, hY⟩
 replace HB := bt HB hY
 replace kC := kC.b hY
 replace R0 := R0.on hY hY.size
 clear hY
 clear CC
 go_wp2_with fail
 refine hKQ.out _ _ (⟨at_cL kC, at_cN kC, at_cT kC, kC.cell 0, kC.cell 1, kC.cell 2, kC.cell 3, kC.cell 4, kC.cell 5, kC.cell 6, kC.cell 7, kC.cell 8⟩) (fun _ => ?_)
 clear hKQ KQ
 try simp only [Act.put, ka, kb, kc]
 refine tj 34 ((.bool true)) ?_ (hy := fun wq hSw => rb_leq rfl rfl rfl (by have := h6.out; rw [htv.out] at this; exact this))
 try simp only [Act.put, ka, kb, kc]
 iterate 8 (refine tx 35 _ ?_; try simp only [Act.put, ka, kb, kc])
 refine rr [43] ?_
 refine rc (fun KQ hKQ => ?_) AllReadyH.nil
 go_simp
 have CC := within_any c.cm c.lg.b lw y10
 rw [show wiB c.cm c.lg.b lw = true by rw [hlwE.out, wi_and]; exact h7.out] at CC
 refine (CC).mono ?_
 rintro e y11 ⟨rfl, hW⟩
 subst hW
 clear CC
 go_wp2_with fail
 refine hKQ.out _ _ (⟨at_cL kC, at_cN kC, at_cT kC, kC.cell 0, kC.cell 1, kC.cell 2, kC.cell 3, kC.cell 4, kC.cell 5, kC.cell 6, kC.cell 7, kC.cell 8⟩) (fun _ => ?_)
 clear hKQ KQ
 try simp only [Act.put, ka, kb, kc]
 iterate 4 (refine tx 44 _ ?_; try simp only [Act.put, ka, kb, kc])
 refine rr [48] ?_
 refine rc (fun KQ hKQ => ?_) AllReadyH.nil
 go_simp
 have CC := within_any c.wa 0 1099511627776 y10
 rw [wi_up, h8.out] at CC
 refine (CC).mono ?_
 rintro e y12 ⟨rfl, hW⟩
 subst hW
 clear CC
 go_wp2_with fail
 refine hKQ.out _ _ (⟨at_cL kC, at_cN kC, at_cT kC, kC.cell 0, kC.cell 1, kC.cell 2, kC.cell 3, kC.cell 4, kC.cell 5, kC.cell 6, kC.cell 7, kC.cell 8⟩) (fun _ => ?_)
 clear hKQ KQ
 try simp only [Act.put, ka, kb, kc]
 iterate 4 (refine tx 49 _ ?_; try simp only [Act.put, ka, kb, kc])
 refine rr [53] ?_
 refine rc (fun KQ hKQ => ?_) AllReadyH.nil
 go_simp
 have CC := within_any c.sf 0 1099511627776 y10
 rw [wi_up, h9.out] at CC
 refine (CC).mono ?_
 rintro e y13 ⟨rfl, hW⟩
 subst hW
 clear CC
 go_wp2_with fail
 refine hKQ.out _ _ (⟨at_cL kC, at_cN kC, at_cT kC, kC.cell 0, kC.cell 1, kC.cell 2, kC.cell 3, kC.cell 4, kC.cell 5, kC.cell 6, kC.cell 7, kC.cell 8⟩) (fun _ => ?_)
 clear hKQ KQ
 try simp only [Act.put, ka, kb, kc]
 iterate 2 (refine tx 54 _ ?_; try simp only [Act.put, ka, kb, kc])
 refine skips [(56, 63), (57, 64), (58, 65)] (fuel := 8) ?_
 simp only [List.foldl_cons, List.foldl_nil, List.setIfInBounds_toArray, List.set_cons_zero, List.set_cons_succ]
 iterate 2 (refine tx 59 _ ?_; try simp only [Act.put, ka, kb, kc])
 refine skips [(61, 68), (62, 69), (63, 70), (64, 71)] (fuel := 2) ?_
 simp only [List.foldl_cons, List.foldl_nil, List.setIfInBounds_toArray, List.set_cons_zero, List.set_cons_succ]
 iterate 2 (refine tx 65 _ ?_; try simp only [Act.put, ka, kb, kc])
 refine wpAnyH_done (by kernel_rfl) ?_ _
 simp only [Exit.then]
 refine (‹∀ (a : Act) (w : World), Code.wp _ Code.ret _ a w → _›) _ _ (wp_ret ?_)
 first | (show bodyPost _ _ _ Exit.ret _ _) | (simp only [Exit.then]; show bodyPost _ _ _ Exit.ret _ _) | (simp only [Exit.then, Exit.inBlock]; show bodyPost _ _ _ Exit.ret _ _)
 refine bodyPost_ret (v := .bool false) (by simp [results, Tryz.results13, go_sem]) rfl ?_
 rw [hF.out]
 exact ⟨rfl, HB⟩
end Go.Proofs.YtegnfkbmlalkeaaGreat.cor
namespace Go.Proofs.YtegnfkbmlalkeaaGreat.cor
open Go Go.RowKit kit nums cf lg cr se
theorem may_10 (c : CoL) (A : Option Addr) (n p : Nat) (w : World) (B : Nat) (hR : RdE w B A n c.lg.es) (hB : B ≤ w.heap.size) (hp : n ≤ p) (hn : n ≤ 1000000) (hj : c.lg.j.ok) (hok : ∀ x ∈ c.lg.es, x.j.ok) (e0 : (nodeB c.id) = true) (e1 : (upB c.ro 2) = true) (e2 : (upB c.tm 1099511627776) = true) (e3 : (upB c.vo 9) = true) (e4 : (upB c.le 9) = true) (e5 : (mayG c.lg) = true) (e6 : (decide ((termF c.lg (lastF c.lg)).1 ≤ c.tm)) = true) (e7 : (decide (c.lg.b ≤ c.cm ∧ c.cm ≤ lastF c.lg)) = true) (e8 : (upB c.wa 1099511627776) = true) (e9 : (upB c.sf 1099511627776) = true) (e10 : (maA c.nx 2199023255552) = false) : Calls Tryz.prog 13 #[crV c (.slice A n p)] w fun e w' => e = .returned (.bool (mayK c)) ∧ Below w.heap.size w w' := by
 have HOk := Lh hok
 have HJ := Lh hj
 have hn2 := Lh hn
 have hlen := Lh hR.len
 have hF : Hid (mayK c = false) := Lh (by rw [mayK_form, e0, e1, e2, e3, e4, e5, e6, e7, e8, e9, e10]; rfl)
 have h0 := Lh e0
 have h1 := Lh e1
 have h2 := Lh e2
 have h3 := Lh e3
 have h4 := Lh e4
 have h5 := Lh e5
 have h6 := Lh e6
 have h7 := Lh e7
 have h8 := Lh e8
 have h9 := Lh e9
 have h10 := Lh e10
 have hFit := Lh (fit_mayG hR.len hn e5)
 obtain ⟨lw, hlw⟩ : ∃ q, IntKind.i64.wrap (c.lg.b + (n : Int)) = q := ⟨_, rfl⟩
 have hlwE : Hid (lw = lastF c.lg) := Lh (by rw [← hlw]; exact fit_last hR.len hFit.out)
 obtain ⟨tv, htv⟩ : ∃ q, (termF c.lg (lastF c.lg)).1 = q := ⟨_, rfl⟩
 clear hok hj hn e0 e1 e2 e3 e4 e5 e6 e7 e8 e9 e10
 replace hlw := Lh hlw
 replace htv := Lh htv
 have R0 := hR.more hB
 clear hR hB
 go_enter Tryz.func13, Tryz.ntmps13
 go_wp2_with (first | go_skip | refine box_C rfl _ rfl c (.slice A n p) rfl ?_ | fail)
 intro y1 kC e1 s1
 clear s1
 have HB := e1
 replace R0 := R0.on e1 e1.size
 clear e1
 go_wp2_with (first | go_skip | refine lo_Cj kC ?_ | refine lo_cLj kC ?_ | refine lo_cJj kC ?_)
 have CC := last_all c.lg A n p y1
 rw [hlw.out] at CC
 refine (CC).mono ?_
 rintro e y2 ⟨rfl, hY⟩
 replace HB := bt HB hY
 replace kC := kC.b hY
 replace R0 := R0.on hY hY.size
 clear hY
 clear CC
 go_upto_region 2 with (first | go_skip | refine lo_Cj kC ?_ | refine lo_cLj kC ?_ | refine lo_cJj kC ?_)
 simp only [List.append_eq, List.cons_append, List.nil_append]
 refine wp_region_held_drew (S := fun wq => At wq w.heap.size 8 (lgC c.lg (.slice A n p)) ∧ At wq w.heap.size 25 (a10C c.nx) ∧ At wq w.heap.size 35 (a10C c.mt) ∧ wq.cell? ⟨w.heap.size, 0, none⟩ = some (.int .i64 c.id) ∧ wq.cell? ⟨w.heap.size, 1, none⟩ = some (.int .i64 c.ro) ∧ wq.cell? ⟨w.heap.size, 2, none⟩ = some (.int .i64 c.tm) ∧ wq.cell? ⟨w.heap.size, 3, none⟩ = some (.int .i64 c.vo) ∧ wq.cell? ⟨w.heap.size, 4, none⟩ = some (.int .i64 c.le) ∧ wq.cell? ⟨w.heap.size, 5, none⟩ = some (.int .i64 c.wa) ∧ wq.cell? ⟨w.heap.size, 6, none⟩ = some (.int .i64 c.cm) ∧ wq.cell? ⟨w.heap.size, 7, none⟩ = some (.int .i64 c.sf) ∧ wq.cell? ⟨w.heap.size, 8, none⟩ = some (.int .i64 c.lg.b)) (by kernel_rfl) ?s_may2_10 (fun hHeld => ?_)
 case s_may2_10 => exact ⟨at_cL kC, at_cN kC, at_cT kC, kC.cell 0, kC.cell 1, kC.cell 2, kC.cell 3, kC.cell 4, kC.cell 5, kC.cell 6, kC.cell 7, kC.cell 8⟩
 have hD := (Below.refl y2.heap.size y2).drew
 replace HB := bt HB hD
 replace kC := kC.b hD
 replace R0 := R0.on hD hD.size
 clear hD
 generalize y2.drew = y3 at *
 iterate 2 (refine tx 0 _ ?_; try simp only [Act.put, ka, kb, kc])
 refine rr [2] ?_
 refine rc (fun KQ hKQ => ?_) AllReadyH.nil
 go_simp
 have CC := isnode_any c.id y3
 rw [h0.out] at CC
 refine (CC).mono ?_
 rintro e y4 ⟨rfl, hW⟩
 subst hW
 clear CC
 go_wp2_with fail
 refine hKQ.out _ _ (⟨at_cL kC, at_cN kC, at_cT kC, kC.cell 0, kC.cell 1, kC.cell 2, kC.cell 3, kC.cell 4, kC.cell 5, kC.cell 6, kC.cell 7, kC.cell 8⟩) (fun _ => ?_)
 clear hKQ KQ
 try simp only [Act.put, ka, kb, kc]
 iterate 3 (refine tx 3 _ ?_; try simp only [Act.put, ka, kb, kc])
 refine rr [6] ?_
 refine rc (fun KQ hKQ => ?_) AllReadyH.nil
 go_simp
 have CC := within_any c.ro 0 2 y3
 rw [wi_up, h1.out] at CC
 refine (CC).mono ?_
 rintro e y5 ⟨rfl, hW⟩
 subst hW
 clear CC
 go_wp2_with fail
 refine hKQ.out _ _ (⟨at_cL kC, at_cN kC, at_cT kC, kC.cell 0, kC.cell 1, kC.cell 2, kC.cell 3, kC.cell 4, kC.cell 5, kC.cell 6, kC.cell 7, kC.cell 8⟩) (fun _ => ?_)
 clear hKQ KQ
 try simp only [Act.put, ka, kb, kc]
 iterate 4 (refine tx 7 _ ?_; try simp only [Act.put, ka, kb, kc])
 refine rr [11] ?_
 refine rc (fun KQ hKQ => ?_) AllReadyH.nil
 go_simp
 have CC := within_any c.tm 0 1099511627776 y3
 rw [wi_up, h2.out] at CC
 refine (CC).mono ?_
 rintro e y6 ⟨rfl, hW⟩
 subst hW
 clear CC
 go_wp2_with fail
 refine hKQ.out _ _ (⟨at_cL kC, at_cN kC, at_cT kC, kC.cell 0, kC.cell 1, kC.cell 2, kC.cell 3, kC.cell 4, kC.cell 5, kC.cell 6, kC.cell 7, kC.cell 8⟩) (fun _ => ?_)
 clear hKQ KQ
 try simp only [Act.put, ka, kb, kc]
 iterate 4 (refine tx 12 _ ?_; try simp only [Act.put, ka, kb, kc])
 refine rr [16] ?_
 refine rc (fun KQ hKQ => ?_) AllReadyH.nil
 go_simp
 have CC := within_any c.vo 0 9 y3
 rw [wi_up, h3.out] at CC
 refine (CC).mono ?_
 rintro e y7 ⟨rfl, hW⟩
 subst hW
 clear CC
 go_wp2_with fail
 refine hKQ.out _ _ (⟨at_cL kC, at_cN kC, at_cT kC, kC.cell 0, kC.cell 1, kC.cell 2, kC.cell 3, kC.cell 4, kC.cell 5, kC.cell 6, kC.cell 7, kC.cell 8⟩) (fun _ => ?_)
 clear hKQ KQ
 try simp only [Act.put, ka, kb, kc]
 iterate 4 (refine tx 17 _ ?_; try simp only [Act.put, ka, kb, kc])
 refine rr [21] ?_
 refine rc (fun KQ hKQ => ?_) AllReadyH.nil
 go_simp
 have CC := within_any c.le 0 9 y3
 rw [wi_up, h4.out] at CC
 refine (CC).mono ?_
 rintro e y8 ⟨rfl, hW⟩
 subst hW
 clear CC
 go_wp2_with fail
 refine hKQ.out _ _ (⟨at_cL kC, at_cN kC, at_cT kC, kC.cell 0, kC.cell 1, kC.cell 2, kC.cell 3, kC.cell 4, kC.cell 5, kC.cell 6, kC.cell 7, kC.cell 8⟩) (fun _ => ?_)
 clear hKQ KQ
 try simp only [Act.put, ka, kb, kc]
 iterate 3 (refine tx 22 _ ?_; try simp only [Act.put, ka, kb, kc])
 refine tj 25 ((lgV c.lg (.slice A n p))) ?_ (hy := fun wq hSw => run_ldAt rfl rfl hSw.1 (aggL _) (sizeL _))
 try simp only [Act.put, ka, kb, kc]
 refine rr [26] ?_
 refine rc (fun KQ hKQ => ?_) AllReadyH.nil
 go_simp
 have CC := mayLog_any c.lg A n p y3 y3.heap.size R0 (Nat.le_refl _) (by have := hn2.out; omega) HJ.out HOk.out
 rw [h5.out] at CC
 refine (CC).mono ?_
 rintro e y9 ⟨rfl, hY⟩
 replace HB := bt HB hY
 replace kC := kC.b hY
 replace R0 := R0.on hY hY.size
 clear hY
 clear CC
 go_wp2_with fail
 refine hKQ.out _ _ (⟨at_cL kC, at_cN kC, at_cT kC, kC.cell 0, kC.cell 1, kC.cell 2, kC.cell 3, kC.cell 4, kC.cell 5, kC.cell 6, kC.cell 7, kC.cell 8⟩) (fun _ => ?_)
 clear hKQ KQ
 try simp only [Act.put, ka, kb, kc]
 iterate 3 (refine tx 27 _ ?_; try simp only [Act.put, ka, kb, kc])
 refine tj 30 ((lgV c.lg (.slice A n p))) ?_ (hy := fun wq hSw => run_ldAt rfl rfl hSw.1 (aggL _) (sizeL _))
 try simp only [Act.put, ka, kb, kc]
 iterate 2 (refine tx 32 _ ?_; try simp only [Act.put, ka, kb, kc])
 refine rr [31] ?_
 refine rc (fun KQ hKQ => ?_) AllReadyH.nil
 go_simp
 have CC := lastTerm_any c.lg A n p y9 y9.heap.size R0 (Nat.le_refl _) hp hFit.out
 rw [htv.out] at CC
 refine (CC).mono ?_
 rintro e y10 ⟨rfl, hY⟩
 replace HB := bt HB hY
 replace kC := kC.b hY
 replace R0 := R0.on hY hY.size
 clear hY
 clear CC
 go_wp2_with fail
 refine hKQ.out _ _ (⟨at_cL kC, at_cN kC, at_cT kC, kC.cell 0, kC.cell 1, kC.cell 2, kC.cell 3, kC.cell 4, kC.cell 5, kC.cell 6, kC.cell 7, kC.cell 8⟩) (fun _ => ?_)
 clear hKQ KQ
 try simp only [Act.put, ka, kb, kc]
 refine tj 34 ((.bool true)) ?_ (hy := fun wq hSw => rb_leq rfl rfl rfl (by have := h6.out; rw [htv.out] at this; exact this))
 try simp only [Act.put, ka, kb, kc]
 iterate 8 (refine tx 35 _ ?_; try simp only [Act.put, ka, kb, kc])
 refine rr [43] ?_
 refine rc (fun KQ hKQ => ?_) AllReadyH.nil
 go_simp
 have CC := within_any c.cm c.lg.b lw y10
 rw [show wiB c.cm c.lg.b lw = true by rw [hlwE.out, wi_and]; exact h7.out] at CC
 refine (CC).mono ?_
 rintro e y11 ⟨rfl, hW⟩
 subst hW
 clear CC
 go_wp2_with fail
 refine hKQ.out _ _ (⟨at_cL kC, at_cN kC, at_cT kC, kC.cell 0, kC.cell 1, kC.cell 2, kC.cell 3, kC.cell 4, kC.cell 5, kC.cell 6, kC.cell 7, kC.cell 8⟩) (fun _ => ?_)
 clear hKQ KQ
 try simp only [Act.put, ka, kb, kc]
 iterate 4 (refine tx 44 _ ?_; try simp only [Act.put, ka, kb, kc])
 refine rr [48] ?_
 refine rc (fun KQ hKQ => ?_) AllReadyH.nil
 go_simp
 have CC := within_any c.wa 0 1099511627776 y10
 rw [wi_up, h8.out] at CC
 refine (CC).mono ?_
 rintro e y12 ⟨rfl, hW⟩
 subst hW
 clear CC
 go_wp2_with fail
 refine hKQ.out _ _ (⟨at_cL kC, at_cN kC, at_cT kC, kC.cell 0, kC.cell 1, kC.cell 2, kC.cell 3, kC.cell 4, kC.cell 5, kC.cell 6, kC.cell 7, kC.cell 8⟩) (fun _ => ?_)
 clear hKQ KQ
 try simp only [Act.put, ka, kb, kc]
 iterate 4 (refine tx 49 _ ?_; try simp only [Act.put, ka, kb, kc])
 refine rr [53] ?_
 refine rc (fun KQ hKQ => ?_) AllReadyH.nil
 go_simp
 have CC := within_any c.sf 0 1099511627776 y10
 rw [wi_up, h9.out] at CC
 refine (CC).mono ?_
 rintro e y13 ⟨rfl, hW⟩
 subst hW
 clear CC
 go_wp2_with fail
 refine hKQ.out _ _ (⟨at_cL kC, at_cN kC, at_cT kC, kC.cell 0, kC.cell 1, kC.cell 2, kC.cell 3, kC.cell 4, kC.cell 5, kC.cell 6, kC.cell 7, kC.cell 8⟩) (fun _ => ?_)
 clear hKQ KQ
 try simp only [Act.put, ka, kb, kc]
 iterate 3 (refine tx 54 _ ?_; try simp only [Act.put, ka, kb, kc])
 refine tj 57 ((a10V c.nx)) ?_ (hy := fun wq hSw => run_ldAt rfl rfl hSw.2.1 (aggT _) (sizeT _))
 try simp only [Act.put, ka, kb, kc]
 refine rr [58] ?_
 refine rc (fun KQ hKQ => ?_) AllReadyH.nil
 go_simp
 have CC := mayAll_any c.nx 2199023255552 y10
 rw [h10.out] at CC
 refine (CC).mono ?_
 rintro e y14 ⟨rfl, hY⟩
 replace HB := bt HB hY
 replace kC := kC.b hY
 replace R0 := R0.on hY hY.size
 clear hY
 clear CC
 go_wp2_with fail
 refine hKQ.out _ _ (⟨at_cL kC, at_cN kC, at_cT kC, kC.cell 0, kC.cell 1, kC.cell 2, kC.cell 3, kC.cell 4, kC.cell 5, kC.cell 6, kC.cell 7, kC.cell 8⟩) (fun _ => ?_)
 clear hKQ KQ
 try simp only [Act.put, ka, kb, kc]
 iterate 2 (refine tx 59 _ ?_; try simp only [Act.put, ka, kb, kc])
 refine skips [(61, 68), (62, 69), (63, 70), (64, 71)] (fuel := 2) ?_
 simp only [List.foldl_cons, List.foldl_nil, List.setIfInBounds_toArray, List.set_cons_zero, List.set_cons_succ]
 iterate 2 (refine tx 65 _ ?_; try simp only [Act.put, ka, kb, kc])
 refine wpAnyH_done (by kernel_rfl) ?_ _
 simp only [Exit.then]
 refine (‹∀ (a : Act) (w : World), Code.wp _ Code.ret _ a w → _›) _ _ (wp_ret ?_)
 first | (show bodyPost _ _ _ Exit.ret _ _) | (simp only [Exit.then]; show bodyPost _ _ _ Exit.ret _ _) | (simp only [Exit.then, Exit.inBlock]; show bodyPost _ _ _ Exit.ret _ _)
 refine bodyPost_ret (v := .bool false) (by simp [results, Tryz.results13, go_sem]) rfl ?_
 rw [hF.out]
 exact ⟨rfl, HB⟩
end Go.Proofs.YtegnfkbmlalkeaaGreat.cor
namespace Go.Proofs.YtegnfkbmlalkeaaGreat.cor
open Go Go.RowKit kit nums cf lg cr se
theorem may_11 (c : CoL) (A : Option Addr) (n p : Nat) (w : World) (B : Nat) (hR : RdE w B A n c.lg.es) (hB : B ≤ w.heap.size) (hp : n ≤ p) (hn : n ≤ 1000000) (hj : c.lg.j.ok) (hok : ∀ x ∈ c.lg.es, x.j.ok) (e0 : (nodeB c.id) = true) (e1 : (upB c.ro 2) = true) (e2 : (upB c.tm 1099511627776) = true) (e3 : (upB c.vo 9) = true) (e4 : (upB c.le 9) = true) (e5 : (mayG c.lg) = true) (e6 : (decide ((termF c.lg (lastF c.lg)).1 ≤ c.tm)) = true) (e7 : (decide (c.lg.b ≤ c.cm ∧ c.cm ≤ lastF c.lg)) = true) (e8 : (upB c.wa 1099511627776) = true) (e9 : (upB c.sf 1099511627776) = true) (e10 : (maA c.nx 2199023255552) = true) (e11 : (maA c.mt (lastF c.lg)) = false) : Calls Tryz.prog 13 #[crV c (.slice A n p)] w fun e w' => e = .returned (.bool (mayK c)) ∧ Below w.heap.size w w' := by
 have HOk := Lh hok
 have HJ := Lh hj
 have hn2 := Lh hn
 have hlen := Lh hR.len
 have hF : Hid (mayK c = false) := Lh (by rw [mayK_form, e0, e1, e2, e3, e4, e5, e6, e7, e8, e9, e10, e11]; rfl)
 have h0 := Lh e0
 have h1 := Lh e1
 have h2 := Lh e2
 have h3 := Lh e3
 have h4 := Lh e4
 have h5 := Lh e5
 have h6 := Lh e6
 have h7 := Lh e7
 have h8 := Lh e8
 have h9 := Lh e9
 have h10 := Lh e10
 have h11 := Lh e11
 have hFit := Lh (fit_mayG hR.len hn e5)
 obtain ⟨lw, hlw⟩ : ∃ q, IntKind.i64.wrap (c.lg.b + (n : Int)) = q := ⟨_, rfl⟩
 have hlwE : Hid (lw = lastF c.lg) := Lh (by rw [← hlw]; exact fit_last hR.len hFit.out)
 obtain ⟨tv, htv⟩ : ∃ q, (termF c.lg (lastF c.lg)).1 = q := ⟨_, rfl⟩
 clear hok hj hn e0 e1 e2 e3 e4 e5 e6 e7 e8 e9 e10 e11
 replace hlw := Lh hlw
 replace htv := Lh htv
 have R0 := hR.more hB
 clear hR hB
 go_enter Tryz.func13, Tryz.ntmps13
 go_wp2_with (first | go_skip | refine box_C rfl _ rfl c (.slice A n p) rfl ?_ | fail)
 intro y1 kC e1 s1
 clear s1
 have HB := e1
 replace R0 := R0.on e1 e1.size
 clear e1
 go_wp2_with (first | go_skip | refine lo_Cj kC ?_ | refine lo_cLj kC ?_ | refine lo_cJj kC ?_)
 have CC := last_all c.lg A n p y1
 rw [hlw.out] at CC
 refine (CC).mono ?_
 rintro e y2 ⟨rfl, hY⟩
 replace HB := bt HB hY
 replace kC := kC.b hY
 replace R0 := R0.on hY hY.size
 clear hY
 clear CC
 go_upto_region 2 with (first | go_skip | refine lo_Cj kC ?_ | refine lo_cLj kC ?_ | refine lo_cJj kC ?_)
 simp only [List.append_eq, List.cons_append, List.nil_append]
 refine wp_region_held_drew (S := fun wq => At wq w.heap.size 8 (lgC c.lg (.slice A n p)) ∧ At wq w.heap.size 25 (a10C c.nx) ∧ At wq w.heap.size 35 (a10C c.mt) ∧ wq.cell? ⟨w.heap.size, 0, none⟩ = some (.int .i64 c.id) ∧ wq.cell? ⟨w.heap.size, 1, none⟩ = some (.int .i64 c.ro) ∧ wq.cell? ⟨w.heap.size, 2, none⟩ = some (.int .i64 c.tm) ∧ wq.cell? ⟨w.heap.size, 3, none⟩ = some (.int .i64 c.vo) ∧ wq.cell? ⟨w.heap.size, 4, none⟩ = some (.int .i64 c.le) ∧ wq.cell? ⟨w.heap.size, 5, none⟩ = some (.int .i64 c.wa) ∧ wq.cell? ⟨w.heap.size, 6, none⟩ = some (.int .i64 c.cm) ∧ wq.cell? ⟨w.heap.size, 7, none⟩ = some (.int .i64 c.sf) ∧ wq.cell? ⟨w.heap.size, 8, none⟩ = some (.int .i64 c.lg.b)) (by kernel_rfl) ?s_may2_11 (fun hHeld => ?_)
 case s_may2_11 => exact ⟨at_cL kC, at_cN kC, at_cT kC, kC.cell 0, kC.cell 1, kC.cell 2, kC.cell 3, kC.cell 4, kC.cell 5, kC.cell 6, kC.cell 7, kC.cell 8⟩
 have hD := (Below.refl y2.heap.size y2).drew
 replace HB := bt HB hD
 replace kC := kC.b hD
 replace R0 := R0.on hD hD.size
 clear hD
 generalize y2.drew = y3 at *
 iterate 2 (refine tx 0 _ ?_; try simp only [Act.put, ka, kb, kc])
 refine rr [2] ?_
 refine rc (fun KQ hKQ => ?_) AllReadyH.nil
 go_simp
 have CC := isnode_any c.id y3
 rw [h0.out] at CC
 refine (CC).mono ?_
 rintro e y4 ⟨rfl, hW⟩
 subst hW
 clear CC
 go_wp2_with fail
 refine hKQ.out _ _ (⟨at_cL kC, at_cN kC, at_cT kC, kC.cell 0, kC.cell 1, kC.cell 2, kC.cell 3, kC.cell 4, kC.cell 5, kC.cell 6, kC.cell 7, kC.cell 8⟩) (fun _ => ?_)
 clear hKQ KQ
 try simp only [Act.put, ka, kb, kc]
 iterate 3 (refine tx 3 _ ?_; try simp only [Act.put, ka, kb, kc])
 refine rr [6] ?_
 refine rc (fun KQ hKQ => ?_) AllReadyH.nil
 go_simp
 have CC := within_any c.ro 0 2 y3
 rw [wi_up, h1.out] at CC
 refine (CC).mono ?_
 rintro e y5 ⟨rfl, hW⟩
 subst hW
 clear CC
 go_wp2_with fail
 refine hKQ.out _ _ (⟨at_cL kC, at_cN kC, at_cT kC, kC.cell 0, kC.cell 1, kC.cell 2, kC.cell 3, kC.cell 4, kC.cell 5, kC.cell 6, kC.cell 7, kC.cell 8⟩) (fun _ => ?_)
 clear hKQ KQ
 try simp only [Act.put, ka, kb, kc]
 iterate 4 (refine tx 7 _ ?_; try simp only [Act.put, ka, kb, kc])
 refine rr [11] ?_
 refine rc (fun KQ hKQ => ?_) AllReadyH.nil
 go_simp
 have CC := within_any c.tm 0 1099511627776 y3
 rw [wi_up, h2.out] at CC
 refine (CC).mono ?_
 rintro e y6 ⟨rfl, hW⟩
 subst hW
 clear CC
 go_wp2_with fail
 refine hKQ.out _ _ (⟨at_cL kC, at_cN kC, at_cT kC, kC.cell 0, kC.cell 1, kC.cell 2, kC.cell 3, kC.cell 4, kC.cell 5, kC.cell 6, kC.cell 7, kC.cell 8⟩) (fun _ => ?_)
 clear hKQ KQ
 try simp only [Act.put, ka, kb, kc]
 iterate 4 (refine tx 12 _ ?_; try simp only [Act.put, ka, kb, kc])
 refine rr [16] ?_
 refine rc (fun KQ hKQ => ?_) AllReadyH.nil
 go_simp
 have CC := within_any c.vo 0 9 y3
 rw [wi_up, h3.out] at CC
 refine (CC).mono ?_
 rintro e y7 ⟨rfl, hW⟩
 subst hW
 clear CC
 go_wp2_with fail
 refine hKQ.out _ _ (⟨at_cL kC, at_cN kC, at_cT kC, kC.cell 0, kC.cell 1, kC.cell 2, kC.cell 3, kC.cell 4, kC.cell 5, kC.cell 6, kC.cell 7, kC.cell 8⟩) (fun _ => ?_)
 clear hKQ KQ
 try simp only [Act.put, ka, kb, kc]
 iterate 4 (refine tx 17 _ ?_; try simp only [Act.put, ka, kb, kc])
 refine rr [21] ?_
 refine rc (fun KQ hKQ => ?_) AllReadyH.nil
 go_simp
 have CC := within_any c.le 0 9 y3
 rw [wi_up, h4.out] at CC
 refine (CC).mono ?_
 rintro e y8 ⟨rfl, hW⟩
 subst hW
 clear CC
 go_wp2_with fail
 refine hKQ.out _ _ (⟨at_cL kC, at_cN kC, at_cT kC, kC.cell 0, kC.cell 1, kC.cell 2, kC.cell 3, kC.cell 4, kC.cell 5, kC.cell 6, kC.cell 7, kC.cell 8⟩) (fun _ => ?_)
 clear hKQ KQ
 try simp only [Act.put, ka, kb, kc]
 iterate 3 (refine tx 22 _ ?_; try simp only [Act.put, ka, kb, kc])
 refine tj 25 ((lgV c.lg (.slice A n p))) ?_ (hy := fun wq hSw => run_ldAt rfl rfl hSw.1 (aggL _) (sizeL _))
 try simp only [Act.put, ka, kb, kc]
 refine rr [26] ?_
 refine rc (fun KQ hKQ => ?_) AllReadyH.nil
 go_simp
 have CC := mayLog_any c.lg A n p y3 y3.heap.size R0 (Nat.le_refl _) (by have := hn2.out; omega) HJ.out HOk.out
 rw [h5.out] at CC
 refine (CC).mono ?_
 rintro e y9 ⟨rfl, hY⟩
 replace HB := bt HB hY
 replace kC := kC.b hY
 replace R0 := R0.on hY hY.size
 clear hY
 clear CC
 go_wp2_with fail
 refine hKQ.out _ _ (⟨at_cL kC, at_cN kC, at_cT kC, kC.cell 0, kC.cell 1, kC.cell 2, kC.cell 3, kC.cell 4, kC.cell 5, kC.cell 6, kC.cell 7, kC.cell 8⟩) (fun _ => ?_)
 clear hKQ KQ
 try simp only [Act.put, ka, kb, kc]
 iterate 3 (refine tx 27 _ ?_; try simp only [Act.put, ka, kb, kc])
 refine tj 30 ((lgV c.lg (.slice A n p))) ?_ (hy := fun wq hSw => run_ldAt rfl rfl hSw.1 (aggL _) (sizeL _))
 try simp only [Act.put, ka, kb, kc]
 iterate 2 (refine tx 32 _ ?_; try simp only [Act.put, ka, kb, kc])
 refine rr [31] ?_
 refine rc (fun KQ hKQ => ?_) AllReadyH.nil
 go_simp
 have CC := lastTerm_any c.lg A n p y9 y9.heap.size R0 (Nat.le_refl _) hp hFit.out
 rw [htv.out] at CC
 refine (CC).mono ?_
 rintro e y10 ⟨rfl, hY⟩
 replace HB := bt HB hY
 replace kC := kC.b hY
 replace R0 := R0.on hY hY.size
 clear hY
 clear CC
 go_wp2_with fail
 refine hKQ.out _ _ (⟨at_cL kC, at_cN kC, at_cT kC, kC.cell 0, kC.cell 1, kC.cell 2, kC.cell 3, kC.cell 4, kC.cell 5, kC.cell 6, kC.cell 7, kC.cell 8⟩) (fun _ => ?_)
 clear hKQ KQ
 try simp only [Act.put, ka, kb, kc]
 refine tj 34 ((.bool true)) ?_ (hy := fun wq hSw => rb_leq rfl rfl rfl (by have := h6.out; rw [htv.out] at this; exact this))
 try simp only [Act.put, ka, kb, kc]
 iterate 8 (refine tx 35 _ ?_; try simp only [Act.put, ka, kb, kc])
 refine rr [43] ?_
 refine rc (fun KQ hKQ => ?_) AllReadyH.nil
 go_simp
 have CC := within_any c.cm c.lg.b lw y10
 rw [show wiB c.cm c.lg.b lw = true by rw [hlwE.out, wi_and]; exact h7.out] at CC
 refine (CC).mono ?_
 rintro e y11 ⟨rfl, hW⟩
 subst hW
 clear CC
 go_wp2_with fail
 refine hKQ.out _ _ (⟨at_cL kC, at_cN kC, at_cT kC, kC.cell 0, kC.cell 1, kC.cell 2, kC.cell 3, kC.cell 4, kC.cell 5, kC.cell 6, kC.cell 7, kC.cell 8⟩) (fun _ => ?_)
 clear hKQ KQ
 try simp only [Act.put, ka, kb, kc]
 iterate 4 (refine tx 44 _ ?_; try simp only [Act.put, ka, kb, kc])
 refine rr [48] ?_
 refine rc (fun KQ hKQ => ?_) AllReadyH.nil
 go_simp
 have CC := within_any c.wa 0 1099511627776 y10
 rw [wi_up, h8.out] at CC
 refine (CC).mono ?_
 rintro e y12 ⟨rfl, hW⟩
 subst hW
 clear CC
 go_wp2_with fail
 refine hKQ.out _ _ (⟨at_cL kC, at_cN kC, at_cT kC, kC.cell 0, kC.cell 1, kC.cell 2, kC.cell 3, kC.cell 4, kC.cell 5, kC.cell 6, kC.cell 7, kC.cell 8⟩) (fun _ => ?_)
 clear hKQ KQ
 try simp only [Act.put, ka, kb, kc]
 iterate 4 (refine tx 49 _ ?_; try simp only [Act.put, ka, kb, kc])
 refine rr [53] ?_
 refine rc (fun KQ hKQ => ?_) AllReadyH.nil
 go_simp
 have CC := within_any c.sf 0 1099511627776 y10
 rw [wi_up, h9.out] at CC
 refine (CC).mono ?_
 rintro e y13 ⟨rfl, hW⟩
 subst hW
 clear CC
 go_wp2_with fail
 refine hKQ.out _ _ (⟨at_cL kC, at_cN kC, at_cT kC, kC.cell 0, kC.cell 1, kC.cell 2, kC.cell 3, kC.cell 4, kC.cell 5, kC.cell 6, kC.cell 7, kC.cell 8⟩) (fun _ => ?_)
 clear hKQ KQ
 try simp only [Act.put, ka, kb, kc]
 iterate 3 (refine tx 54 _ ?_; try simp only [Act.put, ka, kb, kc])
 refine tj 57 ((a10V c.nx)) ?_ (hy := fun wq hSw => run_ldAt rfl rfl hSw.2.1 (aggT _) (sizeT _))
 try simp only [Act.put, ka, kb, kc]
 refine rr [58] ?_
 refine rc (fun KQ hKQ => ?_) AllReadyH.nil
 go_simp
 have CC := mayAll_any c.nx 2199023255552 y10
 rw [h10.out] at CC
 refine (CC).mono ?_
 rintro e y14 ⟨rfl, hY⟩
 replace HB := bt HB hY
 replace kC := kC.b hY
 replace R0 := R0.on hY hY.size
 clear hY
 clear CC
 go_wp2_with fail
 refine hKQ.out _ _ (⟨at_cL kC, at_cN kC, at_cT kC, kC.cell 0, kC.cell 1, kC.cell 2, kC.cell 3, kC.cell 4, kC.cell 5, kC.cell 6, kC.cell 7, kC.cell 8⟩) (fun _ => ?_)
 clear hKQ KQ
 try simp only [Act.put, ka, kb, kc]
 iterate 3 (refine tx 59 _ ?_; try simp only [Act.put, ka, kb, kc])
 refine tj 62 ((a10V c.mt)) ?_ (hy := fun wq hSw => run_ldAt rfl rfl hSw.2.2.1 (aggT _) (sizeT _))
 try simp only [Act.put, ka, kb, kc]
 refine tj 63 _ ?_
 try simp only [Act.put, ka, kb, kc]
 refine rr [64] ?_
 refine rc (fun KQ hKQ => ?_) AllReadyH.nil
 go_simp
 have CC := mayAll_any c.mt lw y14
 rw [show maA c.mt lw = false by rw [hlwE.out]; exact h11.out] at CC
 refine (CC).mono ?_
 rintro e y15 ⟨rfl, hY⟩
 replace HB := bt HB hY
 replace kC := kC.b hY
 replace R0 := R0.on hY hY.size
 clear hY
 clear CC
 go_wp2_with fail
 refine hKQ.out _ _ (⟨at_cL kC, at_cN kC, at_cT kC, kC.cell 0, kC.cell 1, kC.cell 2, kC.cell 3, kC.cell 4, kC.cell 5, kC.cell 6, kC.cell 7, kC.cell 8⟩) (fun _ => ?_)
 clear hKQ KQ
 try simp only [Act.put, ka, kb, kc]
 iterate 2 (refine tx 65 _ ?_; try simp only [Act.put, ka, kb, kc])
 refine wpAnyH_done (by kernel_rfl) ?_ _
 simp only [Exit.then]
 refine (‹∀ (a : Act) (w : World), Code.wp _ Code.ret _ a w → _›) _ _ (wp_ret ?_)
 first | (show bodyPost _ _ _ Exit.ret _ _) | (simp only [Exit.then]; show bodyPost _ _ _ Exit.ret _ _) | (simp only [Exit.then, Exit.inBlock]; show bodyPost _ _ _ Exit.ret _ _)
 refine bodyPost_ret (v := .bool false) (by simp [results, Tryz.results13, go_sem]) rfl ?_
 rw [hF.out]
 exact ⟨rfl, HB⟩
end Go.Proofs.YtegnfkbmlalkeaaGreat.cor
namespace Go.Proofs.YtegnfkbmlalkeaaGreat.cor
open Go Go.RowKit kit nums cf lg cr se
theorem may_12 (c : CoL) (A : Option Addr) (n p : Nat) (w : World) (B : Nat) (hR : RdE w B A n c.lg.es) (hB : B ≤ w.heap.size) (hp : n ≤ p) (hn : n ≤ 1000000) (hj : c.lg.j.ok) (hok : ∀ x ∈ c.lg.es, x.j.ok) (e0 : (nodeB c.id) = true) (e1 : (upB c.ro 2) = true) (e2 : (upB c.tm 1099511627776) = true) (e3 : (upB c.vo 9) = true) (e4 : (upB c.le 9) = true) (e5 : (mayG c.lg) = true) (e6 : (decide ((termF c.lg (lastF c.lg)).1 ≤ c.tm)) = true) (e7 : (decide (c.lg.b ≤ c.cm ∧ c.cm ≤ lastF c.lg)) = true) (e8 : (upB c.wa 1099511627776) = true) (e9 : (upB c.sf 1099511627776) = true) (e10 : (maA c.nx 2199023255552) = true) (e11 : (maA c.mt (lastF c.lg)) = true) : Calls Tryz.prog 13 #[crV c (.slice A n p)] w fun e w' => e = .returned (.bool (mayK c)) ∧ Below w.heap.size w w' := by
 have HOk := Lh hok
 have HJ := Lh hj
 have hn2 := Lh hn
 have hlen := Lh hR.len
 have hF : Hid (mayK c = true) := Lh (by rw [mayK_form, e0, e1, e2, e3, e4, e5, e6, e7, e8, e9, e10, e11]; rfl)
 have h0 := Lh e0
 have h1 := Lh e1
 have h2 := Lh e2
 have h3 := Lh e3
 have h4 := Lh e4
 have h5 := Lh e5
 have h6 := Lh e6
 have h7 := Lh e7
 have h8 := Lh e8
 have h9 := Lh e9
 have h10 := Lh e10
 have h11 := Lh e11
 have hFit := Lh (fit_mayG hR.len hn e5)
 obtain ⟨lw, hlw⟩ : ∃ q, IntKind.i64.wrap (c.lg.b + (n : Int)) = q := ⟨_, rfl⟩
 have hlwE : Hid (lw = lastF c.lg) := Lh (by rw [← hlw]; exact fit_last hR.len hFit.out)
 obtain ⟨tv, htv⟩ : ∃ q, (termF c.lg (lastF c.lg)).1 = q := ⟨_, rfl⟩
 clear hok hj hn e0 e1 e2 e3 e4 e5 e6 e7 e8 e9 e10 e11
 replace hlw := Lh hlw
 replace htv := Lh htv
 have R0 := hR.more hB
 clear hR hB
 go_enter Tryz.func13, Tryz.ntmps13
 go_wp2_with (first | go_skip | refine box_C rfl _ rfl c (.slice A n p) rfl ?_ | fail)
 intro y1 kC e1 s1
 clear s1
 have HB := e1
 replace R0 := R0.on e1 e1.size
 clear e1
 go_wp2_with (first | go_skip | refine lo_Cj kC ?_ | refine lo_cLj kC ?_ | refine lo_cJj kC ?_)
 have CC := last_all c.lg A n p y1
 rw [hlw.out] at CC
 refine (CC).mono ?_
 rintro e y2 ⟨rfl, hY⟩
 replace HB := bt HB hY
 replace kC := kC.b hY
 replace R0 := R0.on hY hY.size
 clear hY
 clear CC
 go_upto_region 2 with (first | go_skip | refine lo_Cj kC ?_ | refine lo_cLj kC ?_ | refine lo_cJj kC ?_)
 simp only [List.append_eq, List.cons_append, List.nil_append]
 refine wp_region_held_drew (S := fun wq => At wq w.heap.size 8 (lgC c.lg (.slice A n p)) ∧ At wq w.heap.size 25 (a10C c.nx) ∧ At wq w.heap.size 35 (a10C c.mt) ∧ wq.cell? ⟨w.heap.size, 0, none⟩ = some (.int .i64 c.id) ∧ wq.cell? ⟨w.heap.size, 1, none⟩ = some (.int .i64 c.ro) ∧ wq.cell? ⟨w.heap.size, 2, none⟩ = some (.int .i64 c.tm) ∧ wq.cell? ⟨w.heap.size, 3, none⟩ = some (.int .i64 c.vo) ∧ wq.cell? ⟨w.heap.size, 4, none⟩ = some (.int .i64 c.le) ∧ wq.cell? ⟨w.heap.size, 5, none⟩ = some (.int .i64 c.wa) ∧ wq.cell? ⟨w.heap.size, 6, none⟩ = some (.int .i64 c.cm) ∧ wq.cell? ⟨w.heap.size, 7, none⟩ = some (.int .i64 c.sf) ∧ wq.cell? ⟨w.heap.size, 8, none⟩ = some (.int .i64 c.lg.b)) (by kernel_rfl) ?s_may2_12 (fun hHeld => ?_)
 case s_may2_12 => exact ⟨at_cL kC, at_cN kC, at_cT kC, kC.cell 0, kC.cell 1, kC.cell 2, kC.cell 3, kC.cell 4, kC.cell 5, kC.cell 6, kC.cell 7, kC.cell 8⟩
 have hD := (Below.refl y2.heap.size y2).drew
 replace HB := bt HB hD
 replace kC := kC.b hD
 replace R0 := R0.on hD hD.size
 clear hD
 generalize y2.drew = y3 at *
 iterate 2 (refine tx 0 _ ?_; try simp only [Act.put, ka, kb, kc])
 refine rr [2] ?_
 refine rc (fun KQ hKQ => ?_) AllReadyH.nil
 go_simp
 have CC := isnode_any c.id y3
 rw [h0.out] at CC
 refine (CC).mono ?_
 rintro e y4 ⟨rfl, hW⟩
 subst hW
 clear CC
 go_wp2_with fail
 refine hKQ.out _ _ (⟨at_cL kC, at_cN kC, at_cT kC, kC.cell 0, kC.cell 1, kC.cell 2, kC.cell 3, kC.cell 4, kC.cell 5, kC.cell 6, kC.cell 7, kC.cell 8⟩) (fun _ => ?_)
 clear hKQ KQ
 try simp only [Act.put, ka, kb, kc]
 iterate 3 (refine tx 3 _ ?_; try simp only [Act.put, ka, kb, kc])
 refine rr [6] ?_
 refine rc (fun KQ hKQ => ?_) AllReadyH.nil
 go_simp
 have CC := within_any c.ro 0 2 y3
 rw [wi_up, h1.out] at CC
 refine (CC).mono ?_
 rintro e y5 ⟨rfl, hW⟩
 subst hW
 clear CC
 go_wp2_with fail
 refine hKQ.out _ _ (⟨at_cL kC, at_cN kC, at_cT kC, kC.cell 0, kC.cell 1, kC.cell 2, kC.cell 3, kC.cell 4, kC.cell 5, kC.cell 6, kC.cell 7, kC.cell 8⟩) (fun _ => ?_)
 clear hKQ KQ
 try simp only [Act.put, ka, kb, kc]
 iterate 4 (refine tx 7 _ ?_; try simp only [Act.put, ka, kb, kc])
 refine rr [11] ?_
 refine rc (fun KQ hKQ => ?_) AllReadyH.nil
 go_simp
 have CC := within_any c.tm 0 1099511627776 y3
 rw [wi_up, h2.out] at CC
 refine (CC).mono ?_
 rintro e y6 ⟨rfl, hW⟩
 subst hW
 clear CC
 go_wp2_with fail
 refine hKQ.out _ _ (⟨at_cL kC, at_cN kC, at_cT kC, kC.cell 0, kC.cell 1, kC.cell 2, kC.cell 3, kC.cell 4, kC.cell 5, kC.cell 6, kC.cell 7, kC.cell 8⟩) (fun _ => ?_)
 clear hKQ KQ
 try simp only [Act.put, ka, kb, kc]
 iterate 4 (refine tx 12 _ ?_; try simp only [Act.put, ka, kb, kc])
 refine rr [16] ?_
 refine rc (fun KQ hKQ => ?_) AllReadyH.nil
 go_simp
 have CC := within_any c.vo 0 9 y3
 rw [wi_up, h3.out] at CC
 refine (CC).mono ?_
 rintro e y7 ⟨rfl, hW⟩
 subst hW
 clear CC
 go_wp2_with fail
 refine hKQ.out _ _ (⟨at_cL kC, at_cN kC, at_cT kC, kC.cell 0, kC.cell 1, kC.cell 2, kC.cell 3, kC.cell 4, kC.cell 5, kC.cell 6, kC.cell 7, kC.cell 8⟩) (fun _ => ?_)
 clear hKQ KQ
 try simp only [Act.put, ka, kb, kc]
 iterate 4 (refine tx 17 _ ?_; try simp only [Act.put, ka, kb, kc])
 refine rr [21] ?_
 refine rc (fun KQ hKQ => ?_) AllReadyH.nil
 go_simp
 have CC := within_any c.le 0 9 y3
 rw [wi_up, h4.out] at CC
 refine (CC).mono ?_
 rintro e y8 ⟨rfl, hW⟩
 subst hW
 clear CC
 go_wp2_with fail
 refine hKQ.out _ _ (⟨at_cL kC, at_cN kC, at_cT kC, kC.cell 0, kC.cell 1, kC.cell 2, kC.cell 3, kC.cell 4, kC.cell 5, kC.cell 6, kC.cell 7, kC.cell 8⟩) (fun _ => ?_)
 clear hKQ KQ
 try simp only [Act.put, ka, kb, kc]
 iterate 3 (refine tx 22 _ ?_; try simp only [Act.put, ka, kb, kc])
 refine tj 25 ((lgV c.lg (.slice A n p))) ?_ (hy := fun wq hSw => run_ldAt rfl rfl hSw.1 (aggL _) (sizeL _))
 try simp only [Act.put, ka, kb, kc]
 refine rr [26] ?_
 refine rc (fun KQ hKQ => ?_) AllReadyH.nil
 go_simp
 have CC := mayLog_any c.lg A n p y3 y3.heap.size R0 (Nat.le_refl _) (by have := hn2.out; omega) HJ.out HOk.out
 rw [h5.out] at CC
 refine (CC).mono ?_
 rintro e y9 ⟨rfl, hY⟩
 replace HB := bt HB hY
 replace kC := kC.b hY
 replace R0 := R0.on hY hY.size
 clear hY
 clear CC
 go_wp2_with fail
 refine hKQ.out _ _ (⟨at_cL kC, at_cN kC, at_cT kC, kC.cell 0, kC.cell 1, kC.cell 2, kC.cell 3, kC.cell 4, kC.cell 5, kC.cell 6, kC.cell 7, kC.cell 8⟩) (fun _ => ?_)
 clear hKQ KQ
 try simp only [Act.put, ka, kb, kc]
 iterate 3 (refine tx 27 _ ?_; try simp only [Act.put, ka, kb, kc])
 refine tj 30 ((lgV c.lg (.slice A n p))) ?_ (hy := fun wq hSw => run_ldAt rfl rfl hSw.1 (aggL _) (sizeL _))
 try simp only [Act.put, ka, kb, kc]
 iterate 2 (refine tx 32 _ ?_; try simp only [Act.put, ka, kb, kc])
 refine rr [31] ?_
 refine rc (fun KQ hKQ => ?_) AllReadyH.nil
 go_simp
 have CC := lastTerm_any c.lg A n p y9 y9.heap.size R0 (Nat.le_refl _) hp hFit.out
 rw [htv.out] at CC
 refine (CC).mono ?_
 rintro e y10 ⟨rfl, hY⟩
 replace HB := bt HB hY
 replace kC := kC.b hY
 replace R0 := R0.on hY hY.size
 clear hY
 clear CC
 go_wp2_with fail
 refine hKQ.out _ _ (⟨at_cL kC, at_cN kC, at_cT kC, kC.cell 0, kC.cell 1, kC.cell 2, kC.cell 3, kC.cell 4, kC.cell 5, kC.cell 6, kC.cell 7, kC.cell 8⟩) (fun _ => ?_)
 clear hKQ KQ
 try simp only [Act.put, ka, kb, kc]
 refine tj 34 ((.bool true)) ?_ (hy := fun wq hSw => rb_leq rfl rfl rfl (by have := h6.out; rw [htv.out] at this; exact this))
 try simp only [Act.put, ka, kb, kc]
 iterate 8 (refine tx 35 _ ?_; try simp only [Act.put, ka, kb, kc])
 refine rr [43] ?_
 refine rc (fun KQ hKQ => ?_) AllReadyH.nil
 go_simp
 have CC := within_any c.cm c.lg.b lw y10
 rw [show wiB c.cm c.lg.b lw = true by rw [hlwE.out, wi_and]; exact h7.out] at CC
 refine (CC).mono ?_
 rintro e y11 ⟨rfl, hW⟩
 subst hW
 clear CC
 go_wp2_with fail
 refine hKQ.out _ _ (⟨at_cL kC, at_cN kC, at_cT kC, kC.cell 0, kC.cell 1, kC.cell 2, kC.cell 3, kC.cell 4, kC.cell 5, kC.cell 6, kC.cell 7, kC.cell 8⟩) (fun _ => ?_)
 clear hKQ KQ
 try simp only [Act.put, ka, kb, kc]
 iterate 4 (refine tx 44 _ ?_; try simp only [Act.put, ka, kb, kc])
 refine rr [48] ?_
 refine rc (fun KQ hKQ => ?_) AllReadyH.nil
 go_simp
 have CC := within_any c.wa 0 1099511627776 y10
 rw [wi_up, h8.out] at CC
 refine (CC).mono ?_
 rintro e y12 ⟨rfl, hW⟩
 subst hW
 clear CC
 go_wp2_with fail
 refine hKQ.out _ _ (⟨at_cL kC, at_cN kC, at_cT kC, kC.cell 0, kC.cell 1, kC.cell 2, kC.cell 3, kC.cell 4, kC.cell 5, kC.cell 6, kC.cell 7, kC.cell 8⟩) (fun _ => ?_)
 clear hKQ KQ
 try simp only [Act.put, ka, kb, kc]
 iterate 4 (refine tx 49 _ ?_; try simp only [Act.put, ka, kb, kc])
 refine rr [53] ?_
 refine rc (fun KQ hKQ => ?_) AllReadyH.nil
 go_simp
 have CC := within_any c.sf 0 1099511627776 y10
 rw [wi_up, h9.out] at CC
 refine (CC).mono ?_
 rintro e y13 ⟨rfl, hW⟩
 subst hW
 clear CC
 go_wp2_with fail
 refine hKQ.out _ _ (⟨at_cL kC, at_cN kC, at_cT kC, kC.cell 0, kC.cell 1, kC.cell 2, kC.cell 3, kC.cell 4, kC.cell 5, kC.cell 6, kC.cell 7, kC.cell 8⟩) (fun _ => ?_)
 clear hKQ KQ
 try simp only [Act.put, ka, kb, kc]
 iterate 3 (refine tx 54 _ ?_; try simp only [Act.put, ka, kb, kc])
 refine tj 57 ((a10V c.nx)) ?_ (hy := fun wq hSw => run_ldAt rfl rfl hSw.2.1 (aggT _) (sizeT _))
 try simp only [Act.put, ka, kb, kc]
 refine rr [58] ?_
 refine rc (fun KQ hKQ => ?_) AllReadyH.nil
 go_simp
 have CC := mayAll_any c.nx 2199023255552 y10
 rw [h10.out] at CC
 refine (CC).mono ?_
 rintro e y14 ⟨rfl, hY⟩
 replace HB := bt HB hY
 replace kC := kC.b hY
 replace R0 := R0.on hY hY.size
 clear hY
 clear CC
 go_wp2_with fail
 refine hKQ.out _ _ (⟨at_cL kC, at_cN kC, at_cT kC, kC.cell 0, kC.cell 1, kC.cell 2, kC.cell 3, kC.cell 4, kC.cell 5, kC.cell 6, kC.cell 7, kC.cell 8⟩) (fun _ => ?_)
 clear hKQ KQ
 try simp only [Act.put, ka, kb, kc]
 iterate 3 (refine tx 59 _ ?_; try simp only [Act.put, ka, kb, kc])
 refine tj 62 ((a10V c.mt)) ?_ (hy := fun wq hSw => run_ldAt rfl rfl hSw.2.2.1 (aggT _) (sizeT _))
 try simp only [Act.put, ka, kb, kc]
 refine tj 63 _ ?_
 try simp only [Act.put, ka, kb, kc]
 refine rr [64] ?_
 refine rc (fun KQ hKQ => ?_) AllReadyH.nil
 go_simp
 have CC := mayAll_any c.mt lw y14
 rw [show maA c.mt lw = true by rw [hlwE.out]; exact h11.out] at CC
 refine (CC).mono ?_
 rintro e y15 ⟨rfl, hY⟩
 replace HB := bt HB hY
 replace kC := kC.b hY
 replace R0 := R0.on hY hY.size
 clear hY
 clear CC
 go_wp2_with fail
 refine hKQ.out _ _ (⟨at_cL kC, at_cN kC, at_cT kC, kC.cell 0, kC.cell 1, kC.cell 2, kC.cell 3, kC.cell 4, kC.cell 5, kC.cell 6, kC.cell 7, kC.cell 8⟩) (fun _ => ?_)
 clear hKQ KQ
 try simp only [Act.put, ka, kb, kc]
 iterate 2 (refine tx 65 _ ?_; try simp only [Act.put, ka, kb, kc])
 refine wpAnyH_done (by kernel_rfl) ?_ _
 simp only [Exit.then]
 refine (‹∀ (a : Act) (w : World), Code.wp _ Code.ret _ a w → _›) _ _ (wp_ret ?_)
 first | (show bodyPost _ _ _ Exit.ret _ _) | (simp only [Exit.then]; show bodyPost _ _ _ Exit.ret _ _) | (simp only [Exit.then, Exit.inBlock]; show bodyPost _ _ _ Exit.ret _ _)
 refine bodyPost_ret (v := .bool true) (by simp [results, Tryz.results13, go_sem]) rfl ?_
 rw [hF.out]
 exact ⟨rfl, HB⟩
end Go.Proofs.YtegnfkbmlalkeaaGreat.cor
