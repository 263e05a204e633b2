/- CoreAlone's walk. No condition. -/
import Derived.Deep.RegionHeld3
import Derived.Deep.Cut
import Derived.Lib.Hide
import Derived.Test.YtegnfkbmlalkeaaGreatSbJ5
import Derived.Test.YtegnfkbmlalkeaaGreatSbLwB13
import Derived.Test.YtegnfkbmlalkeaaGreatSbCorPr13
import Derived.Test.YtegnfkbmlalkeaaGreatSbAl13
import Derived.Test.YtegnfkbmlalkeaaGreatSbJ1
import Derived.Test.YtegnfkbmlalkeaaGreatSbJ2
import Derived.Test.YtegnfkbmlalkeaaGreatSbRefE12
import Derived.Test.YtegnfkbmlalkeaaGreatSbKitLg
import Derived.Test.YtegnfkbmlalkeaaGreatSbJ0
namespace Go.Proofs.YtegnfkbmlalkeaaGreat.law13
open Go Go.RowKit Go.Proofs.YtegnfkbmlalkeaaGreat.kit Go.Proofs.YtegnfkbmlalkeaaGreat.nums Go.Proofs.YtegnfkbmlalkeaaGreat.cf Go.Proofs.YtegnfkbmlalkeaaGreat.lg Go.Proofs.YtegnfkbmlalkeaaGreat.cr Go.Proofs.YtegnfkbmlalkeaaGreat.se
set_option linter.unusedVariables false
theorem rb_cmd {w : World} {a : Act} {o : Oper} {q1 q2 : Operand} (k : Int) (d : ByteArray) (ho : o.op = .build 52 #[(1, q1), (2, q2)]) (h1 : a.eval q1 = .int .i64 k) (h2 : a.eval q2 = .string d) : (execOp a.eval o).run Tryz.prog w = .ok (.value (enV { zE with k := k, d := d })) w := by
 have hr : (Instr.build 52 #[(1, .int .i64 k), (2, .string d)]).run Tryz.prog w = .ok (enV { zE with k := k, d := d }) w := by kernel_rfl
 unfold execOp
 simp [ho, h1, h2, hr]
theorem rdv_str {w : World} {B n : Nat} {A : Option Addr} {ds : List ByteArray} (h : RdV w B A n (ds.map Value.string)) {i : Nat} (hi : i < n) : ∃ b o, A = some ⟨b, o, none⟩ ∧ b < B ∧ w.cell? ⟨b, o + i, none⟩ = some (.string (ds.getD i ⟨#[]⟩)) := by
 obtain ⟨b, o, e, hb, hc⟩ := h.2 (by omega)
 have hl : i < ds.length := by have := h.1; rw [List.length_map] at this; omega
 refine ⟨b, o, e, hb, ?_⟩
 rw [hc i hi, List.getElem?_map, List.getElem?_eq_getElem hl]
 simp [List.getD_eq_getElem?_getD, List.getElem?_eq_getElem hl]
theorem and_bits (x : Nat) : x &&& 1022 < 65536 := Nat.lt_of_le_of_lt Nat.and_le_right (by omega)
theorem alone_l {x k : Nat} (h1 : 1 ≤ k) (h9 : k ≤ 9) : se.mayF (lessF (x &&& 1022) (k : Int)) = true ∧ (lessF (x &&& 1022) (k : Int)).testBit k = false := by
 refine ⟨may_less _ (may_and x), ?_⟩
 have h := hasF_less (x &&& 1022) (k : Int) (k : Int)
 rw [hasF_node h1 h9] at h
 rw [h]
 simp
def Wts (k l pt i : Nat) (c : CoL) : Prop := Fr c (k : Int) (aloneJ k l) i ∧ (i < pt → c = { newC (k : Int) (aloneJ k l) with wa := (i : Int) }) ∧ (i = pt → Sole c k l 0)
theorem wts_next {k l pt i : Nat} {c : CoL} (h1 : 1 ≤ k) (h9 : k ≤ 9) (hb : l.testBit k = false) (hp : patF (k : Int) = (pt : Int)) (h : Wts k l pt i c) (hi : i < pt) : Wts k l pt (i + 1) (tickF c).1 := by
 obtain ⟨h2, h3, _⟩ := h
 have e := h3 hi
 refine ⟨h2.tick (by omega) rfl, fun hl => ?_, fun hl => ?_⟩
 · rw [e, alone_wait i (by omega)]
 · rw [e]; exact alone_lead h1 h9 hb i (by omega)
theorem wts_ro {k l pt i : Nat} {c : CoL} (h : Wts k l pt i c) (hi : i < pt) : c.ro = 0 := by rw [h.2.1 hi]; rfl
set_option maxHeartbeats 16000000 in
set_option maxRecDepth 10000 in
theorem alone_walk (id : Int) (A : Option Addr) (n p0 : Nat) (ds : List ByteArray) (more : Nat) (w : World) (hi : In64 id) (hR : RdV w w.heap.size A n (ds.map Value.string)) (hm : more < 65536) : Calls Tryz.prog 9 #[.int .i64 id, .slice A n p0, .int .u16 (more : Int)] w fun e w' => e = .returned (.bool true) ∧ Below w.heap.size w w' := by
 have HR := Lib.hid hR
 have hmo := Lib.hid hm
 clear hR hm
 by_cases hn60 : n ≤ 60
 rotate_left
 · have k1 : (60 : Int) < (n : Int) := by omega
   go_enter Tryz.func9, Tryz.ntmps9
   go_wp2_with go_skip
   refine (begun_any w).mono ?_
   rintro e y0 ⟨rfl, hY0⟩
   go_wp2_with go_skip
   go_ret
   exact ⟨rfl, hY0⟩
 have k1 : ¬ ((60 : Int) < (n : Int)) := by omega
 go_enter Tryz.func9, Tryz.ntmps9
 go_wp2_with go_skip
 refine (begun_any w).mono ?_
 rintro e y0 ⟨rfl, hY0⟩
 have HB := hY0
 obtain ⟨pk, hpk⟩ : ∃ q : Nat, law0.placeF id 9 = (q : Int) := ⟨(law0.placeF id 9).toNat, by have := law0.place_in id 9 (by omega); omega⟩
 have hpk9 : pk ≤ 8 := by have := law0.place_in id 9 (by omega); omega
 obtain ⟨k, hk⟩ : ∃ q : Nat, q = pk + 1 := ⟨_, rfl⟩
 have hk1 : 1 ≤ k := by omega
 have hk9 : k ≤ 9 := by omega
 have wpk : IntKind.i64.wrap (1 + (pk : Int)) = (k : Int) := by rw [wrap_sm (by omega) (by omega)]; omega
 replace hk := Lib.hid hk
 obtain ⟨al, hal⟩ : ∃ q : Nat, more &&& 1022 = q := ⟨_, rfl⟩
 have hal2 := and_bits more
 rw [hal] at hal2
 have band : bits .and .u16 (more : Int) 1022 = (al : Int) := by rw [← hal]; exact se.bits_and_u16_nat more 1022 hmo.out (by omega)
 obtain ⟨l, hl⟩ : ∃ q : Nat, lessF al (k : Int) = q := ⟨_, rfl⟩
 have hlm := alone_l (x := more) hk1 hk9
 rw [hal, hl] at hlm
 have hl16 : l < 65536 := by rw [← hl]; exact Nat.lt_of_le_of_lt (lessF_le _ _) hal2
 replace hal := Lib.hid hal
 replace hlm := Lib.hid hlm
 replace hl16 := Lib.hid hl16
 go_wp2_with go_skip
 have CC := law0.place_any id 9 y0 hi.1 hi.2 (by omega)
 rw [hpk] at CC
 refine (CC).mono ?_
 rintro e y1 ⟨rfl, hW⟩
 subst hW
 clear CC
 replace hpk := Lib.hid hpk
 go_wp2_with go_skip
 have CC := ref9.with_any 0 (k : Int) y0 (by omega) (by omega) (by omega)
 rw [show ((0 : Nat) : Int) = 0 from rfl] at CC
 refine (CC).mono ?_
 rintro e y2 ⟨rfl, hW⟩
 subst hW
 clear CC
 go_wp2_with go_skip
 have CC := ref9.less_any al (k : Int) y0 hal2 (by omega) (by omega)
 rw [hl] at CC
 refine (CC).mono ?_
 rintro e y3 ⟨rfl, hW⟩
 subst hW
 clear CC
 replace hl := Lib.hid hl
 clear band wpk
 have LEkJ : Hid (w.heap.size ≤ y0.heap.size) := HB.size
 go_wp2_with (first | go_skip | refine al_J rfl rfl ?_ | (first | refine bd_f4 (withF 0 (k : Int)) l 1 1 rfl rfl rfl rfl rfl rfl ?_ | refine bd_j1 ⟨withF 0 (k : Int), 0, l, 1, 1⟩ rfl rfl rfl ?_))
 intro y4 kJ e4 s4
 clear s4
 replace kJ : Blk _ _ _ (jC zeroJ) := kJ
 replace HB := bt HB e4
 clear e4
 generalize y0.heap.size = gkJ at *
 go_wp2_with (first | go_skip | refine st_Jv rfl _ _ rfl (aloneJ k l) rfl rfl _ kJ rfl ?_ | (first | refine lo_J _ rfl rfl rfl kJ ?_ | refine bd_f4 (withF 0 (k : Int)) l 1 1 rfl rfl rfl rfl rfl rfl ?_ | refine bd_j1 ⟨withF 0 (k : Int), 0, l, 1, 1⟩ rfl rfl rfl ?_))
 intro y5 kJ2 pO
 replace HB := pO.below _ _ HB LEkJ.out
 clear kJ
 have kJ := kJ2
 clear kJ2 pO
 go_wp2_with (first | go_skip | refine lo_J _ rfl rfl rfl kJ ?_)
 refine (cor.new_any (k : Int) (aloneJ k l) y5).mono ?_
 rintro e y6 ⟨rfl, hY⟩
 replace HB := bt HB hY
 replace kJ := kJ.b hY
 clear hY
 have LTkJkC := Lib.hid kJ.lt
 have LEkC : Hid (w.heap.size ≤ y6.heap.size) := HB.size
 go_wp2_with (first | go_skip | refine al_C rfl rfl ?_ | (first | refine lo_J _ rfl rfl rfl kJ ?_))
 intro y7 kC e7 s7
 clear s7
 replace kC : Blk _ _ _ (crC zC (.slice none 0 0)) := kC
 replace HB := bt HB e7
 replace kJ := kJ.b e7
 clear e7
 generalize y6.heap.size = gkC at *
 go_wp2_with (first | go_skip | refine st_C rfl _ _ rfl (newC (k : Int) (aloneJ k l)) none 0 0 rfl rfl _ kC rfl ?_ | (first | refine lo_J _ rfl rfl rfl kJ ?_ | refine lo_C _ rfl rfl rfl kC ?_ | refine lo_cL _ rfl rfl rfl kC ?_ | refine lo_cJ _ rfl rfl rfl kC ?_))
 intro y8 kC2 pO
 replace kJ := kJ.put pO (Nat.ne_of_lt LTkJkC.out)
 replace HB := pO.below _ _ HB LEkC.out
 clear kC
 have kC := kC2
 clear kC2 pO
 have hpat : patF (k : Int) = ((12 + 4 * k : Nat) : Int) := by unfold patF; omega
 have hmj := Lib.hid (alone_may hk1 hk9 hlm.out.1 hlm.out.2)
 obtain ⟨pt, hpt⟩ : ∃ q : Nat, q = 12 + 4 * k := ⟨_, rfl⟩
 rw [← hpt] at hpat
 have hpt6 : pt ≤ 60 := by omega
 replace hpat := Lib.hid hpat
 replace hpt := Lib.hid hpt
 have HB0 := Lib.hid HB
 have LTJ := LTkJkC
 have BJ : Hid (∀ w', Below gkC y8 w' → Blk 27 w' gkJ (jC (aloneJ k l))) := Lib.hid (fun w' hb => kJ.below hb LTJ.out)
 have hle0 : Hid (w.heap.size ≤ gkC) := LEkC
 go_wp2_with go_skip
 go_loopw [9] (fun iv wr => ∃ (i : Nat) (c : CoL) (A' : Option Addr) (n' p' : Nat), i ≤ pt ∧ iv = .int .i64 (i : Int) ∧ Hid (Wts k l pt i c) ∧ Hid (Blk 33 wr gkC (crC c (.slice A' n' p'))) ∧ Hid (RdE wr wr.heap.size A' n' c.lg.es) ∧ Hid (NotIn gkC A' n') ∧ Hid (n' ≤ p') ∧ Hid (Below gkC y8 wr)) (fun iv _ => pt - (intOf iv).toNat)
 case atStart => exact ⟨0, _, none, 0, 0, by omega, rfl, Lib.hid ⟨Fr.new (by omega), fun _ => rfl, fun h => by have := hpt.out; omega⟩, Lib.hid kC, Lib.hid (RdE.nil _ _ _), Lib.hid (NotIn.nil _ _), Lib.hid (Nat.le_refl _), Lib.hid (Below.refl _ _)⟩
 case round =>
   obtain ⟨i, c, A, nc, p, hip, rfl, hWt, HkC, HRc, HN, Hp, HBr⟩ := hrel
   clear HB kC kJ
   by_cases hi6 : i < pt
   · skip
     have kC := HkC.out
     have R0 := HRc.out
     have NIR0kC := HN
     have HB := HBr.out
     have ck : (i : Int) < (pt : Int) := by omega
     have wk : IntKind.i64.wrap ((i : Int) + 1) = ((i + 1 : Nat) : Int) := by rw [wrap_sm (by omega) (by omega)]; omega
     have hG := Lib.hid (hWt.out.1.good (by omega) (by omega) hmj.out)
     have hW2 := Lib.hid (wts_next hk1 hk9 hlm.out.2 hpat.out hWt.out hi6)
     have cro : wr.cell? ⟨gkC, 1, none⟩ = some (.int .i64 0) := by rw [← wts_ro hWt.out hi6]; exact kC.cell 1
     obtain ⟨d, hd⟩ : ∃ q, (tickF c).1 = q := ⟨_, rfl⟩
     rw [hd] at hW2
     go_wp2_with (first | go_skip | refine lo_C _ rfl rfl rfl kC ?_ | refine lo_cL _ rfl rfl rfl kC ?_ | refine lo_cJ _ rfl rfl rfl kC ?_)
     have CC := cor.pat_any (k : Int) wr (by omega)
     rw [hpat.out] at CC
     refine (CC).mono ?_
     rintro e y51 ⟨rfl, hW⟩
     subst hW
     clear CC
     go_wp2_with (first | go_skip | refine lo_C _ rfl rfl rfl kC ?_ | refine lo_cL _ rfl rfl rfl kC ?_ | refine lo_cJ _ rfl rfl rfl kC ?_)
     clear cro
     refine (cor.tick_any c A nc p wr wr.heap.size R0 (Nat.le_refl _) Hp.out hG.out).mono ?_
     rintro e y52 ⟨A1, n1, p1, v9, B9, rfl, RB, hp1, ON9, hO, hB9, hB8, hY⟩
     have NIR1kC := Lib.hid (NIR0kC.out.next ON9 kC.lt)
     have R1 := RB.more hB8
     clear RB ON9
     replace hp1 := Lib.hid hp1
     obtain ⟨Ao1, co1, rfl⟩ := hO.form
     clear hO hB9 hB8
     replace HB := HB.trans (hY.mono (Nat.le_of_lt kC.lt))
     replace kC := kC.b hY
     replace R0 := R0.on hY hY.size
     clear hY
     rw [hd] at R1 ⊢
     clear hd
     go_wp2_with (first | go_skip | refine st_C rfl _ _ rfl d A1 n1 p1 rfl rfl _ kC rfl ?_ | (first | refine lo_C _ rfl rfl rfl kC ?_ | refine lo_cL _ rfl rfl rfl kC ?_ | refine lo_cJ _ rfl rfl rfl kC ?_))
     intro y53 kC2 pO
     replace R0 := R0.putS pO NIR0kC.out
     replace R1 := R1.putS pO NIR1kC.out
     replace HB := pO.below _ _ HB (Nat.le_refl _)
     clear kC
     have kC := kC2
     clear kC2 pO
     go_wp2_with (first | go_skip | refine lo_C _ rfl rfl rfl kC ?_ | refine lo_cL _ rfl rfl rfl kC ?_ | refine lo_cJ _ rfl rfl rfl kC ?_)
     go_roundw
     case rel => exact ⟨i + 1, d, A1, n1, p1, by omega, by rfl, hW2, Lib.hid kC, Lib.hid R1, NIR1kC, hp1, Lib.hid HB⟩
     case measure => simp only [intOf]; omega
   · skip
     have kC := HkC.out
     have R0 := HRc.out
     have NIR0kC := HN
     have HB := HBr.out
     obtain rfl : i = pt := by omega
     have ck : ¬ ((i : Int) < (i : Int)) := by omega
     have hS := hWt.out.2.2 rfl
     clear hWt hip hi6
     have cro : wr.cell? ⟨gkC, 1, none⟩ = some (.int .i64 2) := by rw [← hS.ro]; exact kC.cell 1
     have ctm : wr.cell? ⟨gkC, 2, none⟩ = some (.int .i64 1) := by rw [← hS.tm]; exact kC.cell 2
     have ccm : wr.cell? ⟨gkC, 6, none⟩ = some (.int .i64 1) := by rw [show (1 : Int) = c.cm by rw [hS.cm]; rfl]; exact kC.cell 6
     replace hS := Lib.hid hS
     go_wp2_with (first | go_skip | refine lo_C _ rfl rfl rfl kC ?_ | refine lo_cL _ rfl rfl rfl kC ?_ | refine lo_cJ _ rfl rfl rfl kC ?_)
     have CC := cor.pat_any (k : Int) wr (by omega)
     rw [hpat.out] at CC
     refine (CC).mono ?_
     rintro e y51 ⟨rfl, hW⟩
     subst hW
     clear CC
     go_wp2_with (first | go_skip | refine lo_C _ rfl rfl rfl kC ?_ | refine lo_cL _ rfl rfl rfl kC ?_ | refine lo_cJ _ rfl rfl rfl kC ?_)
     clear cro ctm ccm
     clear HkC HRc HN HBr
     go_loopw [10] (fun iv wr => ∃ (m : Nat) (c : CoL) (A' : Option Addr) (n' p' : Nat), m ≤ n ∧ iv = .int .i64 (m : Int) ∧ Hid (Sole c k l m) ∧ Hid (Blk 33 wr gkC (crC c (.slice A' n' p'))) ∧ Hid (RdE wr wr.heap.size A' n' c.lg.es) ∧ Hid (NotIn gkC A' n') ∧ Hid (n' ≤ p') ∧ Hid (Below gkC y8 wr)) (fun iv _ => n - (intOf iv).toNat)
     case atStart => exact ⟨0, c, A, nc, p, by omega, rfl, hS, Lib.hid kC, Lib.hid R0, NIR0kC, Hp, Lib.hid HB⟩
     case round =>
       clear HB kC R0 NIR0kC hS Hp
       obtain ⟨m, c, A, nc, p, hmn, rfl, hS, HkC, HRc, HN, Hp, HBr⟩ := hrel
       by_cases hm6 : m < n
       · skip
         have kC := HkC.out
         have R0 := HRc.out
         have NIR0kC := HN
         have HB := HBr.out
         have ck : (m : Int) < (n : Int) := by omega
         have wk : IntKind.i64.wrap ((m : Int) + 1) = ((m + 1 : Nat) : Int) := by rw [wrap_sm (by omega) (by omega)]; omega
         have wk2 : IntKind.i64.wrap ((m : Int) + 2) = (m : Int) + 2 := by rw [wrap_sm (by omega) (by omega)]
         obtain ⟨db, doff, rfl, hdb, hdc⟩ := rdv_str HR.out hm6
         obtain ⟨d, hd⟩ : ∃ q, ds.getD m ⟨#[]⟩ = q := ⟨_, rfl⟩
         rw [hd] at hdc
         clear hd
         have HDC : Hid (∀ w', Below gkC y8 w' → w'.cell? ⟨db, doff + m, none⟩ = some (.string d)) := Lib.hid (fun w' hb => ((hb.cell (p := ⟨db, doff + m, none⟩) (Nat.lt_of_lt_of_le hdb hle0.out)).trans (HB0.out.cell (p := ⟨db, doff + m, none⟩) hdb)).trans hdc)
         clear hdc
         have cd := HDC.out _ HB
         by_cases hsz : d.size ≤ 200
         · skip
           have hsz2 : ¬ ((200 : Int) < (d.size : Int)) := by omega
           replace hsz := Lib.hid hsz
           obtain ⟨c2, ms, hP, hS2, hml, hAt⟩ := sole_prop hk1 hk9 hlm.out.2 (by omega) hS.out d
           have hG := Lib.hid (hS.out.fr.good (by omega) (by omega) hmj.out)
           have hnx : (cor.prX c { zE with k := 1, d := d }).k ≠ 2 := by
             have h : propE c { zE with k := 1, d := d } = 0 := by
               by_cases h0 : propE c { zE with k := 1, d := d } = 0
               · exact h0
               · have := congrArg (fun q => q.2.2.2) hP
                 unfold propF at this
                 rw [if_neg h0] at this
                 exact absurd this h0
             unfold cor.prX propX
             rw [if_pos h, if_neg (by show ¬ (1 : Int) = 2; decide)]
             show (1 : Int) ≠ 2
             decide
           replace hP := Lib.hid hP
           replace hS2 := Lib.hid hS2
           replace hml := Lib.hid hml
           replace hAt := Lib.hid hAt
           replace hnx := Lib.hid hnx
           go_upto_region 21 with (first | go_skip | refine lo_C _ rfl rfl rfl kC ?_ | refine lo_cL _ rfl rfl rfl kC ?_ | refine lo_cJ _ rfl rfl rfl kC ?_)
           clear cd
           go_cut [11, 12, 13, 14] from 200 (fun dv ov av ev wx => ∃ (q : Nat) (A1 : Option Addr) (n1 p1 : Nat) (Ao : Option Addr) (co : Nat), dv = .pointer (some ⟨q, 0, none⟩) ∧ ov = .slice Ao ms.length co ∧ av = .int .i64 ((m : Int) + 2) ∧ ev = .int .i64 0 ∧ Hid (Blk 33 wx q (crC c2 (.slice A1 n1 p1))) ∧ Hid (Blk 33 wx gkC (crC c (.slice A nc p))) ∧ Hid (RdE wx wx.heap.size A1 n1 c2.lg.es) ∧ Hid (n1 ≤ p1) ∧ Hid (NotIn gkC A1 n1) ∧ Hid (NotIn q A1 n1) ∧ Hid (gkC < q) ∧ Hid (Below gkC y8 wx))
           case first =>
             refine wp_region_held_drew (S := fun wq => Blk 33 wq gkC (crC c (.slice A nc p)) ∧ wq.cell? ⟨db, doff + m, none⟩ = some (.string d)) (by kernel_rfl) ?s_aln21 (fun hHeld => ?_)
             case s_aln21 => exact ⟨kC, by have h := HDC.out _ HB; exact h⟩
             have hD := (Below.refl wr.heap.size wr).drew
             replace HB := HB.trans (hD.mono (Nat.le_of_lt kC.lt))
             replace kC := kC.b hD
             replace R0 := R0.on hD hD.size
             clear hD
             generalize wr.drew = yq at *
             refine tj 0 _ ?_ (hy := fun wq hSw => rld_C rfl rfl (And.left hSw))
             try simp only [Act.put, ka, kb, kc]
             refine tj 1 _ ?_
             try simp only [Act.put, ka, kb, kc]
             refine tj 2 _ ?_
             try simp only [Act.put, ka, kb, kc]
             refine tj 3 _ ?_
             try simp only [Act.put, ka, kb, kc]
             refine tj 4 _ ?_
             try simp only [Act.put, ka, kb, kc]
             refine tj 5 ((enV { zE with k := 1, d := d })) ?_ (hy := fun wq hSw => rb_cmd 1 d rfl rfl rfl)
             try simp only [Act.put, ka, kb, kc]
             refine rr [6, 12] ?_
             refine rc (fun KQ hKQ => ?_) (rc (fun KQ hKQ => ?_) (AllReadyH.nil))
             · go_simp
               try have hgl := Lib.hid zO.lt
               refine (cor.propose_any c A nc p { zE with k := 1, d := d } yq yq.heap.size R0 (Nat.le_refl _) Hp.out hG.out zero_ok (fun h => absurd h hnx.out)).mono ?_
               rintro e2 yq ⟨A1, n1, p1, v9, B9, rfl, RB, hp1, ON9, hO, hB9, hB8, hY⟩
               have NIR1kC := Lib.hid (NIR0kC.out.next ON9 kC.lt)
               try have NIR1zO := Lib.hid (NIRozO.out.next ON9 hgl.out)
               have R1 := RB.more hB8
               clear RB ON9
               replace hp1 := Lib.hid hp1
               obtain ⟨Ao, co, rfl⟩ := hO.form
               clear hO hB9 hB8
               rw [hP.out] at R1
               rw [hP.out]
               replace HB := HB.trans (hY.mono (Nat.le_of_lt kC.lt))
               replace kC := kC.b hY
               replace R0 := R0.on hY hY.size
               try replace zO := zO.b hY
               clear hY
               go_wp2_with fail
               refine hKQ.out _ _ ?s_6t1 (fun hHeld6 => ?_)
               case s_6t1 => exact ⟨kC, by have h := HDC.out _ HB; exact h⟩
               clear hKQ KQ
               try simp only [Act.put, ka, kb, kc]
               refine tj 7 _ ?_
               try simp only [Act.put, ka, kb, kc]
               refine tj 8 _ ?_
               try simp only [Act.put, ka, kb, kc]
               refine tj 9 _ ?_
               try simp only [Act.put, ka, kb, kc]
               refine tj 10 _ ?_
               try simp only [Act.put, ka, kb, kc]
               refine tj 11 _ ?_
               try simp only [Act.put, ka, kb, kc]
               refine rr [12] ?_
               refine rc (fun KQ hKQ => ?_) AllReadyH.nil
               refine step_alC rfl rfl ?_
               intro yq2 zO eA
               have hgq := Lib.hid (Nat.le_of_lt kC.lt)
               have LTkCzO := Lib.hid kC.lt
               have NIRozO := Lib.hid (NotIn.of_rd R0 (Nat.le_refl _))
               try have NIR1zO := Lib.hid (NotIn.of_rd R1 (Nat.le_refl _))
               replace HB := HB.trans (eA.mono (Nat.le_of_lt kC.lt))
               replace kC := kC.b eA
               replace R0 := R0.on eA eA.size
               try replace R1 := R1.on eA eA.size
               clear eA
               generalize yq.heap.size = gO at *
               obtain ⟨yq, hyq⟩ : ∃ z, z = yq2 := ⟨_, rfl⟩
               subst hyq
               refine hKQ.out _ _ ?s_12t2 (fun hHeld12 => ?_)
               case s_12t2 => exact ⟨kC, by have h := HDC.out _ HB; exact h⟩
               clear hKQ KQ
               try simp only [Act.put, ka, kb, kc]
               refine rr [13] ?_
               refine rc (fun KQ hKQ => ?_) AllReadyH.nil
               refine step_stAt rfl 33 _ _ rfl (cells := (crC c2 (.slice A1 n1 p1)).toArray) (crC c2 (.slice A1 n1 p1)) rfl rfl zO sizeCv (by show 0 + 45 ≤ 45; omega) (cr_one _) rfl ?_
               intro yq3 zO2 pO
               replace HB := pO.below _ _ HB hgq.out
               replace kC := kC.put pO (Nat.ne_of_lt LTkCzO.out)
               replace R1 := R1.putS pO NIR1zO.out
               refine hKQ.out _ _ ?s_13t2 (fun hHeld13 => ?_)
               case s_13t2 => exact ⟨kC, by have h := HDC.out _ HB; exact h⟩
               clear hKQ KQ
               try simp only [Act.put]
               refine tj 14 _ ?_
               try simp only [Act.put, ka, kb, kc]
               refine tj 15 _ ?_
               try simp only [Act.put, ka, kb, kc]
               refine tj 16 _ ?_
               try simp only [Act.put, ka, kb, kc]
               refine wpAnyH_done (by kernel_rfl) ?_ _
               go_wp2_with fail
               go_meet
               case rel => exact ⟨_, A1, n1, p1, Ao, co, rfl, rfl, rfl, rfl, Lib.hid zO2, Lib.hid kC, Lib.hid R1, hp1, NIR1kC, NIR1zO, LTkCzO, Lib.hid HB⟩
             · refine step_alC rfl rfl ?_
               intro yq2 zO eA
               have hgq := Lib.hid (Nat.le_of_lt kC.lt)
               have LTkCzO := Lib.hid kC.lt
               have NIRozO := Lib.hid (NotIn.of_rd R0 (Nat.le_refl _))
               try have NIR1zO := Lib.hid (NotIn.of_rd R1 (Nat.le_refl _))
               replace HB := HB.trans (eA.mono (Nat.le_of_lt kC.lt))
               replace kC := kC.b eA
               replace R0 := R0.on eA eA.size
               try replace R1 := R1.on eA eA.size
               clear eA
               generalize yq.heap.size = gO at *
               obtain ⟨yq, hyq⟩ : ∃ z, z = yq2 := ⟨_, rfl⟩
               subst hyq
               refine hKQ.out _ _ ?s_12t1 (fun hHeld12 => ?_)
               case s_12t1 => exact ⟨kC, by have h := HDC.out _ HB; exact h⟩
               clear hKQ KQ
               try simp only [Act.put, ka, kb, kc]
               refine rr [6] ?_
               refine rc (fun KQ hKQ => ?_) AllReadyH.nil
               go_simp
               try have hgl := Lib.hid zO.lt
               refine (cor.propose_any c A nc p { zE with k := 1, d := d } yq yq.heap.size R0 (Nat.le_refl _) Hp.out hG.out zero_ok (fun h => absurd h hnx.out)).mono ?_
               rintro e2 yq ⟨A1, n1, p1, v9, B9, rfl, RB, hp1, ON9, hO, hB9, hB8, hY⟩
               have NIR1kC := Lib.hid (NIR0kC.out.next ON9 kC.lt)
               try have NIR1zO := Lib.hid (NIRozO.out.next ON9 hgl.out)
               have R1 := RB.more hB8
               clear RB ON9
               replace hp1 := Lib.hid hp1
               obtain ⟨Ao, co, rfl⟩ := hO.form
               clear hO hB9 hB8
               rw [hP.out] at R1
               rw [hP.out]
               replace HB := HB.trans (hY.mono (Nat.le_of_lt kC.lt))
               replace kC := kC.b hY
               replace R0 := R0.on hY hY.size
               try replace zO := zO.b hY
               clear hY
               go_wp2_with fail
               refine hKQ.out _ _ ?s_6t3 (fun hHeld6 => ?_)
               case s_6t3 => exact ⟨kC, by have h := HDC.out _ HB; exact h⟩
               clear hKQ KQ
               try simp only [Act.put, ka, kb, kc]
               refine tj 7 _ ?_
               try simp only [Act.put, ka, kb, kc]
               refine tj 8 _ ?_
               try simp only [Act.put, ka, kb, kc]
               refine tj 9 _ ?_
               try simp only [Act.put, ka, kb, kc]
               refine tj 10 _ ?_
               try simp only [Act.put, ka, kb, kc]
               refine tj 11 _ ?_
               try simp only [Act.put, ka, kb, kc]
               refine rr [13] ?_
               refine rc (fun KQ hKQ => ?_) AllReadyH.nil
               refine step_stAt rfl 33 _ _ rfl (cells := (crC c2 (.slice A1 n1 p1)).toArray) (crC c2 (.slice A1 n1 p1)) rfl rfl zO sizeCv (by show 0 + 45 ≤ 45; omega) (cr_one _) rfl ?_
               intro yq3 zO2 pO
               replace HB := pO.below _ _ HB hgq.out
               replace kC := kC.put pO (Nat.ne_of_lt LTkCzO.out)
               replace R1 := R1.putS pO NIR1zO.out
               refine hKQ.out _ _ ?s_13t3 (fun hHeld13 => ?_)
               case s_13t3 => exact ⟨kC, by have h := HDC.out _ HB; exact h⟩
               clear hKQ KQ
               try simp only [Act.put]
               refine tj 14 _ ?_
               try simp only [Act.put, ka, kb, kc]
               refine tj 15 _ ?_
               try simp only [Act.put, ka, kb, kc]
               refine tj 16 _ ?_
               try simp only [Act.put, ka, kb, kc]
               refine wpAnyH_done (by kernel_rfl) ?_ _
               go_wp2_with fail
               go_meet
               case rel => exact ⟨_, A1, n1, p1, Ao, co, rfl, rfl, rfl, rfl, Lib.hid zO2, Lib.hid kC, Lib.hid R1, hp1, NIR1kC, NIR1zO, LTkCzO, Lib.hid HB⟩
           case rest =>
             clear HB kC R0 NIR0kC
             obtain ⟨q, A1, n1, p1, Ao, co, rfl, rfl, rfl, rfl, HkD, HkC, HR1, hp1, NIR1kC, NIR1kD, LTkCkD, HBc⟩ := hcut
             have kD := HkD.out
             have kC := HkC.out
             have R1 := HR1.out
             have HB := HBc.out
             clear HkD HkC HR1  HBc
             have kJ := BJ.out _ HB
             go_wp2_with (first | go_skip | refine lo_J _ rfl rfl rfl kJ ?_ | refine lo_C _ rfl rfl rfl kC ?_ | refine lo_cL _ rfl rfl rfl kC ?_ | refine lo_cJ _ rfl rfl rfl kC ?_ | refine lo_C _ rfl rfl rfl kD ?_ | refine lo_cL _ rfl rfl rfl kD ?_ | refine lo_cJ _ rfl rfl rfl kD ?_)
             have CC := ref12.rat_any c2.lg A1 n1 p1 ((m : Int) + 2) wc wc.heap.size R1 (Nat.le_refl _) hp1.out ⟨by rw [hS2.out.fr.b]; decide, by rw [hS2.out.fr.b]; decide, by rw [hS2.out.len]; omega⟩
             rw [hAt.out] at CC
             refine (CC).mono ?_
             rintro e y351 ⟨rfl, hY⟩
             replace HB := HB.trans (hY.mono (Nat.le_of_lt kC.lt))
             replace kJ := kJ.b hY
             replace kC := kC.b hY
             replace kD := kD.b hY
             replace R1 := R1.on hY hY.size
             clear hY
             clear CC
             have LTkJkE := Lib.hid kJ.lt
             have LTkCkE := Lib.hid kC.lt
             have LTkDkE := Lib.hid kD.lt
             have NIR1kE := Lib.hid (NotIn.of_rd R1 (Nat.le_refl _))
             have LEkE : Hid (gkC ≤ y351.heap.size) := Lib.hid (Nat.le_of_lt kC.lt)
             go_wp2_with (first | go_skip | refine al_E rfl rfl ?_ | (first | refine lo_J _ rfl rfl rfl kJ ?_ | refine lo_C _ rfl rfl rfl kC ?_ | refine lo_cL _ rfl rfl rfl kC ?_ | refine lo_cJ _ rfl rfl rfl kC ?_ | refine lo_C _ rfl rfl rfl kD ?_ | refine lo_cL _ rfl rfl rfl kD ?_ | refine lo_cJ _ rfl rfl rfl kD ?_))
             intro y352 kE e352 s352
             clear s352
             replace kE : Blk _ _ _ (enC zE) := kE
             replace HB := HB.trans (e352.mono (Nat.le_of_lt kC.lt))
             replace kJ := kJ.b e352
             replace kC := kC.b e352
             replace kD := kD.b e352
             replace R1 := R1.on e352 e352.size
             clear e352
             generalize y351.heap.size = gkE at *
             go_wp2_with (first | go_skip | refine st_E rfl _ _ rfl { zE with t := 1, k := 1, d := d } rfl rfl _ kE rfl ?_ | (first | refine lo_J _ rfl rfl rfl kJ ?_ | refine lo_C _ rfl rfl rfl kC ?_ | refine lo_cL _ rfl rfl rfl kC ?_ | refine lo_cJ _ rfl rfl rfl kC ?_ | refine lo_C _ rfl rfl rfl kD ?_ | refine lo_cL _ rfl rfl rfl kD ?_ | refine lo_cJ _ rfl rfl rfl kD ?_ | refine lo_E _ rfl rfl rfl kE ?_))
             intro y353 kE2 pO
             replace kJ := kJ.put pO (Nat.ne_of_lt LTkJkE.out)
             replace kC := kC.put pO (Nat.ne_of_lt LTkCkE.out)
             replace kD := kD.put pO (Nat.ne_of_lt LTkDkE.out)
             replace R1 := R1.putS pO NIR1kE.out
             replace HB := pO.below _ _ HB LEkE.out
             clear kE
             have kE := kE2
             clear kE2 pO
             have cd := HDC.out _ HB
             have cx : y353.cell? ⟨gkE, 2, none⟩ = some (.string d) := kE.cell 2
             have cm6 : y353.cell? ⟨q, 6, none⟩ = some (.int .i64 ((m : Int) + 2)) := by rw [show (m : Int) + 2 = c2.cm by rw [hS2.out.cm]; omega]; exact kD.cell 6
             have cl : y353.cell? ⟨gkJ, 2, none⟩ = some (.int .u16 (l : Int)) := kJ.cell 2
             go_upto_region 23 with (first | go_skip | refine lo_J _ rfl rfl rfl kJ ?_ | refine lo_C _ rfl rfl rfl kC ?_ | refine lo_cL _ rfl rfl rfl kC ?_ | refine lo_cJ _ rfl rfl rfl kC ?_ | refine lo_C _ rfl rfl rfl kD ?_ | refine lo_cL _ rfl rfl rfl kD ?_ | refine lo_cJ _ rfl rfl rfl kD ?_ | refine lo_E _ rfl rfl rfl kE ?_)
             clear cd cx cm6 cl
             have bq1 : ((m : Int) + 2 != (m : Int) + 2) = false := by simp
             have bq2 : ((ms.length : Int) != ((cntF l : Nat) : Int)) = false := by rw [hml.out]; simp
             refine wp_region_held_drew (S := fun wq => wq.cell? ⟨db, doff + m, none⟩ = some (.string d) ∧ wq.cell? ⟨gkE, 2, none⟩ = some (.string d) ∧ wq.cell? ⟨q, 6, none⟩ = some (.int .i64 ((m : Int) + 2)) ∧ wq.cell? ⟨gkJ, 2, none⟩ = some (.int .u16 (l : Int))) (by kernel_rfl) ?s_aln23 (fun hHeld => ?_)
             case s_aln23 => exact ⟨by have h := HDC.out _ HB; exact h, kE.cell 2, by rw [show (m : Int) + 2 = c2.cm by rw [hS2.out.cm]; omega]; exact kD.cell 6, kJ.cell 2⟩
             have hD := (Below.refl y353.heap.size y353).drew
             replace HB := HB.trans (hD.mono (Nat.le_of_lt kC.lt))
             replace kJ := kJ.b hD
             replace kC := kC.b hD
             replace kD := kD.b hD
             replace kE := kE.b hD
             replace R1 := R1.on hD hD.size
             clear hD
             generalize y353.drew = y354 at *
             refine tj 0 _ ?_
             try simp only [Act.put, ka, kb, kc]
             refine tj 1 _ ?_
             try simp only [Act.put, ka, kb, kc]
             refine tj 2 _ ?_
             try simp only [Act.put, ka, kb, kc]
             refine tj 3 _ ?_
             try simp only [Act.put, ka, kb, kc]
             refine tj 4 _ ?_
             try simp only [Act.put, ka, kb, kc]
             refine tj 5 _ ?_
             try simp only [Act.put, ka, kb, kc]
             refine tj 6 _ ?_
             try simp only [Act.put, ka, kb, kc]
             refine tj 7 _ ?_
             try simp only [Act.put, ka, kb, kc]
             refine tj 8 _ ?_
             try simp only [Act.put, ka, kb, kc]
             refine tj 9 _ ?_
             try simp only [Act.put, ka, kb, kc]
             refine tj 10 _ ?_
             try simp only [Act.put, ka, kb, kc]
             refine tj 11 _ ?_
             try simp only [Act.put, ka, kb, kc]
             refine tj 12 _ ?_
             try simp only [Act.put, ka, kb, kc]
             refine tj 13 _ ?_
             try simp only [Act.put, ka, kb, kc]
             refine tj 14 _ ?_
             try simp only [Act.put, ka, kb, kc]
             refine tj 15 _ ?_
             try simp only [Act.put, ka, kb, kc]
             refine tj 16 _ ?_
             try simp only [Act.put, ka, kb, kc]
             refine tj 17 _ ?_
             try simp only [Act.put, ka, kb, kc]
             refine tj 18 _ ?_
             try simp only [Act.put, ka, kb, kc]
             refine tj 19 _ ?_
             try simp only [Act.put, ka, kb, kc]
             refine tj 20 _ ?_
             try simp only [Act.put, ka, kb, kc]
             refine tj 21 _ ?_
             try simp only [Act.put, ka, kb, kc]
             refine tj 22 _ ?_
             try simp only [Act.put, ka, kb, kc]
             refine tj 23 _ ?_
             try simp only [Act.put, ka, kb, kc]
             refine tj 24 _ ?_
             try simp only [Act.put, ka, kb, kc]
             refine tj 25 _ ?_
             try simp only [Act.put, ka, kb, kc]
             refine tj 26 _ ?_
             try simp only [Act.put, ka, kb, kc]
             refine tj 27 _ ?_
             try simp only [Act.put, ka, kb, kc]
             refine tj 28 _ ?_
             try simp only [Act.put, ka, kb, kc]
             refine tj 29 _ ?_
             try simp only [Act.put, ka, kb, kc]
             refine tj 30 _ ?_
             try simp only [Act.put, ka, kb, kc]
             refine tj 31 _ ?_
             try simp only [Act.put, ka, kb, kc]
             refine tj 32 _ ?_
             try simp only [Act.put, ka, kb, kc]
             refine rr [33] ?_
             refine rc (fun KQ hKQ => ?_) AllReadyH.nil
             go_simp
             have CC := ref9.count_any l y354 hl16.out
             refine (CC).mono ?_
             rintro e y355 ⟨rfl, hY⟩
             replace HB := HB.trans (hY.mono (Nat.le_of_lt kC.lt))
             replace kJ := kJ.b hY
             replace kC := kC.b hY
             replace kD := kD.b hY
             replace kE := kE.b hY
             replace R1 := R1.on hY hY.size
             clear hY
             clear CC
             go_wp2_with fail
             refine hKQ.out _ _ ?s_33 (fun hHeld33 => ?_)
             case s_33 => exact ⟨by have h := HDC.out _ HB; exact h, kE.cell 2, by rw [show (m : Int) + 2 = c2.cm by rw [hS2.out.cm]; omega]; exact kD.cell 6, kJ.cell 2⟩
             clear hKQ KQ
             try simp only [Act.put, ka, kb, kc]
             refine tj 34 _ ?_
             try simp only [Act.put, ka, kb, kc]
             refine tj 35 _ ?_
             try simp only [Act.put, ka, kb, kc]
             refine wpAnyH_done (by kernel_rfl) ?_ _
             go_wp2_with (first | go_skip | refine st_C rfl _ _ rfl c2 A1 n1 p1 rfl rfl _ kC rfl ?_ | (first | refine lo_J _ rfl rfl rfl kJ ?_ | refine lo_C _ rfl rfl rfl kC ?_ | refine lo_cL _ rfl rfl rfl kC ?_ | refine lo_cJ _ rfl rfl rfl kC ?_ | refine lo_C _ rfl rfl rfl kD ?_ | refine lo_cL _ rfl rfl rfl kD ?_ | refine lo_cJ _ rfl rfl rfl kD ?_ | refine lo_E _ rfl rfl rfl kE ?_))
             intro y356 kC2 pO
             replace kJ := kJ.put pO (Nat.ne_of_lt LTkJkC.out)
             replace kD := kD.put pO (Nat.ne_of_gt LTkCkD.out)
             replace kE := kE.put pO (Nat.ne_of_gt LTkCkE.out)
             replace R1 := R1.putS pO NIR1kC.out
             replace HB := pO.below _ _ HB (Nat.le_refl _)
             clear kC
             have kC := kC2
             clear kC2 pO
             go_wp2_with (first | go_skip | refine lo_J _ rfl rfl rfl kJ ?_ | refine lo_C _ rfl rfl rfl kC ?_ | refine lo_cL _ rfl rfl rfl kC ?_ | refine lo_cJ _ rfl rfl rfl kC ?_ | refine lo_C _ rfl rfl rfl kD ?_ | refine lo_cL _ rfl rfl rfl kD ?_ | refine lo_cJ _ rfl rfl rfl kD ?_ | refine lo_E _ rfl rfl rfl kE ?_)
             go_roundw
             case rel => exact ⟨m + 1, c2, A1, n1, p1, by omega, by rfl, hS2, Lib.hid kC, Lib.hid R1, NIR1kC, hp1, Lib.hid HB⟩
             case measure => simp only [intOf]; omega
         have hsz2 : (200 : Int) < (d.size : Int) := by omega
         replace hsz := Lib.hid hsz
         go_wp2_with (first | go_skip | refine lo_C _ rfl rfl rfl kC ?_ | refine lo_cL _ rfl rfl rfl kC ?_ | refine lo_cJ _ rfl rfl rfl kC ?_)
         go_ret
         exact ⟨rfl, HB0.out.trans (HB.mono hle0.out)⟩
       · skip
         have kC := HkC.out
         have R0 := HRc.out
         have NIR0kC := HN
         have HB := HBr.out
         obtain rfl : m = n := by omega
         have ck : ¬ ((m : Int) < (m : Int)) := by omega
         go_wp2_with (first | go_skip | refine lo_C _ rfl rfl rfl kC ?_ | refine lo_cL _ rfl rfl rfl kC ?_ | refine lo_cJ _ rfl rfl rfl kC ?_)
         go_ret
         exact ⟨rfl, HB0.out.trans (HB.mono hle0.out)⟩
end Go.Proofs.YtegnfkbmlalkeaaGreat.law13
