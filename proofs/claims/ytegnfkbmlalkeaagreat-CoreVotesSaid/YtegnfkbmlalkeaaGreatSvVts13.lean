/- CoreVotes' walk. No condition. -/
import Derived.Deep.RegionHeld3
import Derived.Deep.Cut
import Derived.Lib.Hide
import Derived.Test.YtegnfkbmlalkeaaGreatSvJ2
import Derived.Test.YtegnfkbmlalkeaaGreatSvJ5
import Derived.Test.YtegnfkbmlalkeaaGreatSvJ0
import Derived.Test.YtegnfkbmlalkeaaGreatSvRefMy13
import Derived.Test.YtegnfkbmlalkeaaGreatSvCorZ13
import Derived.Test.YtegnfkbmlalkeaaGreatSvKitLg
namespace Go.Proofs.YtegnfkbmlalkeaaGreat.law13
open Go Go.RowKit Go.Proofs.YtegnfkbmlalkeaaGreat.kit Go.Proofs.YtegnfkbmlalkeaaGreat.nums Go.Proofs.YtegnfkbmlalkeaaGreat.cf Go.Proofs.YtegnfkbmlalkeaaGreat.lg Go.Proofs.YtegnfkbmlalkeaaGreat.cr Go.Proofs.YtegnfkbmlalkeaaGreat.se
set_option linter.unusedVariables false
def VS (c : CoL) : Int → Int → Prop := fun t who => t ≤ c.tm ∧ (t = c.tm → who = c.vo ∧ c.vo ≠ 0)
theorem vs_step {c d : CoL} (h1 : c.tm ≤ d.tm) (h2 : d.tm = c.tm → c.vo ≠ 0 → d.vo = c.vo) : ∀ a b, VS c a b → VS d a b := by
 intro a b h
 refine ⟨Int.le_trans h.1 h1, fun e => ?_⟩
 have ha := h.1
 have e2 : d.tm = c.tm := by omega
 have h3 := h.2 (by omega)
 rw [h2 e2 h3.2]
 exact h3
theorem vs_put {d : CoL} {t v : Int} (ht : t = d.tm) (hv : v = d.vo) (h0 : d.vo ≠ 0) : ∀ a b, (VS d a b ∨ (a = t ∧ b = v)) → VS d a b := by
 rintro a b (h | ⟨rfl, rfl⟩)
 · exact h
 · exact ⟨by omega, fun _ => ⟨hv, h0⟩⟩
theorem vs_same {c d : CoL} (h1 : d.tm = c.tm) (h2 : d.vo = c.vo) : ∀ a b, VS c a b → VS d a b := by
 intro a b h; unfold VS; rw [h1, h2]; exact h
theorem put_trans {w w' w'' : World} {g : Nat} (h : Put w w' g) (k : Put w' w'' g) : Put w w'' g := ⟨fun q hq => (k.other q hq).trans (h.other q hq), fun B w0 hb hB => k.below B w0 (h.below B w0 hb hB) hB, k.size.trans h.size⟩
theorem put_drew (w : World) (g : Nat) : Put w w.drew g := ⟨fun _ _ => rfl, fun _ _ h _ => h.drew, rfl⟩
theorem zero_int (w : World) : (zeroValue 3).run Tryz.prog w = .ok (.int .i64 0) w := by kernel_rfl
theorem rdv_bool {w : World} {B n : Nat} {A : Option Addr} {ds : List Bool} (h : RdV w B A n (ds.map Value.bool)) {i : Nat} (hi : i < n) : ∃ b o, A = some ⟨b, o, none⟩ ∧ b < B ∧ w.cell? ⟨b, o + i, none⟩ = some (.bool (ds.getD i false)) := by
 obtain ⟨b, o, e, hb, hc⟩ := h.2 (by omega)
 have hl : i < ds.length := by have := h.1; rw [List.length_map] at this; omega
 refine ⟨b, o, e, hb, ?_⟩
 rw [hc i hi, List.getElem?_map, List.getElem?_eq_getElem hl]
 simp [List.getD_eq_getElem?_getD, List.getElem?_eq_getElem hl]
set_option maxHeartbeats 32000000 in
set_option maxRecDepth 10000 in
theorem votes_walk (c : CoL) (A : Option Addr) (n p : Nat) (Al : Option Addr) (nl pl : Nat) (l : List (MsL × Value)) (Ab : Option Addr) (nb pb : Nat) (rs : List Bool) (w : World) (hR : RdE w w.heap.size A n c.lg.es) (hp : n ≤ p) (hj : c.lg.j.ok) (hok : ∀ x ∈ c.lg.es, x.j.ok) (hv : c.vs < 65536 ∧ c.he < 65536) (hl : InM w w.heap.size Al nl l) (hle : ∀ x ∈ l, x.1.j.ok ∧ ∀ y ∈ x.1.es, y.j.ok) (hb : RdV w w.heap.size Ab nb (rs.map Value.bool)) : Calls Tryz.prog 7 #[crV c (.slice A n p), .slice Al nl pl, .slice Ab nb pb] w fun e w' => e = .returned (.bool true) ∧ Below w.heap.size w w' := by
 have HJ := Lib.hid hj
 have HOk := Lib.hid hok
 have HV := Lib.hid hv
 have hp2 := Lib.hid hp
 have HXL := Lib.hid hl
 have HXE := Lib.hid hle
 have HRB := Lib.hid hb
 have R0 := hR
 clear hj hok hv hl hle hb hR
 go_enter Tryz.func7, Tryz.ntmps7
 have NIR0kC := Lib.hid (NotIn.of_rd R0 (Nat.le_refl _))
 go_wp2_with (first | go_skip | refine box_C rfl _ rfl c (.slice A n p) rfl ?_ | fail)
 intro y1 kC e1 s1
 clear s1
 have HB := e1
 replace R0 := R0.on e1 e1.size
 clear e1
 go_wp2_with (first | go_skip | refine lo_Cj kC ?_ | refine lo_cLj kC ?_ | refine lo_cJj kC ?_)
 refine (begun_any y1).mono ?_
 rintro e y2 ⟨rfl, hY⟩
 replace HB := bt HB hY
 replace kC := kC.b hY
 replace R0 := R0.on hY hY.size
 clear hY
 go_wp2_with (first | go_skip | refine lo_Cj kC ?_ | refine lo_cLj kC ?_ | refine lo_cJj kC ?_)
 refine (light_any c A n p y2 y2.heap.size R0 (Nat.le_refl _) hp2.out).mono ?_
 rintro e y3 ⟨bl, rfl, hbl, hY⟩
 replace HB := bt HB hY
 replace kC := kC.b hY
 replace R0 := R0.on hY hY.size
 clear hY
 rcases bl with _ | _
 · skip
   go_wp2_with (first | go_skip | refine lo_Cj kC ?_ | refine lo_cLj kC ?_ | refine lo_cJj kC ?_)
   go_ret
   exact ⟨rfl, HB⟩
 have hn60 := Lib.hid (hbl.out rfl)
 clear hbl
 by_cases hnl : nl ≤ 40
 rotate_left
 · skip
   have k1 : decide ((40 : Int) < (nl : Int)) = true := decide_eq_true (by omega)
   go_wp2_with (first | go_skip | refine lo_Cj kC ?_ | refine lo_cLj kC ?_ | refine lo_cJj kC ?_)
   go_ret
   exact ⟨rfl, HB⟩
 have k1 : decide ((40 : Int) < (nl : Int)) = false := decide_eq_false (by omega)
 by_cases hnb : nb ≤ 60
 rotate_left
 · skip
   have k2 : decide ((60 : Int) < (nb : Int)) = true := decide_eq_true (by omega)
   go_wp2_with (first | go_skip | refine lo_Cj kC ?_ | refine lo_cLj kC ?_ | refine lo_cJj kC ?_)
   go_ret
   exact ⟨rfl, HB⟩
 have k2 : decide ((60 : Int) < (nb : Int)) = false := decide_eq_false (by omega)
 go_wp2_with (first | go_skip | refine lo_Cj kC ?_ | refine lo_cLj kC ?_ | refine lo_cJj kC ?_)
 have CC := cor.rmay_any c A n p y3 y3.heap.size R0 (Nat.le_refl _) hp2.out (by have := hn60.out; omega) HJ.out HOk.out
 obtain ⟨mk, hmk⟩ : ∃ q, mayK c = q := ⟨_, rfl⟩
 rw [hmk] at CC
 refine (CC).mono ?_
 rintro e y4 ⟨rfl, hY⟩
 replace HB := bt HB hY
 replace kC := kC.b hY
 replace R0 := R0.on hY hY.size
 clear hY
 clear CC
 replace hmk := Lib.hid hmk
 rcases mk with _ | _
 · skip
   go_wp2_with (first | go_skip | refine lo_Cj kC ?_ | refine lo_cLj kC ?_ | refine lo_cJj kC ?_)
   go_ret
   exact ⟨rfl, HB⟩
 have HOC : Hid (OkC c 60) := Lib.hid ⟨HJ.out, HOk.out, by rw [R0.1]; exact hn60.out, HV.out.1, HV.out.2⟩
 clear k1 k2
 have LTkChV := Lib.hid kC.lt
 have NIR0hV := Lib.hid (NotIn.of_rd R0 (Nat.le_refl _))
 have LEhV : Hid (w.heap.size ≤ y4.heap.size) := HB.size
 go_wp2_with (first | go_skip | refine wpList_makeS rfl rfl (VS c) ?_ | (first | refine lo_Cj kC ?_ | refine lo_cLj kC ?_ | refine lo_cJj kC ?_))
 intro y5 hV e5
 replace HB := bt HB e5
 replace kC := kC.b e5
 replace R0 := R0.on e5 e5.size
 clear e5
 generalize y4.heap.size = ghV at *
 obtain ⟨vo, hvo⟩ : ∃ q, c.vo = q := ⟨_, rfl⟩
 obtain ⟨tm, htm⟩ : ∃ q, c.tm = q := ⟨_, rfl⟩
 replace hvo := Lib.hid hvo
 replace htm := Lib.hid htm
 have cvo : y5.cell? ⟨w.heap.size, 3, none⟩ = some (.int .i64 vo) := by rw [← hvo.out]; exact kC.cell 3
 have ctm : y5.cell? ⟨w.heap.size, 2, none⟩ = some (.int .i64 tm) := by rw [← htm.out]; exact kC.cell 2
 have KC := Lib.hid kC
 have KV := Lib.hid hV
 have KR := Lib.hid R0
 have KB := Lib.hid HB
 have hB0s : Hid (w.heap.size ≤ y5.heap.size) := Lib.hid HB.size
 clear KC KV KR KB
 obtain ⟨bz, hbz⟩ : ∃ q, (vo != 0) = q := ⟨_, rfl⟩
 go_upto_if 38 with (go_skip)
 replace hbz := Lib.hid hbz
 go_cut [7] from 200 (fun mv wx => mv = .map (some ghV) ∧ Hid (MapS wx ghV (VS c)) ∧ Hid (Put y5 wx ghV))
 case first =>
   rcases bz with _ | _
   · skip
     go_wp2_with go_skip
     go_meet
     case rel => exact ⟨rfl, Lib.hid hV, Lib.hid (Put.refl _ _)⟩
   · skip
     have hv0 : vo ≠ 0 := by have := hbz.out; simpa using this
     have hv0h := Lib.hid hv0
     clear hv0
     go_wp2_with (refine wpList_putS rfl _ _ _ rfl Tryz.underlying65 Tryz.underlying3 tm vo rfl rfl rfl hV ?_)
     intro yp hV2 pO
     go_wp2_with go_skip
     go_meet
     case rel => exact ⟨rfl, Lib.hid (hV2.more (vs_put htm.out.symm hvo.out.symm (by rw [hvo.out]; exact hv0h.out))), Lib.hid pO⟩
 case rest =>
   obtain ⟨rfl, hVh, hPh⟩ := hcut
   obtain ⟨yv, hyv⟩ : ∃ z, z = wc := ⟨_, rfl⟩
   subst hyv
   clear cvo ctm hV
   have hV := hVh.out
   replace kC := kC.put hPh.out (Nat.ne_of_lt LTkChV.out)
   replace R0 := R0.putS hPh.out NIR0hV.out
   replace HB := hPh.out.below _ _ HB LEhV.out
   replace hB0s : Hid (w.heap.size ≤ yv.heap.size) := Lib.hid HB.size
   clear hVh hPh
   have HB0 := Lib.hid HB
   have hCV := LTkChV
   go_wp2_with go_skip
   go_loopw [8] (fun iv wr => ∃ (i : Nat) (c : CoL) (A' : Option Addr) (n' p' : Nat), i ≤ nl ∧ iv = .int .i64 (i : Int) ∧ Hid (OkC c (60 + 62 * i)) ∧ Hid (mayK c = true) ∧ Hid (Blk 33 wr w.heap.size (crC c (.slice A' n' p'))) ∧ Hid (MapS wr ghV (VS c)) ∧ Hid (RdE wr wr.heap.size A' n' c.lg.es) ∧ Hid (NotIn w.heap.size A' n') ∧ Hid (NotIn ghV A' n') ∧ Hid (n' ≤ p') ∧ Hid (Below w.heap.size yv wr)) (fun iv _ => nl - (intOf iv).toNat)
   case atStart => exact ⟨0, c, A, n, p, by omega, rfl, HOC, hmk, Lib.hid kC, Lib.hid hV, Lib.hid R0, NIR0kC, NIR0hV, hp2, Lib.hid (Below.refl _ _)⟩
   case round =>
     obtain ⟨i, c, A, nc, p, hip, rfl, hOC, hMK, HkC, HhV, HRc, HNC, HNV, Hp, HBr⟩ := hrel
     clear HB kC hV R0 NIR0kC NIR0hV HOC hmk hvo htm
     by_cases hi6 : i < nl
     · skip
       have kC := HkC.out
       have hV := HhV.out
       have R0 := HRc.out
       have NIR0kC := HNC
       have NIR0hV := HNV
       have LTkChV := hCV
       have HB := HBr.out
       clear HkC HhV HRc HNC HNV HBr
       have ck : (i : Int) < (nl : Int) := by omega
       have ck0 : (0 : Int) ≤ (i : Int) := by omega
       have wk : IntKind.i64.wrap ((i : Int) + 1) = ((i + 1 : Nat) : Int) := by rw [wrap_sm (by omega) (by omega)]; omega
       obtain ⟨bb, oo, x, Am, nm, pm, rfl, hbb, hx, hx2, hpm, hAt, hRm⟩ := (HXL.out.below HB0.out).at_ hi6
       have hxe := HXE.out x (List.mem_of_getElem? hx)
       have HAt : Hid (∀ w', Below w.heap.size yv w' → At w' bb (oo + i * 22) (msC x.1 (.slice Am nm pm)) ∧ RdE w' w.heap.size Am nm x.1.es) := Lib.hid (fun w' hb => ⟨hAt.below hbb hb, hRm.below hb⟩)
       obtain ⟨m, hm⟩ : ∃ q, x.1 = q := ⟨_, rfl⟩
       rw [hm] at HAt hxe hRm
       have hml := Lib.hid hRm.1
       replace hpm := Lib.hid hpm
       replace hxe := Lib.hid hxe
       clear hAt hRm hx hx2 hm
       have hA1 := (HAt.out _ HB).1
       go_wp2_with (first | go_skip | refine lo_Cj kC ?_ | refine lo_cLj kC ?_ | refine lo_cJj kC ?_ | refine wpList_ldAt _ rfl rfl (cells := msC m (.slice Am nm pm)) rfl hA1 (aggM _) (sizeM _) ?_)
       have CC := lightMsg_any m Am nm pm wr wr.heap.size ((HAt.out _ HB).2.more (Nat.le_trans hB0s.out HB.size)) (Nat.le_refl _)
       clear hA1
       refine CC.mono ?_
       rintro e y51 ⟨bl, rfl, hbl, hY⟩
       clear CC
       replace HB := HB.trans (hY.mono (Nat.le_of_lt kC.lt))
       replace kC := kC.b hY
       replace hV := hV.below hY hV.lt
       replace R0 := R0.on hY hY.size
       clear hY
       rcases bl with _ | _
       · skip
         go_wp2_with (first | go_skip | refine lo_Cj kC ?_ | refine lo_cLj kC ?_ | refine lo_cJj kC ?_)
         go_ret
         exact ⟨rfl, HB0.out.trans (HB.mono (Nat.le_refl _))⟩
       have hm60 := Lib.hid (hbl.out rfl)
       clear hbl
       have LTkCkW := Lib.hid kC.lt
       have LThVkW := Lib.hid hV.lt
       have NIR0kW := Lib.hid (NotIn.of_rd R0 (Nat.le_refl _))
       have LEkW : Hid (w.heap.size ≤ y51.heap.size) := Lib.hid (Nat.le_of_lt kC.lt)
       go_wp2_with (first | go_skip | refine al_C rfl rfl ?_ | (first | refine lo_Cj kC ?_ | refine lo_cLj kC ?_ | refine lo_cJj kC ?_))
       intro y52 kW e52 s52
       clear s52
       replace kW : Blk _ _ _ (crC zC (.slice none 0 0)) := kW
       replace HB := HB.trans (e52.mono (Nat.le_of_lt kC.lt))
       replace kC := kC.b e52
       replace hV := hV.below e52 hV.lt
       replace R0 := R0.on e52 e52.size
       clear e52
       generalize y51.heap.size = gkW at *
       go_wp2_with (first | go_skip | refine st_C rfl _ _ rfl c A nc p rfl rfl _ kW rfl ?_ | (first | refine lo_Cj kC ?_ | refine lo_cLj kC ?_ | refine lo_cJj kC ?_ | refine lo_Cj kW ?_ | refine lo_cLj kW ?_ | refine lo_cJj kW ?_))
       intro y53 kW2 pO
       replace kC := kC.put pO (Nat.ne_of_lt LTkCkW.out)
       replace hV := hV.put pO (Nat.ne_of_lt LThVkW.out)
       replace R0 := R0.putS pO NIR0kW.out
       replace HB := pO.below _ _ HB LEkW.out
       clear kW
       have kW := kW2
       clear kW2 pO
       have hG := Lib.hid (hOC.out.good hMK.out (by omega))
       obtain ⟨d, hd⟩ : ∃ q, (stepF c m).1 = q := ⟨_, rfl⟩
       obtain ⟨OUT, hOUT⟩ : ∃ q, (stepF c m).2 = q := ⟨_, rfl⟩
       have hVt := step_votes c m
       have hOl : Hid (OUT.length ≤ 9) := Lib.hid (by rw [← hOUT]; exact step_few c m)
       rw [hd, hOUT] at hVt
       have hOd : Hid (OkC d (60 + 62 * (i + 1))) := by
         have h := hOC.out.step (m := m) hxe.out.1 hxe.out.2
         rw [hd] at h
         exact Lib.hid (h.more (by rw [hml.out]; have := hm60.out; omega))
       replace hVt := Lib.hid hVt
       replace hd := Lib.hid hd
       replace hOUT := Lib.hid hOUT
       go_upto_region 14 with (first | go_skip | refine lo_Cj kC ?_ | refine lo_cLj kC ?_ | refine lo_cJj kC ?_ | refine lo_Cj kW ?_ | refine lo_cLj kW ?_ | refine lo_cJj kW ?_)
       go_cut [10, 11] from 200 (fun dv ov wx => ∃ (q : Nat) (A1 : Option Addr) (n1 p1 : Nat) (Ao : Option Addr) (co : Nat) (xs : List (MsL × Value)), dv = .pointer (some ⟨q, 0, none⟩) ∧ ov = .slice Ao OUT.length co ∧ Hid (Blk 33 wx q (crC d (.slice A1 n1 p1))) ∧ Hid (Blk 33 wx w.heap.size (crC c (.slice A nc p))) ∧ Hid (MapS wx ghV (VS c)) ∧ Hid (Blk 33 wx gkW (crC c (.slice A nc p))) ∧ Hid (RdE wx wx.heap.size A1 n1 d.lg.es) ∧ Hid (n1 ≤ p1) ∧ Hid (NotIn w.heap.size A1 n1) ∧ Hid (NotIn ghV A1 n1) ∧ Hid (NotIn gkW A1 n1) ∧ Hid (NotIn q A1 n1) ∧ Hid (w.heap.size < q) ∧ Hid (ghV < q) ∧ Hid (gkW < q) ∧ Hid (InM wx wx.heap.size Ao (OUT).length xs) ∧ Hid (xs.map Prod.fst = OUT) ∧ Hid (NotM w.heap.size Ao (OUT).length xs) ∧ Hid (NotM ghV Ao (OUT).length xs) ∧ Hid (NotM gkW Ao (OUT).length xs) ∧ Hid (NotM q Ao (OUT).length xs) ∧ Hid (Below w.heap.size yv wx))
       case first =>
         refine wp_region_held_drew (S := fun wq => Blk 33 wq w.heap.size (crC c (.slice A nc p)) ∧ At wq bb (oo + i * 22) (msC m (.slice Am nm pm))) (by kernel_rfl) ?s_vts14x (fun hHeld => ?_)
         case s_vts14x => exact ⟨kC, by have h := (HAt.out _ HB).1; exact h⟩
         have hD := (Below.refl y53.heap.size y53).drew
         replace HB := HB.trans (hD.mono (Nat.le_of_lt kC.lt))
         replace kC := kC.b hD
         replace hV := hV.below hD hV.lt
         replace kW := kW.b hD
         replace R0 := R0.on hD hD.size
         clear hD
         generalize y53.drew = yq at *
         refine tj 0 _ ?_ (hy := fun wq hSw => rld_C rfl rfl (And.left hSw))
         try simp only [Act.put, ka, kb, kc]
         refine tj 1 _ ?_
         try simp only [Act.put, ka, kb, kc]
         refine tj 2 _ ?_
         try simp only [Act.put, ka, kb, kc]
         refine tj 3 _ ?_
         try simp only [Act.put, ka, kb, kc]
         refine tj 4 ((msV m (.slice Am nm pm))) ?_ (hy := fun wq hSw => run_ldAt rfl rfl hSw.2 (aggM _) (sizeM _))
         try simp only [Act.put, ka, kb, kc]
         refine rr [5, 9] ?_
         refine rc (fun KQ hKQ => ?_) (rc (fun KQ hKQ => ?_) (AllReadyH.nil))
         · go_simp
           try have hgl := Lib.hid zO.lt
           have CC := cor.step_any c A nc p m Am nm pm yq yq.heap.size R0 (Nat.le_refl _) Hp.out w.heap.size (HAt.out _ HB).2 (Nat.le_trans hB0s.out HB.size) hpm.out hG.out hxe.out.2 hxe.out.1 (by have := hOC.out.len; omega) (by rw [hml.out]; have := hm60.out; omega)
           rw [hd.out, hOUT.out] at CC
           refine (CC).mono ?_
           rintro e2 yq ⟨A1, n1, p1, v9, B9, rfl, RB, hp1, ON9, hO, hB9, hB8, hY⟩
           have NIR1kC := Lib.hid (NIR0kC.out.next ON9 kC.lt)
           have NIR1hV := Lib.hid (NIR0hV.out.next ON9 hV.lt)
           have NIR1kW := Lib.hid (NIR0kW.out.next ON9 kW.lt)
           try have NIR1zO := Lib.hid (NIRozO.out.next ON9 hgl.out)
           have R1 := RB.more hB8
           clear RB ON9
           replace hp1 := Lib.hid hp1
           obtain ⟨Ao, co, xs, rfl, hxs, XO, hXO⟩ := hO.in_ hB8
           have NIXkC := Lib.hid (hXO _ (Nat.lt_of_lt_of_le kC.lt hB9))
           have NIXhV := Lib.hid (hXO _ (Nat.lt_of_lt_of_le hV.lt hB9))
           have NIXkW := Lib.hid (hXO _ (Nat.lt_of_lt_of_le kW.lt hB9))
           try have NIXzO := Lib.hid (hXO _ (Nat.lt_of_lt_of_le hgl.out hB9))
           replace hxs := Lib.hid hxs
           clear hXO hO hB9 hB8
           clear CC
           replace HB := HB.trans (hY.mono (Nat.le_of_lt kC.lt))
           replace kC := kC.b hY
           replace hV := hV.below hY hV.lt
           replace kW := kW.b hY
           replace R0 := R0.on hY hY.size
           try replace zO := zO.b hY
           clear hY
           go_wp2_with fail
           refine hKQ.out _ _ (⟨kC, by have h := (HAt.out _ HB).1; exact h⟩) (fun _ => ?_)
           clear hKQ KQ
           try simp only [Act.put, ka, kb, kc]
           refine tj 6 _ ?_
           try simp only [Act.put, ka, kb, kc]
           refine tj 7 _ ?_
           try simp only [Act.put, ka, kb, kc]
           refine tj 8 _ ?_
           try simp only [Act.put, ka, kb, kc]
           refine rr [9] ?_
           refine rc (fun KQ hKQ => ?_) AllReadyH.nil
           refine step_alC rfl rfl ?_
           intro yq2 zO eA
           have hgq := Lib.hid (Nat.le_of_lt kC.lt)
           have LTkCzO := Lib.hid kC.lt
           have LThVzO := Lib.hid hV.lt
           have LTkWzO := Lib.hid kW.lt
           have NIRozO := Lib.hid (NotIn.of_rd R0 (Nat.le_refl _))
           try have NIR1zO := Lib.hid (NotIn.of_rd R1 (Nat.le_refl _))
           try have NIXzO := Lib.hid (NotM.of_in XO (Nat.le_refl _))
           replace HB := HB.trans (eA.mono (Nat.le_of_lt kC.lt))
           replace kC := kC.b eA
           replace hV := hV.below eA hV.lt
           replace kW := kW.b eA
           replace R0 := R0.on eA eA.size
           try replace R1 := R1.on eA eA.size
           try replace XO := XO.on eA eA.size
           clear eA
           generalize yq.heap.size = gO at *
           obtain ⟨yq, hyq⟩ : ∃ z, z = yq2 := ⟨_, rfl⟩
           subst hyq
           refine hKQ.out _ _ (⟨kC, by have h := (HAt.out _ HB).1; exact h⟩) (fun _ => ?_)
           clear hKQ KQ
           try simp only [Act.put, ka, kb, kc]
           refine rr [10] ?_
           refine rc (fun KQ hKQ => ?_) AllReadyH.nil
           refine step_stAt rfl 33 _ _ rfl (cells := (crC d (.slice A1 n1 p1)).toArray) (crC d (.slice A1 n1 p1)) rfl rfl zO sizeCv (by show 0 + 45 ≤ 45; omega) (cr_one _) rfl ?_
           intro yq3 zO2 pO
           replace HB := pO.below _ _ HB hgq.out
           replace kC := kC.put pO (Nat.ne_of_lt LTkCzO.out)
           replace hV := hV.put pO (Nat.ne_of_lt LThVzO.out)
           replace kW := kW.put pO (Nat.ne_of_lt LTkWzO.out)
           replace R1 := R1.putS pO NIR1zO.out
           replace XO := XO.putS pO NIXzO.out
           refine hKQ.out _ _ (⟨kC, by have h := (HAt.out _ HB).1; exact h⟩) (fun _ => ?_)
           clear hKQ KQ
           try simp only [Act.put]
           refine tj 11 _ ?_
           try simp only [Act.put, ka, kb, kc]
           refine wpAnyH_done (by kernel_rfl) ?_ _
           go_wp2_with fail
           go_meet
           case rel => exact ⟨_, A1, n1, p1, Ao, co, xs, rfl, rfl, Lib.hid zO2, Lib.hid kC, Lib.hid hV, Lib.hid kW, Lib.hid R1, hp1, NIR1kC, NIR1hV, NIR1kW, NIR1zO, LTkCzO, LThVzO, LTkWzO, Lib.hid XO, hxs, NIXkC, NIXhV, NIXkW, NIXzO, Lib.hid HB⟩
         · refine step_alC rfl rfl ?_
           intro yq2 zO eA
           have hgq := Lib.hid (Nat.le_of_lt kC.lt)
           have LTkCzO := Lib.hid kC.lt
           have LThVzO := Lib.hid hV.lt
           have LTkWzO := Lib.hid kW.lt
           have NIRozO := Lib.hid (NotIn.of_rd R0 (Nat.le_refl _))
           try have NIR1zO := Lib.hid (NotIn.of_rd R1 (Nat.le_refl _))
           try have NIXzO := Lib.hid (NotM.of_in XO (Nat.le_refl _))
           replace HB := HB.trans (eA.mono (Nat.le_of_lt kC.lt))
           replace kC := kC.b eA
           replace hV := hV.below eA hV.lt
           replace kW := kW.b eA
           replace R0 := R0.on eA eA.size
           try replace R1 := R1.on eA eA.size
           try replace XO := XO.on eA eA.size
           clear eA
           generalize yq.heap.size = gO at *
           obtain ⟨yq, hyq⟩ : ∃ z, z = yq2 := ⟨_, rfl⟩
           subst hyq
           refine hKQ.out _ _ (⟨kC, by have h := (HAt.out _ HB).1; exact h⟩) (fun _ => ?_)
           clear hKQ KQ
           try simp only [Act.put, ka, kb, kc]
           refine rr [5] ?_
           refine rc (fun KQ hKQ => ?_) AllReadyH.nil
           go_simp
           try have hgl := Lib.hid zO.lt
           have CC := cor.step_any c A nc p m Am nm pm yq yq.heap.size R0 (Nat.le_refl _) Hp.out w.heap.size (HAt.out _ HB).2 (Nat.le_trans hB0s.out HB.size) hpm.out hG.out hxe.out.2 hxe.out.1 (by have := hOC.out.len; omega) (by rw [hml.out]; have := hm60.out; omega)
           rw [hd.out, hOUT.out] at CC
           refine (CC).mono ?_
           rintro e2 yq ⟨A1, n1, p1, v9, B9, rfl, RB, hp1, ON9, hO, hB9, hB8, hY⟩
           have NIR1kC := Lib.hid (NIR0kC.out.next ON9 kC.lt)
           have NIR1hV := Lib.hid (NIR0hV.out.next ON9 hV.lt)
           have NIR1kW := Lib.hid (NIR0kW.out.next ON9 kW.lt)
           try have NIR1zO := Lib.hid (NIRozO.out.next ON9 hgl.out)
           have R1 := RB.more hB8
           clear RB ON9
           replace hp1 := Lib.hid hp1
           obtain ⟨Ao, co, xs, rfl, hxs, XO, hXO⟩ := hO.in_ hB8
           have NIXkC := Lib.hid (hXO _ (Nat.lt_of_lt_of_le kC.lt hB9))
           have NIXhV := Lib.hid (hXO _ (Nat.lt_of_lt_of_le hV.lt hB9))
           have NIXkW := Lib.hid (hXO _ (Nat.lt_of_lt_of_le kW.lt hB9))
           try have NIXzO := Lib.hid (hXO _ (Nat.lt_of_lt_of_le hgl.out hB9))
           replace hxs := Lib.hid hxs
           clear hXO hO hB9 hB8
           clear CC
           replace HB := HB.trans (hY.mono (Nat.le_of_lt kC.lt))
           replace kC := kC.b hY
           replace hV := hV.below hY hV.lt
           replace kW := kW.b hY
           replace R0 := R0.on hY hY.size
           try replace zO := zO.b hY
           clear hY
           go_wp2_with fail
           refine hKQ.out _ _ (⟨kC, by have h := (HAt.out _ HB).1; exact h⟩) (fun _ => ?_)
           clear hKQ KQ
           try simp only [Act.put, ka, kb, kc]
           refine tj 6 _ ?_
           try simp only [Act.put, ka, kb, kc]
           refine tj 7 _ ?_
           try simp only [Act.put, ka, kb, kc]
           refine tj 8 _ ?_
           try simp only [Act.put, ka, kb, kc]
           refine rr [10] ?_
           refine rc (fun KQ hKQ => ?_) AllReadyH.nil
           refine step_stAt rfl 33 _ _ rfl (cells := (crC d (.slice A1 n1 p1)).toArray) (crC d (.slice A1 n1 p1)) rfl rfl zO sizeCv (by show 0 + 45 ≤ 45; omega) (cr_one _) rfl ?_
           intro yq3 zO2 pO
           replace HB := pO.below _ _ HB hgq.out
           replace kC := kC.put pO (Nat.ne_of_lt LTkCzO.out)
           replace hV := hV.put pO (Nat.ne_of_lt LThVzO.out)
           replace kW := kW.put pO (Nat.ne_of_lt LTkWzO.out)
           replace R1 := R1.putS pO NIR1zO.out
           replace XO := XO.putS pO NIXzO.out
           refine hKQ.out _ _ (⟨kC, by have h := (HAt.out _ HB).1; exact h⟩) (fun _ => ?_)
           clear hKQ KQ
           try simp only [Act.put]
           refine tj 11 _ ?_
           try simp only [Act.put, ka, kb, kc]
           refine wpAnyH_done (by kernel_rfl) ?_ _
           go_wp2_with fail
           go_meet
           case rel => exact ⟨_, A1, n1, p1, Ao, co, xs, rfl, rfl, Lib.hid zO2, Lib.hid kC, Lib.hid hV, Lib.hid kW, Lib.hid R1, hp1, NIR1kC, NIR1hV, NIR1kW, NIR1zO, LTkCzO, LThVzO, LTkWzO, Lib.hid XO, hxs, NIXkC, NIXhV, NIXkW, NIXzO, Lib.hid HB⟩
       case rest =>
         clear HB kC hV kW R0 NIR0kC NIR0hV NIR0kW
         obtain ⟨q, A1, n1, p1, Ao, co, xs, rfl, rfl, HkD, HkC, HhV, HkW, HR1, hp1, NIR1kC, NIR1hV, NIR1kW, NIR1kD, LTkCkD, LThVkD, LTkWkD, HXO, hxs, NIXOkC, NIXOhV, NIXOkW, NIXOkD, HBc⟩ := hcut
         have kD := HkD.out
         have kC := HkC.out
         have hV := HhV.out
         have kW := HkW.out
         have R1 := HR1.out
         have XO := HXO.out
         have HB := HBc.out
         clear HkD HkC HhV HkW HR1 HXO HBc
         replace hV := hV.more (vs_step hVt.out.1 hVt.out.2.1)
         obtain ⟨dt, hdt⟩ : ∃ q, d.tm = q := ⟨_, rfl⟩
         obtain ⟨dv, hdv⟩ : ∃ q, d.vo = q := ⟨_, rfl⟩
         obtain ⟨ct, hct⟩ : ∃ q, c.tm = q := ⟨_, rfl⟩
         obtain ⟨cv, hcv⟩ : ∃ q, c.vo = q := ⟨_, rfl⟩
         have hT1 : Hid (ct ≤ dt) := Lib.hid (by rw [← hct, ← hdt]; exact hVt.out.1)
         have hT2 : Hid (dt = ct → cv ≠ 0 → dv = cv) := Lib.hid (by rw [← hct, ← hdt, ← hdv, ← hcv]; exact hVt.out.2.1)
         have hT3 : Hid (∀ x ∈ OUT, x.k = 2 → x.y = true → dv = x.t ∧ x.m = dt ∧ x.t ≠ 0) := Lib.hid (by rw [← hdt, ← hdv]; exact hVt.out.2.2)
         replace hdt := Lib.hid hdt
         replace hdv := Lib.hid hdv
         replace hct := Lib.hid hct
         replace hcv := Lib.hid hcv
         clear hVt
         have cdt : wc.cell? ⟨q, 2, none⟩ = some (.int .i64 dt) := by rw [← hdt.out]; exact kD.cell 2
         have cdv : wc.cell? ⟨q, 3, none⟩ = some (.int .i64 dv) := by rw [← hdv.out]; exact kD.cell 3
         have cct : wc.cell? ⟨gkW, 2, none⟩ = some (.int .i64 ct) := by rw [← hct.out]; exact kW.cell 2
         have ccv : wc.cell? ⟨gkW, 3, none⟩ = some (.int .i64 cv) := by rw [← hcv.out]; exact kW.cell 3
         obtain ⟨wo, hwo⟩ : ∃ z, z = wc := ⟨_, rfl⟩
         subst hwo
         have f0 : ¬ dt < ct := by have := hT1.out; omega
         go_upto_region 15 with (go_skip)
         go_cut [89] from 200 (fun tv wx => tv = .bool false ∧ wx = wo)
         case first =>
           by_cases f1 : dt = ct
           · skip
             have f2 : (dt == ct) = true := by simp [f1]
             by_cases f3 : cv = 0
             · skip
               have f4 : (cv != 0) = false := by simp [f3]
               clear f1 f3
               go_wp2_with go_skip
               go_meet
               case rel => exact ⟨rfl, rfl⟩
             · skip
               have f4 : (cv != 0) = true := by simp [f3]
               have f6 : (dv != cv) = false := by rw [hT2.out f1 f3]; simp
               clear f1 f3
               go_wp2_with go_skip
               go_meet
               case rel => exact ⟨rfl, rfl⟩
           · skip
             have f2 : (dt == ct) = false := by simp [f1]
             clear f1
             go_wp2_with go_skip
             go_meet
             case rel => exact ⟨rfl, rfl⟩
         case rest =>
           obtain ⟨rfl, hwc⟩ := hcut
           have hwc := hwc.symm
           subst hwc
           go_wp2_with go_skip
           clear cdt cdv cct ccv f0
           have BC := Lib.hid kC
           have BW := Lib.hid kW
           have BD := Lib.hid kD
           have BR := Lib.hid R1
           have BX := Lib.hid XO
           have BB := Lib.hid HB
           have BV := Lib.hid hV
           clear kC kW kD R1 XO HB hV
           go_loopw [12] (fun kv wr => ∃ k : Nat, k ≤ OUT.length ∧ kv = .int .i64 (k : Int) ∧ Hid (MapS wr ghV (VS d)) ∧ Hid (Put wo wr ghV)) (fun kv _ => OUT.length - (intOf kv).toNat)
           case atStart => exact ⟨0, by omega, rfl, BV, Lib.hid (Put.refl _ _)⟩
           case round =>
             obtain ⟨k, hk, rfl, hVh, hPh⟩ := hrel
             by_cases hkl : k < OUT.length
             · skip
               have hV := hVh.out
               have hP := hPh.out
               clear hVh hPh
               have kD := BD.out.put hP (Nat.ne_of_gt LThVkD.out)
               have XO := BX.out.putS hP NIXOhV.out
               have ck2 : (k : Int) < (OUT.length : Int) := by omega
               have ck3 : (0 : Int) ≤ (k : Int) := by omega
               have wk2 : IntKind.i64.wrap ((k : Int) + 1) = ((k + 1 : Nat) : Int) := by rw [wrap_sm (by omega) (by have := hOl.out; omega)]; omega
               obtain ⟨xb, xo, z, zA, zn, zp, rfl, hzb, hz, -, -, hzA, -⟩ := XO.at_ hkl
               have hz1 : OUT[k]? = some z.1 := by rw [← hxs.out, List.getElem?_map, hz]; rfl
               have hz2 := List.mem_of_getElem? hz1
               obtain ⟨zm, hzm⟩ : ∃ q, z.1 = q := ⟨_, rfl⟩
               rw [hzm] at hzA hz2
               clear hz hz1 hzm
               obtain ⟨zk, hzk⟩ : ∃ q, zm.k = q := ⟨_, rfl⟩
               obtain ⟨zy, hzy⟩ : ∃ q, zm.y = q := ⟨_, rfl⟩
               have cz0 : wr.cell? ⟨xb, xo + k * 22, none⟩ = some (.int .i64 zk) := by rw [← hzk]; exact hzA 0 _ rfl
               have cz8 : wr.cell? ⟨xb, xo + k * 22 + 8, none⟩ = some (.bool zy) := by rw [← hzy]; exact hzA 8 _ rfl
               by_cases hk2 : zk = 2
               · skip
                 have b2 : (zk == 2) = true := by simp [hk2]
                 rcases zy with _ | _
                 · skip
                   clear hzk hzy
                   go_wp2_with go_skip
                   go_roundw
                   case rel => exact ⟨k + 1, by omega, rfl, Lib.hid hV, Lib.hid hP⟩
                   case measure => simp only [intOf]; omega
                 · skip
                   have hxbV : Hid (xb ≠ ghV) := Lib.hid (fun e => NIXOhV.out.1 xb xo (by omega) rfl e)
                   have hT := hT3.out zm hz2 (hzk.trans hk2) hzy
                   have cz2 : wr.cell? ⟨xb, xo + k * 22 + 2, none⟩ = some (.int .i64 dv) := by rw [hT.1]; exact hzA 2 _ rfl
                   have cz3 : wr.cell? ⟨xb, xo + k * 22 + 3, none⟩ = some (.int .i64 dt) := by rw [← hT.2.1]; exact hzA 3 _ rfl
                   have hT0 : Hid (dv ≠ 0) := Lib.hid (by rw [hT.1]; exact hT.2.2)
                   clear hzk hzy hT hz2
                   go_wp2_with (refine wpList_lookS rfl _ _ rfl Tryz.underlying65 Tryz.underlying3 (zero_int _) dt rfl rfl hV ?_)
                   intro who isn hS
                   have hS2 : Hid (decide (0 < isn) = true → who = dv) := Lib.hid (fun h => by have := (hS.out (of_decide_eq_true h)).2 hdt.out.symm; rw [this.1]; exact hdv.out)
                   clear hS
                   generalize decide (0 < isn) = is at hS2 ⊢
                   have cd2 : wr.cell? ⟨q, 2, none⟩ = some (.int .i64 dt) := by rw [← hdt.out]; exact kD.cell 2
                   have cd3 : wr.cell? ⟨q, 3, none⟩ = some (.int .i64 dv) := by rw [← hdv.out]; exact kD.cell 3
                   have e1 : (dv != dv) = false := by simp
                   have e2 : (dt != dt) = false := by simp
                   rcases is with _ | _
                   · skip
                     go_upto_region 22 with (go_skip)
                     clear cz0 cz8
                     refine wp_region_held_drew (S := fun wq => wq.cell? ⟨xb, xo + k * 22 + 2, none⟩ = some (.int .i64 dv) ∧ wq.cell? ⟨xb, xo + k * 22 + 3, none⟩ = some (.int .i64 dt) ∧ wq.cell? ⟨q, 3, none⟩ = some (.int .i64 dv) ∧ wq.cell? ⟨q, 2, none⟩ = some (.int .i64 dt)) (by kernel_rfl) ?s_vts22xaa (fun hHeld => ?_)
                     case s_vts22xaa => exact ⟨cz2, cz3, cd3, cd2⟩
                     have hq := put_drew wr ghV
                     have hV2 : MapS wr.drew ghV (VS d) := hV
                     have hc60 : Hid (wr.drew.cell? ⟨xb, xo + k * 22 + 2, none⟩ = some (.int .i64 dv) ∧ wr.drew.cell? ⟨xb, xo + k * 22 + 3, none⟩ = some (.int .i64 dt)) := Lib.hid ⟨cz2, cz3⟩
                     generalize wr.drew = y60 at *
                     refine tj 0 _ ?_
                     try simp only [Act.put, ka, kb, kc]
                     refine tj 1 _ ?_
                     try simp only [Act.put, ka, kb, kc]
                     refine tv 2 ?_
                     try simp only [Act.put, ka, kb, kc]
                     refine tv 3 ?_
                     try simp only [Act.put, ka, kb, kc]
                     refine tv 4 ?_
                     try simp only [Act.put, ka, kb, kc]
                     refine tv 5 ?_
                     try simp only [Act.put, ka, kb, kc]
                     refine tv 6 ?_
                     try simp only [Act.put, ka, kb, kc]
                     refine tv 7 ?_
                     try simp only [Act.put, ka, kb, kc]
                     refine tv 8 ?_
                     try simp only [Act.put, ka, kb, kc]
                     refine tj 9 _ ?_
                     try simp only [Act.put, ka, kb, kc]
                     refine tj 10 _ ?_
                     try simp only [Act.put, ka, kb, kc]
                     refine tj 11 _ ?_
                     try simp only [Act.put, ka, kb, kc]
                     refine tj 12 _ ?_
                     try simp only [Act.put, ka, kb, kc]
                     refine tj 13 _ ?_
                     try simp only [Act.put, ka, kb, kc]
                     refine tj 14 _ ?_
                     try simp only [Act.put, ka, kb, kc]
                     refine tj 15 _ ?_
                     try simp only [Act.put, ka, kb, kc]
                     refine tj 16 _ ?_
                     try simp only [Act.put, ka, kb, kc]
                     refine tj 17 _ ?_
                     try simp only [Act.put, ka, kb, kc]
                     refine tj 18 _ ?_
                     try simp only [Act.put, ka, kb, kc]
                     refine tj 19 _ ?_
                     try simp only [Act.put, ka, kb, kc]
                     refine tj 20 _ ?_
                     try simp only [Act.put, ka, kb, kc]
                     refine tj 21 _ ?_
                     try simp only [Act.put, ka, kb, kc]
                     refine tj 22 _ ?_
                     try simp only [Act.put, ka, kb, kc]
                     refine tj 23 _ ?_
                     try simp only [Act.put, ka, kb, kc]
                     refine tj 24 _ ?_
                     try simp only [Act.put, ka, kb, kc]
                     refine tj 25 _ ?_
                     try simp only [Act.put, ka, kb, kc]
                     refine tj 26 _ ?_
                     try simp only [Act.put, ka, kb, kc]
                     refine tj 27 _ ?_
                     try simp only [Act.put, ka, kb, kc]
                     refine tj 28 _ ?_
                     try simp only [Act.put, ka, kb, kc]
                     refine tj 29 _ ?_
                     try simp only [Act.put, ka, kb, kc]
                     refine wpAnyH_done (by kernel_rfl) ?_ _
                     replace hP := put_trans hP hq
                     clear hV kD XO cz2 cz3 cd2 cd3 hq
                     have kD := BD.out.put hP (Nat.ne_of_gt LThVkD.out)
                     have XO := BX.out.putS hP NIXOhV.out
                     go_upto_region 24 with (go_skip)
                     refine wp_region_held_drew (S := fun wq => wq.cell? ⟨xb, xo + k * 22 + 2, none⟩ = some (.int .i64 dv) ∧ wq.cell? ⟨xb, xo + k * 22 + 3, none⟩ = some (.int .i64 dt)) (by kernel_rfl) ?s_vts24xaa (fun hHeld => ?_)
                     case s_vts24xaa => exact hc60.out
                     have hq := put_drew y60 ghV
                     have hV3 : MapS y60.drew ghV (VS d) := hV2
                     generalize y60.drew = y61 at *
                     replace hP := put_trans hP hq
                     refine tj 0 _ ?_
                     try simp only [Act.put, ka, kb, kc]
                     refine tj 1 _ ?_
                     try simp only [Act.put, ka, kb, kc]
                     refine tj 2 _ ?_
                     try simp only [Act.put, ka, kb, kc]
                     refine tj 3 _ ?_
                     try simp only [Act.put, ka, kb, kc]
                     refine tj 4 _ ?_
                     try simp only [Act.put, ka, kb, kc]
                     refine tj 5 _ ?_
                     try simp only [Act.put, ka, kb, kc]
                     refine tj 6 _ ?_
                     try simp only [Act.put, ka, kb, kc]
                     refine tj 7 _ ?_
                     try simp only [Act.put, ka, kb, kc]
                     refine tj 8 _ ?_
                     try simp only [Act.put, ka, kb, kc]
                     refine tj 9 _ ?_
                     try simp only [Act.put, ka, kb, kc]
                     refine tj 10 _ ?_
                     try simp only [Act.put, ka, kb, kc]
                     refine rr [11] ?_
                     refine rc (fun KQ hKQ => ?_) AllReadyH.nil
                     refine step_putS rfl _ _ _ rfl Tryz.underlying65 Tryz.underlying3 dt dv rfl rfl rfl hV3 ?_
                     intro y62 hV4 hq4
                     have hc61 : y62.cell? ⟨xb, xo + k * 22 + 2, none⟩ = some (.int .i64 dv) ∧ y62.cell? ⟨xb, xo + k * 22 + 3, none⟩ = some (.int .i64 dt) := by
                       have h := hc60.out
                       unfold World.cell? at h ⊢
                       rw [hq4.other xb hxbV.out, hq.other xb hxbV.out]
                       exact h
                     refine hKQ.out _ _ (hc61) (fun _ => ?_)
                     clear hKQ KQ
                     try simp only [Act.put]
                     refine wpAnyH_done (by kernel_rfl) ?_ _
                     go_wp2_with go_skip
                     go_roundw
                     case rel => exact ⟨k + 1, by omega, rfl, Lib.hid (hV4.more (vs_put hdt.out.symm hdv.out.symm (by rw [hdv.out]; exact hT0.out))), Lib.hid (put_trans hP hq4)⟩
                     case measure => simp only [intOf]; omega
                   · skip
                     have hw := (hS2.out rfl).symm
                     subst hw
                     go_upto_region 22 with (go_skip)
                     clear cz0 cz8
                     refine wp_region_held_drew (S := fun wq => wq.cell? ⟨xb, xo + k * 22 + 2, none⟩ = some (.int .i64 dv) ∧ wq.cell? ⟨xb, xo + k * 22 + 3, none⟩ = some (.int .i64 dt) ∧ wq.cell? ⟨q, 3, none⟩ = some (.int .i64 dv) ∧ wq.cell? ⟨q, 2, none⟩ = some (.int .i64 dt)) (by kernel_rfl) ?s_vts22xab (fun hHeld => ?_)
                     case s_vts22xab => exact ⟨cz2, cz3, cd3, cd2⟩
                     have hq := put_drew wr ghV
                     have hV2 : MapS wr.drew ghV (VS d) := hV
                     have hc60 : Hid (wr.drew.cell? ⟨xb, xo + k * 22 + 2, none⟩ = some (.int .i64 dv) ∧ wr.drew.cell? ⟨xb, xo + k * 22 + 3, none⟩ = some (.int .i64 dt)) := Lib.hid ⟨cz2, cz3⟩
                     generalize wr.drew = y60 at *
                     refine tj 0 _ ?_
                     try simp only [Act.put, ka, kb, kc]
                     refine tj 1 _ ?_
                     try simp only [Act.put, ka, kb, kc]
                     refine tj 2 _ ?_
                     try simp only [Act.put, ka, kb, kc]
                     refine tj 3 _ ?_
                     try simp only [Act.put, ka, kb, kc]
                     refine tj 4 _ ?_
                     try simp only [Act.put, ka, kb, kc]
                     refine tj 5 _ ?_
                     try simp only [Act.put, ka, kb, kc]
                     refine tj 6 _ ?_
                     try simp only [Act.put, ka, kb, kc]
                     refine tj 7 _ ?_
                     try simp only [Act.put, ka, kb, kc]
                     refine tj 8 _ ?_
                     try simp only [Act.put, ka, kb, kc]
                     refine tj 9 _ ?_
                     try simp only [Act.put, ka, kb, kc]
                     refine tj 10 _ ?_
                     try simp only [Act.put, ka, kb, kc]
                     refine tj 11 _ ?_
                     try simp only [Act.put, ka, kb, kc]
                     refine tj 12 _ ?_
                     try simp only [Act.put, ka, kb, kc]
                     refine tj 13 _ ?_
                     try simp only [Act.put, ka, kb, kc]
                     refine tj 14 _ ?_
                     try simp only [Act.put, ka, kb, kc]
                     refine tj 15 _ ?_
                     try simp only [Act.put, ka, kb, kc]
                     refine tj 16 _ ?_
                     try simp only [Act.put, ka, kb, kc]
                     refine tj 17 _ ?_
                     try simp only [Act.put, ka, kb, kc]
                     refine tj 18 _ ?_
                     try simp only [Act.put, ka, kb, kc]
                     refine tj 19 _ ?_
                     try simp only [Act.put, ka, kb, kc]
                     refine tj 20 _ ?_
                     try simp only [Act.put, ka, kb, kc]
                     refine tj 21 _ ?_
                     try simp only [Act.put, ka, kb, kc]
                     refine tj 22 _ ?_
                     try simp only [Act.put, ka, kb, kc]
                     refine tj 23 _ ?_
                     try simp only [Act.put, ka, kb, kc]
                     refine tj 24 _ ?_
                     try simp only [Act.put, ka, kb, kc]
                     refine tj 25 _ ?_
                     try simp only [Act.put, ka, kb, kc]
                     refine tj 26 _ ?_
                     try simp only [Act.put, ka, kb, kc]
                     refine tj 27 _ ?_
                     try simp only [Act.put, ka, kb, kc]
                     refine tj 28 _ ?_
                     try simp only [Act.put, ka, kb, kc]
                     refine tj 29 _ ?_
                     try simp only [Act.put, ka, kb, kc]
                     refine wpAnyH_done (by kernel_rfl) ?_ _
                     replace hP := put_trans hP hq
                     clear hV kD XO cz2 cz3 cd2 cd3 hq
                     have kD := BD.out.put hP (Nat.ne_of_gt LThVkD.out)
                     have XO := BX.out.putS hP NIXOhV.out
                     go_upto_region 24 with (go_skip)
                     refine wp_region_held_drew (S := fun wq => wq.cell? ⟨xb, xo + k * 22 + 2, none⟩ = some (.int .i64 dv) ∧ wq.cell? ⟨xb, xo + k * 22 + 3, none⟩ = some (.int .i64 dt)) (by kernel_rfl) ?s_vts24xab (fun hHeld => ?_)
                     case s_vts24xab => exact hc60.out
                     have hq := put_drew y60 ghV
                     have hV3 : MapS y60.drew ghV (VS d) := hV2
                     generalize y60.drew = y61 at *
                     replace hP := put_trans hP hq
                     refine tj 0 _ ?_
                     try simp only [Act.put, ka, kb, kc]
                     refine tj 1 _ ?_
                     try simp only [Act.put, ka, kb, kc]
                     refine tj 2 _ ?_
                     try simp only [Act.put, ka, kb, kc]
                     refine tj 3 _ ?_
                     try simp only [Act.put, ka, kb, kc]
                     refine tj 4 _ ?_
                     try simp only [Act.put, ka, kb, kc]
                     refine tj 5 _ ?_
                     try simp only [Act.put, ka, kb, kc]
                     refine tj 6 _ ?_
                     try simp only [Act.put, ka, kb, kc]
                     refine tj 7 _ ?_
                     try simp only [Act.put, ka, kb, kc]
                     refine tj 8 _ ?_
                     try simp only [Act.put, ka, kb, kc]
                     refine tj 9 _ ?_
                     try simp only [Act.put, ka, kb, kc]
                     refine tj 10 _ ?_
                     try simp only [Act.put, ka, kb, kc]
                     refine rr [11] ?_
                     refine rc (fun KQ hKQ => ?_) AllReadyH.nil
                     refine step_putS rfl _ _ _ rfl Tryz.underlying65 Tryz.underlying3 dt dv rfl rfl rfl hV3 ?_
                     intro y62 hV4 hq4
                     have hc61 : y62.cell? ⟨xb, xo + k * 22 + 2, none⟩ = some (.int .i64 dv) ∧ y62.cell? ⟨xb, xo + k * 22 + 3, none⟩ = some (.int .i64 dt) := by
                       have h := hc60.out
                       unfold World.cell? at h ⊢
                       rw [hq4.other xb hxbV.out, hq.other xb hxbV.out]
                       exact h
                     refine hKQ.out _ _ (hc61) (fun _ => ?_)
                     clear hKQ KQ
                     try simp only [Act.put]
                     refine wpAnyH_done (by kernel_rfl) ?_ _
                     go_wp2_with go_skip
                     go_roundw
                     case rel => exact ⟨k + 1, by omega, rfl, Lib.hid (hV4.more (vs_put hdt.out.symm hdv.out.symm (by rw [hdv.out]; exact hT0.out))), Lib.hid (put_trans hP hq4)⟩
                     case measure => simp only [intOf]; omega
               · skip
                 have b2 : (zk == 2) = false := by simp [hk2]
                 clear hzk hzy
                 go_wp2_with go_skip
                 go_roundw
                 case rel => exact ⟨k + 1, by omega, rfl, Lib.hid hV, Lib.hid hP⟩
                 case measure => simp only [intOf]; omega
             · skip
               have hV := hVh.out
               have hP := hPh.out
               clear hVh hPh
               obtain rfl : k = OUT.length := by omega
               have ck2 : ¬ ((OUT.length : Int) < (OUT.length : Int)) := by omega
               have kC := BC.out.put hP (Nat.ne_of_lt LTkChV.out)
               have kW := BW.out.put hP (Nat.ne_of_gt LThVkW.out)
               have kD := BD.out.put hP (Nat.ne_of_gt LThVkD.out)
               have R1 := BR.out.putS hP NIR1hV.out
               have HB := hP.below _ _ BB.out (Nat.le_of_lt LTkChV.out)
               clear BC BW BD BR BX BB BV hP
               go_wp2_with (first | go_skip | refine st_C rfl _ _ rfl d A1 n1 p1 rfl rfl _ kC rfl ?_ | (first | refine lo_Cj kC ?_ | refine lo_cLj kC ?_ | refine lo_cJj kC ?_ | refine lo_Cj kW ?_ | refine lo_cLj kW ?_ | refine lo_cJj kW ?_ | refine lo_Cj kD ?_ | refine lo_cLj kD ?_ | refine lo_cJj kD ?_))
               intro y701 kC2 pO
               replace hV := hV.put pO (Nat.ne_of_gt LTkChV.out)
               replace kW := kW.put pO (Nat.ne_of_gt LTkCkW.out)
               replace kD := kD.put pO (Nat.ne_of_gt LTkCkD.out)
               replace R1 := R1.putS pO NIR1kC.out
               replace HB := pO.below _ _ HB (Nat.le_refl _)
               clear kC
               have kC := kC2
               clear kC2 pO
               clear kW
               clear kD
               go_wp2_with (first | go_skip | refine lo_Cj kC ?_ | refine lo_cLj kC ?_ | refine lo_cJj kC ?_)
               have CC := cor.rmay_any d A1 n1 p1 y701 y701.heap.size R1 (Nat.le_refl _) hp1.out (by rw [← R1.1]; have := hOd.out.len; omega) hOd.out.j hOd.out.es
               obtain ⟨mk, hmk⟩ : ∃ q, mayK d = q := ⟨_, rfl⟩
               rw [hmk] at CC
               refine (CC).mono ?_
               rintro e y702 ⟨rfl, hY⟩
               replace HB := HB.trans (hY.mono (Nat.le_of_lt kC.lt))
               replace kC := kC.b hY
               replace hV := hV.below hY hV.lt
               replace R1 := R1.on hY hY.size
               clear hY
               clear CC
               replace hmk := Lib.hid hmk
               rcases mk with _ | _
               · skip
                 go_wp2_with (first | go_skip | refine lo_Cj kC ?_ | refine lo_cLj kC ?_ | refine lo_cJj kC ?_)
                 go_ret
                 exact ⟨rfl, HB0.out.trans (HB.mono (Nat.le_refl _))⟩
               by_cases hib : i < nb
               · skip
                 have ci : (i : Int) < (nb : Int) := by omega
                 obtain ⟨rb, ro, hAb, hrb, hrc⟩ := rdv_bool HRB.out hib
                 subst hAb
                 obtain ⟨bv, hbv⟩ : ∃ q, rs.getD i false = q := ⟨_, rfl⟩
                 rw [hbv] at hrc
                 clear hbv
                 have crb : y702.cell? ⟨rb, ro + i, none⟩ = some (.bool bv) := ((HB.cell (p := ⟨rb, ro + i, none⟩) hrb).trans (HB0.out.cell (p := ⟨rb, ro + i, none⟩) hrb)).trans hrc
                 clear hrc
                 rcases bv with _ | _
                 · skip
                   go_wp2_with go_skip
                   go_roundw
                   case rel => exact ⟨i + 1, d, A1, n1, p1, by omega, by rfl, hOd, hmk, Lib.hid kC, Lib.hid (hV), Lib.hid R1, NIR1kC, NIR1hV, hp1, Lib.hid HB⟩
                   case measure => simp only [intOf]; omega
                 · skip
                   go_wp2_with (first | go_skip | refine lo_Cj kC ?_ | refine lo_cLj kC ?_ | refine lo_cJj kC ?_)
                   clear crb
                   have CC := cor.restart_any d A1 n1 p1 y702 y702.heap.size R1 (Nat.le_refl _) hp1.out (by rw [← R1.1]; have := hOd.out.len; omega)
                   refine CC.mono ?_
                   rintro e y703 ⟨A3, n3, p3, rfl, R3, hp3, ON3, hY⟩
                   clear CC
                   have NIR3kC := Lib.hid (NIR1kC.out.next ON3 kC.lt)
                   have NIR3hV := Lib.hid (NIR1hV.out.next ON3 hV.lt)
                   clear ON3
                   replace hp3 := Lib.hid hp3
                   replace HB := HB.trans (hY.mono (Nat.le_of_lt kC.lt))
                   replace kC := kC.b hY
                   replace hV := hV.below hY hV.lt
                   replace R1 := R1.on hY hY.size
                   clear hY
                   go_wp2_with (first | go_skip | refine st_C rfl _ _ rfl (restC d) A3 n3 p3 rfl rfl _ kC rfl ?_ | (first | refine lo_Cj kC ?_ | refine lo_cLj kC ?_ | refine lo_cJj kC ?_))
                   intro y704 kC2 pO
                   replace hV := hV.put pO (Nat.ne_of_gt LTkChV.out)
                   replace R3 := R3.putS pO NIR3kC.out
                   replace HB := pO.below _ _ HB (Nat.le_refl _)
                   clear kC
                   have kC := kC2
                   clear kC2 pO
                   go_wp2_with go_skip
                   go_roundw
                   case rel => exact ⟨i + 1, restC d, A3, n3, p3, by omega, by rfl, Lib.hid hOd.out.rest, Lib.hid (may_rest hmk.out), Lib.hid kC, Lib.hid (hV.more (vs_same rfl rfl)), Lib.hid R3, NIR3kC, NIR3hV, hp3, Lib.hid HB⟩
                   case measure => simp only [intOf]; omega
               · skip
                 have ci : ¬ (i : Int) < (nb : Int) := by omega
                 go_wp2_with go_skip
                 go_roundw
                 case rel => exact ⟨i + 1, d, A1, n1, p1, by omega, by rfl, hOd, hmk, Lib.hid kC, Lib.hid (hV), Lib.hid R1, NIR1kC, NIR1hV, hp1, Lib.hid HB⟩
                 case measure => simp only [intOf]; omega
     · skip
       have kC := HkC.out
       have hV := HhV.out
       have R0 := HRc.out
       have NIR0kC := HNC
       have NIR0hV := HNV
       have LTkChV := hCV
       have HB := HBr.out
       clear HkC HhV HRc HNC HNV HBr
       obtain rfl : i = nl := by omega
       have ck : ¬ ((i : Int) < (i : Int)) := by omega
       go_wp2_with (first | go_skip | refine lo_Cj kC ?_ | refine lo_cLj kC ?_ | refine lo_cJj kC ?_)
       go_ret
       exact ⟨rfl, HB0.out.trans (HB.mono (Nat.le_refl _))⟩
end Go.Proofs.YtegnfkbmlalkeaaGreat.law13
