/- CoreQuiet's walk. No condition. -/
import Derived.Deep.RegionHeld3
import Derived.Deep.Cut
import Derived.Lib.Hide
import Derived.Test.YtegnfkbmlalkeaaSqJ4
import Derived.Test.YtegnfkbmlalkeaaSqLwC13
import Derived.Test.YtegnfkbmlalkeaaSqLwB13
import Derived.Test.YtegnfkbmlalkeaaSqJ1
import Derived.Test.YtegnfkbmlalkeaaSqKitLg
import Derived.Test.YtegnfkbmlalkeaaSqJ0
namespace Go.Proofs.Ytegnfkbmlalkeaa.law13
open Go Go.RowKit Go.Proofs.Ytegnfkbmlalkeaa.kit Go.Proofs.Ytegnfkbmlalkeaa.nums Go.Proofs.Ytegnfkbmlalkeaa.cf Go.Proofs.Ytegnfkbmlalkeaa.lg Go.Proofs.Ytegnfkbmlalkeaa.cr Go.Proofs.Ytegnfkbmlalkeaa.se
set_option linter.unusedVariables false
def Qs (id : Int) (j : JtL) (i : Nat) (c : CoL) (b : Bool) : Prop := Fr c id j i ∧ (hasF j.a.v id = false → c = { newC id j with wa := (i : Int) } ∧ b = false)
theorem qs_new {id : Int} {j : JtL} (hi : 1 ≤ id ∧ id ≤ 9) : Qs id j 0 (newC id j) false := ⟨Fr.new hi, fun _ => ⟨rfl, rfl⟩⟩
theorem qs_idle {id : Int} {j : JtL} {i : Nat} {c : CoL} {b : Bool} (hi : 1 ≤ id ∧ id ≤ 9) (hj : j.two = false) (h : Qs id j i c b) (hv : hasF j.a.v id = false) : Qs id j (i + 1) (tickF c).1 b ∧ (tickF c).1.ro = 0 ∧ (tickF c).2 = [] := by
 obtain ⟨e, hb⟩ := h.2 hv
 have hl : ledF (conC c) c.id = false := by
   rw [h.1.conf, h.1.id]
   unfold ledF unF
   rw [hj]
   exact hv
 have ht := tick_idle (c := c) (by rw [e]; show (0 : Int) ≠ 2; decide) hl
 refine ⟨⟨h.1.tick hi hj, fun _ => ⟨?_, hb⟩⟩, ?_, ?_⟩
 · rw [ht, e]
   have : ((i : Int) + 1) = ((i + 1 : Nat) : Int) := by omega
   show ({ newC id j with wa := (i : Int) + 1 } : CoL) = _
   rw [this]
 · rw [ht, e]; rfl
 · rw [ht]
theorem qs_any {id : Int} {j : JtL} {i : Nat} {c : CoL} {b b2 : Bool} (hi : 1 ≤ id ∧ id ≤ 9) (hj : j.two = false) (h : Qs id j i c b) (hv : hasF j.a.v id = true) : Qs id j (i + 1) (tickF c).1 b2 := ⟨h.1.tick hi hj, fun hf => by rw [hv] at hf; cases hf⟩
set_option maxHeartbeats 16000000 in
set_option maxRecDepth 10000 in
theorem quiet_walk (x y z e : Nat) (nn ticks : Int) (w : World) (hx : x < 256) (hy : y < 256) (hz : z < 256) (he : e < 256) (hn : In64 nn) (ht : In64 ticks) : Calls Try.prog 3 #[shpV x y z e, .int .i64 nn, .int .i64 ticks] w fun e_ w' => e_ = .returned (.bool true) ∧ Below w.heap.size w w' := by
 have hx2 := Lib.hid (And.intro hx (And.intro hy (And.intro hz he)))
 clear hx hy hz he
 have hnI := Lib.hid hn
 have htI := Lib.hid ht
 clear hn ht
 go_enter Try.func3, Try.ntmps3
 go_wp2_with (first | go_skip | go_skip | refine box_S rfl _ rfl x y z e rfl ?_)
 intro y1 kS e1 s1
 clear s1
 have HB := e1
 clear e1
 go_wp2_with (first | go_skip | refine lo_S _ rfl rfl rfl kS ?_)
 refine (begun_any y1).mono ?_
 rintro e y2 ⟨rfl, hY⟩
 replace HB := bt HB hY
 replace kS := kS.b hY
 clear hY
 go_wp2_with (first | go_skip | refine lo_S _ rfl rfl rfl kS ?_)
 obtain ⟨j, hj⟩ : ∃ q, shJ (1 + x % 4) (y % 3) (z % 3) e = q := ⟨_, rfl⟩
 obtain ⟨N, hN⟩ : ∃ N : Nat, N = 1 + x % 4 + y % 3 + z % 3 := ⟨_, rfl⟩
 have hN8 : 1 ≤ N ∧ N ≤ 8 := by omega
 have hmj : Hid (mayJ j = true) := by show _ = _; rw [← hj]; exact sh_may (by omega) (by omega) (by omega) e
 have hjt : Hid (j.two = false) := by show _ = _; rw [← hj]; rfl
 obtain ⟨vv, hvv⟩ : ∃ q, j.a.v = q := ⟨_, rfl⟩
 have hv16 : Hid (vv < 65536) := by show _ < _; rw [← hvv, ← hj]; exact (shTo_lt _ _ _).1
 have CC := conf_any x y z e y2 hx2.out.1 hx2.out.2.1 hx2.out.2.2.1 hx2.out.2.2.2
 rw [hj, ← hN] at CC
 replace hj := Lib.hid hj
 replace hN := Lib.hid hN
 replace hvv := Lib.hid hvv
 refine (CC).mono ?_
 rintro e y3 ⟨rfl, hY⟩
 replace HB := bt HB hY
 replace kS := kS.b hY
 clear hY
 clear CC
 clear kS
 have LEkJ : Hid (w.heap.size ≤ y3.heap.size) := HB.size
 go_wp2_with (first | go_skip | refine al_J rfl rfl ?_ | fail)
 intro y4 kJ e4 s4
 clear s4
 replace kJ : Blk _ _ _ (jC zeroJ) := kJ
 replace HB := bt HB e4
 clear e4
 generalize y3.heap.size = gkJ at *
 go_wp2_with (first | go_skip | refine st_Jv rfl _ _ rfl j rfl rfl _ kJ rfl ?_ | (first | refine lo_Jj kJ ?_))
 intro y5 kJ2 pO
 replace HB := pO.below _ _ HB LEkJ.out
 clear kJ
 have kJ := kJ2
 clear kJ2 pO
 go_wp2_with (first | go_skip | refine lo_Jj kJ ?_)
 obtain ⟨pk, hpk⟩ : ∃ q : Nat, law0.placeF nn (N : Int) = (q : Int) := ⟨(law0.placeF nn (N : Int)).toNat, by have := law0.place_in nn (N : Int) (by omega); omega⟩
 have hpk9 : pk < N := by have := law0.place_in nn (N : Int) (by omega); omega
 obtain ⟨id, hid⟩ : ∃ q : Nat, q = pk + 1 := ⟨_, rfl⟩
 have hid9 : 1 ≤ id ∧ id ≤ 9 := by omega
 have wpk : IntKind.i64.wrap (1 + (pk : Int)) = (id : Int) := by rw [wrap_sm (by omega) (by omega)]; omega
 replace hid := Lib.hid hid
 have CC := law0.place_any nn (N : Int) y5 hnI.out.1 hnI.out.2 (by omega)
 rw [hpk] at CC
 refine (CC).mono ?_
 rintro e y6 ⟨rfl, hW⟩
 subst hW
 clear CC
 replace hpk := Lib.hid hpk
 go_wp2_with (first | go_skip | refine lo_Jj kJ ?_)
 clear wpk
 refine (cor.new_any (id : Int) j y5).mono ?_
 rintro e y7 ⟨rfl, hY⟩
 replace HB := bt HB hY
 replace kJ := kJ.b hY
 clear hY
 have LTkJkC := Lib.hid kJ.lt
 have LEkC : Hid (w.heap.size ≤ y7.heap.size) := HB.size
 go_wp2_with (first | go_skip | refine al_C rfl rfl ?_ | (first | refine lo_Jj kJ ?_))
 intro y8 kC e8 s8
 clear s8
 replace kC : Blk _ _ _ (crC zC (.slice none 0 0)) := kC
 replace HB := bt HB e8
 replace kJ := kJ.b e8
 clear e8
 generalize y7.heap.size = gkC at *
 go_wp2_with (first | go_skip | refine st_C rfl _ _ rfl (newC (id : Int) j) none 0 0 rfl rfl _ kC rfl ?_ | (first | refine lo_Jj kJ ?_ | refine lo_Cj kC ?_ | refine lo_cLj kC ?_ | refine lo_cJj kC ?_))
 intro y9 kC2 pO
 replace kJ := kJ.put pO (Nat.ne_of_lt LTkJkC.out)
 replace HB := pO.below _ _ HB LEkC.out
 clear kC
 have kC := kC2
 clear kC2 pO
 obtain ⟨tk, htk⟩ : ∃ q : Nat, law0.placeF ticks 200 = (q : Int) := ⟨(law0.placeF ticks 200).toNat, by have := law0.place_in ticks 200 (by omega); omega⟩
 have htk2 : tk < 200 := by have := law0.place_in ticks 200 (by omega); omega
 replace htk := Lib.hid htk
 obtain ⟨hb, hhb⟩ : ∃ q, hasF vv (id : Int) = q := ⟨_, rfl⟩
 have hhb2 : Hid (hasF j.a.v (id : Int) = hb) := by show _ = _; rw [hvv.out, hhb]
 replace hhb := Lib.hid hhb
 have HB0 := Lib.hid HB
 have LTJ := LTkJkC
 have BJ : Hid (∀ w', Below gkC y9 w' → Blk 30 w' gkJ (jC j)) := Lib.hid (fun w' hb => kJ.below hb LTJ.out)
 have hle0 : Hid (w.heap.size ≤ gkC) := LEkC
 go_wp2_with go_skip
 go_loopw [11, 12] (fun sv iv wr => ∃ (i : Nat) (c : CoL) (A' : Option Addr) (n' p' : Nat) (b : Bool), i ≤ tk ∧ iv = .int .i64 (i : Int) ∧ sv = .bool b ∧ Hid (Qs (id : Int) j i c b) ∧ Hid (Blk 39 wr gkC (crC c (.slice A' n' p'))) ∧ Hid (RdE wr wr.heap.size A' n' c.lg.es) ∧ Hid (NotIn gkC A' n') ∧ Hid (n' ≤ p') ∧ Hid (Below gkC y9 wr)) (fun sv iv _ => tk - (intOf iv).toNat)
 case atStart => exact ⟨0, _, none, 0, 0, false, by omega, rfl, rfl, Lib.hid (qs_new (by omega)), Lib.hid kC, Lib.hid (RdE.nil _ _ _), Lib.hid (NotIn.nil _ _), Lib.hid (Nat.le_refl _), Lib.hid (Below.refl _ _)⟩
 case round =>
   obtain ⟨i, c, A, nc, p, b, hip, rfl, rfl, hQ, HkC, HRc, HN, Hp, HBr⟩ := hrel
   clear HB kC kJ
   by_cases hi6 : i < tk
   · skip
     have kC := HkC.out
     have R0 := HRc.out
     have NIR0kC := HN
     have HB := HBr.out
     have kJ := BJ.out _ HB
     have NIR0kJ := Lib.hid True.intro
     clear NIR0kJ kJ
     have ck : (i : Int) < (tk : Int) := by omega
     have wk : IntKind.i64.wrap ((i : Int) + 1) = ((i + 1 : Nat) : Int) := by rw [wrap_sm (by omega) (by omega)]; omega
     have hG := Lib.hid (hQ.out.1.good (by omega) (by omega) hmj.out)
     have hQ1 : Hid (hb = false → Qs (id : Int) j (i + 1) (tickF c).1 b ∧ (tickF c).1.ro = 0 ∧ (tickF c).2 = []) := Lib.hid (fun h => qs_idle (by omega) hjt.out hQ.out (hhb2.out.trans h))
     have hQ2 : Hid (hb = true → ∀ b2, Qs (id : Int) j (i + 1) (tickF c).1 b2) := Lib.hid (fun h b2 => qs_any (by omega) hjt.out hQ.out (hhb2.out.trans h))
     go_wp2_with (first | go_skip | refine lo_Cj kC ?_ | refine lo_cLj kC ?_ | refine lo_cJj kC ?_)
     have CC := law0.place_any ticks 200 wr htI.out.1 htI.out.2 (by omega)
     rw [htk.out] at CC
     refine (CC).mono ?_
     rintro e y51 ⟨rfl, hW⟩
     subst hW
     clear CC
     go_wp2_with (first | go_skip | refine lo_Cj kC ?_ | refine lo_cLj kC ?_ | refine lo_cJj kC ?_)
     refine (cor.tick_any c A nc p wr wr.heap.size R0 (Nat.le_refl _) Hp.out hG.out).mono ?_
     rintro e y52 ⟨A1, n1, p1, v9, B9, rfl, RB, hp1, ON9, hO, hB9, hB8, hY⟩
     have NIR1kC := Lib.hid (NIR0kC.out.next ON9 kC.lt)
     have R1 := RB.more hB8
     clear RB ON9
     replace hp1 := Lib.hid hp1
     obtain ⟨Ao1, co1, rfl⟩ := hO.form
     clear hO hB9 hB8
     replace HB := HB.trans (hY.mono (Nat.le_of_lt kC.lt))
     replace kC := kC.b hY
     replace R0 := R0.on hY hY.size
     clear hY
     obtain ⟨d, hd⟩ : ∃ q, (tickF c).1 = q := ⟨_, rfl⟩
     obtain ⟨len, hlen⟩ : ∃ q, (tickF c).2.length = q := ⟨_, rfl⟩
     rw [hd] at R1 hQ1 hQ2 ⊢
     rw [hlen]
     have hl0 : Hid (hb = false → len = 0) := Lib.hid (fun h => by rw [← hlen, (hQ1.out h).2.2]; rfl)
     clear hd hlen
     have LTkCkD := Lib.hid kC.lt
     have NIR0kD := Lib.hid (NotIn.of_rd R0 (Nat.le_refl _))
     have NIR1kD := Lib.hid (NotIn.of_rd R1 (Nat.le_refl _))
     have LEkD : Hid (gkC ≤ y52.heap.size) := Lib.hid (Nat.le_of_lt kC.lt)
     go_wp2_with (first | go_skip | refine al_C rfl rfl ?_ | (first | refine lo_Cj kC ?_ | refine lo_cLj kC ?_ | refine lo_cJj kC ?_))
     intro y53 kD e53 s53
     clear s53
     replace kD : Blk _ _ _ (crC zC (.slice none 0 0)) := kD
     replace HB := HB.trans (e53.mono (Nat.le_of_lt kC.lt))
     replace kC := kC.b e53
     replace R0 := R0.on e53 e53.size
     replace R1 := R1.on e53 e53.size
     clear e53
     generalize y52.heap.size = gkD at *
     go_wp2_with (first | go_skip | refine st_C rfl _ _ rfl d A1 n1 p1 rfl rfl _ kD rfl ?_ | (first | refine lo_Cj kC ?_ | refine lo_cLj kC ?_ | refine lo_cJj kC ?_ | refine lo_Cj kD ?_ | refine lo_cLj kD ?_ | refine lo_cJj kD ?_))
     intro y54 kD2 pO
     replace kC := kC.put pO (Nat.ne_of_lt LTkCkD.out)
     replace R0 := R0.putS pO NIR0kD.out
     replace R1 := R1.putS pO NIR1kD.out
     replace HB := pO.below _ _ HB LEkD.out
     clear kD
     have kD := kD2
     clear kD2 pO
     obtain ⟨ro, hro⟩ : ∃ q, d.ro = q := ⟨_, rfl⟩
     have cro : y54.cell? ⟨gkD, 1, none⟩ = some (.int .i64 ro) := by rw [← hro]; exact kD.cell 1
     have hro0 : Hid (hb = false → ro = 0) := Lib.hid (fun h => by rw [← hro]; exact (hQ1.out h).2.1)
     clear hro
     rcases hb with _ | _
     · skip
       obtain rfl := hro0.out (by first | rfl | trivial)
       obtain rfl := hl0.out (by first | rfl | trivial)
       have kJ := BJ.out _ HB
       have cv : y54.cell? ⟨gkJ, 0, none⟩ = some (.int .u16 (vv : Int)) := by rw [← hvv.out]; exact kJ.cell 0
       go_wp2_with (first | go_skip | refine lo_Cj kC ?_ | refine lo_cLj kC ?_ | refine lo_cJj kC ?_ | refine lo_Cj kD ?_ | refine lo_cLj kD ?_ | refine lo_cJj kD ?_)
       have CC := ref9.has_any vv (id : Int) y54 hv16.out (by omega) (by omega)
       rw [hhb.out] at CC
       refine (CC).mono ?_
       rintro e y55 ⟨rfl, hW⟩
       subst hW
       clear CC
       clear cv cro kJ
       go_wp2_with (first | go_skip | refine st_C rfl _ _ rfl d A1 n1 p1 rfl rfl _ kC rfl ?_ | (first | refine lo_Cj kC ?_ | refine lo_cLj kC ?_ | refine lo_cJj kC ?_ | refine lo_Cj kD ?_ | refine lo_cLj kD ?_ | refine lo_cJj kD ?_))
       intro y56 kC2 pO
       replace kD := kD.put pO (Nat.ne_of_gt LTkCkD.out)
       replace R0 := R0.putS pO NIR0kC.out
       replace R1 := R1.putS pO NIR1kC.out
       replace HB := pO.below _ _ HB (Nat.le_refl _)
       clear kC
       have kC := kC2
       clear kC2 pO
       go_wp2_with (first | go_skip | refine lo_Cj kC ?_ | refine lo_cLj kC ?_ | refine lo_cJj kC ?_ | refine lo_Cj kD ?_ | refine lo_cLj kD ?_ | refine lo_cJj kD ?_)
       go_roundw
       case rel => exact ⟨i + 1, d, A1, n1, p1, b, by omega, (by first | rfl | trivial), (by first | rfl | trivial), Lib.hid ((hQ1.out (by first | rfl | trivial)).1), Lib.hid kC, Lib.hid R1, NIR1kC, hp1, Lib.hid HB⟩
       case measure => simp only [intOf]; omega
     by_cases hr0 : ro = 0
     · skip
       subst hr0
       have kJ := BJ.out _ HB
       have cv : y54.cell? ⟨gkJ, 0, none⟩ = some (.int .u16 (vv : Int)) := by rw [← hvv.out]; exact kJ.cell 0
       go_wp2_with (first | go_skip | refine lo_Cj kC ?_ | refine lo_cLj kC ?_ | refine lo_cJj kC ?_ | refine lo_Cj kD ?_ | refine lo_cLj kD ?_ | refine lo_cJj kD ?_)
       have CC := ref9.has_any vv (id : Int) y54 hv16.out (by omega) (by omega)
       rw [hhb.out] at CC
       refine (CC).mono ?_
       rintro e y55 ⟨rfl, hW⟩
       subst hW
       clear CC
       clear cv cro kJ
       go_wp2_with (first | go_skip | refine st_C rfl _ _ rfl d A1 n1 p1 rfl rfl _ kC rfl ?_ | (first | refine lo_Cj kC ?_ | refine lo_cLj kC ?_ | refine lo_cJj kC ?_ | refine lo_Cj kD ?_ | refine lo_cLj kD ?_ | refine lo_cJj kD ?_))
       intro y56 kC2 pO
       replace kD := kD.put pO (Nat.ne_of_gt LTkCkD.out)
       replace R0 := R0.putS pO NIR0kC.out
       replace R1 := R1.putS pO NIR1kC.out
       replace HB := pO.below _ _ HB (Nat.le_refl _)
       clear kC
       have kC := kC2
       clear kC2 pO
       go_wp2_with (first | go_skip | refine lo_Cj kC ?_ | refine lo_cLj kC ?_ | refine lo_cJj kC ?_ | refine lo_Cj kD ?_ | refine lo_cLj kD ?_ | refine lo_cJj kD ?_)
       go_roundw
       case rel => exact ⟨i + 1, d, A1, n1, p1, b, by omega, (by first | rfl | trivial), (by first | rfl | trivial), Lib.hid (hQ2.out (by first | rfl | trivial) b), Lib.hid kC, Lib.hid R1, NIR1kC, hp1, Lib.hid HB⟩
       case measure => simp only [intOf]; omega
     · skip
       have hr1 : (ro != 0) = true := by simp [hr0]
       clear hr0
       have kJ := BJ.out _ HB
       have cv : y54.cell? ⟨gkJ, 0, none⟩ = some (.int .u16 (vv : Int)) := by rw [← hvv.out]; exact kJ.cell 0
       go_wp2_with (first | go_skip | refine lo_Cj kC ?_ | refine lo_cLj kC ?_ | refine lo_cJj kC ?_ | refine lo_Cj kD ?_ | refine lo_cLj kD ?_ | refine lo_cJj kD ?_)
       have CC := ref9.has_any vv (id : Int) y54 hv16.out (by omega) (by omega)
       rw [hhb.out] at CC
       refine (CC).mono ?_
       rintro e y55 ⟨rfl, hW⟩
       subst hW
       clear CC
       clear cv cro kJ
       go_wp2_with (first | go_skip | refine st_C rfl _ _ rfl d A1 n1 p1 rfl rfl _ kC rfl ?_ | (first | refine lo_Cj kC ?_ | refine lo_cLj kC ?_ | refine lo_cJj kC ?_ | refine lo_Cj kD ?_ | refine lo_cLj kD ?_ | refine lo_cJj kD ?_))
       intro y56 kC2 pO
       replace kD := kD.put pO (Nat.ne_of_gt LTkCkD.out)
       replace R0 := R0.putS pO NIR0kC.out
       replace R1 := R1.putS pO NIR1kC.out
       replace HB := pO.below _ _ HB (Nat.le_refl _)
       clear kC
       have kC := kC2
       clear kC2 pO
       go_wp2_with (first | go_skip | refine lo_Cj kC ?_ | refine lo_cLj kC ?_ | refine lo_cJj kC ?_ | refine lo_Cj kD ?_ | refine lo_cLj kD ?_ | refine lo_cJj kD ?_)
       go_roundw
       case rel => exact ⟨i + 1, d, A1, n1, p1, true, by omega, (by first | rfl | trivial), (by first | rfl | trivial), Lib.hid (hQ2.out (by first | rfl | trivial) true), Lib.hid kC, Lib.hid R1, NIR1kC, hp1, Lib.hid HB⟩
       case measure => simp only [intOf]; omega
   · skip
     have kC := HkC.out
     have R0 := HRc.out
     have NIR0kC := HN
     have HB := HBr.out
     have kJ := BJ.out _ HB
     have NIR0kJ := Lib.hid True.intro
     clear NIR0kJ
     obtain rfl : i = tk := by omega
     have ck : ¬ ((i : Int) < (i : Int)) := by omega
     go_wp2_with (first | go_skip | refine lo_Cj kC ?_ | refine lo_cLj kC ?_ | refine lo_cJj kC ?_)
     have CC := law0.place_any ticks 200 wr htI.out.1 htI.out.2 (by omega)
     rw [htk.out] at CC
     refine (CC).mono ?_
     rintro e y51 ⟨rfl, hW⟩
     subst hW
     clear CC
     have cv : wr.cell? ⟨gkJ, 0, none⟩ = some (.int .u16 (vv : Int)) := by rw [← hvv.out]; exact kJ.cell 0
     have hbb : Hid (b = true → hb = true) := Lib.hid (fun h => by
       cases hh : hb with
       | true => rfl
       | false => have := (hQ.out.2 (hhb2.out.trans hh)).2; rw [h] at this; cases this)
     rcases b with _ | _
     · skip
       go_wp2_with (first | go_skip | refine lo_Cj kC ?_ | refine lo_cLj kC ?_ | refine lo_cJj kC ?_)
       go_ret
       exact ⟨rfl, HB0.out.trans (HB.mono hle0.out)⟩
     obtain rfl := hbb.out (by first | rfl | trivial)
     go_wp2_with (first | go_skip | refine lo_Cj kC ?_ | refine lo_cLj kC ?_ | refine lo_cJj kC ?_)
     have CC := ref9.has_any vv (id : Int) wr hv16.out (by omega) (by omega)
     rw [hhb.out] at CC
     refine (CC).mono ?_
     rintro e y52 ⟨rfl, hW⟩
     subst hW
     clear CC
     go_wp2_with (first | go_skip | refine lo_Cj kC ?_ | refine lo_cLj kC ?_ | refine lo_cJj kC ?_)
     go_ret
     exact ⟨rfl, HB0.out.trans (HB.mono hle0.out)⟩
end Go.Proofs.Ytegnfkbmlalkeaa.law13
