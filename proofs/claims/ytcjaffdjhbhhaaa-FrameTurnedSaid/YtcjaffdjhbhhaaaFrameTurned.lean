/- FrameTurned answers true: a record of which a byte was turned is none, or one to the byte. Conditions: what the slices read as. -/
import Derived.Test.YtcjaffdjhbhhaaaFrameLaw
import Derived.Test.YtcjaffdjhbhhaaaBits32
import Derived.BigQuiet
import Derived.Deep.Cut
namespace Go.Proofs.Ytcjaffdjhbhhaaa.frameLaw
open Go.RowKit Go.Proofs.Ytcjaffdjhbhhaaa.kit Go.Proofs.Ytcjaffdjhbhhaaa.nums Go.Proofs.Ytcjaffdjhbhhaaa.crc Go.Proofs.Ytcjaffdjhbhhaaa.bytes Go.Proofs.Ytcjaffdjhbhhaaa.rec_ Go.Proofs.Ytcjaffdjhbhhaaa.ref3 Go.Proofs.Ytcjaffdjhbhhaaa.law0
set_option linter.unusedVariables false

theorem byt_set {l : List Int} (h : Byt l) (j : Nat) {x : Int} (h0 : 0 ≤ x) (h1 : x ≤ 255) : Byt (l.set j x) := fun y hy => by
  rcases List.mem_or_eq_of_mem_set hy with h2 | rfl
  · exact h y h2
  · exact ⟨h0, h1⟩
theorem set_same (l : List Int) (j : Nat) (hj : j < l.length) : l.set j (l.getD j 0) = l := by
  rw [List.getD_eq_getElem?_getD, List.getElem?_eq_getElem hj, Option.getD_some]
  exact List.set_getElem_self hj

set_option maxHeartbeats 2000000 in
theorem turned (S : Option Addr) (m cs : Nat) (s : List Int) (Z : Option Addr) (k cz : Nat) (z : List Int) (p x : Int) (w : World) (hS : Rd w w.heap.size S m s) (hYs : Byt s) (hmc : m ≤ cs) (hcs : cs ≤ maxLen) (hZ : Rd w w.heap.size Z k z) (hYz : Byt z) (hkc : k ≤ cz) (hcz : cz ≤ maxLen) (hp : (Lit.int .i64 p).wf = true) (hx : (Lit.int .u8 x).wf = true) :
    Calls Try.prog 6 #[.slice S m cs, .slice Z k cz, .int .i64 p, .int .u8 x] w fun e w' => e = .returned (.bool true) ∧ Below w.heap.size w w' := by
  have hx1 := hcs
  have hx2 := hcz
  unfold maxLen at hx1 hx2
  have HM := Lib.hid hS.len
  have HK := Lib.hid hZ.len
  have p0 : -9223372036854775808 ≤ p ∧ p ≤ 9223372036854775807 := by simpa [Lit.wf, IntKind.min, IntKind.max, IntKind.signed, IntKind.bits] using hp
  have x0 : 0 ≤ x ∧ x ≤ 255 := by simpa [Lit.wf, IntKind.min, IntKind.max, IntKind.signed, IntKind.bits] using hx
  clear hp hx
  go_enter Try.func6, Try.ntmps6
  go_wp2_with fail
  refine (begun_any _).mono ?_
  rintro e w1 ⟨rfl, hB1⟩
  by_cases h1 : 4096 < m
  · go_wp2_with fail
    go_ret
    exact ⟨rfl, hB1⟩
  by_cases h2 : 4096 < k
  · go_wp2_with fail
    go_ret
    exact ⟨rfl, hB1⟩
  have C1 := Lib.hid (frame.put_any none 0 0 [] S m cs s w1 (Rd.nil _ _ _) (hS.on hB1 hB1.size) hYs (by omega) (by omega) (by unfold maxLen; omega) (by omega) hmc hcs)
  have hZ1 := hZ.on hB1 hB1.size
  clear hS hZ
  go_wp2_with fail
  refine C1.out.mono ?_
  clear C1
  rintro e w2 ⟨A2, c2, rfl, hl2, hO2, hB2⟩
  rw [List.nil_append, Nat.zero_add] at hl2 hO2
  rw [Nat.zero_add]
  obtain ⟨g, rfl, hg⟩ := hO2.form (by omega)
  obtain ⟨r, hr⟩ : ∃ r : Nat, placeF p (8 + m : Nat) = r := ⟨(placeF p (8 + m : Nat)).toNat, by have := place_in p (8 + m : Nat) (by omega); omega⟩
  have hrl : r < 8 + m := by have := place_in p (8 + m : Nat) (by omega); omega
  have C2 := Lib.hid (place_any p (8 + m : Nat) w2 p0.1 p0.2 (by omega))
  rw [hr] at C2
  obtain ⟨hcell, hfr⟩ := hO2.cell hl2 r hrl
  have HS2 := Lib.hid (fun y => Own.stored hO2 hl2 r y)
  have hYr := recB_byt hYs
  have hat := hYr.at_ r
  have HW := Lib.hid (next_written [] s z hYs (by rw [HM.out]; omega))
  have HSame := Lib.hid (set_same (recB s) r (by rw [hl2]; exact hrl))
  generalize (recB s).getD r 0 = u at *
  generalize hq : 8 + m = q at *
  have hq2 : 8 ≤ q ∧ q ≤ 4104 := by omega
  clear hq hr
  go_wp2_with fail
  refine C2.out.mono ?_
  rintro e w3 ⟨rfl, rfl⟩
  obtain ⟨u, rfl⟩ := Int.eq_ofNat_of_zero_le hat.1
  obtain ⟨x, rfl⟩ := Int.eq_ofNat_of_zero_le x0.1
  have hy := bits_xor_u8_nat u x (by omega) (by omega)
  have hylt : u ^^^ x < 256 := Nat.xor_lt_two_pow (n := 8) (by omega) (by omega)
  have HX := Lib.hid (show x = 0 → u ^^^ x = u from fun h => by rw [h, Nat.xor_zero])
  generalize u ^^^ x = y at *
  have hO3 := HS2.out (y : Int)
  have hBs : Below w1.heap.size w1 (w2.setCell ⟨g, r, none⟩ (.int .u8 (y : Int))) := hB2.setCell hg _
  have hZ2 := hZ1.below hBs
  have hYm : Byt ((recB s).set r (y : Int)) := byt_set hYr r (by omega) (by omega)
  have hlm : ((recB s).set r (y : Int)).length = q := by rw [List.length_set, hl2]
  clear C2 HS2 hO2 hB2 hZ1 hl2
  go_wp2_with (at_builtin; with_reducible refine wpList_append_rd rfl (.tmp 42) (.tmp 43) 22 rfl w1.heap.size 5 Try.underlying22 info5 _ q c2 ((recB s).set r (y : Int)) hlm rfl hO3 _ Z k cz z rfl hZ2 ?ha ?hbs ?_)
  case ha => omega
  case hbs => exact hBs.size
  intro A4 c4 w4 hO4 hB4 _
  have hB14 := hBs.trans hB4
  have hl4 : ((recB s).set r (y : Int) ++ z).length = q + k := by rw [List.length_append, hlm, HK.out]
  have hY4 := hYm.append hYz
  have hcap := hO4.caps hl4
  have HV := Lib.hid (show x = 0 → nextE ((recB s).set r (y : Int) ++ z) 0 = 0 from fun h => by
    rw [HX.out h, HSame.out]
    simpa using HW.out.1)
  generalize (recB s).set r (y : Int) ++ z = lb at *
  generalize hq3 : q + k = q3 at *
  have hq4 : 8 ≤ q3 ∧ q3 ≤ 8200 := by omega
  clear hq3 hO3 hBs hB4 HW HX HSame hZ2 hYm hlm
  obtain ⟨g4, rfl, hg4⟩ := hO4.form (by omega)
  have C3 := Lib.hid (frame.next_any _ q3 c4 lb 0 w4 (hO4.rd hl4) hY4 (by omega) hcap.1 hcap.2 (by omega) (by omega))
  go_wp2_with fail
  refine C3.out.mono ?_
  clear C3
  rintro e w5 ⟨A5, n5, c5, rfl, hl5, hO5, hB5⟩
  have hB15 := hB14.trans (hB5.mono hB14.size)
  have hBw := hB1.trans (hB15.mono hB1.size)
  by_cases hE : nextE lb 0 = 0
  · have hg := next_good hY4 hE
    have ha := rec_.again (p := 0) hY4 hE
    have hO4b := hO4.below hB5
    rw [hE]
    generalize hsr : nextR lb 0 = sr at *
    have C4 := Lib.hid (frame.put_any none 0 0 [] A5 n5 c5 sr w5 (Rd.nil _ _ _) (hO5.rd hl5) hg.2.2.2.2.1 (by omega) (by omega) (by unfold maxLen; omega) (by omega) (hO5.caps hl5).1 (hO5.caps hl5).2)
    go_wp2_with fail
    refine C4.out.mono ?_
    clear C4
    rintro e w6 ⟨A6, c6, rfl, hl6, hO6, hB6⟩
    rw [List.nil_append, Nat.zero_add] at hl6 hO6
    rw [Nat.zero_add]
    have hNq : nextN lb 0 = ((8 + n5 : Nat) : Int) := by have := hg.2.2.2.1; omega
    have hq6 : 8 + n5 ≤ q3 := by have := hg.2.2.1; omega
    have hO4c := hO4b.below hB6
    have hv1 := fun a => str_own (w := w6.drewN a) hO6 hl6
    have hR4 := (hO4c.rd hl4).cut (p := 0) (q := 8 + n5) (Nat.zero_le _) hq6
    have hR5 : Rd w6 w6.heap.size (some ⟨g4, 0, none⟩) (8 + n5) (lb.take (8 + n5)) := by simpa using hR4
    have hv2 := fun a => run_string_rd (P := Try.prog) (w6.drewN a) 22 5 9 Try.underlying22 Try.underlying5 Try.underlying9 w6.heap.size (some ⟨g4, 0, none⟩) (8 + n5) c4 (lb.take (8 + n5)) hR5
    have hT : recB sr = lb.take (8 + n5) := by rw [ha, hl5]; rfl
    rw [hT] at hv1
    rw [hNq]
    generalize strOfNums (lb.take (8 + n5)) = T at *
    generalize 8 + n5 = q6 at *
    have hB6w := hBw.trans (hB6.mono hBw.size)
    have hc0 : (0 : Int) ≤ q6 ∧ (q6 : Int) ≤ c4 := by omega
    have hc1 : ¬ c4 = 0 := by omega
    clear ha hsr hR4 hR5 hO4c hO6 hO4b hO5 hO4 HV hT hNq hg
    go_upto_region 14 with (fail)
    go_quiet (fail)
    go_wp2_with fail
    go_ret
    exact ⟨rfl, hB6w.trans (below_drewN (Below.refl _ _) _)⟩
  · have HE := Lib.hid hE
    have hr : nextR lb 0 = [] := by unfold nextR; rw [if_neg hE]
    have hn : nextN lb 0 = 0 := by unfold nextN; rw [if_neg hE]
    have hx2 : ¬ (x : Int) = 0 := by
      intro h
      exact hE (HV.out (by omega))
    have hx : ((x : Int) != 0) = true := by simpa using hx2
    rw [hr] at hl5
    obtain rfl : 0 = n5 := hl5
    rw [hn]
    obtain ⟨ee, hee⟩ : ∃ ee, nextE lb 0 = ee := ⟨_, rfl⟩
    rw [hee] at hE ⊢
    clear hee HV
    go_wp2_with fail
    go_ret
    exact ⟨rfl, hBw⟩
end Go.Proofs.Ytcjaffdjhbhhaaa.frameLaw
