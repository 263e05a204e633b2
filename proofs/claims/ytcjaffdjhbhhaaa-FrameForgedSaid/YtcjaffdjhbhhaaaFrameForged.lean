/- FrameForged answers true: what lengths and sums that are written by hand tell. Conditions: what the slice reads as. -/
import Derived.Test.YtcjaffdjhbhhaaaFrameLaw
import Derived.Deep.Cut
import Derived.Test.YtcjaffdjhbhhaaaKitS
import Derived.Test.YtcjaffdjhbhhaaaKitS
namespace Go.Proofs.Ytcjaffdjhbhhaaa.frameLaw
open Go.RowKit Go.Proofs.Ytcjaffdjhbhhaaa.kit Go.Proofs.Ytcjaffdjhbhhaaa.nums Go.Proofs.Ytcjaffdjhbhhaaa.crc Go.Proofs.Ytcjaffdjhbhhaaa.bytes Go.Proofs.Ytcjaffdjhbhhaaa.rec_ Go.Proofs.Ytcjaffdjhbhhaaa.ref3 Go.Proofs.Ytcjaffdjhbhhaaa.law0
set_option linter.unusedVariables false

/-- Two numbers as four bytes each. -/
def fourB (a b : Int) : List Int := [a / 16777216, a / 65536 % 256, a / 256 % 256, a % 256, b / 16777216, b / 65536 % 256, b / 256 % 256, b % 256]
theorem fourB_byt {a b : Int} (ha : 0 ≤ a ∧ a ≤ 4294967295) (hb : 0 ≤ b ∧ b ≤ 4294967295) : Byt (fourB a b) := by
  intro x hx
  simp only [fourB, List.mem_cons, List.not_mem_nil, or_false] at hx
  omega

set_option maxHeartbeats 2000000 in
theorem forged (a b : Int) (right : Bool) (S : Option Addr) (m cs : Nat) (s : List Int) (w : World) (ha : (Lit.int .u32 a).wf = true) (hb : (Lit.int .u32 b).wf = true) (hS : Rd w w.heap.size S m s) (hYs : Byt s) (hmc : m ≤ cs) (hcs : cs ≤ maxLen) :
    Calls Try.prog 8 #[.int .u32 a, .int .u32 b, .bool right, .slice S m cs] w fun e w' => e = .returned (.bool true) ∧ Below w.heap.size w w' := by
  have hx2 := hcs
  unfold maxLen at hx2
  have HM := Lib.hid hS.len
  have a0 : 0 ≤ a ∧ a ≤ 4294967295 := by simpa [Lit.wf, IntKind.min, IntKind.max, IntKind.signed, IntKind.bits] using ha
  have b0 : 0 ≤ b ∧ b ≤ 4294967295 := by simpa [Lit.wf, IntKind.min, IntKind.max, IntKind.signed, IntKind.bits] using hb
  clear ha hb
  go_enter Try.func8, Try.ntmps8
  go_wp2_with fail
  refine (begun_any _).mono ?_
  rintro e w1 ⟨rfl, hB1⟩
  by_cases h1 : 300 < m
  · go_wp2_with fail
    go_ret
    exact ⟨rfl, hB1⟩
  have hS1 := hS.on hB1 hB1.size
  have hS2 : Rd (w1.alloc (.cells #[.int .u8 (a / 16777216), .int .u8 (a / 65536 % 256), .int .u8 (a / 256 % 256), .int .u8 (a % 256), .int .u8 (b / 16777216), .int .u8 (b / 65536 % 256), .int .u8 (b / 256 % 256), .int .u8 (b % 256)] 5)) w1.heap.size S m s := hS1.alloc (Nat.le_refl _) _
  have hO2 : Own 5 (w1.alloc (.cells #[.int .u8 (a / 16777216), .int .u8 (a / 65536 % 256), .int .u8 (a / 256 % 256), .int .u8 (a % 256), .int .u8 (b / 16777216), .int .u8 (b / 65536 % 256), .int .u8 (b / 256 % 256), .int .u8 (b % 256)] 5)) w1.heap.size (.slice (some ⟨w1.heap.size, 0, none⟩) 8 8) (fourB a b) := Own.lit w1 5 (fourB a b) rfl (Nat.le_refl _) (by omega)
  have hY := fourB_byt a0 b0
  have hl8 : (fourB a b).length = 8 := rfl
  go_wp2_with (at_builtin; with_reducible refine wpList_append_rd rfl (.tmp 47) (.tmp 48) 22 rfl w1.heap.size 5 Try.underlying22 info5 _ 8 8 (fourB a b) hl8 rfl hO2 _ S m cs s rfl hS2 ?ha ?hbs ?_)
  case ha => omega
  case hbs => simp
  intro A3 c3 w3 hO3 hB3 _
  have hB13 : Below w1.heap.size w1 w3 := ((Below.refl _ _).alloc (Nat.le_refl _) _).trans hB3
  have hB := hB1.trans (hB13.mono hB1.size)
  have hl3 : (fourB a b ++ s).length = 8 + m := by rw [List.length_append, hl8, HM.out]
  have hY3 := hY.append hYs
  generalize fourB a b ++ s = lb at *
  generalize hq : 8 + m = q at *
  have hq2 : q ≤ 308 := by omega
  clear hq hO2 hS2 hB3 hY hl8
  rcases right with _ | _
  · clear hS1 hS
    go_wp2_with fail
    refine (twin_any A3 q c3 lb w3 (hO3.rd hl3) (by omega)).mono ?_
    rintro e x1 ⟨rfl, hT, hX1⟩
    have hO1 := hO3.below hX1
    have hcap := hO1.caps hl3
    have C1 := Lib.hid (frame.next_any (some ⟨w3.heap.size, 0, none⟩) q (q + 3) lb 0 x1 (hT.rd hl3 hT.lt) hY3 (by omega) (by omega) (by unfold maxLen; omega) (by omega) (by omega))
    go_wp2_with fail
    refine C1.out.mono ?_
    clear C1
    rintro e x2 ⟨A5, n5, c5, rfl, hl5, hO5, hX2⟩
    have hO2 := hO1.below hX2
    have hT2 := hT.below hX2 hT.lt
    have C2 := Lib.hid (next3_any A3 q c3 lb 0 x2 (hO2.rd hl3) hY3 (by omega) hcap.1 hcap.2 (by omega) (by omega))
    go_wp2_with fail
    refine C2.out.mono ?_
    clear C2
    rintro e x3 ⟨A6, n6, c6, rfl, hl6, hO6, hX3⟩
    have hv1 := str_own (hO5.below hX3) hl5
    have hv2 := str_own hO6 hl6
    have D1 := Lib.hid (kept_any w3.heap.size A3 q c3 lb x3 _ (hT2.below hX3 hT2.lt) ((hO2.below hX3).rd hl3) (by omega))
    have FB := hB.trans (((hX1.trans (hX2.mono hX1.size)).trans (hX3.mono (Nat.le_trans hX1.size hX2.size))).mono hB.size)
    generalize strOfNums (nextR lb 0) = T1 at *
    generalize nextN lb 0 = N1 at *
    generalize nextE lb 0 = E1 at *
    go_wp2_with fail
    refine D1.out.mono ?_
    rintro e y1 ⟨rfl, rfl⟩
    go_wp2_with fail
    go_ret
    exact ⟨rfl, FB⟩
  · by_cases h2 : a ≤ m
    · have hS3 := hS1.on hB13 hB13.size
      obtain ⟨k, rfl⟩ := Int.eq_ofNat_of_zero_le a0.1
      have hkm : k ≤ m := by omega
      go_wp2_with (with_reducible refine wpList_slice_h rfl (.tmp 59) (.tmp 60) 22 rfl 5 Try.underlying22 info5 S m cs w3.heap.size s rfl hS3 .u32 _ k rfl rfl hkm hmc ?_)
      intro S1 e1 hR1 hke hec
      have hYk := hYs.take k
      have hlk : (s.take k).length = k := by rw [List.length_take, HM.out]; omega
      have C0 := Lib.hid (put3_any none 0 0 [] S1 k e1 (s.take k) w3 (Rd.nil _ _ _) hR1 hYk (by omega) (by omega) hke (by omega))
      go_wp2_with fail
      refine C0.out.mono ?_
      clear C0
      rintro e w4 ⟨A4, c4, rfl, hl4, hO4, hB4⟩
      rw [List.nil_append, Nat.zero_add] at hl4 hO4
      rw [Nat.zero_add]
      have hS4 := hS3.on hB4 hB4.size
      have hB5 := hB.trans (hB4.mono hB.size)
      go_wp2_with (first
        | (with_reducible refine wpList_slice_l rfl (.tmp 66) (.tmp 67) 22 rfl 5 Try.underlying22 info5 S m cs w4.heap.size s rfl hS4 .u32 _ k rfl rfl hkm hmc ?_)
        | fail)
      intro S2 e2 hR2 _ _
      go_wp2_with (at_builtin; with_reducible refine wpList_append_rd rfl (.tmp 65) (.tmp 68) 22 rfl w3.heap.size 5 Try.underlying22 info5 A4 (8 + k) c4 (recB (s.take k)) hl4 rfl hO4 _ S2 (m - k) e2 (s.drop k) rfl hR2 ?hc ?hd ?_)
      case hc => omega
      case hd => exact hB4.size
      intro A6 c6 w6 hO6 hB6 _
      have hl6 : (recB (s.take k) ++ s.drop k).length = 8 + k + (m - k) := by rw [List.length_append, hl4, List.length_drop, HM.out]
      have hY6 := (recB_byt hYk).append (hYs.drop k)
      have hB6b := hB5.trans (hB6.mono hB.size)
      generalize recB (s.take k) ++ s.drop k = lc at *
      generalize hq3 : 8 + k + (m - k) = q3 at *
      have hq4 : q3 ≤ 308 := by omega
      clear hq3 hR1 hR2 hS1 hS3 hS4 hO4 hO3 hB6
      go_wp2_with fail
      refine (twin_any A6 q3 c6 lc w6 (hO6.rd hl6) (by omega)).mono ?_
      rintro e x1 ⟨rfl, hT, hX1⟩
      have hO1 := hO6.below hX1
      have hcap := hO1.caps hl6
      have C1 := Lib.hid (frame.next_any (some ⟨w6.heap.size, 0, none⟩) q3 (q3 + 3) lc 0 x1 (hT.rd hl6 hT.lt) hY6 (by omega) (by omega) (by unfold maxLen; omega) (by omega) (by omega))
      go_wp2_with fail
      refine C1.out.mono ?_
      clear C1
      rintro e x2 ⟨A5, n5, c5, rfl, hl5, hO5, hX2⟩
      have hO2 := hO1.below hX2
      have hT2 := hT.below hX2 hT.lt
      have C2 := Lib.hid (next3_any A6 q3 c6 lc 0 x2 (hO2.rd hl6) hY6 (by omega) hcap.1 hcap.2 (by omega) (by omega))
      go_wp2_with fail
      refine C2.out.mono ?_
      clear C2
      rintro e x3 ⟨A7, n7, c7, rfl, hl7, hO7, hX3⟩
      have hv1 := str_own (hO5.below hX3) hl5
      have hv2 := str_own hO7 hl7
      have D1 := Lib.hid (kept_any w6.heap.size A6 q3 c6 lc x3 _ (hT2.below hX3 hT2.lt) ((hO2.below hX3).rd hl6) (by omega))
      have FB := hB6b.trans (((hX1.trans (hX2.mono hX1.size)).trans (hX3.mono (Nat.le_trans hX1.size hX2.size))).mono hB6b.size)
      generalize strOfNums (nextR lc 0) = T1 at *
      generalize nextN lc 0 = N1 at *
      generalize nextE lc 0 = E1 at *
      go_wp2_with fail
      refine D1.out.mono ?_
      rintro e y1 ⟨rfl, rfl⟩
      go_wp2_with fail
      go_ret
      exact ⟨rfl, FB⟩
    · clear hS1 hS
      go_wp2_with fail
      refine (twin_any A3 q c3 lb w3 (hO3.rd hl3) (by omega)).mono ?_
      rintro e x1 ⟨rfl, hT, hX1⟩
      have hO1 := hO3.below hX1
      have hcap := hO1.caps hl3
      have C1 := Lib.hid (frame.next_any (some ⟨w3.heap.size, 0, none⟩) q (q + 3) lb 0 x1 (hT.rd hl3 hT.lt) hY3 (by omega) (by omega) (by unfold maxLen; omega) (by omega) (by omega))
      go_wp2_with fail
      refine C1.out.mono ?_
      clear C1
      rintro e x2 ⟨A5, n5, c5, rfl, hl5, hO5, hX2⟩
      have hO2 := hO1.below hX2
      have hT2 := hT.below hX2 hT.lt
      have C2 := Lib.hid (next3_any A3 q c3 lb 0 x2 (hO2.rd hl3) hY3 (by omega) hcap.1 hcap.2 (by omega) (by omega))
      go_wp2_with fail
      refine C2.out.mono ?_
      clear C2
      rintro e x3 ⟨A6, n6, c6, rfl, hl6, hO6, hX3⟩
      have hv1 := str_own (hO5.below hX3) hl5
      have hv2 := str_own hO6 hl6
      have D1 := Lib.hid (kept_any w3.heap.size A3 q c3 lb x3 _ (hT2.below hX3 hT2.lt) ((hO2.below hX3).rd hl3) (by omega))
      have FB := hB.trans (((hX1.trans (hX2.mono hX1.size)).trans (hX3.mono (Nat.le_trans hX1.size hX2.size))).mono hB.size)
      generalize strOfNums (nextR lb 0) = T1 at *
      generalize nextN lb 0 = N1 at *
      generalize nextE lb 0 = E1 at *
      go_wp2_with fail
      refine D1.out.mono ?_
      rintro e y1 ⟨rfl, rfl⟩
      go_wp2_with fail
      go_ret
      exact ⟨rfl, FB⟩
end Go.Proofs.Ytcjaffdjhbhhaaa.frameLaw
