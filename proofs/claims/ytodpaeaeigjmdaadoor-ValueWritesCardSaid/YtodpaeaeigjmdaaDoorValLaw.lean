/- What the statements' own begun and light (antipodelaw7) come to. No condition. -/
import Derived.Test.YtodpaeaeigjmdaaDoorValI
namespace Go.Proofs.YtodpaeaeigjmdaaDoor.law7
open Go Go.RowKit Go.Proofs.YtodpaeaeigjmdaaDoor.kit Go.Proofs.YtodpaeaeigjmdaaDoor.nums Go.Proofs.YtodpaeaeigjmdaaDoor.st Go.Proofs.YtodpaeaeigjmdaaDoor.va Go.Proofs.YtodpaeaeigjmdaaDoor.ref7 Go.Proofs.YtodpaeaeigjmdaaDoor.libw
set_option linter.unusedVariables false

theorem light_any (a : VaL) (hl : (a.s.length : Int) ≤ 9223372036854775807) (w : World) :
    Calls Tryd.prog 9 #[vaV a] w fun e w' => e = .returned (.bool (decide (a.s.length ≤ 1000))) ∧ Below w.heap.size w w' := by
  obtain ⟨k, n, s⟩ := a
  have HB : Hid (Below w.heap.size w (w.alloc (.cells #[.int .i64 k, .int .i64 n, .string (strOfNums s)] 24))) := (Below.refl _ _).alloc (Nat.le_refl _) _
  have hz := strOfNums_size s
  unfold vaV
  dsimp only at hl ⊢
  generalize strOfNums s = T at *
  by_cases h : s.length ≤ 1000
  · go_enter Tryd.func9, Tryd.ntmps9
    go_wp2_with fail
    go_ret
    exact ⟨by simp [h]; omega, HB.out⟩
  · go_enter Tryd.func9, Tryd.ntmps9
    go_wp2_with fail
    go_ret
    exact ⟨by simp [h]; omega, HB.out⟩
set_option maxHeartbeats 1000000 in
theorem begun_any (w : World) (hw : LibW w) : Calls Tryd.prog 8 #[] w fun e w' => e = .returned (.bool true) ∧ Below w.heap.size w w' := by
  have k1 : (⟨2, -1, []⟩ : VaL).ok := by unfold VaL.ok I64; exact ⟨by decide, by decide, fun x hx => by cases hx⟩
  have k2 : (⟨3, 0, [105, 116, 39, 115]⟩ : VaL).ok := by unfold VaL.ok I64 Byt; exact ⟨by decide, by decide, by decide⟩
  have k3 : (⟨0, 0, []⟩ : VaL).ok := by unfold VaL.ok I64; exact ⟨by decide, by decide, fun x hx => by cases hx⟩
  have C1 := Lib.hid (fun w => val.key_any none 0 0 [] ⟨2, -1, []⟩ w (Rd.nil _ _ _) (by omega) (by unfold maxLen; omega) (by omega) (by decide) k1)
  have hk : keyF ⟨2, -1, []⟩ = [2, 127, 255, 255, 255, 255, 255, 255, 255] := by decide
  rw [hk] at C1
  have C2 := Lib.hid (fun (A : Option Addr) (c : Nat) (w : World) (hR : Rd w w.heap.size A 9 [2, 127, 255, 255, 255, 255, 255, 255, 255]) (hc : 9 ≤ c) => val.takeKey_any A 9 c _ w w.heap.size hR (Nat.le_refl _) (by unfold Byt; decide) (by omega) hc)
  rw [show tkF [2, 127, 255, 255, 255, 255, 255, 255, 255] = (⟨2, -1, []⟩, 9, 0) by decide] at C2
  have C3 := Lib.hid (fun wq (h : Below w.heap.size w wq) => val.show_any ⟨3, 0, [105, 116, 39, 115]⟩ k2 (by decide) wq (hw.on h))
  rw [show showF ⟨3, 0, [105, 116, 39, 115]⟩ = [39, 105, 116, 39, 39, 115, 39] by decide] at C3
  have C4 := Lib.hid (fun w => val.may_any ⟨0, 0, []⟩ k3 (by decide) w)
  rw [show decide (mayP ⟨0, 0, []⟩) = true by decide] at C4
  clear k1 k2 k3 hk hw
  unfold vaV at C1 C3 C4
  unfold RetV vaV at C2
  dsimp only at C1 C2 C3 C4
  go_enter Tryd.func8, Tryd.ntmps8
  go_wp2_with fail
  refine (C1.out _).mono ?_
  rintro e w1 ⟨A1, c1, rfl, hl1, hO1, hB1⟩
  obtain ⟨hR1, hc1⟩ := own_rd hO1 hl1
  have hcell := hR1.2 (by decide)
  obtain ⟨b, o, rfl, hbl, hcs⟩ := hcell
  have hx := hcs 1 (by decide)
  go_wp2_with fail
  refine (C2.out _ c1 _ hR1 hc1).mono ?_
  rintro e w2 ⟨rfl, hB2⟩
  have hx2 : w2.cell? ⟨b, o + 1, none⟩ = some (.int .u8 127) := (hB2.cell (p := ⟨b, o + 1, none⟩) hbl).trans hx
  have HB12 := Lib.hid (hB1.trans (hB2.mono hB1.size))
  have hbl2 : b < w2.heap.size := by have := hB2.size; omega
  clear C1 C2 hR1 hcs hx hO1 hB1 hB2
  go_wp2_with fail
  refine (C3.out _ (HB12.out.alloc HB12.out.size _)).mono ?_
  rintro e w3 ⟨rfl, hB3⟩
  rw [show strOfNums [39, 105, 116, 39, 39, 115, 39] = ⟨#[39, 105, 116, 39, 39, 115, 39]⟩ from rfl]
  have HB13 := Lib.hid (HB12.out.trans (((Below.refl _ _).alloc (Nat.le_refl _) _ |>.trans (hB3.mono (by simp))).mono HB12.out.size))
  clear hB3 hx2 hbl2
  go_wp2_with fail
  refine (C4.out _).mono ?_
  rintro e w4 ⟨rfl, hB4⟩
  go_wp2_with fail
  go_ret
  exact ⟨rfl, HB13.out.trans (hB4.mono HB13.out.size)⟩
end Go.Proofs.YtodpaeaeigjmdaaDoor.law7
