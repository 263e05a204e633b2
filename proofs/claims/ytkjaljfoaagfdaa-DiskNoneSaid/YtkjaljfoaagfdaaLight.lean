/- Light, begun: operations that are not too great; the disk does something. Conditions: what the slices read as. -/
import Derived.Test.YtkjaljfoaagfdaaSame
namespace Go.Proofs.Ytkjaljfoaagfdaa.both
open Go.RowKit Go.Proofs.Ytkjaljfoaagfdaa.kit Go.Proofs.Ytkjaljfoaagfdaa.nums Go.Proofs.Ytkjaljfoaagfdaa.ds Go.Proofs.Ytkjaljfoaagfdaa.disk Go.Proofs.Ytkjaljfoaagfdaa.ref4 Go.Proofs.Ytkjaljfoaagfdaa.bytes Go.Proofs.Ytkjaljfoaagfdaa.law0
set_option linter.unusedVariables false

/-- What Light ends in. -/
def RetLt (w : World) (most : Nat) (n : Nat) (os : List OpL) (e : Ending) (w' : World) : Prop := ∃ r, e = .returned (.bool r) ∧ (r = true → n ≤ most ∧ ∀ x ∈ os, x.b.length ≤ 1000 ∧ x.keep.length ≤ 10) ∧ w = w'
set_option maxHeartbeats 1000000 in
theorem light_any (A : Option Addr) (n c most : Nat) (os : List OpL) (w : World) (B : Nat) (hR : RdOp w B A n os) (hn : n ≤ 9223372036854775807) (hm : most ≤ 1000) :
    Calls Try.prog 10 #[.slice A n c, .int .i64 most] w (RetLt w most n os) := by
  have HR := Lib.hid hR
  have HL := Lib.hid hR.1
  have HC := Lib.hid (show ∀ j, j < n → _ from fun j hj => hR.at_ hj)
  clear hR
  go_enter Try.func10, Try.ntmps10
  by_cases hgt : most < n
  · go_wp2_with fail
    go_ret
    exact ⟨false, rfl, fun h => absurd h (by decide), rfl⟩
  go_wp2_with fail
  go_loop [5] (fun i => ∃ j : Nat, j ≤ n ∧ i = .int .i64 j ∧ Hid (∀ x ∈ os.take j, x.b.length ≤ 1000 ∧ x.keep.length ≤ 10)) (fun i => n - (intOf i).toNat)
  case atStart => exact ⟨0, by omega, rfl, by show ∀ x ∈ os.take 0, _; intro x hx; simp at hx⟩
  case round =>
    obtain ⟨j, hj, rfl, HX⟩ := hrel
    by_cases hlt : j < n
    · obtain ⟨b, o, x, rfl, hb, hx, h0, h1, h2, v3, v4, h3, h4, hv⟩ := HC.out j hlt
      obtain ⟨Ab, cb, rfl, hbc, hbm, _⟩ := hv.b
      obtain ⟨Ak, ck, rfl, hkc, hkm, _⟩ := hv.keep
      have hmx := hbm
      have hmy := hkm
      unfold maxLen at hmx hmy
      have HT := Lib.hid (show x.b.length ≤ 1000 → x.keep.length ≤ 10 → ∀ y ∈ os.take (j + 1), y.b.length ≤ 1000 ∧ y.keep.length ≤ 10 from fun a1 a2 y hy => by
        rw [List.take_add_one, hx] at hy
        simp only [Option.toList, List.mem_append, List.mem_singleton] at hy
        rcases hy with hy | rfl
        · exact HX.out y hy
        · exact ⟨a1, a2⟩)
      generalize x.b.length = lb at *
      generalize x.keep.length = lk at *
      have i0 : (0 : Int) ≤ j ∧ (j : Int) < n := by omega
      by_cases g1 : 1000 < lb
      · go_wp2_with fail
        go_ret
        exact ⟨false, rfl, fun h => absurd h (by decide), rfl⟩
      · by_cases g2 : 10 < lk
        · go_wp2_with fail
          go_ret
          exact ⟨false, rfl, fun h => absurd h (by decide), rfl⟩
        · have HT2 := Lib.hid (HT.out (by omega) (by omega))
          go_wp2_with fail
          go_round
          case rel => exact ⟨j + 1, by omega, by go_num, HT2⟩
          case measure => simp [intOf]; omega
    · obtain rfl : j = n := by omega
      go_wp2_with fail
      go_ret
      exact ⟨true, rfl, fun _ => ⟨by omega, by have := HX.out; rwa [List.take_of_length_le (by rw [HL.out]; exact Nat.le_refl _)] at this⟩, rfl⟩
end Go.Proofs.Ytkjaljfoaagfdaa.both
