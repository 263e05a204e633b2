/- The statements' own light, of operations on a log: which are not too great. Conditions: what the slices read as. -/
import Derived.Test.YtafdgibkhefplaaLaw0
import Derived.Test.YtafdgibkhefplaaJoin1
namespace Go.Proofs.Ytafdgibkhefplaa.law5
open Go.RowKit Go.Proofs.Ytafdgibkhefplaa.kit Go.Proofs.Ytafdgibkhefplaa.nums Go.Proofs.Ytafdgibkhefplaa.law0
set_option linter.unusedVariables false

def LightW (x : OpW) : Prop := x.b.length ≤ 300 ∧ x.l.length ≤ 10 ∧ x.l.flatten.length ≤ 2000 ∧ x.keep.length ≤ 10
/-- What light ends in. -/
def RetLtW (w : World) (most : Nat) (n : Nat) (os : List OpW) (e : Ending) (w' : World) : Prop := ∃ r, e = .returned (.bool r) ∧ (r = true → n ≤ most ∧ ∀ x ∈ os, LightW x) ∧ w = w'
set_option maxHeartbeats 1000000 in
theorem light_any (A : Option Addr) (n c most : Nat) (os : List OpW) (w : World) (B : Nat) (hR : RdOpW w B A n os) (hn : n ≤ 9223372036854775807) (hm : most ≤ 1000) :
    Calls Try.prog 10 #[.slice A n c, .int .i64 most] w (RetLtW w most n os) := by
  have HR := Lib.hid hR
  have HL := Lib.hid hR.1
  have HC := Lib.hid (show ∀ j, j < n → _ from fun j hj => hR.at_ hj)
  clear hR
  go_enter Try.func10, Try.ntmps10
  by_cases hgt : most < n
  · go_wp2_with fail
    go_ret
    exact ⟨false, rfl, fun h => absurd h (by decide), rfl⟩
  go_wp2_with fail
  go_loop [5] (fun i => ∃ j : Nat, j ≤ n ∧ i = .int .i64 j ∧ Hid (∀ x ∈ os.take j, LightW x)) (fun i => n - (intOf i).toNat)
  case atStart => exact ⟨0, by omega, rfl, by show ∀ x ∈ os.take 0, _; intro x hx; simp at hx⟩
  case round =>
    obtain ⟨j, hj, rfl, HX⟩ := hrel
    by_cases hlt : j < n
    · obtain ⟨b, o, x, rfl, hb, hx, h0, h1, h2, v3, v4, v5, h3, h4, h5, hv⟩ := HC.out j hlt
      obtain ⟨Ab, cb, rfl, hbc, hbm, _⟩ := hv.b
      obtain ⟨Al, cl, rfl, hlc, hlm, hRl⟩ := hv.l
      obtain ⟨Ak, ck, rfl, hkc, hkm, _⟩ := hv.keep
      have hmx := hbm
      have hmy := hkm
      have hmz := hlm
      unfold maxLen at hmx hmy hmz
      have HT := Lib.hid (show LightW x → ∀ y ∈ os.take (j + 1), LightW y from fun a1 y hy => by
        rw [List.take_add_one, hx] at hy
        simp only [Option.toList, List.mem_append, List.mem_singleton] at hy
        rcases hy with hy | rfl
        · exact HX.out y hy
        · exact a1)
      unfold LightW at HT
      have HRl := Lib.hid hRl
      clear hRl hv
      generalize x.b.length = lb at *
      generalize x.keep.length = lk at *
      generalize x.l.length = ll at *
      generalize x.l = LL at *
      have i0 : (0 : Int) ≤ j ∧ (j : Int) < n := by omega
      by_cases g1 : 300 < lb
      · go_wp2_with fail
        go_ret
        exact ⟨false, rfl, fun h => absurd h (by decide), rfl⟩
      by_cases g2 : 10 < ll
      · go_wp2_with fail
        go_ret
        exact ⟨false, rfl, fun h => absurd h (by decide), rfl⟩
      have CS := Lib.hid (sum_any Al ll cl LL 2000 w _ HRl.out (by omega) (by omega))
      go_wp2_with fail
      refine CS.out.mono ?_
      clear CS
      rintro e w1 ⟨r, rfl, hr, rfl⟩
      by_cases g3 : 2000 < r
      · go_wp2_with fail
        go_ret
        exact ⟨false, rfl, fun h => absurd h (by decide), rfl⟩
      have hsum := hr (by omega)
      clear hr
      by_cases g4 : 10 < lk
      · go_wp2_with fail
        go_ret
        exact ⟨false, rfl, fun h => absurd h (by decide), rfl⟩
      have HT2 := Lib.hid (HT.out ⟨by omega, by omega, by omega, by omega⟩)
      go_wp2_with fail
      go_round
      case rel => exact ⟨j + 1, by omega, by go_num, HT2⟩
      case measure => simp [intOf]; omega
    · obtain rfl : j = n := by omega
      go_wp2_with fail
      go_ret
      exact ⟨true, rfl, fun _ => ⟨by omega, by have := HX.out; rwa [List.take_of_length_le (by rw [HL.out]; exact Nat.le_refl _)] at this⟩, rfl⟩
end Go.Proofs.Ytafdgibkhefplaa.law5
