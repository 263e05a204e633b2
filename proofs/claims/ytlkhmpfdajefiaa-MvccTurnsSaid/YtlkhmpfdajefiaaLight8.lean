/- The statements' own light and Light (stage 8). Conditions: what the slices read as. -/
import Derived.Test.YtlkhmpfdajefiaaJoin1
namespace Go.Proofs.Ytlkhmpfdajefiaa.law8
open Go Go.RowKit Go.Proofs.Ytlkhmpfdajefiaa.kit Go.Proofs.Ytlkhmpfdajefiaa.nums Go.Proofs.Ytlkhmpfdajefiaa.st Go.Proofs.Ytlkhmpfdajefiaa.mv Go.Proofs.Ytlkhmpfdajefiaa.ref8
set_option linter.unusedVariables false

/-- An operation that is not too great. -/
def LightM (x : OpM) : Prop := x.key.size ≤ 50 ∧ x.data.size ≤ 200
/-- What light ends in. -/
def RetLtM (w : World) (most : Int) (os : List OpM) (e : Ending) (w' : World) : Prop := ∃ r, e = .returned (.bool r) ∧ (r = true → (os.length : Int) ≤ most ∧ ∀ x ∈ os, LightM x) ∧ w = w'
set_option maxHeartbeats 1000000 in
theorem light_any (A : Option Addr) (n c : Nat) (most : Int) (os : List OpM) (w : World) (B : Nat) (hR : RdOpM w B A n os) (hn : n ≤ 9223372036854775807) :
    Calls Try.prog 12 #[.slice A n c, .int .i64 most] w (RetLtM w most os) := by
  have HL := Lib.hid hR.1
  have HC := Lib.hid (show ∀ j, j < n → _ from fun j hj => hR.at_ hj)
  clear hR
  go_enter Try.func12, Try.ntmps12
  by_cases hgt : most < n
  · go_wp2_with fail
    go_ret
    exact ⟨false, rfl, fun h => absurd h (by decide), rfl⟩
  go_wp2_with fail
  go_loop [5] (fun i => ∃ j : Nat, j ≤ n ∧ i = .int .i64 j ∧ Hid (∀ x ∈ os.take j, LightM x)) (fun i => n - (intOf i).toNat)
  case atStart => exact ⟨0, by omega, rfl, by show ∀ x ∈ os.take 0, _; intro x hx; simp at hx⟩
  case round =>
    obtain ⟨j, hj, rfl, HX⟩ := hrel
    by_cases hlt : j < n
    · obtain ⟨b, o, x, rfl, hb, hx, hA⟩ := HC.out j hlt
      have a1 : w.cell? ⟨b, o + j * 14 + 1, none⟩ = some (.string x.key) := hA 1 _ rfl
      have a3 : w.cell? ⟨b, o + j * 14 + 3, none⟩ = some (.string x.data) := hA 3 _ rfl
      have HT := Lib.hid (show LightM x → ∀ y ∈ os.take (j + 1), LightM y from fun a1 y hy => by
        rw [List.take_add_one, hx] at hy
        simp only [Option.toList, List.mem_append, List.mem_singleton] at hy
        rcases hy with hy | rfl
        · exact HX.out y hy
        · exact a1)
      unfold LightM at HT
      clear hA hx
      generalize x.key = kk at *
      generalize x.data = dd at *
      by_cases g1 : 50 < kk.size
      · go_wp2_with fail
        go_ret
        exact ⟨false, rfl, fun h => absurd h (by decide), rfl⟩
      by_cases g2 : 200 < dd.size
      · go_wp2_with fail
        go_ret
        exact ⟨false, rfl, fun h => absurd h (by decide), rfl⟩
      have HT2 := Lib.hid (HT.out ⟨by omega, by omega⟩)
      clear HT
      go_wp2_with fail
      go_round
      case rel => exact ⟨j + 1, by omega, by go_num, HT2⟩
      case measure => simp [intOf]; omega
    · obtain rfl : j = n := by omega
      go_wp2_with fail
      go_ret
      exact ⟨true, rfl, fun _ => ⟨by rw [HL.out]; omega, fun x hx => HX.out x (by rw [List.take_of_length_le (by rw [HL.out]; exact Nat.le_refl _)]; exact hx)⟩, rfl⟩
/-- Cells that are not too great. -/
def LightC (x : CellL) : Prop := x.vers.length ≤ 30 ∧ x.key.size ≤ 100
def RetLtC (w : World) (cs : List CellL) (e : Ending) (w' : World) : Prop := ∃ r, e = .returned (.bool r) ∧ (r = true → cs.length ≤ 60 ∧ ∀ x ∈ cs, LightC x) ∧ w = w'
set_option maxHeartbeats 2000000 in
theorem lightC_any (A : Option Addr) (n c : Nat) (cs : List CellL) (w : World) (B : Nat) (hR : RdC w B A n cs) (hn : n ≤ 9223372036854775807) :
    Calls Try.prog 17 #[.slice A n c] w (RetLtC w cs) := by
  have HL := Lib.hid hR.1
  have HC := Lib.hid (show ∀ j, j < n → _ from fun j hj => hR.at_ hj)
  clear hR
  go_enter Try.func17, Try.ntmps17
  by_cases hgt : 60 < n
  · go_wp2_with fail
    go_ret
    exact ⟨false, rfl, fun h => absurd h (by decide), rfl⟩
  go_wp2_with fail
  go_loop [3] (fun i => ∃ j : Nat, j ≤ n ∧ i = .int .i64 j ∧ Hid (∀ x ∈ cs.take j, LightC x)) (fun i => n - (intOf i).toNat)
  case atStart => exact ⟨0, by omega, rfl, by show ∀ x ∈ cs.take 0, _; intro x hx; simp at hx⟩
  case round =>
    obtain ⟨j, hj, rfl, HX⟩ := hrel
    by_cases hlt : j < n
    · obtain ⟨b, o, x, sv, rfl, hb, hx, hS, hA⟩ := HC.out j hlt
      obtain ⟨As, cv, rfl, hc1, hc2, hRv⟩ := hS
      have a0 : w.cell? ⟨b, o + j * 12, none⟩ = some (.string x.key) := hA 0 _ rfl
      have a1 : w.cell? ⟨b, o + j * 12 + 1, none⟩ = some (.slice As x.vers.length cv) := hA 1 _ rfl
      have a11 : w.cell? ⟨b, o + j * 12 + 11, none⟩ = some (.string x.lock.data) := hA 11 _ rfl
      have HT := Lib.hid (show LightC x → ∀ y ∈ cs.take (j + 1), LightC y from fun a1 y hy => by
        rw [List.take_add_one, hx] at hy
        simp only [Option.toList, List.mem_append, List.mem_singleton] at hy
        rcases hy with hy | rfl
        · exact HX.out y hy
        · exact a1)
      unfold LightC at HT
      have HV := Lib.hid (show ∀ k, k < x.vers.length → _ from fun k hk => hRv.at_ hk)
      have hmx := hc2
      unfold maxLen at hmx
      clear hA hx hRv
      generalize x.key = kk at *
      generalize x.lock.data = dd at *
      generalize x.vers.length = m at *
      by_cases g1 : 30 < m
      · go_wp2_with fail
        go_ret
        exact ⟨false, rfl, fun h => absurd h (by decide), rfl⟩
      by_cases g2 : 100 < kk.size
      · go_wp2_with fail
        go_ret
        exact ⟨false, rfl, fun h => absurd h (by decide), rfl⟩
      by_cases g3 : 300 < dd.size
      · go_wp2_with fail
        go_ret
        exact ⟨false, rfl, fun h => absurd h (by decide), rfl⟩
      have HT2 := Lib.hid (HT.out ⟨by omega, by omega⟩)
      clear HT
      go_wp2_with fail
      go_loop [4] (fun i => ∃ k : Nat, k ≤ m ∧ i = .int .i64 k) (fun i => m - (intOf i).toNat)
      case atStart => exact ⟨0, by omega, rfl⟩
      case round =>
        obtain ⟨k, hk, rfl⟩ := hrel
        by_cases hkk : k < m
        · obtain ⟨b2, o2, v, rfl, hb2, hv, hA2⟩ := HV.out k hkk
          have v3 : w.cell? ⟨b2, o2 + k * 4 + 3, none⟩ = some (.string v.data) := hA2 3 _ rfl
          clear hv hA2
          by_cases g4 : 300 < v.data.size
          · go_wp2_with fail
            go_ret
            exact ⟨false, rfl, fun h => absurd h (by decide), rfl⟩
          go_wp2_with fail
          go_round
          case rel => exact ⟨k + 1, by omega, by go_num⟩
          case measure => simp [intOf]; omega
        · obtain rfl : k = m := by omega
          go_wp2_with fail
          go_round
          case rel => exact ⟨j + 1, by omega, by go_num, HT2⟩
          case measure => simp [intOf]; omega
    · obtain rfl : j = n := by omega
      go_wp2_with fail
      go_ret
      exact ⟨true, rfl, fun _ => ⟨by rw [HL.out]; omega, fun x hx => HX.out x (by rw [List.take_of_length_le (by rw [HL.out]; exact Nat.le_refl _)]; exact hx)⟩, rfl⟩
end Go.Proofs.Ytlkhmpfdajefiaa.law8
