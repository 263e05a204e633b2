/- What bits.Get does with any slice of bytes, any place and any count: the document's number, or the error. Condition: the slice is at most 2^40 long. -/
import Derived.Test.YtodpaeaeigjmdaaDoorProg
import Derived.Test.YtodpaeaeigjmdaaDoorKit
import Derived.Test.YtodpaeaeigjmdaaDoorNums
import Derived.Outline
namespace Go.Proofs.YtodpaeaeigjmdaaDoor.bytes
open Go.RowKit Go.Proofs.YtodpaeaeigjmdaaDoor.kit Go.Proofs.YtodpaeaeigjmdaaDoor.nums
set_option linter.unusedVariables false

theorem get_bad (s : Value) (p k : Int) (w : World) (h : k < 1 ∨ 8 < k ∨ p < 0) :
    Calls Tryd.prog 66 #[s, .int .i64 p, .int .i64 k] w fun e w' => e = .returned (.tuple #[.int .u64 0, .int .i64 1]) ∧ w = w' := by
  by_cases hk : k < 1
  · go_enter Tryd.func66, Tryd.ntmps66
    go_wp2_with fail
    go_ret2
    exact ⟨rfl, rfl⟩
  · by_cases hk2 : 8 < k
    · go_enter Tryd.func66, Tryd.ntmps66
      go_wp2_with fail
      go_ret2
      exact ⟨rfl, rfl⟩
    · have hp : p < 0 := by omega
      go_enter Tryd.func66, Tryd.ntmps66
      go_wp2_with fail
      go_ret2
      exact ⟨rfl, rfl⟩

theorem get_short (A : Option Addr) (n c : Nat) (p k : Int) (w : World) (hk0 : 1 ≤ k) (hk1 : k ≤ 8) (hp0 : 0 ≤ p) (hb : n ≤ 1099511627776) (hp : (n : Int) - k < p) :
    Calls Tryd.prog 66 #[.slice A n c, .int .i64 p, .int .i64 k] w fun e w' => e = .returned (.tuple #[.int .u64 0, .int .i64 2]) ∧ w = w' := by
  go_enter Tryd.func66, Tryd.ntmps66
  go_wp2_with fail
  go_ret2
  exact ⟨rfl, rfl⟩

set_option maxHeartbeats 400000 in
theorem get_ok (A : Option Addr) (n c : Nat) (l : List Int) (p k : Nat) (w : World) (B : Nat) (hR : Rd w B A n l) (hY : Byt l) (hb : n ≤ 1099511627776) (hc : n ≤ c) (hk0 : 1 ≤ k) (hk1 : k ≤ 8) (hp : p + k ≤ n) :
    Calls Tryd.prog 66 #[.slice A n c, .int .i64 p, .int .i64 k] w fun e w' => e = .returned (.tuple #[.int .u64 (beV ((l.drop p).take k)), .int .i64 0]) ∧ w = w' := by
  obtain ⟨b, o, rfl, hbB, hcell⟩ := hR.2 (by omega)
  have HC := Lib.hid hcell
  have HL := Lib.hid hR.1
  clear hcell hR
  go_enter Tryd.func66, Tryd.ntmps66
  go_wp2_with fail
  go_loop [8, 34] (fun v i => ∃ j : Nat, j ≤ k ∧ i = .int .i64 j ∧ v = .int .u64 (beV ((l.drop p).take j))) (fun _ i => k - (intOf i).toNat)
  case atStart => exact ⟨0, Nat.zero_le _, rfl, rfl⟩
  case round =>
    obtain ⟨j, hj, rfl, rfl⟩ := hrel
    by_cases hlt : j < k
    · have hx := HC.out (p + j) (by omega)
      rw [← Nat.add_assoc] at hx
      have hx0 := (hY.at_ (p + j)).1
      have hx1 := (hY.at_ (p + j)).2
      have hlen : ((l.drop p).take j).length ≤ 7 := Nat.le_trans (List.length_take_le _ _) (by omega)
      have hv0 := (beV_lt _ ((hY.drop p).take j) hlen).1
      have hv1 := (beV_lt _ ((hY.drop p).take j) hlen).2
      have hs : beV ((l.drop p).take (j + 1)) = beV ((l.drop p).take j) * 256 + l.getD (p + j) 0 := by
        have hL := HL.out
        rw [List.take_succ_eq_append_getElem (by rw [List.length_drop]; omega), beV_snoc]
        simp [List.getD, show p + j < l.length by omega]
      have HS := Lib.hid hs
      have hor := Lib.hid (beV_or _ _ hv0 hv1 hx0 hx1)
      clear hs hlen
      generalize beV ((l.drop p).take j) = v at *
      generalize l.getD (p + j) 0 = x at *
      go_wp2_with fail
      go_round
      case rel => exact ⟨j + 1, by omega, by go_num, by rw [HS.out, ← hor.out]⟩
      case measure => simp [intOf]; omega
    · obtain rfl : j = k := by omega
      go_wp2_with fail
      go_ret2
      exact ⟨rfl, rfl⟩
end Go.Proofs.YtodpaeaeigjmdaaDoor.bytes
