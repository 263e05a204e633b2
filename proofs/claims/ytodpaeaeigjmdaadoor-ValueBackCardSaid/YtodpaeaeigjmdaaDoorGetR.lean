/- What the document's Get does with any slice of bytes, any place and any count, and that bits.Get does the same. Condition: the slice is at most 2^40 long. -/
import Derived.Test.YtodpaeaeigjmdaaDoorGet
namespace Go.Proofs.YtodpaeaeigjmdaaDoor.bytes
open Go.RowKit Go.Proofs.YtodpaeaeigjmdaaDoor.kit Go.Proofs.YtodpaeaeigjmdaaDoor.nums
set_option linter.unusedVariables false

theorem rget_bad (s : Value) (p k : Int) (w : World) (h : k < 1 ∨ 8 < k ∨ p < 0) :
    Calls Tryd.prog 43 #[s, .int .i64 p, .int .i64 k] w fun e w' => e = .returned (.tuple #[.int .u64 0, .int .i64 1]) ∧ w = w' := by
  by_cases hk : k < 1
  · go_enter Tryd.func43, Tryd.ntmps43
    go_wp2_with fail
    go_ret2
    exact ⟨rfl, rfl⟩
  · by_cases hk2 : 8 < k
    · go_enter Tryd.func43, Tryd.ntmps43
      go_wp2_with fail
      go_ret2
      exact ⟨rfl, rfl⟩
    · have hp : p < 0 := by omega
      go_enter Tryd.func43, Tryd.ntmps43
      go_wp2_with fail
      go_ret2
      exact ⟨rfl, rfl⟩

theorem rget_short (A : Option Addr) (n c : Nat) (p k : Int) (w : World) (hk0 : 1 ≤ k) (hk1 : k ≤ 8) (hp0 : 0 ≤ p) (hpm : p ≤ 9223372036854775807) (hb : n ≤ 1099511627776) (hp : (n : Int) - k < p) :
    Calls Tryd.prog 43 #[.slice A n c, .int .i64 p, .int .i64 k] w fun e w' => e = .returned (.tuple #[.int .u64 0, .int .i64 2]) ∧ w = w' := by
  by_cases h : (n : Int) < p
  · go_enter Tryd.func43, Tryd.ntmps43
    go_wp2_with fail
    go_ret2
    exact ⟨rfl, rfl⟩
  · have h2 : (n : Int) - p < k := by omega
    go_enter Tryd.func43, Tryd.ntmps43
    go_wp2_with fail
    go_ret2
    exact ⟨rfl, rfl⟩

set_option maxHeartbeats 400000 in
theorem rget_ok (A : Option Addr) (n c : Nat) (l : List Int) (p k : Nat) (w : World) (B : Nat) (hR : Rd w B A n l) (hY : Byt l) (hb : n ≤ 1099511627776) (hk0 : 1 ≤ k) (hk1 : k ≤ 8) (hp : p + k ≤ n) :
    Calls Tryd.prog 43 #[.slice A n c, .int .i64 p, .int .i64 k] w fun e w' => e = .returned (.tuple #[.int .u64 (beV ((l.drop p).take k)), .int .i64 0]) ∧ w = w' := by
  obtain ⟨b, o, rfl, hbB, hcell⟩ := hR.2 (by omega)
  have HC := Lib.hid hcell
  have HL := Lib.hid hR.1
  clear hcell hR
  go_enter Tryd.func43, Tryd.ntmps43
  go_wp2_with fail
  go_loop [8, 9] (fun v i => ∃ j : Nat, j ≤ k ∧ i = .int .i64 j ∧ v = .int .u64 (beV ((l.drop p).take j))) (fun _ i => k - (intOf i).toNat)
  case atStart => exact ⟨0, Nat.zero_le _, rfl, rfl⟩
  case round =>
    obtain ⟨j, hj, rfl, rfl⟩ := hrel
    by_cases hlt : j < k
    · have hx := HC.out (p + j) (by omega)
      have hx0 := (hY.at_ (p + j)).1
      have hx1 := (hY.at_ (p + j)).2
      have hlen : ((l.drop p).take j).length ≤ 7 := Nat.le_trans (List.length_take_le _ _) (by omega)
      have hv0 := (beV_lt _ ((hY.drop p).take j) hlen).1
      have hv1 := (beV_lt _ ((hY.drop p).take j) hlen).2
      have hs : beV ((l.drop p).take (j + 1)) = beV ((l.drop p).take j) * 256 + l.getD (p + j) 0 := by
        have hL := HL.out
        rw [List.take_succ_eq_append_getElem (by rw [List.length_drop]; omega), beV_snoc]
        simp [List.getD, show p + j < l.length by omega]
      have HS := Lib.hid hs
      clear hs hlen
      generalize beV ((l.drop p).take j) = v at *
      generalize l.getD (p + j) 0 = x at *
      go_wp2_with fail
      go_round
      case rel => exact ⟨j + 1, by omega, by go_num, by rw [HS.out]⟩
      case measure => simp [intOf]; omega
    · obtain rfl : j = k := by omega
      go_wp2_with fail
      go_ret2
      exact ⟨rfl, rfl⟩

/-- What Get answers: the number and the error. -/
def getE (l : List Int) (p k : Int) : Int := if k < 1 ∨ 8 < k ∨ p < 0 then 1 else if (l.length : Int) - k < p then 2 else 0
def getV (l : List Int) (p k : Int) : Int := if getE l p k = 0 then beV ((l.drop p.toNat).take k.toNat) else 0
theorem get_both (A A' : Option Addr) (n c c' : Nat) (l : List Int) (p k : Int) (w w' : World) (B B' : Nat) (hR : Rd w B A n l) (hR' : Rd w' B' A' n l) (hY : Byt l) (hb : n ≤ 1099511627776) (hc : n ≤ c) (hpm : p ≤ 9223372036854775807) :
    (Calls Tryd.prog 66 #[.slice A n c, .int .i64 p, .int .i64 k] w fun e w2 => e = .returned (.tuple #[.int .u64 (getV l p k), .int .i64 (getE l p k)]) ∧ w = w2) ∧
    (Calls Tryd.prog 43 #[.slice A' n c', .int .i64 p, .int .i64 k] w' fun e w2 => e = .returned (.tuple #[.int .u64 (getV l p k), .int .i64 (getE l p k)]) ∧ w' = w2) := by
  by_cases h1 : k < 1 ∨ 8 < k ∨ p < 0
  · have e1 : getE l p k = 1 := if_pos h1
    have e2 : getV l p k = 0 := by unfold getV; rw [e1]; rfl
    rw [e1, e2]
    exact ⟨get_bad _ p k w h1, rget_bad _ p k w' h1⟩
  · by_cases h2 : (n : Int) - k < p
    · have e1 : getE l p k = 2 := by unfold getE; rw [if_neg h1, if_pos (by rw [hR.1]; exact h2)]
      have e2 : getV l p k = 0 := by unfold getV; rw [e1]; rfl
      rw [e1, e2]
      exact ⟨get_short A n c p k w (by omega) (by omega) (by omega) hb h2, rget_short A' n c' p k w' (by omega) (by omega) (by omega) hpm hb h2⟩
    · obtain ⟨p, rfl⟩ := Int.eq_ofNat_of_zero_le (show 0 ≤ p by omega)
      obtain ⟨k, rfl⟩ := Int.eq_ofNat_of_zero_le (show 0 ≤ k by omega)
      have e1 : getE l p k = 0 := by unfold getE; rw [if_neg h1, if_neg (by rw [hR.1]; exact h2)]
      have e2 : getV l p k = beV ((l.drop p).take k) := by unfold getV; rw [e1]; rfl
      rw [e1, e2]
      exact ⟨get_ok A n c l p k w B hR hY hb hc (by omega) (by omega) (by omega), rget_ok A' n c' l p k w' B' hR' hY hb (by omega) (by omega) (by omega)⟩
end Go.Proofs.YtodpaeaeigjmdaaDoor.bytes
