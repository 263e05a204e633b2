/- What the document's count, join and meet of sets (antipoderef9), and its list of all subsets, come to. Conditions: sets are uint16 values. -/
import Derived.Test.YtfcljdpjjabhjaaDoorRef9
import Derived.Test.YtfcljdpjjabhjaaDoorKitCf
namespace Go.Proofs.YtfcljdpjjabhjaaDoor.ref9
open Go Go.RowKit Go.Proofs.YtfcljdpjjabhjaaDoor.kit Go.Proofs.YtfcljdpjjabhjaaDoor.nums Go.Proofs.YtfcljdpjjabhjaaDoor.se Go.Proofs.YtfcljdpjjabhjaaDoor.cf
set_option linter.unusedVariables false

theorem count_any (s : Nat) (w : World) (hs : s < 65536) : Calls Tryd.prog 32 #[.int .u16 (s : Int)] w fun e w' => e = .returned (.int .i64 ((cntF s : Nat) : Int)) ∧ Below w.heap.size w w' := by
  have C := Lib.hid (list_any s w hs)
  have hl := cntF_list s
  have h9 := list_len s
  generalize listF s = l at *
  rw [← hl]
  go_enter Tryd.func32, Tryd.ntmps32
  go_wp2_with fail
  refine C.out.mono ?_
  rintro e w2 ⟨A, c, rfl, hO, hB⟩
  clear hO C
  go_wp2_with fail
  go_ret
  exact ⟨ret_i64 (by rw [hl]), hB⟩
theorem join_any (a b : Nat) (w : World) (ha : a < 65536) (hb : b < 65536) : Calls Tryd.prog 44 #[.int .u16 (a : Int), .int .u16 (b : Int)] w fun e w' => e = .returned (.int .u16 ((joinF a b : Nat) : Int)) ∧ w = w' := by
  have CA := Lib.hid (fun (j : Nat) (hj : j ≤ 9) w => has_any a (j : Int) w ha (by omega) (by omega))
  have CB := Lib.hid (fun (j : Nat) (hj : j ≤ 9) w => has_any b (j : Int) w hb (by omega) (by omega))
  have CW := Lib.hid (fun (z : Nat) (hz : z < 65536) (j : Nat) (hj : j ≤ 9) w => with_any z (j : Int) w hz (by omega) (by omega))
  go_enter Tryd.func44, Tryd.ntmps44
  go_wp2_with fail
  go_loop [5, 6] (fun sv nv => ∃ (j z : Nat), j ≤ 9 ∧ nv = .int .i64 ((j + 1 : Nat) : Int) ∧ sv = .int .u16 (z : Int) ∧ z < 65536 ∧ Hid (z = lowF (a ||| b) j)) (fun _ nv => 10 - (intOf nv).toNat)
  case atStart => exact ⟨0, 0, by omega, rfl, rfl, by omega, by show 0 = _; rw [lowF_zero]⟩
  case round =>
    obtain ⟨j, z, hj, rfl, rfl, hz, HZ⟩ := hrel
    by_cases hlt : j < 9
    · have hA := CA.out (j + 1) (by omega)
      have hB := CB.out (j + 1) (by omega)
      have hW := CW.out z hz (j + 1) (by omega)
      rw [hasF_node (by omega) (by omega)] at hA hB
      have HN : Hid (lowF (a ||| b) (j + 1) = if (a.testBit (j + 1) || b.testBit (j + 1)) = true then withF z ((j + 1 : Nat) : Int) else z) := by
        show _ = _; rw [lowF_succ _ _ hlt, Nat.testBit_or, ← HZ.out]
      have hwl := withF_lt ((j + 1 : Nat) : Int) hz
      have HA := Lib.hid hA
      have HB := Lib.hid hB
      have HW := Lib.hid hW
      generalize a.testBit (j + 1) = ta at *
      generalize b.testBit (j + 1) = tb at *
      generalize withF z ((j + 1 : Nat) : Int) = y at *
      clear hA hB hW CA CB CW HZ
      cases ta
      · cases tb
        · go_wp2_with fail
          refine (HA.out _).mono ?_
          rintro e w2 ⟨rfl, rfl⟩
          go_wp2_with fail
          refine (HB.out _).mono ?_
          rintro e w2 ⟨rfl, rfl⟩
          go_wp2_with fail
          go_round
          case rel => exact ⟨j + 1, z, by omega, by go_num, rfl, hz, by show _ = _; rw [HN.out]; rfl⟩
          case measure => simp [intOf]; omega
        · go_wp2_with fail
          refine (HA.out _).mono ?_
          rintro e w2 ⟨rfl, rfl⟩
          go_wp2_with fail
          refine (HB.out _).mono ?_
          rintro e w2 ⟨rfl, rfl⟩
          go_wp2_with fail
          refine (HW.out _).mono ?_
          rintro e w2 ⟨rfl, rfl⟩
          go_wp2_with fail
          go_round
          case rel => exact ⟨j + 1, y, by omega, by go_num, rfl, hwl, by show _ = _; rw [HN.out]; rfl⟩
          case measure => simp [intOf]; omega
      · go_wp2_with fail
        refine (HA.out _).mono ?_
        rintro e w2 ⟨rfl, rfl⟩
        go_wp2_with fail
        refine (HW.out _).mono ?_
        rintro e w2 ⟨rfl, rfl⟩
        go_wp2_with fail
        go_round
        case rel => exact ⟨j + 1, y, by omega, by go_num, rfl, hwl, by show _ = _; rw [HN.out]; rfl⟩
        case measure => simp [intOf]; omega
    · obtain rfl : j = 9 := by omega
      have HV : Hid (z = joinF a b) := by show _ = _; rw [HZ.out, lowF_all]; rfl
      go_wp2_with fail
      go_ret
      exact ⟨by rw [HV.out]; rfl, rfl⟩
theorem meet_any (a b : Nat) (w : World) (ha : a < 65536) (hb : b < 65536) : Calls Tryd.prog 21 #[.int .u16 (a : Int), .int .u16 (b : Int)] w fun e w' => e = .returned (.int .u16 ((meetF a b : Nat) : Int)) ∧ w = w' := by
  have CA := Lib.hid (fun (j : Nat) (hj : j ≤ 9) w => has_any a (j : Int) w ha (by omega) (by omega))
  have CB := Lib.hid (fun (j : Nat) (hj : j ≤ 9) w => has_any b (j : Int) w hb (by omega) (by omega))
  have CW := Lib.hid (fun (z : Nat) (hz : z < 65536) (j : Nat) (hj : j ≤ 9) w => with_any z (j : Int) w hz (by omega) (by omega))
  go_enter Tryd.func21, Tryd.ntmps21
  go_wp2_with fail
  go_loop [5, 6] (fun sv nv => ∃ (j z : Nat), j ≤ 9 ∧ nv = .int .i64 ((j + 1 : Nat) : Int) ∧ sv = .int .u16 (z : Int) ∧ z < 65536 ∧ Hid (z = lowF (a &&& b) j)) (fun _ nv => 10 - (intOf nv).toNat)
  case atStart => exact ⟨0, 0, by omega, rfl, rfl, by omega, by show 0 = _; rw [lowF_zero]⟩
  case round =>
    obtain ⟨j, z, hj, rfl, rfl, hz, HZ⟩ := hrel
    by_cases hlt : j < 9
    · have hA := CA.out (j + 1) (by omega)
      have hB := CB.out (j + 1) (by omega)
      have hW := CW.out z hz (j + 1) (by omega)
      rw [hasF_node (by omega) (by omega)] at hA hB
      have HN : Hid (lowF (a &&& b) (j + 1) = if (a.testBit (j + 1) && b.testBit (j + 1)) = true then withF z ((j + 1 : Nat) : Int) else z) := by
        show _ = _; rw [lowF_succ _ _ hlt, Nat.testBit_and, ← HZ.out]
      have hwl := withF_lt ((j + 1 : Nat) : Int) hz
      have HA := Lib.hid hA
      have HB := Lib.hid hB
      have HW := Lib.hid hW
      generalize a.testBit (j + 1) = ta at *
      generalize b.testBit (j + 1) = tb at *
      generalize withF z ((j + 1 : Nat) : Int) = y at *
      clear hA hB hW CA CB CW HZ
      cases ta
      · go_wp2_with fail
        refine (HA.out _).mono ?_
        rintro e w2 ⟨rfl, rfl⟩
        go_wp2_with fail
        go_round
        case rel => exact ⟨j + 1, z, by omega, by go_num, rfl, hz, by show _ = _; rw [HN.out]; rfl⟩
        case measure => simp [intOf]; omega
      · cases tb
        · go_wp2_with fail
          refine (HA.out _).mono ?_
          rintro e w2 ⟨rfl, rfl⟩
          go_wp2_with fail
          refine (HB.out _).mono ?_
          rintro e w2 ⟨rfl, rfl⟩
          go_wp2_with fail
          go_round
          case rel => exact ⟨j + 1, z, by omega, by go_num, rfl, hz, by show _ = _; rw [HN.out]; rfl⟩
          case measure => simp [intOf]; omega
        · go_wp2_with fail
          refine (HA.out _).mono ?_
          rintro e w2 ⟨rfl, rfl⟩
          go_wp2_with fail
          refine (HB.out _).mono ?_
          rintro e w2 ⟨rfl, rfl⟩
          go_wp2_with fail
          refine (HW.out _).mono ?_
          rintro e w2 ⟨rfl, rfl⟩
          go_wp2_with fail
          go_round
          case rel => exact ⟨j + 1, y, by omega, by go_num, rfl, hwl, by show _ = _; rw [HN.out]; rfl⟩
          case measure => simp [intOf]; omega
    · obtain rfl : j = 9 := by omega
      have HV : Hid (z = meetF a b) := by show _ = _; rw [HZ.out, lowF_all]; rfl
      go_wp2_with fail
      go_ret
      exact ⟨by rw [HV.out]; rfl, rfl⟩
theorem infoU : (Tryd.prog.info? 28).map (fun i => (i.zero, i.size, i.bytes)) = some (some (.int .u16 0), 1, 2) := rfl
/-- A slice of sets, in a block of the call's own. -/
def IsUs (W : World) (l : List Nat) (e : Ending) (w' : World) : Prop := ∃ A c, e = .returned (.slice A l.length c) ∧ OwnV 28 w' W.heap.size (.slice A l.length c) (u16s l) ∧ Below W.heap.size W w'
theorem own_u16 {W w : World} {A : Option Addr} {c k : Nat} {l : List Nat} {b : Nat} (h : OwnV 28 w b (.slice A k c) (u16s l)) (hk : l.length = k) (j : Nat) (hj : j < k) :
    ∃ p o n, A = some ⟨p, o, none⟩ ∧ p < w.heap.size ∧ l[j]? = some n ∧ w.cell? ⟨p, o + j, none⟩ = some (.int .u16 (n : Int)) := by
  have hlt := h.lt
  obtain ⟨A', c', e, _, _, hR⟩ := h.slice
  rw [u16s_length] at e hR
  rw [← hk] at e hj hlt
  injection e with e1 _ _
  subst e1
  obtain ⟨p, o, u, rfl, hu, hc⟩ := hR.at_ hj
  obtain ⟨n, hn, rfl⟩ : ∃ n, l[j]? = some n ∧ Value.int .u16 ((n : Nat) : Int) = u := by
    simp only [u16s, List.getElem?_map, Option.map_eq_some_iff] at hu
    exact hu
  have h2 := h.2
  rw [u16s_length, hk] at h2
  have hp : p < w.heap.size := by
    rcases h2 with ⟨_, hn0⟩ | ⟨g, cap, cur, e2, hb, hg, _⟩
    · omega
    · simp only [Value.slice.injEq, Option.some.injEq, Addr.mk.injEq] at e2
      obtain ⟨⟨rfl, _⟩, _⟩ := e2
      exact lt_of_block hg
  exact ⟨p, o, n, rfl, hp, hn, hc⟩
end Go.Proofs.YtfcljdpjjabhjaaDoor.ref9
