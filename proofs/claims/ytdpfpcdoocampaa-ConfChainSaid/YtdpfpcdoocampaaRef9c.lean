/- What the document's count, join and meet of sets (antipoderef9), and its list of all subsets, come to. Conditions: sets are uint16 values. -/
import Derived.Test.YtdpfpcdoocampaaRef9
import Derived.Test.YtdpfpcdoocampaaKitCf
namespace Go.Proofs.Ytdpfpcdoocampaa.ref9
open Go Go.RowKit Go.Proofs.Ytdpfpcdoocampaa.kit Go.Proofs.Ytdpfpcdoocampaa.nums Go.Proofs.Ytdpfpcdoocampaa.se Go.Proofs.Ytdpfpcdoocampaa.cf
set_option linter.unusedVariables false

theorem count_any (s : Nat) (w : World) (hs : s < 65536) : Calls Try.prog 33 #[.int .u16 (s : Int)] w fun e w' => e = .returned (.int .i64 ((cntF s : Nat) : Int)) ∧ Below w.heap.size w w' := by
  have C := Lib.hid (list_any s w hs)
  have hl := cntF_list s
  have h9 := list_len s
  generalize listF s = l at *
  rw [← hl]
  go_enter Try.func33, Try.ntmps33
  go_wp2_with fail
  refine C.out.mono ?_
  rintro e w2 ⟨A, c, rfl, hO, hB⟩
  clear hO C
  go_wp2_with fail
  go_ret
  exact ⟨ret_i64 (by rw [hl]), hB⟩
theorem join_any (a b : Nat) (w : World) (ha : a < 65536) (hb : b < 65536) : Calls Try.prog 43 #[.int .u16 (a : Int), .int .u16 (b : Int)] w fun e w' => e = .returned (.int .u16 ((joinF a b : Nat) : Int)) ∧ w = w' := by
  have CA := Lib.hid (fun (j : Nat) (hj : j ≤ 9) w => has_any a (j : Int) w ha (by omega) (by omega))
  have CB := Lib.hid (fun (j : Nat) (hj : j ≤ 9) w => has_any b (j : Int) w hb (by omega) (by omega))
  have CW := Lib.hid (fun (z : Nat) (hz : z < 65536) (j : Nat) (hj : j ≤ 9) w => with_any z (j : Int) w hz (by omega) (by omega))
  go_enter Try.func43, Try.ntmps43
  go_wp2_with fail
  go_loop [5, 6] (fun sv nv => ∃ (j z : Nat), j ≤ 9 ∧ nv = .int .i64 ((j + 1 : Nat) : Int) ∧ sv = .int .u16 (z : Int) ∧ z < 65536 ∧ Hid (z = lowF (a ||| b) j)) (fun _ nv => 10 - (intOf nv).toNat)
  case atStart => exact ⟨0, 0, by omega, rfl, rfl, by omega, by show 0 = _; rw [lowF_zero]⟩
  case round =>
    obtain ⟨j, z, hj, rfl, rfl, hz, HZ⟩ := hrel
    by_cases hlt : j < 9
    · have hA := CA.out (j + 1) (by omega)
      have hB := CB.out (j + 1) (by omega)
      have hW := CW.out z hz (j + 1) (by omega)
      rw [hasF_node (by omega) (by omega)] at hA hB
      have HN : Hid (lowF (a ||| b) (j + 1) = if (a.testBit (j + 1) || b.testBit (j + 1)) = true then withF z ((j + 1 : Nat) : Int) else z) := by
        show _ = _; rw [lowF_succ _ _ hlt, Nat.testBit_or, ← HZ.out]
      have hwl := withF_lt ((j + 1 : Nat) : Int) hz
      have HA := Lib.hid hA
      have HB := Lib.hid hB
      have HW := Lib.hid hW
      generalize a.testBit (j + 1) = ta at *
      generalize b.testBit (j + 1) = tb at *
      generalize withF z ((j + 1 : Nat) : Int) = y at *
      clear hA hB hW CA CB CW HZ
      cases ta
      · cases tb
        · go_wp2_with fail
          refine (HA.out _).mono ?_
          rintro e w2 ⟨rfl, rfl⟩
          go_wp2_with fail
          refine (HB.out _).mono ?_
          rintro e w2 ⟨rfl, rfl⟩
          go_wp2_with fail
          go_round
          case rel => exact ⟨j + 1, z, by omega, by go_num, rfl, hz, by show _ = _; rw [HN.out]; rfl⟩
          case measure => simp [intOf]; omega
        · go_wp2_with fail
          refine (HA.out _).mono ?_
          rintro e w2 ⟨rfl, rfl⟩
          go_wp2_with fail
          refine (HB.out _).mono ?_
          rintro e w2 ⟨rfl, rfl⟩
          go_wp2_with fail
          refine (HW.out _).mono ?_
          rintro e w2 ⟨rfl, rfl⟩
          go_wp2_with fail
          go_round
          case rel => exact ⟨j + 1, y, by omega, by go_num, rfl, hwl, by show _ = _; rw [HN.out]; rfl⟩
          case measure => simp [intOf]; omega
      · go_wp2_with fail
        refine (HA.out _).mono ?_
        rintro e w2 ⟨rfl, rfl⟩
        go_wp2_with fail
        refine (HW.out _).mono ?_
        rintro e w2 ⟨rfl, rfl⟩
        go_wp2_with fail
        go_round
        case rel => exact ⟨j + 1, y, by omega, by go_num, rfl, hwl, by show _ = _; rw [HN.out]; rfl⟩
        case measure => simp [intOf]; omega
    · obtain rfl : j = 9 := by omega
      have HV : Hid (z = joinF a b) := by show _ = _; rw [HZ.out, lowF_all]; rfl
      go_wp2_with fail
      go_ret
      exact ⟨by rw [HV.out]; rfl, rfl⟩
theorem meet_any (a b : Nat) (w : World) (ha : a < 65536) (hb : b < 65536) : Calls Try.prog 35 #[.int .u16 (a : Int), .int .u16 (b : Int)] w fun e w' => e = .returned (.int .u16 ((meetF a b : Nat) : Int)) ∧ w = w' := by
  have CA := Lib.hid (fun (j : Nat) (hj : j ≤ 9) w => has_any a (j : Int) w ha (by omega) (by omega))
  have CB := Lib.hid (fun (j : Nat) (hj : j ≤ 9) w => has_any b (j : Int) w hb (by omega) (by omega))
  have CW := Lib.hid (fun (z : Nat) (hz : z < 65536) (j : Nat) (hj : j ≤ 9) w => with_any z (j : Int) w hz (by omega) (by omega))
  go_enter Try.func35, Try.ntmps35
  go_wp2_with fail
  go_loop [5, 6] (fun sv nv => ∃ (j z : Nat), j ≤ 9 ∧ nv = .int .i64 ((j + 1 : Nat) : Int) ∧ sv = .int .u16 (z : Int) ∧ z < 65536 ∧ Hid (z = lowF (a &&& b) j)) (fun _ nv => 10 - (intOf nv).toNat)
  case atStart => exact ⟨0, 0, by omega, rfl, rfl, by omega, by show 0 = _; rw [lowF_zero]⟩
  case round =>
    obtain ⟨j, z, hj, rfl, rfl, hz, HZ⟩ := hrel
    by_cases hlt : j < 9
    · have hA := CA.out (j + 1) (by omega)
      have hB := CB.out (j + 1) (by omega)
      have hW := CW.out z hz (j + 1) (by omega)
      rw [hasF_node (by omega) (by omega)] at hA hB
      have HN : Hid (lowF (a &&& b) (j + 1) = if (a.testBit (j + 1) && b.testBit (j + 1)) = true then withF z ((j + 1 : Nat) : Int) else z) := by
        show _ = _; rw [lowF_succ _ _ hlt, Nat.testBit_and, ← HZ.out]
      have hwl := withF_lt ((j + 1 : Nat) : Int) hz
      have HA := Lib.hid hA
      have HB := Lib.hid hB
      have HW := Lib.hid hW
      generalize a.testBit (j + 1) = ta at *
      generalize b.testBit (j + 1) = tb at *
      generalize withF z ((j + 1 : Nat) : Int) = y at *
      clear hA hB hW CA CB CW HZ
      cases ta
      · go_wp2_with fail
        refine (HA.out _).mono ?_
        rintro e w2 ⟨rfl, rfl⟩
        go_wp2_with fail
        go_round
        case rel => exact ⟨j + 1, z, by omega, by go_num, rfl, hz, by show _ = _; rw [HN.out]; rfl⟩
        case measure => simp [intOf]; omega
      · cases tb
        · go_wp2_with fail
          refine (HA.out _).mono ?_
          rintro e w2 ⟨rfl, rfl⟩
          go_wp2_with fail
          refine (HB.out _).mono ?_
          rintro e w2 ⟨rfl, rfl⟩
          go_wp2_with fail
          go_round
          case rel => exact ⟨j + 1, z, by omega, by go_num, rfl, hz, by show _ = _; rw [HN.out]; rfl⟩
          case measure => simp [intOf]; omega
        · go_wp2_with fail
          refine (HA.out _).mono ?_
          rintro e w2 ⟨rfl, rfl⟩
          go_wp2_with fail
          refine (HB.out _).mono ?_
          rintro e w2 ⟨rfl, rfl⟩
          go_wp2_with fail
          refine (HW.out _).mono ?_
          rintro e w2 ⟨rfl, rfl⟩
          go_wp2_with fail
          go_round
          case rel => exact ⟨j + 1, y, by omega, by go_num, rfl, hwl, by show _ = _; rw [HN.out]; rfl⟩
          case measure => simp [intOf]; omega
    · obtain rfl : j = 9 := by omega
      have HV : Hid (z = meetF a b) := by show _ = _; rw [HZ.out, lowF_all]; rfl
      go_wp2_with fail
      go_ret
      exact ⟨by rw [HV.out]; rfl, rfl⟩
theorem infoU : (Try.prog.info? 23).map (fun i => (i.zero, i.size, i.bytes)) = some (some (.int .u16 0), 1, 2) := rfl
/-- A slice of sets, in a block of the call's own. -/
def IsUs (W : World) (l : List Nat) (e : Ending) (w' : World) : Prop := ∃ A c, e = .returned (.slice A l.length c) ∧ OwnV 23 w' W.heap.size (.slice A l.length c) (u16s l) ∧ Below W.heap.size W w'
theorem own_u16 {W w : World} {A : Option Addr} {c k : Nat} {l : List Nat} {b : Nat} (h : OwnV 23 w b (.slice A k c) (u16s l)) (hk : l.length = k) (j : Nat) (hj : j < k) :
    ∃ p o n, A = some ⟨p, o, none⟩ ∧ p < w.heap.size ∧ l[j]? = some n ∧ w.cell? ⟨p, o + j, none⟩ = some (.int .u16 (n : Int)) := by
  have hlt := h.lt
  obtain ⟨A', c', e, _, _, hR⟩ := h.slice
  rw [u16s_length] at e hR
  rw [← hk] at e hj hlt
  injection e with e1 _ _
  subst e1
  obtain ⟨p, o, u, rfl, hu, hc⟩ := hR.at_ hj
  obtain ⟨n, hn, rfl⟩ : ∃ n, l[j]? = some n ∧ Value.int .u16 ((n : Nat) : Int) = u := by
    simp only [u16s, List.getElem?_map, Option.map_eq_some_iff] at hu
    exact hu
  have h2 := h.2
  rw [u16s_length, hk] at h2
  have hp : p < w.heap.size := by
    rcases h2 with ⟨_, hn0⟩ | ⟨g, cap, cur, e2, hb, hg, _⟩
    · omega
    · simp only [Value.slice.injEq, Option.some.injEq, Addr.mk.injEq] at e2
      obtain ⟨⟨rfl, _⟩, _⟩ := e2
      exact lt_of_block hg
  exact ⟨p, o, n, rfl, hp, hn, hc⟩
set_option maxRecDepth 10000 in
set_option maxHeartbeats 1000000 in
theorem subsets_any (s : Nat) (w : World) (hs : s < 65536) : Calls Try.prog 61 #[.int .u16 (s : Int)] w (IsUs w (subsF s 1024)) := by
  have CY := Lib.hid (fun (j : Nat) (hj : j < 1024) w => may_any j w (by omega))
  have CM := Lib.hid (fun (j : Nat) (hj : j < 1024) w => meet_any j s w (by omega) hs)
  unfold IsUs
  obtain ⟨N, hN⟩ : ∃ N : Nat, N = 1024 := ⟨_, rfl⟩
  rw [← hN]
  go_enter Try.func61, Try.ntmps61
  go_wp2_with fail
  go_loopw [3, 4] (fun ov iv wr => ∃ (j k : Nat) (A : Option Addr) (c : Nat), j ≤ 1024 ∧ k ≤ j ∧ iv = .int .i64 (j : Int) ∧ ov = .slice A k c ∧ Hid ((subsF s j).length = k) ∧ OwnV 23 wr w.heap.size (.slice A k c) (u16s (subsF s j)) ∧ Below w.heap.size w wr) (fun _ iv _ => 1024 - (intOf iv).toNat)
  case atStart => exact ⟨0, 0, none, 0, by omega, by omega, rfl, rfl, rfl, OwnV.nil _ _ _, Below.refl _ _⟩
  case round =>
    obtain ⟨j, k, A, c, hj, hk, rfl, rfl, HL, hO, hB⟩ := hrel
    have hsz := hB.size
    by_cases hlt : j < 1024
    · have HN := Lib.hid (subs_succ s j)
      have HY := Lib.hid (CY.out j hlt)
      have HM := Lib.hid (CM.out j hlt)
      have hwr : IntKind.u16.wrap (j : Int) = j := wrap_u16_nat j (by omega)
      have hln : (u16s (subsF s j)).length = k := by rw [u16s_length]; exact HL.out
      clear CY CM
      obtain ⟨xs, hxs⟩ : ∃ xs, u16s (subsF s j) = xs := ⟨_, rfl⟩
      rw [hxs] at hO hln
      have HX := Lib.hid hxs
      clear hxs
      have HO := Lib.hid hO
      clear hO
      cases hb : mayF j
      · rw [hb] at HN HY
        go_wp2_with fail
        refine (HY.out _).mono ?_
        rintro e w2 ⟨rfl, hB2⟩
        have hB3 := hB.trans (hB2.mono hsz)
        go_wp2_with fail
        go_round
        case rel => exact ⟨j + 1, k, A, c, by omega, by omega, by go_num, rfl, by show _ = _; rw [HN.out]; exact HL.out, by rw [HN.out]; simp only [Bool.false_and, Bool.false_eq_true, if_false]; rw [HX.out]; exact HO.out.below hB2, hB3⟩
        case measure => simp [intOf]; omega
      · rw [hb] at HN HY
        have hml := meet_lt (a := j) (b := s) (by omega)
        by_cases he : meetF j s = j
        · rw [he] at HM HN
          go_wp2_with fail
          refine (HY.out _).mono ?_
          rintro e w2 ⟨rfl, hB2⟩
          have hB3 := hB.trans (hB2.mono hsz)
          have hO3 := HO.out.below hB2
          have hsz3 := hB3.size
          have hO2 := hO3.alloc (.cells #[.int .u16 (j : Int)] 23)
          have hB4 := hB3.alloc hsz3 (.cells #[.int .u16 (j : Int)] 23)
          have HB3 := Lib.hid hB3
          have HB4 := Lib.hid hB4
          clear hO3 hB3 hB2 hB4
          go_wp2_with fail
          refine (HM.out _).mono ?_
          rintro e w3 ⟨rfl, rfl⟩
          go_wp2_with (at_builtin; with_reducible refine wpList_append_v rfl (.tmp 21) (.tmp 23) 57 rfl w.heap.size 23 (.int .u16 0) 2 Try.underlying57 infoU rfl A k c xs hln rfl hO2 _ _ 1 1 [_] rfl (RdV.one _ _ _) ?k1 ?k2 ?k3 ?k4 ?_)
          case k1 => intro u hu; rw [List.mem_singleton] at hu; subst hu; rfl
          case k2 => omega
          case k3 => unfold maxLen; omega
          case k4 => simp; omega
          intro A3 c3 w3 hO3 hB3 _
          have hB5 := HB4.out.trans hB3
          clear hB3 hO2
          go_wp2_with fail
          go_round
          case rel => exact ⟨j + 1, k + 1, A3, c3, by omega, by omega, by go_num, rfl, by show _ = _; rw [HN.out]; simp only [Bool.true_and, decide_true, if_true]; rw [List.length_append, HL.out]; rfl, by rw [HN.out]; simp only [Bool.true_and, decide_true, if_true]; rw [u16s_append, HX.out]; exact hO3, hB5⟩
          case measure => simp [intOf]; omega
        · rw [decide_eq_false he] at HN
          generalize meetF j s = z at *
          go_wp2_with fail
          refine (HY.out _).mono ?_
          rintro e w2 ⟨rfl, hB2⟩
          have hB3 := hB.trans (hB2.mono hsz)
          go_wp2_with fail
          refine (HM.out _).mono ?_
          rintro e w3 ⟨rfl, rfl⟩
          go_wp2_with fail
          go_round
          case rel => exact ⟨j + 1, k, A, c, by omega, by omega, by go_num, rfl, by show _ = _; rw [HN.out]; exact HL.out, by rw [HN.out]; simp only [Bool.true_and, Bool.false_eq_true, if_false]; rw [HX.out]; exact HO.out.below hB2, hB3⟩
          case measure => simp [intOf]; omega
    · obtain rfl : j = N := by omega
      go_wp2_with fail
      go_ret
      rw [HL.out]
      exact ⟨A, c, rfl, hO, hB⟩
end Go.Proofs.Ytdpfpcdoocampaa.ref9
