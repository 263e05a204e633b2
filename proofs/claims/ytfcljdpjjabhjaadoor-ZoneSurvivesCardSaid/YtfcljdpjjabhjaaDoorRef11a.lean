/- What the document's answer to zone (antipoderef11) comes to: which lists may be, the next node of a region. Conditions: slices read as lists of ints; sets are uint16 values. -/
import Derived.Test.YtfcljdpjjabhjaaDoorRef9
import Derived.Test.YtfcljdpjjabhjaaDoorKitZn
import Derived.Test.YtfcljdpjjabhjaaDoorZnR
namespace Go.Proofs.YtfcljdpjjabhjaaDoor.ref11
open Go Go.RowKit Go.Proofs.YtfcljdpjjabhjaaDoor.kit Go.Proofs.YtfcljdpjjabhjaaDoor.nums Go.Proofs.YtfcljdpjjabhjaaDoor.se Go.Proofs.YtfcljdpjjabhjaaDoor.cf Go.Proofs.YtfcljdpjjabhjaaDoor.zn Go.Proofs.YtfcljdpjjabhjaaDoor.ref9
set_option linter.unusedVariables false

theorem rd_len {w : World} {B n : Nat} {A : Option Addr} {l : List Int} (h : RdV w B A n (i64s l)) : l.length = n := by
  have := h.1; rwa [i64s_length] at this
theorem rd_get {w : World} {B n : Nat} {A : Option Addr} {l : List Int} (h : RdV w B A n (i64s l)) (i : Nat) (hi : i < n) : ∃ b o x, A = some ⟨b, o, none⟩ ∧ b < B ∧ l[i]? = some x ∧ w.cell? ⟨b, o + i, none⟩ = some (.int .i64 x) := by
  obtain ⟨hl, hp⟩ := h
  obtain ⟨b, o, rfl, hb, hc⟩ := hp (by omega)
  rw [i64s_length] at hl
  refine ⟨b, o, l[i]'(by omega), rfl, hb, List.getElem?_eq_getElem _, ?_⟩
  have h3 := hc i hi
  rw [h3]
  simp [i64s, List.getElem?_map, List.getElem?_eq_getElem (show i < l.length by omega)]
set_option maxHeartbeats 1000000 in
theorem mayRegions_any (A : Option Addr) (n c : Nat) (l : List Int) (w : World) (B : Nat) (hR : RdV w B A n (i64s l)) (hn : n ≤ 1099511627776) :
    Calls Tryd.prog 30 #[.slice A n c] w fun e w' => e = .returned (.bool (mayR l)) ∧ w = w' := by
  have hl := rd_len hR
  have HA := Lib.hid (fun i hi => rd_get hR i hi)
  have HM : Hid (mayR l = (decide (1 ≤ n) && decide (n ≤ 9) && withinB l 3)) := by show _ = _; rw [← hl]; rfl
  clear hR
  go_enter Tryd.func30, Tryd.ntmps30
  go_wp2_with fail
  go_loop [3] (fun iv => ∃ i : Nat, i ≤ n ∧ iv = .int .i64 (i : Int) ∧ Hid (∀ y ∈ l.take i, 0 ≤ y ∧ y ≤ 3)) (fun iv => n - (intOf iv).toNat)
  case atStart => exact ⟨0, by omega, rfl, fun y hy => by simp at hy⟩
  case round =>
    obtain ⟨i, hi, rfl, HI⟩ := hrel
    by_cases hlt : i < n
    · obtain ⟨b, o, x, rfl, hb, hx, hc⟩ := HA.out i hlt
      have HX := Lib.hid hx
      clear hx
      by_cases g1 : x < 0
      · go_wp2_with fail
        go_ret
        exact ⟨ret_bool (by rw [HM.out, within_bad HX.out (by omega)]; simp), rfl⟩
      · by_cases g2 : 4 ≤ x
        · go_wp2_with fail
          go_ret
          exact ⟨ret_bool (by rw [HM.out, within_bad HX.out (by omega)]; simp), rfl⟩
        · go_wp2_with fail
          go_round
          case rel => exact ⟨i + 1, by omega, by go_num, within_more HI.out HX.out ⟨by omega, by omega⟩⟩
          case measure => simp [intOf]; omega
    · obtain rfl : i = n := by omega
      have HG := Lib.hid (within_good HI.out hl)
      clear HI
      by_cases g1 : 1 ≤ i
      · by_cases g2 : i ≤ 9
        · go_wp2_with fail
          go_ret
          exact ⟨ret_bool (by rw [HM.out, HG.out, decide_eq_true g1, decide_eq_true g2] <;> first | rfl | (simp; done) | (simp; omega)), rfl⟩
        · go_wp2_with fail
          go_ret
          exact ⟨ret_bool (by rw [HM.out, HG.out, decide_eq_false g2] <;> first | rfl | (simp; done) | (simp; omega)), rfl⟩
      · go_wp2_with fail
        go_ret
        exact ⟨ret_bool (by rw [HM.out, HG.out, decide_eq_false g1] <;> first | rfl | (simp; done) | (simp; omega)), rfl⟩
theorem of_any (A : Option Addr) (n c : Nat) (l : List Int) (j : Nat) (w : World) (B : Nat) (hR : RdV w B A n (i64s l)) (hn : n ≤ 1099511627776) (hj : j ≤ 1099511627776) :
    Calls Tryd.prog 53 #[.slice A n c, .int .i64 ((j + 1 : Nat) : Int)] w fun e w' => e = .returned (.int .i64 (nodeLd l (j + 1))) ∧ w = w' := by
  have hl := rd_len hR
  have e1 : ((j + 1 : Nat) : Int) - 1 = (j : Int) := by omega
  have e2 : nodeLd l (j + 1) = l.getD j 0 := rfl
  rw [e2]
  by_cases h : j < n
  · obtain ⟨b, o, x, rfl, _, hx, hc⟩ := rd_get hR j h
    have e3 : l.getD j 0 = x := by rw [List.getD_eq_getElem?_getD, hx]; rfl
    rw [e3]
    clear hR hx e3 e2
    go_enter Tryd.func53, Tryd.ntmps53
    go_wp2_with fail
    go_ret
    exact ⟨rfl, rfl⟩
  · have e3 : l.getD j 0 = 0 := by rw [List.getD_eq_getElem?_getD, List.getElem?_eq_none (by omega)]; rfl
    rw [e3]
    clear hR e3 e2
    go_enter Tryd.func53, Tryd.ntmps53
    go_wp2_with fail
    go_ret
    exact ⟨rfl, rfl⟩
set_option maxHeartbeats 1000000 in
theorem best_any (A : Option Addr) (n c : Nat) (rs : List Int) (r : Nat) (u : Nat) (A2 : Option Addr) (m c2 : Nat) (ld : List Int) (w : World) (B : Nat) (hR : RdV w B A n (i64s rs)) (h9 : n ≤ 9) (hr : r < 4) (hu : u < 65536)
    (hL : RdV w B A2 m (i64s ld)) (hm : m ≤ 1099511627776) :
    Calls Tryd.prog 31 #[.slice A n c, .int .i64 (r : Int), .int .u16 (u : Int), .slice A2 m c2] w fun e w' => e = .returned (.int .i64 ((pickF (anF (regF rs (r : Int)) u) ld : Nat) : Int)) ∧ w = w' := by
  have hl := rd_len hR
  have h9' : rs.length ≤ 9 := by omega
  have HA := Lib.hid (fun i hi => rd_get hR i hi)
  have CO := Lib.hid (fun (j : Nat) (hj : j ≤ 9) => of_any A2 m c2 ld j w B hL hm (by omega))
  have CH := Lib.hid (fun (j : Nat) (hj : j ≤ 9) => has_any u ((j + 1 : Nat) : Int) w hu (by omega) (by omega))
  have HB := Lib.hid (fun (j : Nat) (x : Int) (hx : rs[j]? = some x) => free_bit (r := (r : Int)) (u := u) h9' hx)
  have HE : Hid (pickTo (anF (regF rs (r : Int)) u) ld n = pickF (anF (regF rs (r : Int)) u) ld) := by show _ = _; rw [← hl]; exact free_end h9'
  clear hR hL
  generalize anF (regF rs (r : Int)) u = s at *
  have HP := Lib.hid (fun (j : Nat) => pick_le s ld j)
  have HI := Lib.hid (fun (j : Nat) => pick_in (s := s) (ld := ld) (j := j))
  have HO := Lib.hid (fun (j : Nat) => pick_out (s := s) (ld := ld) (j := j))
  go_enter Tryd.func31, Tryd.ntmps31
  go_wp2_with fail
  go_loop [9, 10] (fun nv iv => ∃ j p : Nat, j ≤ n ∧ iv = .int .i64 ((j + 1 : Nat) : Int) ∧ nv = .int .i64 (p : Int) ∧ Hid (pickTo s ld j = p)) (fun _ iv => 10 - (intOf iv).toNat)
  case atStart => exact ⟨0, 0, by omega, rfl, rfl, rfl⟩
  case round =>
    obtain ⟨j, p, hj, rfl, rfl, HJ⟩ := hrel
    have hp9 : p ≤ j := by have := HP.out j; rw [HJ.out] at this; exact this
    by_cases hlt : j < n
    · obtain ⟨b, o, x, rfl, hb, hx, hc⟩ := HA.out j hlt
      have e1 : ((j + 1 : Nat) : Int) - 1 = (j : Int) := by omega
      have hbit := HB.out j x hx
      have hI := HI.out j
      have hO := HO.out j
      rw [HJ.out] at hI hO
      have cH := Lib.hid (CH.out j (by omega))
      have cO := Lib.hid (CO.out j (by omega))
      have CO' := CO
      clear hx HA CH HI HO HB HP CO
      by_cases g1 : x = (r : Int)
      · have g1' : (x == (r : Int)) = true := by rw [beq_iff_eq]; exact g1
        rw [decide_eq_true g1, Bool.true_and] at hbit
        cases hh : hasF u ((j + 1 : Nat) : Int)
        · rw [hh] at cH hbit
          by_cases g2 : p = 0
          · have g2' : ((p : Int) == 0) = true := by rw [beq_iff_eq]; omega
            have HN := Lib.hid (hI hbit (.inl g2))
            clear hI hO hbit hh cO CO' g1
            go_wp2_with fail
            refine cH.out.mono ?_
            rintro e w2 ⟨rfl, rfl⟩
            go_wp2_with fail
            go_round
            case rel => exact ⟨j + 1, j + 1, by omega, by go_num, rfl, HN.out⟩
            case measure => simp [intOf]; omega
          · have g2' : ((p : Int) == 0) = false := by rw [beq_eq_false_iff_ne]; omega
            obtain ⟨i, rfl⟩ : ∃ i, p = i + 1 := ⟨p - 1, by omega⟩
            have cP := Lib.hid (CO'.out i (by omega))
            by_cases g3 : nodeLd ld (j + 1) < nodeLd ld (i + 1)
            · have HN := Lib.hid (hI hbit (.inr g3))
              generalize nodeLd ld (j + 1) = l1 at *
              generalize nodeLd ld (i + 1) = l2 at *
              clear hI hO hbit hh CO' g1
              go_wp2_with fail
              refine cH.out.mono ?_
              rintro e w2 ⟨rfl, rfl⟩
              go_wp2_with fail
              refine cO.out.mono ?_
              rintro e w2 ⟨rfl, rfl⟩
              go_wp2_with fail
              refine cP.out.mono ?_
              rintro e w2 ⟨rfl, rfl⟩
              go_wp2_with fail
              go_round
              case rel => exact ⟨j + 1, j + 1, by omega, by go_num, rfl, HN.out⟩
              case measure => simp [intOf]; omega
            · have HN := Lib.hid (hO (.inr (fun h => h.elim (fun h => g2 h) g3)))
              generalize nodeLd ld (j + 1) = l1 at *
              generalize nodeLd ld (i + 1) = l2 at *
              have g5 : decide (l1 < l2) = false := decide_eq_false g3
              clear hI hO hbit hh CO' g1
              go_wp2_with fail
              refine cH.out.mono ?_
              rintro e w2 ⟨rfl, rfl⟩
              go_wp2_with fail
              refine cO.out.mono ?_
              rintro e w2 ⟨rfl, rfl⟩
              go_wp2_with fail
              refine cP.out.mono ?_
              rintro e w2 ⟨rfl, rfl⟩
              go_wp2_with fail
              go_round
              case rel => exact ⟨j + 1, i + 1, by omega, by go_num, by go_num, HN.out⟩
              case measure => simp [intOf]; omega
        · rw [hh] at cH hbit
          have HN := Lib.hid (hO (.inl hbit))
          clear hI hO hbit hh cO CO' g1
          go_wp2_with fail
          refine cH.out.mono ?_
          rintro e w2 ⟨rfl, rfl⟩
          go_wp2_with fail
          go_round
          case rel => exact ⟨j + 1, p, by omega, by go_num, rfl, HN.out⟩
          case measure => simp [intOf]; omega
      · have g1' : (x == (r : Int)) = false := by rw [beq_eq_false_iff_ne]; exact g1
        rw [decide_eq_false g1, Bool.false_and] at hbit
        have HN := Lib.hid (hO (.inl hbit))
        clear hI hO hbit cO CO' cH g1
        go_wp2_with fail
        go_round
        case rel => exact ⟨j + 1, p, by omega, by go_num, rfl, HN.out⟩
        case measure => simp [intOf]; omega
    · obtain rfl : j = n := by omega
      go_wp2_with fail
      go_ret
      exact ⟨by rw [← HE.out, HJ.out]; rfl, rfl⟩
end Go.Proofs.YtfcljdpjjabhjaaDoor.ref11
