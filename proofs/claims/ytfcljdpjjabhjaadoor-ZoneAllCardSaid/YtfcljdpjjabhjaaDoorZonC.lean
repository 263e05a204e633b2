/- The landed zone's checks of lists and numbers, its quorums, and its table of regions. Conditions: slices read as lists of ints. -/
import Derived.Test.YtfcljdpjjabhjaaDoorZonA
import Derived.Test.YtfcljdpjjabhjaaDoorKitT
import Derived.Test.YtfcljdpjjabhjaaDoorKitCf
import Derived.Test.YtfcljdpjjabhjaaDoorSetsI
import Derived.Test.YtfcljdpjjabhjaaDoorRef9c
namespace Go.Proofs.YtfcljdpjjabhjaaDoor.zoni
open Go Go.RowKit Go.Proofs.YtfcljdpjjabhjaaDoor.kit Go.Proofs.YtfcljdpjjabhjaaDoor.nums Go.Proofs.YtfcljdpjjabhjaaDoor.se Go.Proofs.YtfcljdpjjabhjaaDoor.cf Go.Proofs.YtfcljdpjjabhjaaDoor.zn Go.Proofs.YtfcljdpjjabhjaaDoor.ref9
set_option linter.unusedVariables false

def IntL (l : List Int) : Prop := ∀ z ∈ l, -9223372036854775808 ≤ z ∧ z ≤ 9223372036854775807
theorem rd_get {w : World} {B n : Nat} {A : Option Addr} {l : List Int} (h : RdV w B A n (i64s l)) (i : Nat) (hi : i < n) : ∃ b o x, A = some ⟨b, o, none⟩ ∧ b < B ∧ l[i]? = some x ∧ w.cell? ⟨b, o + i, none⟩ = some (.int .i64 x) := by
  obtain ⟨hl, hp⟩ := h
  obtain ⟨b, o, rfl, hb, hc⟩ := hp (by omega)
  rw [i64s_length] at hl
  refine ⟨b, o, l[i]'(by omega), rfl, hb, List.getElem?_eq_getElem _, ?_⟩
  have h3 := hc i hi
  rw [h3]
  simp [i64s, List.getElem?_map, List.getElem?_eq_getElem (show i < l.length by omega)]
set_option maxHeartbeats 1000000 in
theorem within_any (A : Option Addr) (n c : Nat) (l : List Int) (m : Int) (w : World) (B : Nat) (hR : RdV w B A n (i64s l)) (hn : n ≤ 1099511627776) :
    Calls Tryd.prog 47 #[.slice A n c, .int .i64 m] w fun e w' => e = .returned (.bool (withinB l m)) ∧ w = w' := by
  have hl := rd_len hR
  have HA := Lib.hid (fun i hi => rd_get hR i hi)
  clear hR
  go_enter Tryd.func47, Tryd.ntmps47
  go_wp2_with fail
  go_loop [9] (fun iv => ∃ i : Nat, i ≤ n ∧ iv = .int .i64 (i : Int) ∧ Hid (∀ y ∈ l.take i, 0 ≤ y ∧ y ≤ m)) (fun iv => n - (intOf iv).toNat)
  case atStart => exact ⟨0, by omega, rfl, fun y hy => by simp at hy⟩
  case round =>
    obtain ⟨i, hi, rfl, HI⟩ := hrel
    by_cases hlt : i < n
    · obtain ⟨b, o, x, rfl, hb, hx, hc⟩ := HA.out i hlt
      have HX := Lib.hid hx
      clear hx
      by_cases g1 : x < 0
      · go_wp2_with fail
        go_ret
        exact ⟨ret_bool (by rw [within_bad HX.out (by omega)]), rfl⟩
      · by_cases g2 : m < x
        · go_wp2_with fail
          go_ret
          exact ⟨ret_bool (by rw [within_bad HX.out (by omega)]), rfl⟩
        · go_wp2_with fail
          go_round
          case rel => exact ⟨i + 1, by omega, by go_num, within_more HI.out HX.out ⟨by omega, by omega⟩⟩
          case measure => simp [intOf]; omega
    · obtain rfl : i = n := by omega
      go_wp2_with fail
      go_ret
      exact ⟨ret_bool (by rw [within_good HI.out hl]), rfl⟩
theorem mayRegions_any (A : Option Addr) (n c : Nat) (l : List Int) (w : World) (B : Nat) (hR : RdV w B A n (i64s l)) (hn : n ≤ 1099511627776) :
    Calls Tryd.prog 24 #[.slice A n c] w fun e w' => e = .returned (.bool (mayR l)) ∧ w = w' := by
  have CI := Lib.hid (within_any A n c l 3 w B hR hn)
  have hl := rd_len hR
  unfold mayR
  rw [hl]
  generalize withinB l 3 = b at *
  clear hR
  by_cases g1 : 1 ≤ n
  · by_cases g2 : n ≤ 9
    · go_enter Tryd.func24, Tryd.ntmps24
      go_wp2_with fail
      refine CI.out.mono ?_
      rintro e w2 ⟨rfl, rfl⟩
      go_wp2_with fail
      go_ret
      exact ⟨ret_bool (by simp <;> omega), rfl⟩
    · go_enter Tryd.func24, Tryd.ntmps24
      go_wp2_with fail
      go_ret
      exact ⟨ret_bool (by simp <;> omega), rfl⟩
  · go_enter Tryd.func24, Tryd.ntmps24
    go_wp2_with fail
    go_ret
    exact ⟨ret_bool (by simp <;> omega), rfl⟩
theorem mayCounts_any (A : Option Addr) (n c : Nat) (l : List Int) (w : World) (B : Nat) (hR : RdV w B A n (i64s l)) (hn : n ≤ 1099511627776) :
    Calls Tryd.prog 36 #[.slice A n c] w fun e w' => e = .returned (.bool (mayL l)) ∧ w = w' := by
  have CI := Lib.hid (within_any A n c l 9 w B hR hn)
  have hl := rd_len hR
  unfold mayL
  rw [hl]
  generalize withinB l 9 = b at *
  clear hR
  by_cases g1 : n ≤ 4
  · go_enter Tryd.func36, Tryd.ntmps36
    go_wp2_with fail
    refine CI.out.mono ?_
    rintro e w2 ⟨rfl, rfl⟩
    go_wp2_with fail
    go_ret
    exact ⟨ret_bool (by simp <;> omega), rfl⟩
  · go_enter Tryd.func36, Tryd.ntmps36
    go_wp2_with fail
    go_ret
    exact ⟨ret_bool (by simp <;> omega), rfl⟩
theorem mayCount_any (q : Int) (w : World) : Calls Tryd.prog 37 #[.int .i64 q] w fun e w' => e = .returned (.bool (mayN q)) ∧ w = w' := by
  unfold mayN
  by_cases h1 : 0 ≤ q
  · by_cases h2 : q ≤ 9
    · go_enter Tryd.func37, Tryd.ntmps37
      go_wp2_with fail
      go_ret
      exact ⟨ret_bool (by simp <;> omega), rfl⟩
    · go_enter Tryd.func37, Tryd.ntmps37
      go_wp2_with fail
      go_ret
      exact ⟨ret_bool (by simp <;> omega), rfl⟩
  · go_enter Tryd.func37, Tryd.ntmps37
    go_wp2_with fail
    go_ret
    exact ⟨ret_bool (by simp <;> omega), rfl⟩
theorem maySurvive_any (q : Int) (w : World) : Calls Tryd.prog 38 #[.int .i64 q] w fun e w' => e = .returned (.bool (mayS q)) ∧ w = w' := by
  unfold mayS
  by_cases h1 : 0 ≤ q
  · by_cases h2 : q ≤ 2
    · go_enter Tryd.func38, Tryd.ntmps38
      go_wp2_with fail
      go_ret
      exact ⟨ret_bool (by simp <;> omega), rfl⟩
    · go_enter Tryd.func38, Tryd.ntmps38
      go_wp2_with fail
      go_ret
      exact ⟨ret_bool (by simp <;> omega), rfl⟩
  · go_enter Tryd.func38, Tryd.ntmps38
    go_wp2_with fail
    go_ret
    exact ⟨ret_bool (by simp <;> omega), rfl⟩
theorem quorum_any (q : Int) (n : Nat) (w : World) (hn : n ≤ 9) : Calls Tryd.prog 29 #[.int .i64 q, .int .i64 (n : Int)] w fun e w' => e = .returned (.int .i64 (quoF q n)) ∧ w = w' := by
  unfold quoF
  by_cases h1 : q = 0
  · subst h1
    go_enter Tryd.func29, Tryd.ntmps29
    go_wp2_with fail
    go_ret
    exact ⟨ret_i64 (by simp <;> omega), rfl⟩
  · have e1 : (q == 0) = false := by rw [beq_eq_false_iff_ne]; exact h1
    go_enter Tryd.func29, Tryd.ntmps29
    go_wp2_with fail
    go_ret
    exact ⟨rfl, rfl⟩
def TabI (rs : List Int) (w : World) (i : Nat) (wr : World) : Prop := Blk 28 wr w.heap.size (u16s (tabL rs i)) ∧ Below w.heap.size w wr
theorem TabI.cell {rs : List Int} {w wr : World} {i a : Nat} (h : TabI rs w i wr) (ha : a < 4) : wr.cell? ⟨w.heap.size, a, none⟩ = some (.int .u16 ((regTo rs (a : Int) i : Nat) : Int)) ∧ wr.frozen? ⟨w.heap.size, a, none⟩ = false := by
  refine ⟨?_, h.1.frozen a⟩
  rw [h.1.cell a]
  simp only [u16s, List.getElem?_map, tab_get _ _ _ ha]; rfl
theorem TabI.on {rs : List Int} {w wr wq : World} {i : Nat} (h : TabI rs w i wr) (hb : Below wr.heap.size wr wq) : TabI rs w i wq := ⟨h.1.below hb h.1.lt, h.2.trans (hb.mono h.2.size)⟩
theorem TabI.store {rs : List Int} {w wr : World} {i a : Nat} (h : TabI rs w i wr) (hx : rs[i]? = some (a : Int)) :
    TabI rs w (i + 1) (wr.setCell ⟨w.heap.size, a, none⟩ (.int .u16 ((withF (regTo rs (a : Int) i) ((i + 1 : Nat) : Int) : Nat) : Int))) := by
  refine ⟨?_, h.2.setCell (p := ⟨w.heap.size, a, none⟩) (Nat.le_refl _) _⟩
  have := h.1.set_ a (.int .u16 ((withF (regTo rs (a : Int) i) ((i + 1 : Nat) : Int) : Nat) : Int))
  rw [tab_succ hx]
  unfold u16s
  rw [List.map_set]
  exact this
/-- A table of the four regions' nodes, in a block of the call's own. -/
def IsTab (rs : List Int) (w : World) (e : Ending) (w' : World) : Prop := e = .returned (.slice (some ⟨w.heap.size, 0, none⟩) 4 4) ∧ Blk 28 w' w.heap.size (u16s (tabL rs rs.length)) ∧ Below w.heap.size w w'
set_option maxHeartbeats 1000000 in
theorem byRegion_any (A : Option Addr) (n c : Nat) (l : List Int) (w : World) (B : Nat) (hR : RdV w B A n (i64s l)) (hB : B ≤ w.heap.size) (h9 : n ≤ 9) (hW : withinB l 3 = true) :
    Calls Tryd.prog 25 #[.slice A n c] w (IsTab l w) := by
  have hl := rd_len hR
  have HA := Lib.hid (fun i hi => rd_get hR i hi)
  have HW := Lib.hid (fun (i : Nat) (x : Int) (hx : l[i]? = some x) => within_get hW hx)
  have CW := Lib.hid (fun (s k : Nat) (hk : k ≤ 9) (hs : s < 65536) (wr : World) => seti.with_any s (k : Int) wr hs (by omega) (by omega))
  have HT := Lib.hid (fun (a i : Nat) (hi : i ≤ 9) => regTo_lt l (a : Int) i hi)
  have HC := Lib.hid (fun (b o i : Nat) (x : Int) (hb : b < B) (wr : World) (hc : w.cell? ⟨b, o + i, none⟩ = some (.int .i64 x)) (hr : Below w.heap.size w wr) => (hr.cell (p := ⟨b, o + i, none⟩) (Nat.lt_of_lt_of_le hb hB)).trans hc)
  unfold IsTab
  clear hR hW hB
  obtain ⟨i0, hi0, hz0, hz1, hz2⟩ := info_parts ref9.infoU
  go_enter Tryd.func25, Tryd.ntmps25
  go_wp2_with (at_make; refine wpList_make_room _ rfl _ _ 39 rfl 28 i0 (.int .u16 0) Tryd.underlying39 hi0 hz0 hz1 rfl .i64 .i64 _ _ 4 4 rfl rfl rfl rfl ?c1 ?c2 ?c3 ?_)
  case c1 => exact Nat.le_refl _
  case c2 => rw [hz2]; decide
  case c3 => unfold maxLen; omega
  intro w4 hg4 hb4 hs4
  have hk0 : TabI l w 0 w4 := ⟨hg4, hb4⟩
  clear hi0 hz0 hz1 hz2
  go_wp2_with fail
  go_loopw [9] (fun iv wr => ∃ i : Nat, i ≤ n ∧ iv = .int .i64 (i : Int) ∧ Hid (TabI l w i wr)) (fun iv _ => n - (intOf iv).toNat)
  case atStart => exact ⟨0, by omega, rfl, hk0⟩
  case round =>
    obtain ⟨i, hi, rfl, HI⟩ := hrel
    by_cases hlt : i < n
    · obtain ⟨b, o, x, rfl, hb, hx, hc⟩ := HA.out i hlt
      obtain ⟨x0, x3⟩ := HW.out i x hx
      obtain ⟨a, rfl⟩ : ∃ a : Nat, x = (a : Int) := ⟨x.toNat, by omega⟩
      have ha : a < 4 := by omega
      have hc2 := HC.out b o i a hb wr hc HI.out.2
      obtain ⟨u1, u2⟩ := HI.out.cell ha
      have cw := Lib.hid (CW.out (regTo l (a : Int) i) (i + 1) (by omega) (HT.out a i (by omega)))
      have HQ := Lib.hid (fun (wq : World) (hb : Below wr.heap.size wr wq) => (HI.out.on hb).cell ha)
      have HV := Lib.hid (fun (wq : World) (hb : Below wr.heap.size wr wq) => (HI.out.on hb).store hx)
      generalize withF (regTo l (a : Int) i) ((i + 1 : Nat) : Int) = s2 at *
      generalize regTo l (a : Int) i = s1 at *
      clear HA HW CW HT HC hc hx x0 x3
      go_wp2_with fail
      refine (cw.out _).mono ?_
      rintro e y1 ⟨rfl, hY1⟩
      obtain ⟨u1, u2⟩ := HQ.out _ hY1
      have HE := Lib.hid (HV.out _ hY1)
      go_wp2_with fail
      go_round
      case rel => exact ⟨i + 1, by omega, by go_num, HE⟩
      case measure => simp [intOf]; omega
    · obtain rfl : i = n := by omega
      go_wp2_with fail
      go_ret
      rw [hl]
      exact ⟨rfl, HI.out.1, HI.out.2⟩
end Go.Proofs.YtfcljdpjjabhjaaDoor.zoni
