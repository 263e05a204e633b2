/- The statements of frame answer true: begun, FrameWrites, FrameTurned, FrameForged. Conditions: what the slices read as. -/
import Derived.Test.YtcjaffdjhbhhaaaFrameW
import Derived.Test.YtcjaffdjhbhhaaaLaw0
namespace Go.Proofs.Ytcjaffdjhbhhaaa.frameLaw
open Go.RowKit Go.Proofs.Ytcjaffdjhbhhaaa.kit Go.Proofs.Ytcjaffdjhbhhaaa.nums Go.Proofs.Ytcjaffdjhbhhaaa.crc Go.Proofs.Ytcjaffdjhbhhaaa.bytes Go.Proofs.Ytcjaffdjhbhhaaa.rec_ Go.Proofs.Ytcjaffdjhbhhaaa.ref3 Go.Proofs.Ytcjaffdjhbhhaaa.law0
set_option linter.unusedVariables false

theorem byt1 : Byt [1] := by intro x hx; simp at hx; omega
theorem next_one : nextE (recB [1]) 0 = 0 ∧ nextR (recB [1]) 0 = [1] ∧ nextN (recB [1]) 0 = 9 := by
  have := next_written [] [1] [] byt1 (by decide)
  simpa using this
theorem scan_one {L : List (List Int)} {q : Int} (h : Scanned (recB [1] ++ [7]) 0 L q) : L = [[1]] ∧ q = 9 := by
  have h1 := next_written [] [1] [7] byt1 (by decide)
  simp only [List.nil_append, List.length_nil] at h1
  have h2 : Scanned (recB [1] ++ [7]) 0 [[1]] 9 := by
    refine ⟨⟨h1.1, h1.2.1, ?_⟩, ?_⟩
    · show nextN _ _ = _
      rw [show ((0 : Nat) : Int) = 0 from rfl] at h1
      rw [h1.2.2]; rfl
    · unfold nextE
      rw [List.length_append, recB_length]
      decide
  exact h.same h2
theorem str_one : strOfNums [1] = ⟨#[1]⟩ := by decide

set_option maxHeartbeats 400000 in
theorem begun_any (w : World) :
    Calls Try.prog 9 #[] w fun e w' => e = .returned (.bool true) ∧ Below w.heap.size w w' := by
  have C1 := Lib.hid (frame.put_any none 0 0 [] (some ⟨w.heap.size, 0, none⟩) 1 1 [1] (w.alloc (.cells #[.int .u8 1] 5)) (Rd.nil _ _ _) (by simpa using Rd.one w 5 1) byt1 (by omega) (by omega) (by omega) (by omega) (by omega) (by unfold maxLen; omega))
  go_enter Try.func9, Try.ntmps9
  go_wp2_with fail
  refine C1.out.mono ?_
  rintro e w1 ⟨A1, c1, rfl, hl1, hO1, hB1⟩
  rw [List.nil_append] at hl1 hO1
  have hcap := hO1.caps hl1
  have C2 := Lib.hid (frame.next_any A1 9 c1 (recB [1]) 0 w1 (hO1.rd hl1) (recB_byt byt1) (by omega) hcap.1 hcap.2 (by omega) (by omega))
  clear C1
  go_wp2_with fail
  refine C2.out.mono ?_
  clear C2
  rintro e w2 ⟨A2, n2, c2, rfl, hl2, hO2, hB2⟩
  obtain ⟨e1, e2, e3⟩ := next_one
  rw [e1, e3]
  rw [e2] at hl2 hO2
  obtain rfl : 1 = n2 := hl2
  have hO1b := (hO1.below hB2).alloc (.cells #[.int .u8 7] 5)
  have hO2b := hO2.alloc (.cells #[.int .u8 7] 5)
  have hs1 := hB1.size
  have hs2 := hB2.size
  have hlt1 := fun k h => (hO1.lt k h).2
  have hge2 := fun k h => (hO2.lt k h).1
  go_wp2_with (at_builtin; with_reducible refine wpList_append_rd rfl (.tmp 20) (.tmp 21) 22 rfl _ 5 Try.underlying22 info5 A1 9 c1 (recB [1]) hl1 rfl hO1b _ _ 1 1 _ rfl (Rd.one _ _ 7) ?ha ?hbs ?_)
  case ha => omega
  case hbs => simp at hs1 ⊢; omega
  intro A4 c4 w4 hO4 hB4 hG4
  have hl4 : (recB [1] ++ [7]).length = 9 + 1 := rfl
  have hcap4 := hO4.caps hl4
  have C3 := Lib.hid (frame.scan_any A4 10 c4 (recB [1] ++ [7]) w4 (hO4.rd hl4) ((recB_byt byt1).append (by intro x hx; simp at hx; omega)) (by omega) hcap4.1 hcap4.2)
  have hO2c := hO2b.grown hG4 (fun g hg e => by have := hge2 g hg; have := hlt1 g e; omega)
  clear hO1 hO1b hO2 hO2b
  go_wp2_with fail
  refine C3.out.mono ?_
  rintro e w5 ⟨A5, n5, c5, xs, L, q, rfl, hx5, hL5, hsc, hO5, hS5, hB5⟩
  obtain ⟨rfl, hq⟩ := scan_one hsc
  obtain rfl : 1 = n5 := hL5
  have hcv := run_string_rd (P := Try.prog) w5 22 5 9 Try.underlying22 Try.underlying5 Try.underlying9 w5.heap.size A2 1 c2 [1] ((hO2c.below hB5).rd rfl)
  rw [str_one] at hcv
  rw [hq]
  have hbw : Below w.heap.size w w5 := by
    have h1 : Below w.heap.size w w1 := ((Below.refl _ _).alloc (Nat.le_refl _) _).trans (hB1.mono (by simp))
    have h2 : Below w.heap.size w w2 := h1.trans (hB2.mono h1.size)
    have h3 : Below w.heap.size w w4 := h2.trans (Below.trans ((Below.refl _ _).alloc h2.size _) (hB4.mono (by simp)))
    exact h3.trans (hB5.mono h3.size)
  clear C3 hsc hO5 hS5 hx5
  go_wp2_with fail
  go_ret
  exact ⟨rfl, hbw⟩
/-- The text of a slice that the call owns. -/
theorem str_own {A : Option Addr} {n c : Nat} {l : List Int} {w : World} {base : Nat} (hO : Own 5 w base (.slice A n c) l) (hn : l.length = n) :
    (convert 22 9 (.slice A n c)).run Try.prog w = .ok (.string (strOfNums l)) w :=
  run_string_rd w 22 5 9 Try.underlying22 Try.underlying5 Try.underlying9 w.heap.size A n c l (hO.rd hn)

set_option maxHeartbeats 1000000 in
theorem writes (A : Option Addr) (n c : Nat) (l : List Int) (S : Option Addr) (m cs : Nat) (s : List Int) (w : World) (hR : Rd w w.heap.size A n l) (hYl : Byt l) (hnc : n ≤ c) (hcm : c ≤ maxLen) (hS : Rd w w.heap.size S m s) (hYs : Byt s) (hmc : m ≤ cs) (hcs : cs ≤ maxLen) :
    Calls Try.prog 3 #[.slice A n c, .slice S m cs] w fun e w' => e = .returned (.bool true) ∧ Below w.heap.size w w' := by
  have hx1 := hcm
  have hx2 := hcs
  unfold maxLen at hx1 hx2
  have HN := Lib.hid hR.len
  have HM := Lib.hid hS.len
  go_enter Try.func3, Try.ntmps3
  go_wp2_with fail
  refine (begun_any _).mono ?_
  rintro e w1 ⟨rfl, hB1⟩
  by_cases h1 : 16384 < n
  · go_wp2_with fail
    go_ret
    exact ⟨rfl, hB1⟩
  by_cases h2 : 16384 < m
  · go_wp2_with fail
    go_ret
    exact ⟨rfl, hB1⟩
  have hR1 := hR.on hB1 hB1.size
  go_wp2_with fail
  refine (twin_any A n c l w1 hR1 (by omega)).mono ?_
  rintro e w2 ⟨rfl, hT, hB2⟩
  have hBB := hB1.trans (hB2.mono hB1.size)
  have hS2 := hS.on hBB hBB.size
  go_wp2_with fail
  refine (twin_any S m cs s w2 hS2 (by omega)).mono ?_
  rintro e w3 ⟨rfl, hU, hB3⟩
  have hT3 := hT.below hB3 hT.lt
  have hBB3 := hBB.trans (hB3.mono hBB.size)
  have hg : w.heap.size ≤ w1.heap.size := hB1.size
  have hgu : w.heap.size ≤ w2.heap.size := hBB.size
  generalize w1.heap.size = g at *
  generalize w2.heap.size = gu at *
  clear hB1 hB2 hR1 hB3 hBB hS2 hT
  have C1 := Lib.hid (frame.put_any (some ⟨g, 0, none⟩) n (n + 3) l (some ⟨gu, 0, none⟩) m (m + 3) s w3 (hT3.rd HN.out hT3.lt) (hU.rd HM.out hU.lt) hYs (by omega) (by omega) (by unfold maxLen; omega) (by omega) (by omega) (by unfold maxLen; omega))
  go_wp2_with fail
  refine C1.out.mono ?_
  rintro e w4 ⟨A1, c1, rfl, hl1, hO1, hB4⟩
  have hBB4 := hBB3.trans (hB4.mono hBB3.size)
  have C2 := Lib.hid (put3_any A n c l S m cs s w4 (hR.on hBB4 hBB4.size) (hS.on hBB4 hBB4.size) hYs (by omega) (by omega) hmc hcs)
  clear C1
  go_wp2_with fail
  refine C2.out.mono ?_
  clear C2
  rintro e w5 ⟨A2, c2, rfl, hl2, hO2, hB5⟩
  have hT5 := (hT3.below hB4 hT3.lt).below hB5 (Nat.lt_of_lt_of_le hT3.lt hB4.size)
  have hU5 := (hU.below hB4 hU.lt).below hB5 (Nat.lt_of_lt_of_le hU.lt hB4.size)
  have hBB5 := hBB4.trans (hB5.mono hBB4.size)
  have hO1b := hO1.below hB5
  have hv1 := str_own hO1b hl1
  have hv2 := str_own hO2 hl2
  have D1 := Lib.hid (kept_any g A n c l w5 _ hT5 (hR.on hBB5 hBB5.size) (by omega))
  have D2 := Lib.hid (kept_any gu S m cs s w5 _ hU5 (hS.on hBB5 hBB5.size) (by omega))
  generalize strOfNums (l ++ recB s) = T1 at *
  have HO := Lib.hid hO1b
  have hbase := hBB3.size
  have hge := fun k h => (hO1.lt k h).1
  have HR := Lib.hid hR
  clear hO1 hO2 hO1b hS hR hU hU5
  generalize hq : n + (8 + m) = q at *
  clear hq
  go_wp2_with fail
  refine D1.out.mono ?_
  rintro e y1 ⟨rfl, rfl⟩
  go_wp2_with fail
  refine D2.out.mono ?_
  rintro e y1 ⟨rfl, rfl⟩
  clear hv1 hv2 D1 D2
  have E1 := Lib.hid (spoil_any A1 q c1 _ w5 _ HO.out)
  go_wp2_with fail
  refine E1.out.mono ?_
  rintro e z1 ⟨rfl, hG⟩
  have F1 : Below w3.heap.size w5 z1 := (Below.refl _ _).grown hG (Nat.le_trans hB4.size hB5.size) hge
  have hT6 := hT5.below F1 hT3.lt
  have FB := hBB5.trans (F1.mono hbase)
  have D3 := Lib.hid (kept_any g A n c l z1 _ hT6 (HR.out.on FB FB.size) (by omega))
  clear E1 hG HO
  go_wp2_with fail
  refine D3.out.mono ?_
  rintro e y1 ⟨rfl, rfl⟩
  go_wp2_with fail
  go_ret
  exact ⟨rfl, FB⟩
end Go.Proofs.Ytcjaffdjhbhhaaa.frameLaw
