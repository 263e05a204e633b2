/- BitsBack answers true: what was written is read, whatever stands behind it. No condition. -/
import Derived.Test.YtdadhpghdblgnaaBegun
import Derived.Test.YtdadhpghdblgnaaVarW
import Derived.Test.YtdadhpghdblgnaaTake
import Derived.Deep.Cut
namespace Go.Proofs.Ytdadhpghdblgnaa.back
open Go.RowKit Go.Proofs.Ytdadhpghdblgnaa.kit Go.Proofs.Ytdadhpghdblgnaa.nums Go.Proofs.Ytdadhpghdblgnaa.bytes
set_option linter.unusedVariables false

theorem own_rd {l : List Int} {A : Option Addr} {n c base : Nat} {w : World} (hO : Own 5 w base (.slice A n c) l) (hn : l.length = n) : Rd w w.heap.size A n l ∧ n ≤ c := by
  obtain ⟨A', c', hv, hc, _, hR⟩ := hO.slice
  simp only [Value.slice.injEq] at hv
  obtain ⟨rfl, rfl, rfl⟩ := hv
  exact ⟨hR, hc⟩
theorem var_nil (u : Int) (w : World) (h0 : 0 ≤ u) (h1 : u ≤ 18446744073709551615) :
    Calls Try.prog 14 #[.slice none 0 0, .int .u64 u] w (RetL 5 w (varB u).length (varB u)) := by
  have := var_any none 0 0 [] u w (Rd.nil _ _ _) (by omega) h0 h1
  rwa [Nat.zero_add, List.nil_append] at this
theorem text_nil (S : Option Addr) (m cs : Nat) (s : List Int) (w : World) (hS : Rd w w.heap.size S m s) (hm : m ≤ 1099511627776) :
    Calls Try.prog 15 #[.slice none 0 0, .slice S m cs] w (RetL 5 w ((varB m).length + m) (varB m ++ s)) := by
  have := text_any none 0 0 [] S m cs s w (Rd.nil _ _ _) hS (by omega) hm
  rwa [Nat.zero_add, List.nil_append] at this
/-- What is read behind Var. -/
theorem take_var (A : Option Addr) (n c : Nat) (u : Int) (r : List Int) (w : World) (base : Nat) (hO : Own 5 w base (.slice A n c) (varB u ++ r)) (hn : (varB u ++ r).length = n) (hb : n ≤ 1099511627776) (h0 : 0 ≤ u) (h1 : u ≤ 18446744073709551615) (hr : Byt r) :
    Calls Try.prog 22 #[.slice A n c] w fun e w' => e = .returned (.tuple #[.int .u64 u, .int .i64 ((varB u).length : Int), .int .i64 0]) ∧ w = w' := by
  have := takeVar_any A n c _ w _ (own_rd hO hn).1 ((varB_byt h0).append hr) hb
  rwa [takeV_varB h0 h1 r] at this
/-- What is read behind Text. -/
theorem take_text (A : Option Addr) (n c m : Nat) (s r : List Int) (w : World) (base : Nat) (hO : Own 5 w base (.slice A n c) (varB m ++ (s ++ r))) (hn : (varB m ++ (s ++ r)).length = n) (hb : n ≤ 1099511627776) (hs : s.length = m) (hm : m ≤ 1048576) (hY : Byt s) (hr : Byt r) :
    Calls Try.prog 24 #[.slice A n c] w fun e w' => ∃ A' c', e = .returned (.tuple #[.slice A' m c', .int .i64 (((varB m).length : Int) + m), .int .i64 0]) ∧ Own 5 w' w.heap.size (.slice A' m c') s ∧ Below w.heap.size w w' := by
  obtain ⟨hR, hc⟩ := own_rd hO hn
  refine (takeText_any A n c _ w hR ((varB_byt (by omega)).append (hY.append hr)) hb hc).mono ?_
  rintro e w' ⟨A', n', c', rfl, hl, hO', hB⟩
  have ht := takeV_varB (u := m) (by omega) (by omega) (s ++ r)
  obtain ⟨e1, e2, e3⟩ := t_ok ht hm (by rw [List.length_append, List.length_append]; omega)
  have e4 : tTxt (varB m ++ (s ++ r)) = s := by
    rw [e3, List.drop_left, ← hs, List.take_left]
  rw [e4] at hl hO'
  rw [e1, e2]
  subst hl
  rw [hs] at hO' ⊢
  exact ⟨A', c', rfl, hO', hB⟩

theorem text_of {l : List Int} {A : Option Addr} {n c base : Nat} {w : World} (hO : Own 5 w base (.slice A n c) l) (hn : l.length = n) :
    (convert 22 9 (.slice A n c)).run Try.prog w = .ok (.string (strOfNums l)) w :=
  run_string_rd w 22 5 9 Try.underlying22 Try.underlying5 Try.underlying9 w.heap.size A _ c l (own_rd hO hn).1
theorem zag_of (z : Int) (w : World) (h0 : -9223372036854775808 ≤ z) (h1 : z ≤ 9223372036854775807) :
    Calls Try.prog 26 #[.int .u64 (zigF z)] w fun e w' => e = .returned (.int .i64 z) ∧ w = w' := by
  have := ints.zag_any (zigF z) w (zigF_in ⟨h0, h1⟩).1 (zigF_in ⟨h0, h1⟩).2
  rwa [zag_zig] at this
theorem zig_of (v : Int) (w : World) (h0 : 0 ≤ v) (h1 : v ≤ 18446744073709551615) :
    Calls Try.prog 27 #[.int .i64 (zagF v)] w fun e w' => e = .returned (.int .u64 v) ∧ w = w' := by
  have := ints.zig_any (zagF v) w (zagF_in h0 h1).1 (zagF_in h0 h1).2
  rwa [zig_zag v h0] at this
theorem back_of (z : Int) (w : World) (h0 : -9223372036854775808 ≤ z) (h1 : z ≤ 9223372036854775807) :
    Calls Try.prog 28 #[.int .u64 (z + 9223372036854775808)] w fun e w' => e = .returned (.int .i64 z) ∧ w = w' := by
  have := ints.back_any (z + 9223372036854775808) w (by omega) (by omega)
  rwa [show z + 9223372036854775808 - 9223372036854775808 = z by omega] at this
theorem order_of (v : Int) (w : World) (h0 : 0 ≤ v) (h1 : v ≤ 18446744073709551615) :
    Calls Try.prog 29 #[.int .i64 (v - 9223372036854775808)] w fun e w' => e = .returned (.int .u64 v) ∧ w = w' := by
  have := ints.order_any (v - 9223372036854775808) w (by omega) (by omega)
  rwa [show v - 9223372036854775808 + 9223372036854775808 = v by omega] at this

set_option maxRecDepth 100000 in
set_option maxHeartbeats 1000000 in
theorem walk_small (S : Option Addr) (m cs : Nat) (s : List Int) (R : Option Addr) (k cr : Nat) (r : List Int) (v z : Int) (w : World) (hS : Rd w w.heap.size S m s) (hYs : Byt s) (hR : Rd w w.heap.size R k r) (hYr : Byt r)
    (hm : m ≤ 16384) (hk : k ≤ 16384) (v0 : 0 ≤ v) (v1 : v ≤ 18446744073709551615) (z0 : -9223372036854775808 ≤ z) (z1 : z ≤ 9223372036854775807) :
    Calls Try.prog 5 #[.slice S m cs, .slice R k cr, .int .u64 v, .int .i64 z] w fun e w' => e = .returned (.bool true) ∧ Below w.heap.size w w' := by
  have hlv := (varB_length v).2
  have hlm := (varB_length m).2
  have HS := Lib.hid hS.len
  have HR := Lib.hid hR.len
  go_enter Try.func5, Try.ntmps5
  go_wp2_with fail
  refine (begun_any _).mono ?_
  rintro e w1 ⟨rfl, hB1⟩
  go_wp2_with fail
  refine (var_nil v w1 v0 v1).mono ?_
  rintro e w2 ⟨A2, c2, rfl, hl2, hO2, hB2⟩
  clear hl2
  have hR2 := hR.on (hB1.trans (hB2.mono hB1.size)) (Nat.le_refl _)
  go_wp2_with (at_builtin; with_reducible refine wpList_append_rd rfl (.tmp 34) (.tmp 35) 22 rfl w1.heap.size 5 Try.underlying22 info5 A2 _ c2 _ rfl rfl hO2 _ R k cr r rfl hR2 ?ha hB2.size ?_)
  case ha => omega
  intro A3 c3 w3 hO3 hB3 _
  have C3 := Lib.hid (take_var A3 _ c3 v r w3 _ hO3 (by rw [List.length_append, HR.out]) (by omega) v0 v1 hYr)
  have hB13 := hB2.trans hB3
  have hS3 := hS.on (hB1.trans (hB13.mono hB1.size)) (by have := hB1.size; have := hB13.size; omega : w.heap.size ≤ w3.heap.size)
  have hR3 := hR.on (hB1.trans (hB13.mono hB1.size)) (by have := hB1.size; have := hB13.size; omega : w.heap.size ≤ w3.heap.size)
  go_wp2_with fail
  refine C3.out.mono ?_
  rintro e w4 ⟨rfl, rfl⟩
  clear C3
  go_wp2_with fail
  refine (text_nil S m cs s w3 hS3 (by omega)).mono ?_
  rintro e w5 ⟨A5, c5, rfl, hl5, hO5, hB5⟩
  have HL5 := Lib.hid hl5
  clear hl5
  have hR5 := hR3.on hB5 (Nat.le_refl _)
  go_wp2_with (at_builtin; with_reducible refine wpList_append_rd rfl (.tmp 46) (.tmp 47) 22 rfl w3.heap.size 5 Try.underlying22 info5 A5 _ c5 _ HL5.out rfl hO5 _ R k cr r rfl hR5 ?hb hB5.size ?_)
  case hb => omega
  intro A6 c6 w6 hO6 hB6 _
  have hB56 := hB5.trans hB6
  have C6 := Lib.hid (take_text A6 _ c6 m s r w6 _ (by first | exact hO6 | (rw [← List.append_assoc]; exact hO6)) (by rw [← List.append_assoc, List.length_append, HL5.out, HR.out]) (by omega) HS.out (by omega) hYs hYr)
  have hS6 := hS3.on hB56 hB56.size
  go_wp2_with fail
  refine C6.out.mono ?_
  rintro e w7 ⟨A7, c7, rfl, hO7, hB7⟩
  clear C6
  have hcv1 := text_of hO7 HS.out
  have hcv2 := run_string_rd (P := Try.prog) w7 22 5 9 Try.underlying22 Try.underlying5 Try.underlying9 w7.heap.size S m cs s (hS6.on hB7 hB7.size)
  have HB := Lib.hid (hB1.trans ((((hB13.trans (hB56.mono hB13.size)).trans (hB7.mono (Nat.le_trans hB13.size hB56.size)))).mono hB1.size))
  have Z1 := Lib.hid fun w => ints.zig_any z w z0 z1
  have Z2 := Lib.hid fun w => zag_of z w z0 z1
  have Z3 := Lib.hid fun w => ints.zag_any v w v0 v1
  have Z4 := Lib.hid fun w => zig_of v w v0 v1
  have Z5 := Lib.hid fun w => ints.order_any z w z0 z1
  have Z6 := Lib.hid fun w => back_of z w z0 z1
  have Z7 := Lib.hid fun w => ints.back_any v w v0 v1
  have Z8 := Lib.hid fun w => order_of v w v0 v1
  generalize strOfNums s = T at *
  generalize zigF z = zz at *
  generalize zagF v = zv at *
  generalize z + 9223372036854775808 = oz at *
  generalize v - 9223372036854775808 = ov at *
  clear hO7 hO6 hO5 hO3 hO2 hS6 hS3 hR5 hR3 hR2 hS hR hB1 hB2 hB3 hB5 hB6 hB7 hB13 hB56
  go_wp2_with fail
  refine (Z1.out _).mono ?_
  rintro e w8 ⟨rfl, rfl⟩
  go_wp2_with fail
  refine (Z2.out _).mono ?_
  rintro e w8 ⟨rfl, rfl⟩
  go_wp2_with fail
  refine (Z3.out _).mono ?_
  rintro e w8 ⟨rfl, rfl⟩
  go_wp2_with fail
  refine (Z4.out _).mono ?_
  rintro e w8 ⟨rfl, rfl⟩
  go_wp2_with fail
  refine (Z5.out _).mono ?_
  rintro e w8 ⟨rfl, rfl⟩
  go_wp2_with fail
  refine (Z6.out _).mono ?_
  rintro e w8 ⟨rfl, rfl⟩
  go_wp2_with fail
  refine (Z7.out _).mono ?_
  rintro e w8 ⟨rfl, rfl⟩
  go_wp2_with fail
  refine (Z8.out _).mono ?_
  rintro e w8 ⟨rfl, rfl⟩
  go_wp2_with fail
  go_ret
  exact ⟨rfl, HB.out⟩

theorem walk_great (S : Option Addr) (m cs : Nat) (R : Option Addr) (k cr : Nat) (v z : Int) (w : World) (h : 16384 < m ∨ 16384 < k) (hm : m ≤ 9223372036854775807) (hk : k ≤ 9223372036854775807) :
    Calls Try.prog 5 #[.slice S m cs, .slice R k cr, .int .u64 v, .int .i64 z] w fun e w' => e = .returned (.bool true) ∧ Below w.heap.size w w' := by
  by_cases hm2 : 16384 < m
  · go_enter Try.func5, Try.ntmps5
    go_wp2_with fail
    refine (begun_any _).mono ?_
    rintro e w1 ⟨rfl, hB1⟩
    go_wp2_with fail
    go_ret
    exact ⟨rfl, hB1⟩
  · have hk2 : 16384 < k := by omega
    go_enter Try.func5, Try.ntmps5
    go_wp2_with fail
    refine (begun_any _).mono ?_
    rintro e w1 ⟨rfl, hB1⟩
    go_wp2_with fail
    go_ret
    exact ⟨rfl, hB1⟩

theorem walk (S : Option Addr) (m cs : Nat) (s : List Int) (R : Option Addr) (k cr : Nat) (r : List Int) (v z : Int) (w : World) (hS : Rd w w.heap.size S m s) (hYs : Byt s) (hcs : m ≤ cs) (hms : cs ≤ maxLen) (hR : Rd w w.heap.size R k r) (hYr : Byt r) (hcr : k ≤ cr) (hmr : cr ≤ maxLen) (w2 : (Lit.int .u64 v).wf = true) (w3 : (Lit.int .i64 z).wf = true) :
    Calls Try.prog 5 #[.slice S m cs, .slice R k cr, .int .u64 v, .int .i64 z] w fun e w' => e = .returned (.bool true) ∧ Below w.heap.size w w' := by
  have b0 : 0 ≤ v ∧ v ≤ 18446744073709551615 := by simpa [Lit.wf, IntKind.min, IntKind.max, IntKind.signed, IntKind.bits] using w2
  have b1 : -9223372036854775808 ≤ z ∧ z ≤ 9223372036854775807 := by simpa [Lit.wf, IntKind.min, IntKind.max, IntKind.signed, IntKind.bits] using w3
  unfold maxLen at hms hmr
  by_cases h : 16384 < m ∨ 16384 < k
  · exact walk_great S m cs R k cr v z w h (by omega) (by omega)
  · exact walk_small S m cs s R k cr r v z w hS hYs hR hYr (by omega) (by omega) b0.1 b0.2 b1.1 b1.2
end Go.Proofs.Ytdadhpghdblgnaa.back
