/- What May of the program's own package value, bytes.Clone and the four ways to write come to. Conditions: those that each theorem names. -/
import Derived.Test.YtodpaeaeigjmdaaDoorRef7k
import Derived.Test.YtodpaeaeigjmdaaDoorVarW
import Derived.Test.YtodpaeaeigjmdaaDoorPut
import Derived.Test.YtodpaeaeigjmdaaDoorVb
import Derived.Test.YtodpaeaeigjmdaaDoorKitC
import Derived.Lib.SliceRun
namespace Go.Proofs.YtodpaeaeigjmdaaDoor.val
open Go Go.RowKit Go.Proofs.YtodpaeaeigjmdaaDoor.kit Go.Proofs.YtodpaeaeigjmdaaDoor.nums Go.Proofs.YtodpaeaeigjmdaaDoor.st Go.Proofs.YtodpaeaeigjmdaaDoor.va Go.Proofs.YtodpaeaeigjmdaaDoor.bytes Go.Proofs.YtodpaeaeigjmdaaDoor.ints Go.Proofs.YtodpaeaeigjmdaaDoor.ref7
set_option linter.unusedVariables false

set_option maxHeartbeats 1000000 in
theorem may_any (a : VaL) (ha : a.ok) (hl : (a.s.length : Int) ≤ 9223372036854775807) (w : World) :
    Calls Tryd.prog 16 #[vaV a] w fun e w' => e = .returned (.bool (decide (mayP a))) ∧ Below w.heap.size w w' := by
  clear ha
  obtain ⟨k, n, s⟩ := a
  have HB : Hid (Below w.heap.size w (w.alloc (.cells #[.int .i64 k, .int .i64 n, .string (strOfNums s)] 24))) := (Below.refl _ _).alloc (Nat.le_refl _) _
  unfold vaV mayP
  dsimp only at hl ⊢
  have hz := strOfNums_size s
  have he := str_empty s
  generalize strOfNums s = T at *
  by_cases h0 : k = 0
  · subst h0
    by_cases h1 : n = 0
    · subst h1
      go_enter Tryd.func16, Tryd.ntmps16
      go_wp2_with fail
      go_ret
      exact ⟨by simp, HB.out⟩
    · have h1' : (n == 0) = false := by simpa using h1
      go_enter Tryd.func16, Tryd.ntmps16
      go_wp2_with fail
      go_ret
      exact ⟨by simp [h1], HB.out⟩
  by_cases h1 : k = 1
  · subst h1
    by_cases h2 : n = 0
    · subst h2
      go_enter Tryd.func16, Tryd.ntmps16
      go_wp2_with fail
      go_ret
      exact ⟨by simp, HB.out⟩
    by_cases h3 : n = 1
    · subst h3
      go_enter Tryd.func16, Tryd.ntmps16
      go_wp2_with fail
      go_ret
      exact ⟨by simp, HB.out⟩
    have h2' : (n == 0) = false := by simpa using h2
    have h3' : (n == 1) = false := by simpa using h3
    go_enter Tryd.func16, Tryd.ntmps16
    go_wp2_with fail
    go_ret
    exact ⟨by simp [h2, h3], HB.out⟩
  by_cases h2 : k = 2
  · subst h2
    go_enter Tryd.func16, Tryd.ntmps16
    go_wp2_with fail
    go_ret
    exact ⟨by simp, HB.out⟩
  by_cases h3 : k = 3
  · subst h3
    by_cases h4 : n = 0
    · subst h4
      by_cases h5 : s.length ≤ 64
      · go_enter Tryd.func16, Tryd.ntmps16
        go_wp2_with fail
        go_ret
        exact ⟨by simp [h5]; omega, HB.out⟩
      · go_enter Tryd.func16, Tryd.ntmps16
        go_wp2_with fail
        go_ret
        exact ⟨by simp [h5]; omega, HB.out⟩
    · have h4' : (n == 0) = false := by simpa using h4
      go_enter Tryd.func16, Tryd.ntmps16
      go_wp2_with fail
      go_ret
      exact ⟨by simp [h4], HB.out⟩
  have h0' : (k == 0) = false := by simpa using h0
  have h1' : (k == 1) = false := by simpa using h1
  have h2' : (k == 2) = false := by simpa using h2
  have h3' : (k == 3) = false := by simpa using h3
  go_enter Tryd.func16, Tryd.ntmps16
  go_wp2_with fail
  go_ret
  exact ⟨by simp [h0, h1, h2, h3], HB.out⟩
theorem ok_null : (⟨0, 0, []⟩ : VaL).ok := by unfold VaL.ok I64; exact ⟨by decide, by decide, fun x hx => by cases hx⟩
theorem ok_bool0 : (⟨1, 0, []⟩ : VaL).ok := by unfold VaL.ok I64; exact ⟨by decide, by decide, fun x hx => by cases hx⟩
theorem ok_bool1 : (⟨1, 1, []⟩ : VaL).ok := by unfold VaL.ok I64; exact ⟨by decide, by decide, fun x hx => by cases hx⟩
theorem ok_int (n : Int) (h : I64 n) : (⟨2, n, []⟩ : VaL).ok := ⟨by unfold I64; dsimp only; decide, h, fun x hx => by cases hx⟩
theorem ok_text (s : List Int) (h : Byt s) : (⟨3, 0, s⟩ : VaL).ok := ⟨by unfold I64; dsimp only; decide, by unfold I64; dsimp only; decide, h⟩
theorem retO_of {E : TypeId} {w w' : World} {base n : Nat} {l : List Int} {e : Ending} (hb : base ≤ w.heap.size) (h : RetL E w n l e w') : RetO E w base n l e w' := by
  obtain ⟨A, c, rfl, hl, hO, hB⟩ := h
  exact ⟨A, c, rfl, hl, hO.more hb, hB.mono hb⟩
theorem clone_any (A : Option Addr) (n c : Nat) (l : List Int) (w : World) (hR : Rd w w.heap.size A n l) (hb : n ≤ 1099511627776) (hnc : n ≤ c) :
    Calls Tryd.prog 56 #[.slice A n c] w (RetL 5 w n l) := by
  have q := Lib.run_eql_slice_nil (P := Tryd.prog)
  have HL := Lib.hid hR.len
  rcases A with _ | ad
  · have hn0 : n = 0 := by
      rcases Nat.eq_zero_or_pos n with h | h
      · exact h
      · obtain ⟨b, o, e, _⟩ := hR.2 h
        cases e
    subst hn0
    have hl : l = [] := List.eq_nil_of_length_eq_zero hR.1
    subst hl
    have q' : ∀ w : World, (binOp BinOp.eql 22 (.slice none 0 c) (.slice none 0 0)).run Tryd.prog w = .ok (.bool true) w := fun w => q w _ _ none 0 c 0 0 Tryd.underlying22
    clear q
    go_enter Tryd.func56, Tryd.ntmps56
    go_wp2_with fail
    go_ret
    exact ⟨none, 0, rfl, rfl, Own.nil _ _ _, Below.refl _ _⟩
  · have q' : ∀ w : World, (binOp BinOp.eql 22 (.slice (some ad) n c) (.slice none 0 0)).run Tryd.prog w = .ok (.bool false) w := fun w => q w _ _ (some ad) n c 0 0 Tryd.underlying22
    clear q
    have hR2 := hR.alloc (Nat.le_refl _) (.cells #[] 5)
    clear hR
    go_enter Tryd.func56, Tryd.ntmps56
    go_wp2_with (at_builtin; with_reducible refine wpList_append_rd rfl (.tmp 5) (.tmp 6) 22 rfl w.heap.size 5 Tryd.underlying22 info5 _ 0 0 [] rfl rfl (Own.empty _ _ (Nat.le_refl _)) _ _ n _ _ rfl hR2 ?ha ?hbs ?_)
    case ha => omega
    case hbs => simp
    intro A1 c1 w2 hO1 hB1 _
    (try rw [Nat.zero_add, List.nil_append] at hO1)
    have hB2 := ((Below.refl _ _).alloc (Nat.le_refl _) _).trans hB1
    (try rw [Nat.zero_add])
    go_wp2_with fail
    go_ret
    exact ⟨A1, c1, rfl, HL.out, hO1, hB2⟩
theorem putOrder_any (A : Option Addr) (n c : Nat) (l : List Int) (v : Int) (w : World) (base : Nat) (hO : Own 5 w base (.slice A n c) l) (hn : l.length = n) (hbase : base ≤ w.heap.size) (hb : n ≤ 1099511627776) (hv : I64 v) :
    Calls Tryd.prog 28 #[.slice A n c, .int .i64 v] w (RetO 5 w base (n + 8) (l ++ beB (v + 9223372036854775808) 8)) := by
  obtain ⟨h0, h1⟩ := hv
  have O := Lib.hid (fun w => order_any v w h0 h1)
  have P := Lib.hid (put_ok A n c l (v + 9223372036854775808) 8 w (own_rd hO hn).1 hb (by omega) (by omega) (by omega) (by omega) (by
    have : (v + 9223372036854775808) / 2 ^ (8 * 8) = 0 := Int.ediv_eq_zero_of_lt (by omega) (by omega)
    rw [this]; rfl))
  clear hO
  go_enter Tryd.func28, Tryd.ntmps28
  go_wp2_with fail
  refine (O.out _).mono ?_
  rintro e w1 ⟨rfl, rfl⟩
  go_wp2_with fail
  refine P.out.mono ?_
  rintro e w2 ⟨A2, c2, rfl, hl2, hO2, hB2⟩
  go_wp2_with fail
  go_ret
  exact ⟨A2, c2, rfl, hl2, hO2.more hbase, hB2.mono hbase⟩
theorem putZig_any (A : Option Addr) (n c : Nat) (l : List Int) (v : Int) (w : World) (base : Nat) (hO : Own 5 w base (.slice A n c) l) (hn : l.length = n) (hbase : base ≤ w.heap.size) (hb : n ≤ 1099511627776) (hv : I64 v) :
    Calls Tryd.prog 30 #[.slice A n c, .int .i64 v] w (RetO 5 w base (n + (varB (zigF v)).length) (l ++ varB (zigF v))) := by
  have hz := zigF_in hv
  obtain ⟨h0, h1⟩ := hv
  have O := Lib.hid (fun w => zig_any v w h0 h1)
  have P := Lib.hid (var_any A n c l (zigF v) w (own_rd hO hn).1 hb hz.1 hz.2)
  clear hO hz
  go_enter Tryd.func30, Tryd.ntmps30
  go_wp2_with fail
  refine (O.out _).mono ?_
  rintro e w1 ⟨rfl, rfl⟩
  go_wp2_with fail
  refine P.out.mono ?_
  rintro e w2 ⟨A2, c2, rfl, hl2, hO2, hB2⟩
  go_wp2_with fail
  go_ret
  exact ⟨A2, c2, rfl, hl2, hO2.more hbase, hB2.mono hbase⟩
theorem putCounted_any (A : Option Addr) (n c : Nat) (l s : List Int) (w : World) (base : Nat) (hO : Own 5 w base (.slice A n c) l) (hn : l.length = n) (hbase : base ≤ w.heap.size) (hb : n ≤ 1099511627776) (hs : s.length ≤ 64) (hY : Byt s) :
    Calls Tryd.prog 31 #[.slice A n c, .string (strOfNums s)] w (RetO 5 w base (n + (varB s.length).length + s.length) (l ++ (varB s.length ++ s))) := by
  have hR := (own_rd hO hn).1
  have P := Lib.hid (fun (S : Option Addr) (cs : Nat) (w1 : World) (hS : Rd w1 w1.heap.size S s.length s) (hB : Below w.heap.size w w1) => text_any A n c l S s.length cs s w1 (hR.on hB hB.size) hS hb (by omega))
  clear hO hR
  go_enter Tryd.func31, Tryd.ntmps31
  go_wp2_with (with_reducible refine wpList_of_string rfl (.tmp 6) 9 22 5 rfl Tryd.underlying9 Tryd.underlying22 Tryd.underlying5 s s.length rfl hY ?hs rfl ?_)
  case hs => omega
  intro A1 c1 w1 hR1 hnc1 _ hB1
  have P1 := Lib.hid (P.out A1 c1 w1 hR1 hB1)
  clear P
  go_wp2_with fail
  refine P1.out.mono ?_
  rintro e w2 ⟨A2, c2, rfl, hl2, hO2, hB2⟩
  go_wp2_with fail
  go_ret
  exact ⟨A2, c2, rfl, hl2, hO2.more (Nat.le_trans hbase hB1.size), (hB1.mono hbase).trans (hB2.mono (Nat.le_trans hbase hB1.size))⟩
set_option maxHeartbeats 1000000 in
theorem putEscaped_any (A : Option Addr) (n c : Nat) (l s : List Int) (w : World) (base : Nat) (hO : Own 5 w base (.slice A n c) l) (hn : l.length = n) (hbase : base ≤ w.heap.size) (hb : n ≤ 1099511627776) (hs : s.length ≤ 64) (hY : Byt s) :
    Calls Tryd.prog 29 #[.slice A n c, .string (strOfNums s)] w (RetO 5 w base (n + (esc s ++ [0, 1]).length) (l ++ (esc s ++ [0, 1]))) := by
  have hz := strOfNums_size s
  have HE := Lib.hid (esc_take s)
  have HA := Lib.hid (str_at s hY)
  have HL := Lib.hid (esc_length s)
  go_enter Tryd.func29, Tryd.ntmps29
  go_wp2_with fail
  go_loopw [0, 8] (fun sv iv wr => ∃ (j q : Nat) (A' : Option Addr) (c' : Nat), j ≤ s.length ∧ iv = .int .i64 j ∧ sv = .slice A' q c' ∧ Hid ((l ++ esc (s.take j)).length = q) ∧ q ≤ n + 2 * j ∧ Own 5 wr base (.slice A' q c') (l ++ esc (s.take j)) ∧ Below base w wr) (fun _ iv _ => s.length - (intOf iv).toNat)
  case atStart => exact ⟨0, n, A, c, by omega, rfl, rfl, by simp [esc, Hid, hn], by omega, by simpa [esc] using hO, Below.refl _ _⟩
  case round =>
    obtain ⟨j, q, A', c', hj, rfl, rfl, hq, hqm, hO', hB'⟩ := hrel
    have hs' : base ≤ wr.heap.size := Nat.le_trans hbase hB'.size
    by_cases hlt : j < s.length
    · have hx := HA.out j hlt
      have hE := HE.out j hlt
      have hx0 := hY.at_ j
      by_cases h0 : s.getD j 0 = 0
      · rw [h0] at hx hE hx0
        rw [if_pos rfl] at hE
        have hEH := Lib.hid hE
        clear hE h0
        go_wp2_with (at_builtin; with_reducible refine wpList_append_rd rfl (.tmp 11) (.tmp 15) 22 rfl base 5 Tryd.underlying22 info5 A' q c' (l ++ esc (s.take j)) hq.out rfl (hO'.alloc _) _ _ 1 1 [_] rfl (Rd.one _ _ _) ?hb5 ?hbase5 ?_)
        case hb5 => omega
        case hbase5 => simp; omega
        intro A5 c5 w5 hO5 hB5 _
        have hB25 := (hB'.alloc hs' _).trans hB5
        have hs5 : base ≤ w5.heap.size := Nat.le_trans hbase hB25.size
        have hq5 : Hid ((l ++ esc (s.take j) ++ [0]).length = q + 1) := by rw [List.length_append, hq.out]; exact Lib.hid rfl
        have hO5' : Own 5 w5 base (.slice A5 (q + 1) c5) (l ++ esc (s.take j) ++ [0]) := by simpa using hO5
        clear hO5
        go_wp2_with (at_builtin; with_reducible refine wpList_append_rd rfl (.tmp 21) (.tmp 22) 22 rfl base 5 Tryd.underlying22 info5 A5 (q + 1) c5 (l ++ esc (s.take j) ++ [0]) hq5.out rfl (hO5'.alloc _) _ _ 1 1 [_] rfl (Rd.one _ _ _) ?hb6 ?hbase6 ?_)
        case hb6 => omega
        case hbase6 => simp; omega
        intro A6 c6 w6 hO6 hB6 _
        have hB26 := (hB25.alloc hs5 _).trans hB6
        go_wp2_with fail
        go_roundw
        case rel => exact ⟨j + 1, q + 1 + 1, A6, c6, by omega, by go_num, rfl, by rw [hEH.out]; have := hq5.out; simp at this ⊢; exact Lib.hid (by omega), by omega, by rw [hEH.out]; simpa using hO6, hB26⟩
        case measure => simp [intOf]; omega
      · rw [if_neg h0] at hE
        have hEH := Lib.hid hE
        obtain ⟨x, hxx⟩ : ∃ x, s.getD j 0 = x := ⟨_, rfl⟩
        rw [hxx] at hx hx0 h0 hEH
        have h0' : (x == 0) = false := by simpa using h0
        clear hE hxx
        go_wp2_with (at_builtin; with_reducible refine wpList_append_rd rfl (.tmp 11) (.tmp 15) 22 rfl base 5 Tryd.underlying22 info5 A' q c' (l ++ esc (s.take j)) hq.out rfl (hO'.alloc _) _ _ 1 1 [_] rfl (Rd.one _ _ _) ?hb7 ?hbase7 ?_)
        case hb7 => omega
        case hbase7 => simp; omega
        intro A5 c5 w5 hO5 hB5 _
        have hB25 := (hB'.alloc hs' _).trans hB5
        go_wp2_with fail
        go_roundw
        case rel => exact ⟨j + 1, q + 1, A5, c5, by omega, by go_num, rfl, by rw [hEH.out]; have := hq.out; simp at this ⊢; exact Lib.hid (by omega), by omega, by rw [hEH.out]; simpa using hO5, hB25⟩
        case measure => simp [intOf]; omega
    · obtain rfl : j = s.length := by omega
      rw [List.take_length] at hq hO'
      have hqe := hq.out
      have hE2 := Lib.hid (esc_length s)
      generalize esc s = X at *
      clear HA HE HL hqe
      go_wp2_with (at_builtin; with_reducible refine wpList_append_rd rfl (.tmp 25) (.tmp 26) 22 rfl base 5 Tryd.underlying22 info5 A' q c' (l ++ X) hq.out rfl (hO'.alloc _) _ _ 2 2 [0, 1] rfl (Rd.two _ _ _ _) ?hb8 ?hbase8 ?_)
      case hb8 => omega
      case hbase8 => simp; omega
      intro A7 c7 w7 hO7 hB7 _
      have hB27 := (hB'.alloc hs' _).trans hB7
      have hlen : n + (X ++ [0, 1]).length = q + 2 := by have := hq.out; simp at this ⊢; omega
      go_wp2_with fail
      go_ret
      rw [hlen]
      exact ⟨A7, c7, rfl, by have := hq.out; simp at this ⊢; omega, hO7, hB27⟩
end Go.Proofs.YtodpaeaeigjmdaaDoor.val
