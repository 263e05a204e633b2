/- What the document's Digits and Show (antipoderef7) come to. Conditions: int64; texts of at most 2^40 bytes. -/
import Derived.Test.YtodpaeaeigjmdaaDoorRef7k
import Derived.Laws.Strings
namespace Go.Proofs.YtodpaeaeigjmdaaDoor.ref7
open Go Go.RowKit Go.Proofs.YtodpaeaeigjmdaaDoor.kit Go.Proofs.YtodpaeaeigjmdaaDoor.nums Go.Proofs.YtodpaeaeigjmdaaDoor.st Go.Proofs.YtodpaeaeigjmdaaDoor.va
set_option linter.unusedVariables false

theorem str_append (l m : List Int) : strOfNums l ++ strOfNums m = strOfNums (l ++ m) := by
  apply ByteArray.ext
  simp [strOfNums]
theorem str_digit (d : Int) (h0 : 0 ≤ d) (h1 : d ≤ 9) (i j : Nat) (hi : (i : Int) = d) (hj : j = i + 1) : (ByteArray.mk #[48, 49, 50, 51, 52, 53, 54, 55, 56, 57]).extract i j = strOfNums [48 + d] := by
  subst hj
  have : i < 10 := by omega
  subst hi
  have key : ∀ k : Fin 10, (ByteArray.mk #[48, 49, 50, 51, 52, 53, 54, 55, 56, 57]).extract k.1 (k.1 + 1) = strOfNums [48 + (k.1 : Int)] := by decide
  exact key ⟨i, this⟩
theorem digN_more (k : Nat) (u : Int) (h : ¬ u = 0) : digN (k + 1) u = digN k (u / 10) ++ [48 + u % 10] := if_neg h
theorem digN_zero (k : Nat) : digN k 0 = [] := by cases k <;> simp [digN]
theorem ten_step (k : Nat) (u : Int) (h : u < 10 ^ (k + 1)) : u / 10 < 10 ^ k := by
  rw [Int.pow_succ] at h
  generalize (10 : Int) ^ k = q at *
  omega
theorem digN_byt : ∀ (k : Nat) (u : Int), 0 ≤ u → Byt (digN k u)
  | 0, _, _ => fun x hx => by cases hx
  | k + 1, u, h => by
    by_cases h0 : u = 0
    · subst h0
      rw [digN_zero]
      exact fun x hx => by cases hx
    · rw [digN_more k u h0]
      refine (digN_byt k (u / 10) (by omega)).append (fun x hx => ?_)
      rw [List.mem_singleton.1 hx]
      omega
set_option maxHeartbeats 1000000 in
theorem digits_any (v : Int) (hv : I64 v) (w : World) : Calls Tryd.prog 39 #[.int .i64 v] w fun e w' => e = .returned (.string (strOfNums (digF v))) ∧ w = w' := by
  obtain ⟨v0, v1⟩ := hv
  by_cases h0 : v = 0
  · subst h0
    go_enter Tryd.func39, Tryd.ntmps39
    go_wp2_with fail
    go_ret
    exact ⟨rfl, rfl⟩
  · have h0' : (v == 0) = false := by simpa using h0
    by_cases h1 : v < 0
    · go_enter Tryd.func39, Tryd.ntmps39
      go_wp2_with fail
      go_loop [3, 4] (fun uv sv => ∃ (k : Nat) (u : Int) (s : List Int), uv = .int .u64 u ∧ sv = .string (strOfNums s) ∧ 0 ≤ u ∧ u ≤ 9223372036854775808 ∧ u < 10 ^ k ∧ s.length + k = 20 ∧ Hid (digN 20 (-v) = digN k u ++ s)) (fun uv _ => (intOf uv).toNat)
      case atStart => exact ⟨20, -v, [], by go_num, rfl, by omega, by omega, by rw [show (10 : Int) ^ 20 = 100000000000000000000 by decide]; omega, rfl, by rw [List.append_nil]; exact Lib.hid rfl⟩
      case round =>
        obtain ⟨k, u, s, rfl, rfl, u0, u1, uk, hk, hD⟩ := hrel
        by_cases hu : u = 0
        · subst hu
          rw [digN_zero, List.nil_append] at hD
          have hadd := fun wx => run_string_add_sum (P := Tryd.prog) wx ⟨#[45]⟩ (strOfNums s) (by rw [strOfNums_size]; show 1 + s.length ≤ _; omega)
          clear uk
          go_wp2_with fail
          go_ret
          have e : digF v = 45 :: s := by
            unfold digF
            rw [if_neg h0, if_pos h1, hD.out]
          exact ⟨by rw [e]; show Ending.returned (.string (strOfNums [45] ++ strOfNums s)) = _; rw [str_append]; rfl, rfl⟩
        · obtain ⟨k, rfl⟩ : ∃ k', k = k' + 1 := by
            cases k with
            | zero => rw [Int.pow_zero] at uk; omega
            | succ k => exact ⟨k, rfl⟩
          have hup := Lib.hid (ten_step k u uk)
          rw [digN_more k u hu] at hD
          have hD2 := Lib.hid hD.out
          have hdig := str_digit (u % 10) (by omega) (by omega) (u % 10).toNat (u % 10 + 1).toNat (by omega) (by omega)
          have hadd := fun wx => run_string_add_sum (P := Tryd.prog) wx (strOfNums [48 + u % 10]) (strOfNums s) (by rw [strOfNums_size, strOfNums_size]; show 1 + s.length ≤ _; omega)
          have hup0 : 0 < u := by omega
          clear uk hD
          go_wp2_with fail
          refine ⟨⟨k, u / 10, (48 + u % 10) :: s, rfl, by rw [str_append]; rfl, by omega, by omega, hup.out, by simp; omega, by rw [hD2.out, List.append_assoc]; exact Lib.hid rfl⟩, ?_⟩
          simp [intOf]
          omega
    · go_enter Tryd.func39, Tryd.ntmps39
      go_wp2_with fail
      go_loop [3, 4] (fun uv sv => ∃ (k : Nat) (u : Int) (s : List Int), uv = .int .u64 u ∧ sv = .string (strOfNums s) ∧ 0 ≤ u ∧ u ≤ 9223372036854775808 ∧ u < 10 ^ k ∧ s.length + k = 20 ∧ Hid (digN 20 (v) = digN k u ++ s)) (fun uv _ => (intOf uv).toNat)
      case atStart => exact ⟨20, v, [], by go_num, rfl, by omega, by omega, by rw [show (10 : Int) ^ 20 = 100000000000000000000 by decide]; omega, rfl, by rw [List.append_nil]; exact Lib.hid rfl⟩
      case round =>
        obtain ⟨k, u, s, rfl, rfl, u0, u1, uk, hk, hD⟩ := hrel
        by_cases hu : u = 0
        · subst hu
          rw [digN_zero, List.nil_append] at hD
          clear uk
          go_wp2_with fail
          go_ret
          have e : digF v = s := by
            unfold digF
            rw [if_neg h0, if_neg (by omega), hD.out]
          exact ⟨by rw [e]; rfl, rfl⟩
        · obtain ⟨k, rfl⟩ : ∃ k', k = k' + 1 := by
            cases k with
            | zero => rw [Int.pow_zero] at uk; omega
            | succ k => exact ⟨k, rfl⟩
          have hup := Lib.hid (ten_step k u uk)
          rw [digN_more k u hu] at hD
          have hD2 := Lib.hid hD.out
          have hdig := str_digit (u % 10) (by omega) (by omega) (u % 10).toNat (u % 10 + 1).toNat (by omega) (by omega)
          have hadd := fun wx => run_string_add_sum (P := Tryd.prog) wx (strOfNums [48 + u % 10]) (strOfNums s) (by rw [strOfNums_size, strOfNums_size]; show 1 + s.length ≤ _; omega)
          have hup0 : 0 < u := by omega
          clear uk hD
          go_wp2_with fail
          refine ⟨⟨k, u / 10, (48 + u % 10) :: s, rfl, by rw [str_append]; rfl, by omega, by omega, hup.out, by simp; omega, by rw [hD2.out, List.append_assoc]; exact Lib.hid rfl⟩, ?_⟩
          simp [intOf]
          omega
theorem quo_snoc (l : List Int) (x : Int) : quo (l ++ [x]) = quo l ++ (if x = 39 then [39, 39] else [x]) := by
  induction l with
  | nil => by_cases h : x = 39 <;> simp [quo, h]
  | cons y l ih => by_cases h : y = 39 <;> simp [quo, h, ih]
theorem quo_take (s : List Int) (j : Nat) (hj : j < s.length) : quo (s.take (j + 1)) = quo (s.take j) ++ (if s.getD j 0 = 39 then [39, 39] else [s.getD j 0]) := by
  rw [List.take_succ_eq_append_getElem hj, quo_snoc]
  simp [List.getD, hj]
theorem quo_len (s : List Int) : (quo s).length ≤ 2 * s.length := by
  induction s with
  | nil => simp [quo]
  | cons x s ih => by_cases h : x = 39 <;> simp [quo, h] <;> omega
theorem str_slice (s : List Int) (j : Nat) (hj : j < s.length) : (strOfNums s).extract j (j + 1) = strOfNums [s.getD j 0] := by
  apply ByteArray.ext
  apply Array.ext'
  simp [strOfNums, List.getD, hj]
  rw [List.drop_eq_getElem_cons (by simpa using hj), List.take_succ_cons]
  simp
set_option maxHeartbeats 2000000 in
theorem show_any (a : VaL) (ha : a.ok) (hs : a.s.length ≤ 1099511627776) (w : World) :
    Calls Tryd.prog 19 #[vaV a] w fun e w' => e = .returned (.string (strOfNums (showF a))) ∧ Below w.heap.size w w' := by
  have CM := Lib.hid (fun w => may_any a hs w)
  obtain ⟨k, n, s⟩ := a
  obtain ⟨hk, hn, hY⟩ := ha
  dsimp only at hk hn hY hs
  have hB0 : Hid (Below w.heap.size w (w.alloc (.cells #[.int .i64 k, .int .i64 n, .string (strOfNums s)] 24))) := (Below.refl _ _).alloc (Nat.le_refl _) _
  have k0 : Hid (Blk 24 (w.alloc (.cells #[.int .i64 k, .int .i64 n, .string (strOfNums s)] 24)) w.heap.size [.int .i64 k, .int .i64 n, .string (strOfNums s)]) := heap_alloc_new w _
  have hs0 : w.heap.size < (w.alloc (.cells #[.int .i64 k, .int .i64 n, .string (strOfNums s)] 24)).heap.size := by simp
  have hz := strOfNums_size s
  have HA := Lib.hid (str_at s hY)
  have HQ := Lib.hid (quo_take s)
  have HQL := Lib.hid (quo_len)
  have HSL := Lib.hid (str_slice s)
  obtain ⟨v, hv⟩ : ∃ v, showF ⟨k, n, s⟩ = v := ⟨_, rfl⟩
  rw [hv]
  unfold showF at hv
  unfold vaV at CM ⊢
  dsimp only at CM hv ⊢
  have D := Lib.hid (fun w => digits_any n hn w)
  by_cases hm : mayP ⟨k, n, s⟩
  · rw [if_pos hm] at hv
    rw [show decide (mayP ⟨k, n, s⟩) = true by simp [hm]] at CM
    have hv := Lib.hid hv
    have hm := Lib.hid hm
    go_enter Tryd.func19, Tryd.ntmps19
    go_wp2_with fail
    refine (CM.out _).mono ?_
    generalize (w.alloc (.cells #[.int .i64 k, .int .i64 n, .string (strOfNums s)] 24)) = w1 at *
    rintro e wr ⟨rfl, hB2⟩
    have hK := k0.out.below hB2 hs0
    have hBr := hB0.out.trans (hB2.mono hB0.out.size)
    have d0 := hK.cell 0
    have d1 := hK.cell 1
    have d2 := hK.cell 2
    simp only [List.getElem?_cons_zero, List.getElem?_cons_succ] at d0 d1 d2
    clear CM
    by_cases h0 : k = 0
    · have e : v = [78, 85, 76, 76] := by rw [← hv.out, if_pos h0]
      subst h0
      go_wp2_with fail
      go_ret
      exact ⟨by rw [e]; rfl, hBr⟩
    have h0' : (k == 0) = false := by simpa using h0
    by_cases h1 : k = 1
    · by_cases hn1 : n = 1
      · have e : v = [84, 82, 85, 69] := by rw [← hv.out, if_neg h0, if_pos h1, if_pos hn1]
        subst h1 hn1
        go_wp2_with fail
        go_ret
        exact ⟨by rw [e]; rfl, hBr⟩
      · have hn1' : (n == 1) = false := by simpa using hn1
        have e : v = [70, 65, 76, 83, 69] := by rw [← hv.out, if_neg h0, if_pos h1, if_neg hn1]
        subst h1
        go_wp2_with fail
        go_ret
        exact ⟨by rw [e]; rfl, hBr⟩
    have h1' : (k == 1) = false := by simpa using h1
    by_cases h2 : k = 2
    · have e : v = digF n := by rw [← hv.out, if_neg h0, if_neg h1, if_pos h2]
      subst h2
      go_wp2_with fail
      refine (D.out _).mono ?_
      rintro e2 w5 ⟨rfl, rfl⟩
      go_wp2_with fail
      go_ret
      exact ⟨by rw [e]; rfl, hBr⟩
    have h2' : (k == 2) = false := by simpa using h2
    have e : v = 39 :: (quo s ++ [39]) := by rw [← hv.out, if_neg h0, if_neg h1, if_neg h2]
    have he := Lib.hid e
    clear e D
    go_wp2_with fail
    go_loop [3, 4] (fun sv iv => ∃ (j : Nat) (q : List Int), j ≤ s.length ∧ iv = .int .i64 j ∧ sv = .string (strOfNums q) ∧ Hid (q = 39 :: quo (s.take j))) (fun _ iv => s.length - (intOf iv).toNat)
    case atStart => exact ⟨0, [39], Nat.zero_le _, rfl, rfl, rfl⟩
    case round =>
      obtain ⟨j, q, hj, rfl, rfl, hq⟩ := hrel
      have hql : q.length ≤ 1 + 2 * j := by
        rw [hq.out]
        have := HQL.out (s.take j)
        rw [List.length_take] at this
        simp
        omega
      by_cases hlt : j < s.length
      · have hx := HA.out j hlt
        have hE := HQ.out j hlt
        have hsl := HSL.out j hlt
        have hx0 := hY.at_ j
        by_cases h39 : s.getD j 0 = 39
        · rw [h39] at hx hE hx0 hsl
          rw [if_pos rfl] at hE
          have hEH := Lib.hid hE
          clear hE h39
          have hadd := fun wx => run_string_add_sum (P := Tryd.prog) wx (strOfNums q) ⟨#[39]⟩ (by rw [strOfNums_size]; show q.length + 1 ≤ _; omega)
          have happ : strOfNums q ++ ⟨#[39]⟩ = strOfNums (q ++ [39]) := str_append q [39]
          rw [happ] at hadd
          have hadd2 := fun wx => run_string_add_sum (P := Tryd.prog) wx (strOfNums (q ++ [39])) (strOfNums [39]) (by rw [strOfNums_size, strOfNums_size, List.length_append]; show q.length + 1 + 1 ≤ _; omega)
          rw [str_append] at hadd2
          go_wp2_with fail
          refine ⟨⟨j + 1, q ++ [39, 39], by omega, by go_num, rfl, by rw [hEH.out, hq.out]; exact Lib.hid (by simp)⟩, ?_⟩
          simp [intOf]
          omega
        · rw [if_neg h39] at hE
          have hEH := Lib.hid hE
          obtain ⟨x, hxx⟩ : ∃ x, s.getD j 0 = x := ⟨_, rfl⟩
          rw [hxx] at hx hx0 h39 hEH hsl
          have h39' : (x == 39) = false := by simpa using h39
          clear hE hxx
          have hadd := fun wx => run_string_add_sum (P := Tryd.prog) wx (strOfNums q) (strOfNums [x]) (by rw [strOfNums_size, strOfNums_size]; show q.length + 1 ≤ _; omega)
          rw [str_append] at hadd
          go_wp2_with fail
          refine ⟨⟨j + 1, q ++ [x], by omega, by go_num, rfl, by rw [hEH.out, hq.out]; exact Lib.hid (by simp)⟩, ?_⟩
          simp [intOf]
          omega
      · obtain rfl : j = s.length := by omega
        have hadd := fun wx => run_string_add_sum (P := Tryd.prog) wx (strOfNums q) ⟨#[39]⟩ (by rw [strOfNums_size]; show q.length + 1 ≤ _; omega)
        have happ : strOfNums q ++ ⟨#[39]⟩ = strOfNums (q ++ [39]) := str_append q [39]
        rw [happ] at hadd
        go_wp2_with fail
        go_ret
        exact ⟨by rw [he.out]; have h1 := hq.out; rw [List.take_length] at h1; rw [h1]; rfl, hBr⟩
  · rw [if_neg hm] at hv
    rw [show decide (mayP ⟨k, n, s⟩) = false by simp [hm]] at CM
    have hv := Lib.hid hv
    have hm := Lib.hid hm
    go_enter Tryd.func19, Tryd.ntmps19
    go_wp2_with fail
    refine (CM.out _).mono ?_
    generalize (w.alloc (.cells #[.int .i64 k, .int .i64 n, .string (strOfNums s)] 24)) = w1 at *
    rintro e wr ⟨rfl, hB2⟩
    have hBr := hB0.out.trans (hB2.mono hB0.out.size)
    go_wp2_with fail
    go_ret
    exact ⟨by rw [← hv.out]; rfl, hBr⟩
end Go.Proofs.YtodpaeaeigjmdaaDoor.ref7
