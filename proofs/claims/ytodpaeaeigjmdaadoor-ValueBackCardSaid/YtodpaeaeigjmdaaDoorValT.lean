/- What the five ways to take a value's rest come to (package value). Conditions: at most 2^40 bytes. -/
import Derived.Test.YtodpaeaeigjmdaaDoorValM
import Derived.Test.YtodpaeaeigjmdaaDoorRef7t
import Derived.Test.YtodpaeaeigjmdaaDoorRef7u
import Derived.Test.YtodpaeaeigjmdaaDoorTake
import Derived.Test.YtodpaeaeigjmdaaDoorGet
import Derived.Test.YtodpaeaeigjmdaaDoorKitS
namespace Go.Proofs.YtodpaeaeigjmdaaDoor.val
open Go Go.RowKit Go.Proofs.YtodpaeaeigjmdaaDoor.kit Go.Proofs.YtodpaeaeigjmdaaDoor.nums Go.Proofs.YtodpaeaeigjmdaaDoor.st Go.Proofs.YtodpaeaeigjmdaaDoor.va Go.Proofs.YtodpaeaeigjmdaaDoor.bytes Go.Proofs.YtodpaeaeigjmdaaDoor.ints Go.Proofs.YtodpaeaeigjmdaaDoor.ref7
set_option linter.unusedVariables false

/-- Wherever the text begins: it is one, or none. -/
theorem tkT_out : ∀ (l s : List Int) (i : Int), (∃ q n, ∀ d, tkT l s (i + d) = (⟨3, 0, q⟩, n + d, 0)) ∨ (∃ e, e ≠ 0 ∧ ∀ d, tkT l s d = (zeroV, 0, e))
  | [], s, i => .inr ⟨2, by decide, fun d => by simp [tkT]⟩
  | [x], s, i => by
    by_cases h0 : x = 0
    · exact .inr ⟨2, by decide, fun d => tkT_short x s d h0⟩
    · by_cases h : s.length = 64
      · exact .inr ⟨3, by decide, fun d => tkT_full x [] s d h0 h⟩
      · exact .inr ⟨2, by decide, fun d => by rw [tkT_more x [] s d h0 h]; simp [tkT]⟩
  | x :: y :: r, s, i => by
    by_cases h0 : x = 0
    · subst h0
      by_cases h1 : y = 1
      · exact .inl ⟨s, i + 2, fun d => by rw [tkT_end y r s _ h1, show i + d + 2 = i + 2 + d by omega]⟩
      by_cases h2 : y = 255
      · subst h2
        by_cases h : s.length = 64
        · exact .inr ⟨3, by decide, fun d => tkT_full0 r s d h⟩
        · rcases tkT_out r (s ++ [0]) (i + 2) with ⟨q, n, hq⟩ | ⟨e, he, hq⟩
          · exact .inl ⟨q, n, fun d => by rw [tkT_more0 r s _ h, show i + d + 2 = i + 2 + d by omega, hq d]⟩
          · exact .inr ⟨e, he, fun d => by rw [tkT_more0 r s _ h, hq]⟩
      · exact .inr ⟨9, by decide, fun d => tkT_form y r s d h1 h2⟩
    · by_cases h : s.length = 64
      · exact .inr ⟨3, by decide, fun d => tkT_full x (y :: r) s d h0 h⟩
      · rcases tkT_out (y :: r) (s ++ [x]) (i + 1) with ⟨q, n, hq⟩ | ⟨e, he, hq⟩
        · exact .inl ⟨q, n, fun d => by rw [tkT_more x (y :: r) s _ h0 h, show i + d + 1 = i + 1 + d by omega, hq d]⟩
        · exact .inr ⟨e, he, fun d => by rw [tkT_more x (y :: r) s _ h0 h, hq]⟩
theorem tkT_le : ∀ (l s : List Int) (i : Int), 0 ≤ i → 0 ≤ (tkT l s i).2.1 ∧ (tkT l s i).2.1 ≤ i + l.length
  | [], s, i, h => by simp [tkT]; omega
  | [x], s, i, h => by
    by_cases h0 : x = 0
    · rw [tkT_short x s i h0]; simp; omega
    · by_cases h64 : s.length = 64
      · rw [tkT_full x [] s i h0 h64]; simp; omega
      · rw [tkT_more x [] s i h0 h64]; simp [tkT]; omega
  | x :: y :: r, s, i, h => by
    by_cases h0 : x = 0
    · subst h0
      by_cases h1 : y = 1
      · rw [tkT_end y r s i h1]; simp; omega
      by_cases h2 : y = 255
      · subst h2
        by_cases h64 : s.length = 64
        · rw [tkT_full0 r s i h64]; simp; omega
        · rw [tkT_more0 r s i h64]
          have := tkT_le r (s ++ [0]) (i + 2) (by omega)
          simp only [List.length_cons]; omega
      · rw [tkT_form y r s i h1 h2]; simp; omega
    · by_cases h64 : s.length = 64
      · rw [tkT_full x (y :: r) s i h0 h64]; simp; omega
      · rw [tkT_more x (y :: r) s i h0 h64]
        have := tkT_le (y :: r) (s ++ [x]) (i + 1) (by omega)
        simp only [List.length_cons] at this ⊢; omega
/-- What a call ends in that hands back a number, a length, an error. -/
def RetI (W : World) (v m er : Int) (e : Ending) (w' : World) : Prop := e = .returned (.tuple #[.int .i64 v, .int .i64 m, .int .i64 er]) ∧ Below W.heap.size W w'
/-- What a call ends in that hands back a text, a length, an error. -/
def RetE (W : World) (q : List Int) (m er : Int) (e : Ending) (w' : World) : Prop := e = .returned (.tuple #[.string (strOfNums q), .int .i64 m, .int .i64 er]) ∧ Below W.heap.size W w'

theorem takeBool_nil (c : Nat) (A : Option Addr) (w : World) : Calls Tryd.prog 65 #[.slice A 0 c] w (RetI w 0 0 2) := by
  go_enter Tryd.func65, Tryd.ntmps65
  go_wp2_with fail
  go_ret3
  exact ⟨rfl, Below.refl _ _⟩
theorem takeBool_any (n c : Nat) (A : Option Addr) (y : Int) (r : List Int) (w : World) (hR : Rd w w.heap.size A n (y :: r)) (hy : 0 ≤ y ∧ y ≤ 255) (hb : n ≤ 1099511627776) :
    Calls Tryd.prog 65 #[.slice A n c] w (RetI w (if 1 < y then 0 else y) (if 1 < y then 0 else 1) (if 1 < y then 9 else 0)) := by
  have hl := hR.len
  have hn : 1 ≤ n := by rw [← hl]; simp
  obtain ⟨b, o, rfl, hbl, hc⟩ := hR.2 (by omega)
  have hx := hc 0 (by omega)
  simp only [List.getD_cons_zero, Nat.add_zero] at hx
  clear hc hR hl
  by_cases h : 1 < y
  · rw [if_pos h, if_pos h, if_pos h]
    go_enter Tryd.func65, Tryd.ntmps65
    go_wp2_with fail
    go_ret3
    exact ⟨rfl, Below.refl _ _⟩
  · rw [if_neg h, if_neg h, if_neg h]
    obtain rfl | rfl : y = 0 ∨ y = 1 := by omega
    · go_enter Tryd.func65, Tryd.ntmps65
      go_wp2_with fail
      go_ret3
      exact ⟨rfl, Below.refl _ _⟩
    · go_enter Tryd.func65, Tryd.ntmps65
      go_wp2_with fail
      go_ret3
      exact ⟨rfl, Below.refl _ _⟩
theorem takeOrder_short (A : Option Addr) (n c : Nat) (w : World) (hn : n < 8) :
    Calls Tryd.prog 41 #[.slice A n c] w (RetI w (0 - 9223372036854775808) 8 2) := by
  have G := Lib.hid (get_short A n c 0 8 w (by omega) (by omega) (by omega) (by omega) (by omega))
  have B := Lib.hid (fun w => back_any 0 w (by omega) (by omega))
  go_enter Tryd.func41, Tryd.ntmps41
  go_wp2_with fail
  refine G.out.mono ?_
  rintro e w1 ⟨rfl, rfl⟩
  go_wp2_with fail
  refine (B.out _).mono ?_
  rintro e w1 ⟨rfl, rfl⟩
  go_wp2_with fail
  go_ret3
  exact ⟨rfl, Below.refl _ _⟩
theorem takeOrder_any (A : Option Addr) (n c : Nat) (l : List Int) (w : World) (hR : Rd w w.heap.size A n l) (hY : Byt l) (hb : n ≤ 1099511627776) (hnc : n ≤ c) (hn : 8 ≤ n) :
    Calls Tryd.prog 41 #[.slice A n c] w (RetI w (beV (l.take 8) - 9223372036854775808) 8 0) := by
  have G := Lib.hid (get_ok A n c l 0 8 w w.heap.size hR hY hb hnc (by omega) (by omega) (by omega))
  rw [List.drop_zero] at G
  have hv := beV_lt8 (l.take 8) (hY.take 8) (by rw [List.length_take]; omega)
  have B := Lib.hid (fun w => back_any (beV (l.take 8)) w hv.1 hv.2)
  clear hR hv
  generalize beV (l.take 8) = u at *
  go_enter Tryd.func41, Tryd.ntmps41
  go_wp2_with fail
  refine G.out.mono ?_
  rintro e w1 ⟨rfl, rfl⟩
  go_wp2_with fail
  refine (B.out _).mono ?_
  rintro e w1 ⟨rfl, rfl⟩
  go_wp2_with fail
  go_ret3
  exact ⟨rfl, Below.refl _ _⟩
theorem takeZig_any (A : Option Addr) (n c : Nat) (l : List Int) (w : World) (hR : Rd w w.heap.size A n l) (hY : Byt l) (hb : n ≤ 1099511627776) :
    Calls Tryd.prog 46 #[.slice A n c] w (RetI w (zagF (takeV l).1) (takeV l).2.1 (takeV l).2.2) := by
  have T := Lib.hid (takeVar_any A n c l w w.heap.size hR hY hb)
  have hg := takeV_good hY
  obtain ⟨u, q, e, htv⟩ : ∃ u q e, takeV l = (u, q, e) := ⟨_, _, _, rfl⟩
  rw [htv] at hg T ⊢
  unfold nums.Good at hg
  dsimp only at hg T ⊢
  have Z := Lib.hid (fun w => zag_any u w hg.1 hg.2.1)
  clear hg htv hR
  go_enter Tryd.func46, Tryd.ntmps46
  go_wp2_with fail
  refine T.out.mono ?_
  rintro e w1 ⟨rfl, rfl⟩
  go_wp2_with fail
  refine (Z.out _).mono ?_
  rintro e w1 ⟨rfl, rfl⟩
  go_wp2_with fail
  go_ret3
  exact ⟨rfl, Below.refl _ _⟩
set_option maxRecDepth 10000 in
theorem takeCounted_any (A : Option Addr) (n c : Nat) (l : List Int) (w : World) (hR : Rd w w.heap.size A n l) (hY : Byt l) (hb : n ≤ 1099511627776) (hnc : n ≤ c) :
    Calls Tryd.prog 47 #[.slice A n c] w (RetE w (tTxt l) (tEnd l) (if tErr l ≠ 0 then tErr l else if 64 < (tTxt l).length then 3 else 0)) := by
  have T := Lib.hid (takeText_any A n c l w hR hY hb hnc)
  unfold RetT at T
  clear hR
  generalize tTxt l = q at *
  generalize tEnd l = en at *
  generalize tErr l = er at *
  by_cases he : er = 0
  · subst he
    rw [if_neg (by simp)]
    by_cases h : 64 < q.length
    · rw [if_pos h]
      go_enter Tryd.func47, Tryd.ntmps47
      go_wp2_with fail
      refine T.out.mono ?_
      rintro e w1 ⟨A3, n3, c3, rfl, hq, hO, hB2⟩
      have hcv := text_of hO hq
      rw [hq] at h
      go_wp2_with fail
      go_ret3
      exact ⟨rfl, hB2⟩
    · rw [if_neg h]
      go_enter Tryd.func47, Tryd.ntmps47
      go_wp2_with fail
      refine T.out.mono ?_
      rintro e w1 ⟨A3, n3, c3, rfl, hq, hO, hB2⟩
      have hcv := text_of hO hq
      rw [hq] at h
      go_wp2_with fail
      go_ret3
      exact ⟨rfl, hB2⟩
  · rw [if_pos he]
    have he' : (er == 0) = false := by simpa using he
    go_enter Tryd.func47, Tryd.ntmps47
    go_wp2_with fail
    refine T.out.mono ?_
    rintro e w1 ⟨A3, n3, c3, rfl, hq, hO, hB2⟩
    have hcv := text_of hO hq
    go_wp2_with fail
    go_ret3
    exact ⟨rfl, hB2⟩
set_option maxRecDepth 10000 in
set_option maxHeartbeats 2000000 in
theorem takeEscaped_any (A : Option Addr) (n c : Nat) (l : List Int) (w : World) (hR : Rd w w.heap.size A n l) (hY : Byt l) (hb : n ≤ 1099511627776) :
    Calls Tryd.prog 42 #[.slice A n c] w (RetE w (tkT l [] 0).1.s (tkT l [] 0).2.1 (tkT l [] 0).2.2) := by
  have hL := Lib.hid hR.len
  have HD := Lib.hid (drop_at l)
  have HC : Hid (∀ wq, Below w.heap.size w wq → ∀ j, j < n → ∃ b o, A = some ⟨b, o, none⟩ ∧ wq.cell? ⟨b, o + j, none⟩ = some (.int .u8 (l.getD j 0))) := fun wq hq j hj => by
    obtain ⟨b, o, e, hbl, hc⟩ := hR.2 (by omega)
    exact ⟨b, o, e, (hq.cell (p := ⟨b, o + j, none⟩) hbl).trans (hc j hj)⟩
  clear hR
  obtain ⟨r, hr⟩ : ∃ r, tkT l [] 0 = r := ⟨_, rfl⟩
  rw [hr]
  go_enter Tryd.func42, Tryd.ntmps42
  go_wp2_with fail
  go_loopw [5, 6] (fun sv iv wr => ∃ (j k : Nat) (A' : Option Addr) (c' : Nat) (q : List Int), j ≤ n ∧ iv = .int .i64 j ∧ sv = .slice A' k c' ∧ Hid (q.length = k) ∧ k ≤ 64 ∧ Own 5 wr w.heap.size (.slice A' k c') q ∧ Below w.heap.size w wr ∧ Hid (r = tkT (l.drop j) q j)) (fun _ iv _ => n - (intOf iv).toNat)
  case atStart => exact ⟨0, 0, none, 0, [], Nat.zero_le _, rfl, rfl, rfl, by omega, Own.nil _ _ _, Below.refl _ _, hr.symm⟩
  case round =>
    obtain ⟨j, k, A', c', q, hj, rfl, rfl, hq, hk, hO, hBr, hT⟩ := hrel
    have hsz := hBr.size
    by_cases hjn : j < n
    · obtain ⟨b, o, rfl, hx⟩ := HC.out wr hBr j hjn
      have hD := HD.out j (by rw [hL.out]; exact hjn)
      rw [hD] at hT
      have hx0 := hY.at_ j
      by_cases h0 : l.getD j 0 = 0
      · rw [h0] at hx hx0 hT
        clear h0 hD
        by_cases hj2 : j + 1 = n
        · have hV : Hid (r = (zeroV, 0, 2)) := by
            rw [hT.out, List.drop_of_length_le (by rw [hL.out]; omega)]
            exact tkT_short 0 q j rfl
          have hje : ((j : Int) + 1 == n) = true := by simp; omega
          go_wp2_with fail
          go_ret3
          exact ⟨by rw [hV.out]; rfl, hBr⟩
        · have hje : ((j : Int) + 1 == n) = false := by simp; omega
          obtain ⟨b', o', e', hy⟩ := HC.out wr hBr (j + 1) (by omega)
          simp only [Option.some.injEq, Addr.mk.injEq, and_true] at e'
          obtain ⟨rfl, rfl⟩ := e'
          have hD := HD.out (j + 1) (by rw [hL.out]; omega)
          rw [hD] at hT
          have hy0 := hY.at_ (j + 1)
          generalize l.getD (j + 1) 0 = y at *
          by_cases hy1 : y = 1
          · have hV : Hid (r = (⟨3, 0, q⟩, (j : Int) + 2, 0)) := hT.out.trans (tkT_end y _ q j hy1)
            have hcv := text_of hO hq.out
            subst hy1
            clear hD hT
            go_wp2_with fail
            go_ret3
            exact ⟨by rw [hV.out]; simp [Int.add_assoc], hBr⟩
          · have hy1' : (y == 1) = false := by simpa using hy1
            by_cases hy2 : y = 255
            · subst hy2
              clear hy1 hy1' hD
              by_cases hk64 : k = 64
              · subst hk64
                have hV : Hid (r = (zeroV, 0, 3)) := hT.out.trans (tkT_full0 _ q j hq.out)
                clear hT
                go_wp2_with fail
                go_ret3
                exact ⟨by rw [hV.out]; rfl, hBr⟩
              · have hkb : ((k : Int) == 64) = false := by simp; omega
                have hT2 := Lib.hid (hT.out.trans (tkT_more0 _ q j (by rw [hq.out]; exact hk64)))
                clear hT
                go_wp2_with (at_builtin; with_reducible refine wpList_append_rd rfl (.tmp 41) (.tmp 43) 22 rfl w.heap.size 5 Tryd.underlying22 info5 A' k c' q hq.out rfl (hO.alloc _) _ _ 1 1 [_] rfl (Rd.one _ _ _) ?hb1 ?hbase1 ?_)
                case hb1 => omega
                case hbase1 => simp; omega
                intro A5 c5 w5 hO5 hB5 _
                have hBr5 := (hBr.alloc hsz _).trans hB5
                go_wp2_with fail
                go_roundw
                case rel => exact ⟨j + 2, k + 1, A5, c5, q ++ [0], by omega, by go_num, rfl, by rw [List.length_append, hq.out]; exact Lib.hid rfl, by omega, hO5, hBr5, by have := hT2.out; simpa using Lib.hid this⟩
                case measure => simp [intOf]; omega
            · have hy2' : (y == 255) = false := by simpa using hy2
              have hV : Hid (r = (zeroV, 0, 9)) := hT.out.trans (tkT_form y _ q j hy1 hy2)
              clear hD hT
              go_wp2_with fail
              go_ret3
              exact ⟨by rw [hV.out]; rfl, hBr⟩
      · have h0' : (l.getD j 0 == 0) = false := by simpa using h0
        generalize l.getD j 0 = x at *
        by_cases hk64 : k = 64
        · subst hk64
          have hV : Hid (r = (zeroV, 0, 3)) := hT.out.trans (tkT_full x _ q j h0 hq.out)
          clear hT
          go_wp2_with fail
          go_ret3
          exact ⟨by rw [hV.out]; rfl, hBr⟩
        · have hkb : ((k : Int) == 64) = false := by simp; omega
          have hT2 := Lib.hid (hT.out.trans (tkT_more x _ q j h0 (by rw [hq.out]; exact hk64)))
          clear hT hD
          go_wp2_with (at_builtin; with_reducible refine wpList_append_rd rfl (.tmp 41) (.tmp 43) 22 rfl w.heap.size 5 Tryd.underlying22 info5 A' k c' q hq.out rfl (hO.alloc _) _ _ 1 1 [_] rfl (Rd.one _ _ _) ?hb2 ?hbase2 ?_)
          case hb2 => omega
          case hbase2 => simp; omega
          intro A5 c5 w5 hO5 hB5 _
          have hBr5 := (hBr.alloc hsz _).trans hB5
          go_wp2_with fail
          go_roundw
          case rel => exact ⟨j + 1, k + 1, A5, c5, q ++ [x], by omega, by go_num, rfl, by rw [List.length_append, hq.out]; exact Lib.hid rfl, by omega, hO5, hBr5, by have := hT2.out; simpa using Lib.hid this⟩
          case measure => simp [intOf]; omega
    · obtain rfl : j = n := by omega
      have hV : Hid (r = (zeroV, 0, 2)) := by
        rw [hT.out, List.drop_of_length_le (by rw [hL.out]; exact Nat.le_refl _)]
        simp [tkT, Hid]
      clear hT
      go_wp2_with fail
      go_ret3
      exact ⟨by rw [hV.out]; rfl, hBr⟩
end Go.Proofs.YtodpaeaeigjmdaaDoor.val
