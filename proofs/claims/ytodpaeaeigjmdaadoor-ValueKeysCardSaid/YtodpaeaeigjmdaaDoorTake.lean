/- What bits.TakeVar and bits.TakeText, and the document's, read of any bytes. Condition: the bytes are at most 2^40. -/
import Derived.Test.YtodpaeaeigjmdaaDoorProg
import Derived.Test.YtodpaeaeigjmdaaDoorRoom
import Derived.Test.YtodpaeaeigjmdaaDoorVar
import Derived.Outline
namespace Go.Proofs.YtodpaeaeigjmdaaDoor.bytes
open Go.RowKit Go.Proofs.YtodpaeaeigjmdaaDoor.kit Go.Proofs.YtodpaeaeigjmdaaDoor.nums
set_option linter.unusedVariables false

theorem ret_three {j k m : IntKind} {a b c a' b' c' : Int} (h1 : a = a') (h2 : b = b') (h3 : c = c') : Ending.returned (.tuple #[.int j a, .int k b, .int m c]) = .returned (.tuple #[.int j a', .int k b', .int m c']) := by rw [h1, h2, h3]

set_option maxHeartbeats 400000 in
theorem takeVar_any (A : Option Addr) (n c : Nat) (l : List Int) (w : World) (B : Nat) (hR : Rd w B A n l) (hY : Byt l) (hb : n ≤ 1099511627776) :
    Calls Tryd.prog 68 #[.slice A n c] w fun e w' => e = .returned (.tuple #[.int .u64 (takeV l).1, .int .i64 (takeV l).2.1, .int .i64 (takeV l).2.2]) ∧ w = w' := by
  by_cases hn0 : n = 0
  · subst hn0
    have hl : l = [] := List.eq_nil_of_length_eq_zero hR.1
    subst hl
    clear hR
    go_enter Tryd.func68, Tryd.ntmps68
    go_wp2_with fail
    go_loop [2, 9] (fun s i => s = .int .u64 0 ∧ i = .int .i64 0) (fun _ i => 0)
    case atStart => exact ⟨rfl, rfl⟩
    case round =>
      obtain ⟨rfl, rfl⟩ := hrel
      go_wp2_with fail
      go_ret3
      exact ⟨rfl, rfl⟩
  · obtain ⟨b, o, rfl, hbB, hcell⟩ := hR.2 (by omega)
    have HC := Lib.hid hcell
    have HL := Lib.hid hR.1
    clear hcell hR
    go_enter Tryd.func68, Tryd.ntmps68
    go_wp2_with fail
    go_loop [2, 9] (fun s i => ∃ (j : Nat) (v : Int), j ≤ n ∧ j ≤ 9 ∧ i = .int .i64 j ∧ s = .int .u64 v ∧ 0 ≤ v ∧ v < 128 ^ j ∧ Hid (takeV l = tv j v (l.drop j))) (fun _ i => n - (intOf i).toNat)
    case atStart => exact ⟨0, 0, by omega, by omega, rfl, rfl, by omega, by decide, rfl⟩
    case round =>
      obtain ⟨j, v, hj, hj9, rfl, rfl, v0, v1, HT⟩ := hrel
      by_cases hlt : j < n
      · have hx := HC.out j hlt
        have hd : l.drop j = l.getD j 0 :: l.drop (j + 1) := by
          rw [List.drop_eq_getElem_cons (by have := HL.out; omega)]
          simp [List.getD, show j < l.length by have := HL.out; omega]
        have HT2 := HT.out
        rw [hd] at HT2
        have hx0 := (hY.at_ j).1
        have hx1 := (hY.at_ j).2
        have HT3 := Lib.hid HT2
        clear hd HT HT2
        generalize l.getD j 0 = x at *
        by_cases g1 : j = 9 ∧ 1 < x
        · obtain ⟨rfl, g1⟩ := g1
          go_wp2_with fail
          go_ret3
          rw [HT3.out, tv_great 9 v x _ ⟨rfl, g1⟩]
          exact ⟨rfl, rfl⟩
        · have hn := not128 x hx0 hx1
          by_cases h9 : j = 9
          · subst h9
            have x1 : x ≤ 1 := by omega
            have ho := or_nine v x v0 v1 hx0 x1
            have HD : 1 ≤ x → Hid (takeV l = (v + x % 128 * 128 ^ 9, ((9 : Nat) : Int) + 1, 0)) := fun h => by rw [HT3.out, tv_done 9 v x _ g1 (by omega) (by omega)]; rfl
            have HF : x = 0 → Hid (takeV l = (0, 0, 9)) := fun h => by rw [HT3.out, tv_form 9 v x _ (by omega) (by omega)]; rfl
            clear hx1 HT3 g1 v1
            generalize v + x % 128 * 128 ^ 9 = V at *
            rcases (show x = 0 ∨ x = 1 by omega) with rfl | rfl
            · have HF2 := HF rfl
              clear HD HF
              go_wp2_with fail
              go_ret3
              rw [HF2.out]
              exact ⟨rfl, rfl⟩
            · have HD2 := HD (by omega)
              have HO := Lib.hid (show bits .or .u64 v 9223372036854775808 = V by simpa using ho)
              clear HD HF ho
              go_wp2_with fail
              go_ret3
              rw [HD2.out]
              exact ⟨ret_three HO.out rfl rfl, rfl⟩
          · have hj8 : j ≤ 8 := by omega
            have hj2 : ¬ (j : Int) = 9 := by omega
            by_cases h128 : 128 ≤ x
            · have ho := or_walk j v x v0 v1 hj8 hx0
              have HM : Hid (takeV l = tv (j + 1) (v + x % 128 * 128 ^ j) (l.drop (j + 1))) := by rw [HT3.out, tv_more j v x _ (by omega) h128]; rfl
              have HP := Lib.hid (pow_step j v x v0 v1)
              clear HT3 g1 v0 v1
              generalize v + x % 128 * 128 ^ j = V at *
              go_wp2_with fail
              go_round
              case rel => exact ⟨j + 1, V, by omega, by omega, by go_num, rfl, HP.out.1, HP.out.2, HM⟩
              case measure => simp [intOf]; omega
            · by_cases hx00 : x = 0
              · by_cases hj0 : 0 < j
                · have HF : Hid (takeV l = (0, 0, 9)) := by rw [HT3.out, tv_form j v x _ (by omega) ⟨hx00, hj0⟩]; rfl
                  subst hx00
                  clear HT3 g1 v1
                  go_wp2_with fail
                  go_ret3
                  rw [HF.out]
                  exact ⟨rfl, rfl⟩
                · obtain rfl : j = 0 := by omega
                  obtain rfl : v = 0 := by simp at v1; omega
                  have HD : Hid (takeV l = (0, 1, 0)) := by rw [HT3.out, tv_done 0 0 x _ (by omega) (by omega) (by omega), hx00]; rfl
                  subst hx00
                  rw [Nat.add_zero] at hx
                  have ho : bits .or .u64 0 (IntKind.u64.wrap 0) = 0 := by decide
                  clear HT3 g1 v1 v0
                  go_wp2_with fail
                  go_ret3
                  rw [HD.out]
                  exact ⟨rfl, rfl⟩
              · have ho := or_walk j v x v0 v1 hj8 hx0
                have HD : Hid (takeV l = (v + x % 128 * 128 ^ j, (j : Int) + 1, 0)) := by rw [HT3.out, tv_done j v x _ (by omega) (by omega) (by omega)]; rfl
                have hx3 : (x == 0) = false := beq_eq_false_iff_ne.2 hx00
                clear HT3 g1 v1
                generalize v + x % 128 * 128 ^ j = V at *
                go_wp2_with fail
                go_ret3
                rw [HD.out]
                exact ⟨rfl, rfl⟩
      · obtain rfl : j = n := by omega
        have HT2 : Hid (takeV l = (0, 0, 2)) := by rw [HT.out, List.drop_of_length_le (by rw [HL.out]; exact Nat.le_refl _), tv_nil]; rfl
        clear HT v1
        go_wp2_with fail
        go_ret3
        rw [HT2.out]
        exact ⟨rfl, rfl⟩

theorem pow_le8 {i : Nat} (h : i ≤ 8) : (128 : Int) ^ i ≤ 72057594037927936 := by
  have : ∀ j : Fin 9, (128 : Int) ^ j.1 ≤ 72057594037927936 := by decide
  exact this ⟨i, by omega⟩

set_option maxHeartbeats 400000 in
theorem rtakeVar_any (A : Option Addr) (n c : Nat) (l : List Int) (w : World) (B : Nat) (hR : Rd w B A n l) (hY : Byt l) (hb : n ≤ 1099511627776) :
    Calls Tryd.prog 48 #[.slice A n c] w fun e w' => e = .returned (.tuple #[.int .u64 (takeV l).1, .int .i64 (takeV l).2.1, .int .i64 (takeV l).2.2]) ∧ w = w' := by
  have HL := Lib.hid hR.1
  have HC : ∀ j, j < n → ∃ b o, A = some ⟨b, o, none⟩ ∧ w.cell? ⟨b, o + j, none⟩ = some (.int .u8 (l.getD j 0)) := fun j hj => by
    obtain ⟨b, o, e, _, hc⟩ := hR.2 (by omega)
    exact ⟨b, o, e, hc j hj⟩
  have HC' := Lib.hid HC
  clear HC hR
  go_enter Tryd.func48, Tryd.ntmps48
  go_wp2_with fail
  go_loop [5, 6, 7] (fun s u i => ∃ (j : Nat) (v : Int), j ≤ n ∧ j ≤ 9 ∧ i = .int .i64 j ∧ s = .int .u64 v ∧ u = .int .u64 (128 ^ j) ∧ 0 ≤ v ∧ v < 128 ^ j ∧ Hid (takeV l = tv j v (l.drop j))) (fun _ _ i => 10 - (intOf i).toNat)
  case atStart => exact ⟨0, 0, by omega, by omega, rfl, rfl, rfl, by omega, by decide, rfl⟩
  case round =>
    obtain ⟨j, v, hj, hj9, rfl, rfl, rfl, v0, v1, HT⟩ := hrel
    by_cases hlt : j < n
    · obtain ⟨b, o, rfl, hx⟩ := HC'.out j hlt
      have hd : l.drop j = l.getD j 0 :: l.drop (j + 1) := by
        rw [List.drop_eq_getElem_cons (by have := HL.out; omega)]
        simp [List.getD, show j < l.length by have := HL.out; omega]
      have HT2 := HT.out
      rw [hd] at HT2
      have hx0 := (hY.at_ j).1
      have hx1 := (hY.at_ j).2
      have HT3 := Lib.hid HT2
      clear hd HT HT2
      generalize l.getD j 0 = x at *
      by_cases g1 : j = 9 ∧ 1 < x
      · obtain ⟨rfl, g1⟩ := g1
        have HE : Hid (takeV l = (0, 0, 5)) := by rw [HT3.out, tv_great 9 v x _ ⟨rfl, g1⟩]; rfl
        clear HT3 v1
        go_wp2_with fail
        go_ret3
        rw [HE.out]
        exact ⟨rfl, rfl⟩
      · have HS := Lib.hid (pow_step j v x v0 v1)
        have hs0 : 0 ≤ x % 128 * 128 ^ j := Int.mul_nonneg (by omega) (by have := pow_pos' j; omega)
        have hs1 : v + x % 128 * 128 ^ j ≤ 18446744073709551615 := by
          by_cases h9 : j = 9
          · subst h9; exact (last_le v x v0 v1 hx0 (by omega)).2
          · have h1 := HS.out.2
            have h2 := pow_le9 (i := j + 1) (by omega)
            omega
        have hu1 := pow_pos' j
        have hu2 := pow_le9 hj9
        have HU := Lib.hid (Int.pow_succ 128 j)
        have hu8 : j ≤ 8 → (128 : Int) ^ j ≤ 72057594037927936 := pow_le8
        by_cases h128 : 128 ≤ x
        · have hj8 : j ≤ 8 := by omega
          have hu3 := hu8 hj8
          have hj2 : ¬ (j : Int) = 9 := by omega
          have HM : Hid (takeV l = tv (j + 1) (v + x % 128 * 128 ^ j) (l.drop (j + 1))) := by rw [HT3.out, tv_more j v x _ (by omega) h128]; rfl
          have HP := Lib.hid (pow_step j v x v0 v1)
          clear HT3 g1 v1 hu8 HS hu2
          generalize (128 : Int) ^ j = U at *
          go_wp2_with fail
          go_round
          case rel => exact ⟨j + 1, v + x % 128 * U, by omega, by omega, by go_num, rfl, by rw [HU.out], HP.out.1, HP.out.2, HM⟩
          case measure => simp [intOf]; omega
        · by_cases hf : x = 0 ∧ 0 < j
          · obtain ⟨hf1, hf2⟩ := hf
            have HF : Hid (takeV l = (0, 0, 9)) := by rw [HT3.out, tv_form j v x _ h128 ⟨hf1, hf2⟩]; rfl
            have hf3 : (x == 0) = true := beq_iff_eq.2 hf1
            have hj9' : j = 9 → x ≤ 1 := fun h => by omega
            clear HT3 g1 v1 hu8 HS hf1
            generalize (128 : Int) ^ j = U at *
            rcases (show j = 9 ∨ ¬ (j : Int) = 9 by omega) with rfl | hj2
            all_goals
              first | (have hx1' := hj9' rfl; clear hj9') | clear hj9'
              go_wp2_with fail
              go_ret3
              rw [HF.out]
              exact ⟨rfl, rfl⟩
          · have HD : Hid (takeV l = (v + x % 128 * 128 ^ j, (j : Int) + 1, 0)) := by rw [HT3.out, tv_done j v x _ (by omega) h128 hf]; rfl
            have hf3 : (x == 0) = false ∨ (x == 0) = true ∧ j = 0 := by
              by_cases h0 : x = 0
              · exact .inr ⟨beq_iff_eq.2 h0, by omega⟩
              · exact .inl (beq_eq_false_iff_ne.2 h0)
            have hj9' : j = 9 → x ≤ 1 := fun h => by omega
            clear HT3 v1 hu8 HS hf g1
            generalize (128 : Int) ^ j = U at *
            rcases hf3 with hf3 | ⟨hf3, rfl⟩
            · rcases (show j = 9 ∨ ¬ (j : Int) = 9 by omega) with rfl | hj2
              all_goals
                first | (have hx1' := hj9' rfl; clear hj9') | clear hj9'
                go_wp2_with fail
                go_ret3
                rw [HD.out]
                exact ⟨rfl, rfl⟩
            · clear hj9'
              rw [Nat.add_zero] at hx
              go_wp2_with fail
              go_ret3
              rw [HD.out]
              exact ⟨rfl, rfl⟩
    · obtain rfl : j = n := by omega
      have HT2 : Hid (takeV l = (0, 0, 2)) := by rw [HT.out, List.drop_of_length_le (by rw [HL.out]; exact Nat.le_refl _), tv_nil]; rfl
      clear HT v1
      go_wp2_with fail
      go_ret3
      rw [HT2.out]
      exact ⟨rfl, rfl⟩

/-- What TakeText ends in. -/
def RetT (W : World) (l : List Int) (e : Ending) (w' : World) : Prop :=
  ∃ A n c, e = .returned (.tuple #[.slice A n c, .int .i64 (tEnd l), .int .i64 (tErr l)]) ∧ (tTxt l).length = n ∧ Own 5 w' W.heap.size (.slice A n c) (tTxt l) ∧ Below W.heap.size W w'
theorem RetT.err {W : World} {l : List Int} {e : Int} (h : tErr l = e ∧ tEnd l = 0 ∧ tTxt l = []) : RetT W l (.returned (.tuple #[.slice none 0 0, .int .i64 0, .int .i64 e])) W := by
  obtain ⟨h1, h2, h3⟩ := h
  exact ⟨none, 0, 0, by rw [h1, h2], by rw [h3]; rfl, by rw [h3]; exact Own.nil _ _ _, Below.refl _ _⟩

set_option maxHeartbeats 400000 in
theorem takeText_any (A : Option Addr) (n c : Nat) (l : List Int) (w : World) (hR : Rd w w.heap.size A n l) (hY : Byt l) (hb : n ≤ 1099511627776) (hc : n ≤ c) :
    Calls Tryd.prog 70 #[.slice A n c] w (RetT w l) := by
  have hv := takeVar_any A n c l w w.heap.size hR hY hb
  have hg := takeV_good hY
  obtain ⟨v, k, e, htv⟩ : ∃ v k e, takeV l = (v, k, e) := ⟨_, _, _, rfl⟩
  rw [htv] at hv hg
  unfold nums.Good at hg
  simp only at hg
  rw [hR.1] at hg
  obtain ⟨g0, g1, g2, g3, g4, g5⟩ := hg
  have HV := Lib.hid hv
  have HT := Lib.hid htv
  clear hv htv
  by_cases he : e = 0
  · subst he
    clear g4 g5
    obtain ⟨v, rfl⟩ := Int.eq_ofNat_of_zero_le g0
    obtain ⟨k, rfl⟩ := Int.eq_ofNat_of_zero_le g2
    by_cases hl : (1048576 : Int) < v
    · have HE := Lib.hid (t_long HT.out hl)
      go_enter Tryd.func70, Tryd.ntmps70
      go_wp2_with fail
      refine HV.out.mono ?_
      rintro e w1 ⟨rfl, rfl⟩
      go_wp2_with fail
      go_ret3
      exact RetT.err HE.out
    · by_cases hs : n < k + v
      · have HE := Lib.hid (t_short HT.out (by omega) (by rw [hR.1]; omega))
        go_enter Tryd.func70, Tryd.ntmps70
        go_wp2_with fail
        refine HV.out.mono ?_
        rintro e w1 ⟨rfl, rfl⟩
        go_wp2_with fail
        go_ret3
        exact RetT.err HE.out
      · have HE := Lib.hid (t_ok HT.out (by omega) (by rw [hR.1]; omega))
        have hn0 : 0 < n := by
          rcases Nat.eq_zero_or_pos n with h | h
          · have hl0 : l = [] := List.eq_nil_of_length_eq_zero (by rw [hR.1, h])
            have := HT.out
            rw [hl0] at this
            have h2 : ((2 : Int)) = 0 := congrArg (fun r => r.2.2) this
            omega
          · exact h
        obtain ⟨b, o, rfl, _, _⟩ := hR.2 hn0
        have HK := Lib.hid (hR.cut (p := k) (q := k + v) (by omega) (by omega))
        have HN := Lib.hid hR.1
        clear hR
        by_cases hck : c = k
        · obtain rfl : v = 0 := by omega
          subst hck
          obtain rfl : n = c := by omega
          go_enter Tryd.func70, Tryd.ntmps70
          go_wp2_with fail
          refine HV.out.mono ?_
          rintro e w1 ⟨rfl, rfl⟩
          go_wp2_with fail
          refine (withRoom_int _ 0 0 [] 0 _ (Rd.nil _ _ _) (by omega) (by omega)).mono ?_
          rintro e w2 ⟨A2, c2, rfl, _, hO, hB⟩
          go_wp2_with fail
          go_ret3
          obtain ⟨e1, e2, e3⟩ := HE.out
          exact ⟨A2, 0, c2, by rw [e1, e2]; simp, by rw [e3]; simp, by rw [e3]; simpa using hO, hB⟩
        · go_enter Tryd.func70, Tryd.ntmps70
          go_wp2_with fail
          refine HV.out.mono ?_
          rintro e w1 ⟨rfl, rfl⟩
          go_wp2_with fail
          refine (withRoom_int _ v (c - k) ((l.drop k).take v) 0 _ (by have := HK.out; rw [show k + v - k = v by omega] at this; exact this) (by omega) (by omega)).mono ?_
          rintro e w2 ⟨A2, c2, rfl, hl2, hO, hB⟩
          go_wp2_with fail
          go_ret3
          obtain ⟨e1, e2, e3⟩ := HE.out
          exact ⟨A2, v, c2, by rw [e1, e2]; rfl, by rw [e3]; exact hl2, by rw [e3]; exact hO, hB⟩
  · have HE := Lib.hid (t_bad HT.out he)
    obtain ⟨rfl, rfl⟩ := g5 he
    clear g4
    have he2 : (e == 0) = false := beq_eq_false_iff_ne.2 he
    go_enter Tryd.func70, Tryd.ntmps70
    go_wp2_with fail
    refine HV.out.mono ?_
    rintro e w1 ⟨rfl, rfl⟩
    go_wp2_with fail
    go_ret3
    exact RetT.err HE.out
set_option maxHeartbeats 400000 in
theorem rtakeText_any (A : Option Addr) (n c : Nat) (l : List Int) (w : World) (hR : Rd w w.heap.size A n l) (hY : Byt l) (hb : n ≤ 1099511627776) (hc : n ≤ c) :
    Calls Tryd.prog 50 #[.slice A n c] w (RetT w l) := by
  have hv := rtakeVar_any A n c l w w.heap.size hR hY hb
  have hg := takeV_good hY
  obtain ⟨v, k, e, htv⟩ : ∃ v k e, takeV l = (v, k, e) := ⟨_, _, _, rfl⟩
  rw [htv] at hv hg
  unfold nums.Good at hg
  simp only at hg
  rw [hR.1] at hg
  obtain ⟨g0, g1, g2, g3, g4, g5⟩ := hg
  have HV := Lib.hid hv
  have HT := Lib.hid htv
  clear hv htv
  by_cases he : e = 0
  · subst he
    clear g4 g5
    obtain ⟨v, rfl⟩ := Int.eq_ofNat_of_zero_le g0
    obtain ⟨k, rfl⟩ := Int.eq_ofNat_of_zero_le g2
    by_cases hl : (1048576 : Int) < v
    · have HE := Lib.hid (t_long HT.out hl)
      go_enter Tryd.func50, Tryd.ntmps50
      go_wp2_with fail
      refine HV.out.mono ?_
      rintro e w1 ⟨rfl, rfl⟩
      go_wp2_with fail
      go_ret3
      exact RetT.err HE.out
    · by_cases hs : n < k + v
      · have HE := Lib.hid (t_short HT.out (by omega) (by rw [hR.1]; omega))
        go_enter Tryd.func50, Tryd.ntmps50
        go_wp2_with fail
        refine HV.out.mono ?_
        rintro e w1 ⟨rfl, rfl⟩
        go_wp2_with fail
        go_ret3
        exact RetT.err HE.out
      · have HE := Lib.hid (t_ok HT.out (by omega) (by rw [hR.1]; omega))
        have hn0 : 0 < n := by
          rcases Nat.eq_zero_or_pos n with h | h
          · have hl0 : l = [] := List.eq_nil_of_length_eq_zero (by rw [hR.1, h])
            have := HT.out
            rw [hl0] at this
            have h2 : ((2 : Int)) = 0 := congrArg (fun r => r.2.2) this
            omega
          · exact h
        obtain ⟨b, o, rfl, _, _⟩ := hR.2 hn0
        have HK := Lib.hid (hR.cut (p := k) (q := k + v) (by omega) (by omega))
        have HN := Lib.hid hR.1
        clear hR
        by_cases hck : c = k
        · obtain rfl : v = 0 := by omega
          subst hck
          obtain rfl : n = c := by omega
          go_enter Tryd.func50, Tryd.ntmps50
          go_wp2_with fail
          refine HV.out.mono ?_
          rintro e w1 ⟨rfl, rfl⟩
          go_wp2_with (at_builtin; with_reducible refine wpList_append_rd rfl (.tmp 26) (.tmp 33) 22 rfl w.heap.size 5 Tryd.underlying22 info5 _ 0 0 [] rfl rfl (Own.empty _ _ (Nat.le_refl _)) 0 _ 0 _ [] rfl (Rd.nil _ _ _) ?hb2 ?hbase ?_)
          case hb2 => omega
          case hbase => simp
          intro A2 c2 w2 hO2 hB2 _
          go_wp2_with fail
          go_ret3
          obtain ⟨e1, e2, e3⟩ := HE.out
          exact ⟨A2, 0, c2, by rw [e1, e2]; simp, by rw [e3]; simp, by rw [e3]; simpa using hO2, ((Below.refl _ _).alloc (Nat.le_refl _) _).trans hB2⟩
        · have hl1 : ((l.drop k).take v).length = v := by have := HK.out.1; rw [show k + v - k = v by omega] at this; exact this
          have hR2 := HK.out.alloc (Nat.le_refl _) (.cells #[] 5)
          have HL1 := Lib.hid hl1
          clear hl1
          go_enter Tryd.func50, Tryd.ntmps50
          go_wp2_with fail
          refine HV.out.mono ?_
          rintro e w1 ⟨rfl, rfl⟩
          go_wp2_with (at_builtin; with_reducible refine wpList_append_rd rfl (.tmp 26) (.tmp 33) 22 rfl w.heap.size 5 Tryd.underlying22 info5 _ 0 0 [] rfl rfl (Own.empty _ _ (Nat.le_refl _)) _ _ (k + v - k) _ _ rfl hR2 ?hb2 ?hbase ?_)
          case hb2 => omega
          case hbase => simp
          intro A2 c2 w2 hO2 hB2 _
          go_wp2_with fail
          go_ret3
          obtain ⟨e1, e2, e3⟩ := HE.out
          exact ⟨A2, v, c2, by rw [e1, e2]; rfl, by rw [e3, HL1.out], by rw [e3]; exact hO2, ((Below.refl _ _).alloc (Nat.le_refl _) _).trans hB2⟩
  · have HE := Lib.hid (t_bad HT.out he)
    obtain ⟨rfl, rfl⟩ := g5 he
    clear g4
    have he2 : (e == 0) = false := beq_eq_false_iff_ne.2 he
    go_enter Tryd.func50, Tryd.ntmps50
    go_wp2_with fail
    refine HV.out.mono ?_
    rintro e w1 ⟨rfl, rfl⟩
    go_wp2_with fail
    go_ret3
    exact RetT.err HE.out
end Go.Proofs.YtodpaeaeigjmdaaDoor.bytes
