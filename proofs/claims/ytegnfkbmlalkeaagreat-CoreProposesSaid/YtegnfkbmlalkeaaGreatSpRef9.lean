/- What the document's functions of sets (antipoderef9) come to. Conditions: sets are uint16 values. -/
import Derived.Test.YtegnfkbmlalkeaaGreatProg
import Derived.Outline
import Derived.Handy
import Derived.Test.YtegnfkbmlalkeaaGreatSpJ0
set_option linter.unusedVariables false
set_option maxHeartbeats 16000000
set_option maxRecDepth 10000
namespace Go.Proofs.YtegnfkbmlalkeaaGreat.ref9
open Go Go.RowKit kit nums se
def i64s (l : List Int) : List Value := l.map (Value.int .i64)
theorem i64s_length (l : List Int) : (i64s l).length = l.length := by simp [i64s]
theorem ret_i64 {a b : Int} (h : a = b) : Ending.returned (.int .i64 a) = .returned (.int .i64 b) := by rw [h]
theorem ret_u16 {a b : Int} (h : a = b) : Ending.returned (.int .u16 a) = .returned (.int .u16 b) := by rw [h]
theorem ret_bool {a b : Bool} (h : a = b) : Ending.returned (.bool a) = .returned (.bool b) := by rw [h]
theorem infoI : (Tryz.prog.info? 3).map (fun i => (i.zero, i.size, i.bytes)) = some (some (.int .i64 0), 1, 8) := by kernel_rfl
theorem bit_any (n : Int) (w : World) (h0 : -9223372036854775808 ≤ n) (h1 : n ≤ 9223372036854775807) :
  Calls Tryz.prog 98 #[.int .i64 n] w fun e w' => e = .returned (.int .i64 (bitF n : Nat)) ∧ w = w' := by
 cases hn : nodeB n
 ·
  rw [bitF_not hn]
  have hb : n < 1 ∨ 9 < n := nodeB_not hn
  by_cases hl : n < 1
  ·
   go_enter Tryz.func98, Tryz.ntmps98
   go_wp2_with fail
   go_ret
   exact ⟨rfl, rfl⟩
  ·
   have hg : 9 < n := by omega
   go_enter Tryz.func98, Tryz.ntmps98
   go_wp2_with fail
   go_ret
   exact ⟨rfl, rfl⟩
 ·
  obtain ⟨k, rfl, k1, k9⟩ := nodeB_nat hn
  rw [bitF_node k1 k9]
  go_enter Tryz.func98, Tryz.ntmps98
  go_wp2_with fail
  go_loop [3, 4] (fun v i => ∃ (j a : Nat), j ≤ k ∧ i = .int .i64 j ∧ v = .int .i64 a ∧ a ≤ 512 ∧ Hid (a = 2 ^ j)) (fun _ i => k - (intOf i).toNat)
  case atStart => exact ⟨0, 1, by omega, rfl, rfl, by omega, rfl⟩
  case round =>
   obtain ⟨j, a, hj, rfl, rfl, ha, HA⟩ := hrel
   by_cases hlt : j < k
   ·
    have hA2 : a * 2 = 2 ^ (j + 1) := by rw [HA.out, Nat.pow_succ]
    have hA3 : a * 2 ≤ 512 := by rw [hA2]; exact pow_le9 (by omega)
    go_wp2_with fail
    go_round
    case rel => exact ⟨j + 1, a * 2, by omega, by go_num, by go_num, hA3, hA2⟩
    case measure => simp [intOf]; omega
   ·
    obtain rfl : j = k := by omega
    go_wp2_with fail
    go_ret
    exact ⟨ret_i64 (by rw [HA.out]; simp), rfl⟩
theorem has_any (s : Nat) (n : Int) (w : World) (hs : s < 65536) (h0 : -9223372036854775808 ≤ n) (h1 : n ≤ 9223372036854775807) :
  Calls Tryz.prog 45 #[.int .u16 (s : Int), .int .i64 n] w fun e w' => e = .returned (.bool (hasF s n)) ∧ w = w' := by
 have C := Lh (fun w => bit_any n w h0 h1)
 cases hn : nodeB n
 ·
  have HB := bitF_not hn
  rw [hasF_not hn]
  go_enter Tryz.func45, Tryz.ntmps45
  go_wp2_with fail
  refine (C.out _).mono ?_
  rintro e w2 ⟨rfl, rfl⟩
  rw [HB]
  go_wp2_with fail
  go_ret
  exact ⟨rfl, rfl⟩
 ·
  have HB := bitF_pos.2 hn
  have HL := bitF_le n
  have HD := Lh (hasF_div (s := s) hn)
  generalize bitF n = b at *
  have hd : s / b ≤ s := Nat.div_le_self _ _
  go_enter Tryz.func45, Tryz.ntmps45
  go_wp2_with fail
  refine (C.out _).mono ?_
  rintro e w2 ⟨rfl, rfl⟩
  go_wp2_with fail
  refine (C.out _).mono ?_
  rintro e w2 ⟨rfl, rfl⟩
  go_wp2_with fail
  go_ret
  refine ⟨ret_bool ?_, rfl⟩
  rw [HD.out]
  have e : wrap64 ((s : Int) / (b : Int)) = ((s / b : Nat) : Int) := by
   rw [← Int.natCast_ediv]
   generalize s / b = x at *
   unfold wrap64
   omega
  rw [e]
  rw [Int.tmod_eq_emod_of_nonneg (Int.natCast_nonneg _)]
  generalize s / b = x at *
  rw [Bool.eq_iff_iff, decide_eq_true_eq, beq_iff_eq]
  omega
def IsIs (W : World) (l : List Int) (e : Ending) (w' : World) : Prop := ∃ A c, e = .returned (.slice A l.length c) ∧ OwnV 3 w' W.heap.size (.slice A l.length c) (i64s l) ∧ Below W.heap.size W w'
theorem i64s_append (l m : List Int) : i64s (l ++ m) = i64s l ++ i64s m := by simp [i64s]
theorem list_any (s : Nat) (w : World) (hs : s < 65536) : Calls Tryz.prog 70 #[.int .u16 (s : Int)] w (IsIs w (listF s)) := by
 have C := Lh (fun (j : Nat) (hj : j ≤ 9) w => has_any s (j : Int) w hs (by omega) (by omega))
 unfold IsIs
 go_enter Tryz.func70, Tryz.ntmps70
 go_wp2_with fail
 go_loopw [3, 4] (fun ov iv wr => ∃ (j k : Nat) (A : Option Addr) (c : Nat), j ≤ 9 ∧ k ≤ j ∧ iv = .int .i64 ((j + 1 : Nat) : Int) ∧ ov = .slice A k c ∧ Hid ((listTo s j).length = k) ∧ OwnV 3 wr w.heap.size (.slice A k c) (i64s (listTo s j)) ∧ Below w.heap.size w wr) (fun _ iv _ => 10 - (intOf iv).toNat)
 case atStart => exact ⟨0, 0, none, 0, by omega, by omega, rfl, rfl, rfl, OwnV.nil _ _ _, Below.refl _ _⟩
 case round =>
  obtain ⟨j, k, A, c, hj, hk, rfl, rfl, HL, hO, hB⟩ := hrel
  have hsz := hB.size
  by_cases hlt : j < 9
  ·
   have HN : Hid (listTo s (j + 1) = if s.testBit (j + 1) then listTo s j ++ [((j + 1 : Nat) : Int)] else listTo s j) := Lh rfl
   have hC := C.out (j + 1) (by omega)
   rw [hasF_node (by omega) (by omega)] at hC
   have HC := Lh hC
   have hln : (i64s (listTo s j)).length = k := by rw [i64s_length]; exact HL.out
   clear hC C
   obtain ⟨xs, hxs⟩ : ∃ xs, i64s (listTo s j) = xs := ⟨_, rfl⟩
   rw [hxs] at hO hln
   have HX := Lh hxs
   clear hxs
   go_wp2_with fail
   refine (HC.out _).mono ?_
   rintro e w2 ⟨rfl, rfl⟩
   cases hb : s.testBit (j + 1)
   ·
    rw [hb, if_neg (by decide)] at HN
    go_wp2_with fail
    go_round
    case rel => exact ⟨j + 1, k, A, c, by omega, by omega, by go_num, rfl, by show _ = _; rw [HN.out]; exact HL.out, by rw [HN.out, HX.out]; exact hO, hB⟩
    case measure => simp [intOf]; omega
   ·
    rw [hb, if_pos rfl] at HN
    have hO2 := hO.alloc (.cells #[.int .i64 ((j : Int) + 1)] 3)
    have hB2 := hB.alloc hsz (.cells #[.int .i64 ((j : Int) + 1)] 3)
    go_wp2_with (at_builtin; with_reducible refine wpList_append_v rfl (.tmp 12) (.tmp 14) 101 rfl w.heap.size 3 (.int .i64 0) 8 Tryz.underlying101 infoI rfl A k c xs hln rfl hO2 _ _ 1 1 [_] rfl (RdV.one _ _ _) ?k1 ?k2 ?k3 ?k4 ?_)
    case k1 => intro u hu; rw [List.mem_singleton] at hu; subst hu; rfl
    case k2 => omega
    case k3 => unfold maxLen; omega
    case k4 => simp; omega
    intro A3 c3 w3 hO3 hB3 _
    have hB4 := hB2.trans hB3
    clear hB3 hO2 hB2
    go_wp2_with fail
    go_round
    case rel => exact ⟨j + 1, k + 1, A3, c3, by omega, by omega, by go_num, rfl, by show _ = _; rw [HN.out, List.length_append, HL.out]; rfl, by rw [HN.out, i64s_append, HX.out]; exact hO3, hB4⟩
    case measure => simp [intOf]; omega
  ·
   obtain rfl : j = 9 := by omega
   have HF := Lh (show listTo s 9 = listF s from rfl)
   go_wp2_with fail
   go_ret
   rw [← HF.out, HL.out]
   exact ⟨A, c, rfl, hO, hB⟩
theorem with_any (s : Nat) (n : Int) (w : World) (hs : s < 65536) (h0 : -9223372036854775808 ≤ n) (h1 : n ≤ 9223372036854775807) :
  Calls Tryz.prog 36 #[.int .u16 (s : Int), .int .i64 n] w fun e w' => e = .returned (.int .u16 ((withF s n : Nat) : Int)) ∧ w = w' := by
 have C := Lh (fun w => has_any s n w hs h0 h1)
 have B := Lh (fun w => bit_any n w h0 h1)
 have HW := withF_lt n hs
 have HL := bitF_le n
 cases hn : hasF s n
 ·
  have HA := withF_add hn
  rw [hn] at C
  generalize withF s n = z at *
  generalize bitF n = b at *
  go_enter Tryz.func36, Tryz.ntmps36
  go_wp2_with fail
  refine (C.out _).mono ?_
  rintro e w2 ⟨rfl, rfl⟩
  go_wp2_with fail
  refine (B.out _).mono ?_
  rintro e w2 ⟨rfl, rfl⟩
  go_wp2_with fail
  go_ret
  exact ⟨ret_u16 (by omega), rfl⟩
 ·
  have HA := withF_has hn
  rw [hn] at C
  rw [HA]
  go_enter Tryz.func36, Tryz.ntmps36
  go_wp2_with fail
  refine (C.out _).mono ?_
  rintro e w2 ⟨rfl, rfl⟩
  go_wp2_with fail
  go_ret
  exact ⟨rfl, rfl⟩
theorem less_any (s : Nat) (n : Int) (w : World) (hs : s < 65536) (h0 : -9223372036854775808 ≤ n) (h1 : n ≤ 9223372036854775807) :
  Calls Tryz.prog 37 #[.int .u16 (s : Int), .int .i64 n] w fun e w' => e = .returned (.int .u16 ((lessF s n : Nat) : Int)) ∧ w = w' := by
 have C := Lh (fun w => has_any s n w hs h0 h1)
 have B := Lh (fun w => bit_any n w h0 h1)
 have HL := bitF_le n
 cases hn : hasF s n
 ·
  have HA : lessF s n = s := by unfold lessF; rw [hn]; rfl
  rw [hn] at C
  rw [HA]
  go_enter Tryz.func37, Tryz.ntmps37
  go_wp2_with fail
  refine (C.out _).mono ?_
  rintro e w2 ⟨rfl, rfl⟩
  go_wp2_with fail
  go_ret
  exact ⟨rfl, rfl⟩
 ·
  have HA : lessF s n = s - bitF n := by unfold lessF; rw [hn]; rfl
  have HS := bitF_le_has hn
  rw [hn] at C
  generalize lessF s n = z at *
  generalize bitF n = b at *
  go_enter Tryz.func37, Tryz.ntmps37
  go_wp2_with fail
  refine (C.out _).mono ?_
  rintro e w2 ⟨rfl, rfl⟩
  go_wp2_with fail
  refine (B.out _).mono ?_
  rintro e w2 ⟨rfl, rfl⟩
  go_wp2_with fail
  go_ret
  exact ⟨ret_u16 (by omega), rfl⟩
theorem own_at {W w : World} {A : Option Addr} {c : Nat} {l : List Int} {b : Nat} (h : OwnV 3 w b (.slice A l.length c) (i64s l)) (j : Nat) (hj : j < l.length) :
  ∃ p o n, A = some ⟨p, o, none⟩ ∧ l[j]? = some n ∧ w.cell? ⟨p, o + j, none⟩ = some (.int .i64 n) := by
 obtain ⟨A', c', e, _, _, hR⟩ := h.slice
 rw [i64s_length] at e hR
 injection e with e1 _ _
 subst e1
 obtain ⟨p, o, u, rfl, hu, hc⟩ := hR.at_ hj
 obtain ⟨n, hn, rfl⟩ : ∃ n, l[j]? = some n ∧ Value.int .i64 n = u := by
  simp only [i64s, List.getElem?_map, Option.map_eq_some_iff] at hu
  exact hu
 exact ⟨p, o, n, rfl, hn, hc⟩
theorem list_node {s : Nat} {n : Int} (h : n ∈ listF s) : 1 ≤ n ∧ n ≤ 9 := by
 obtain ⟨j, rfl, h1, h2, _⟩ := listTo_mem h (by omega)
 omega
theorem list_len (s : Nat) : (listF s).length ≤ 9 := listTo_le s 9
theorem take_get {l : List Int} {j : Nat} {n : Int} (h : l[j]? = some n) : l.take (j + 1) = l.take j ++ [n] := by
 obtain ⟨hj, rfl⟩ := List.getElem?_eq_some_iff.1 h
 exact List.take_succ_eq_append_getElem hj
theorem may_any (s : Nat) (w : World) (hs : s < 65536) : Calls Tryz.prog 153 #[.int .u16 (s : Int)] w fun e w' => e = .returned (.bool (mayF s)) ∧ Below w.heap.size w w' := by
 have C := Lh (list_any s w hs)
 have B := Lh (fun (n : Int) (h : 1 ≤ n ∧ n ≤ 9) w => bit_any n w (by omega) (by omega))
 rw [may_sum]
 have hl := list_len s
 have HM : Hid (∀ n ∈ listF s, 1 ≤ n ∧ n ≤ 9) := fun n hn => list_node hn
 generalize listF s = l at *
 go_enter Tryz.func153, Tryz.ntmps153
 go_wp2_with fail
 refine C.out.mono ?_
 rintro e w2 ⟨A, c, rfl, hO, hB⟩
 have HA := Lh (fun j hj => own_at (W := w) hO j hj)
 obtain ⟨k, hk⟩ : ∃ k, l.length = k := ⟨_, rfl⟩
 rw [hk] at HA hl ⊢
 clear hO C
 go_wp2_with fail
 go_loop [3, 5] (fun v iv => ∃ (j a : Nat), j ≤ k ∧ iv = .int .i64 j ∧ v = .int .i64 a ∧ a ≤ 512 * j ∧ Hid (a = sumL (l.take j))) (fun _ iv => k - (intOf iv).toNat)
 case atStart => exact ⟨0, 0, by omega, rfl, rfl, by omega, rfl⟩
 case round =>
  obtain ⟨j, a, hj, rfl, rfl, ha, HS⟩ := hrel
  by_cases hlt : j < k
  ·
   obtain ⟨p, o, n, rfl, hn, hc⟩ := HA.out j hlt
   have hB2 := B.out n (HM.out n (List.mem_of_getElem? hn))
   have hb := bitF_le n
   have HT : Hid (sumL (l.take (j + 1)) = sumL (l.take j) + bitF n) := by show _ = _; rw [take_get hn, sumL_snoc]
   clear hn
   generalize bitF n = b at *
   go_wp2_with fail
   refine (hB2 _).mono ?_
   rintro e w3 ⟨rfl, rfl⟩
   go_wp2_with fail
   go_round
   case rel => exact ⟨j + 1, a + b, by omega, by go_num, by go_num, by omega, by show _ = _; rw [HT.out, HS.out]⟩
   case measure => simp [intOf]; omega
  ·
   obtain rfl : j = k := by omega
   have HV : Hid (a = sumL l) := by show _ = _; rw [HS.out, ← hk, List.take_length]
   clear HS
   go_wp2_with fail
   go_ret
   refine ⟨ret_bool ?_, hB⟩
   rw [← HV.out, Bool.eq_iff_iff, decide_eq_true_eq, beq_iff_eq]
   omega
theorem rdv_at {w : World} {B : Nat} {A : Option Addr} {k : Nat} {l : List Int} (h : RdV w B A k (i64s l)) (j : Nat) (hj : j < k) :
  ∃ p o n, A = some ⟨p, o, none⟩ ∧ l[j]? = some n ∧ w.cell? ⟨p, o + j, none⟩ = some (.int .i64 n) := by
 obtain ⟨p, o, u, rfl, hu, hc⟩ := h.at_ hj
 obtain ⟨n, hn, rfl⟩ : ∃ n, l[j]? = some n ∧ Value.int .i64 n = u := by
  simp only [i64s, List.getElem?_map, Option.map_eq_some_iff] at hu
  exact hu
 exact ⟨p, o, n, rfl, hn, hc⟩
end Go.Proofs.YtegnfkbmlalkeaaGreat.ref9
