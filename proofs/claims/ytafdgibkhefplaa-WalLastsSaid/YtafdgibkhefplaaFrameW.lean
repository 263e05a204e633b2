/- What the program's frame comes to: Clone, Put, Next, Scan. Conditions: what the slices read as; they are at most 2^40 long. -/
import Derived.Test.YtafdgibkhefplaaRef3
import Derived.Test.YtafdgibkhefplaaJoin1
import Derived.Test.YtafdgibkhefplaaKitS
import Derived.Lib.SliceRun
namespace Go.Proofs.Ytafdgibkhefplaa.frame
open Go.RowKit Go.Proofs.Ytafdgibkhefplaa.kit Go.Proofs.Ytafdgibkhefplaa.nums Go.Proofs.Ytafdgibkhefplaa.crc Go.Proofs.Ytafdgibkhefplaa.bytes Go.Proofs.Ytafdgibkhefplaa.rec_ Go.Proofs.Ytafdgibkhefplaa.ofs Go.Proofs.Ytafdgibkhefplaa.ref3
set_option linter.unusedVariables false

/-- bytes.Clone. -/
theorem clone_any (A : Option Addr) (n c : Nat) (l : List Int) (w : World) (hR : Rd w w.heap.size A n l) (hn : n ≤ 1099511627776) :
    Calls Try.prog 84 #[.slice A n c] w (RetL 5 w n l) := by
  rcases A with _ | ad
  · obtain rfl : n = 0 := by
      rcases Nat.eq_zero_or_pos n with h | h
      · exact h
      · obtain ⟨b, o, e, _⟩ := hR.2 h
        cases e
    obtain rfl : l = [] := List.eq_nil_of_length_eq_zero hR.1
    have he := Lib.run_eql_slice_nil (P := Try.prog) w 35 5 none 0 c 0 0 Try.underlying35
    go_enter Try.func84, Try.ntmps84
    go_wp2_with fail
    go_ret
    exact ⟨none, 0, rfl, rfl, Own.nil _ _ _, Below.refl _ _⟩
  · have HN := Lib.hid hR.len
    have HR := Lib.hid (hR.alloc (Nat.le_refl _) (.cells #[] 5))
    clear hR
    have he := Lib.run_eql_slice_nil (P := Try.prog) w 35 5 (some ad) n c 0 0 Try.underlying35
    go_enter Try.func84, Try.ntmps84
    go_wp2_with (at_builtin; with_reducible refine wpList_append_rd rfl (.tmp 5) (.tmp 6) 35 rfl w.heap.size 5 Try.underlying35 info5 _ 0 0 [] rfl rfl (Own.empty _ _ (Nat.le_refl _)) _ (some ad) n c l rfl HR.out ?ha ?hb ?_)
    case ha => omega
    case hb => simp
    intro A1 c1 w1 hO hB _
    go_wp2_with fail
    go_ret
    exact ⟨A1, c1, by simp, HN.out, hO, ((Below.refl _ _).alloc (Nat.le_refl _) _).trans hB⟩

/-- Four bytes, of a number that is small, behind any. -/
theorem put4 (A : Option Addr) (n c : Nat) (l : List Int) (v : Int) (w : World) (hR : Rd w w.heap.size A n l) (hn : n ≤ 1099511627776) (h0 : 0 ≤ v) (h1 : v < 4294967296) :
    Calls Try.prog 76 #[.slice A n c, .int .u64 v, .int .i64 4] w (RetS 5 w (n + 4) (l ++ beB v 4)) :=
  put_ok A n c l v 4 w hR hn h0 (by omega) (by omega) (by omega) (by have : v / 2 ^ (8 * 4) = 0 := by simp only [Nat.reduceMul, Int.reducePow]; omega
                                                                     rw [this]; rfl)

set_option maxHeartbeats 400000 in
theorem put_any (A : Option Addr) (n c : Nat) (l : List Int) (S : Option Addr) (m cs : Nat) (s : List Int) (w : World) (hR : Rd w w.heap.size A n l) (hS : Rd w w.heap.size S m s) (hY : Byt s) (hn : n ≤ 1099511627776) (hnc : n ≤ c) (hcm : c ≤ maxLen) (hm : m ≤ 1048576) (hmc : m ≤ cs) (hcs : cs ≤ maxLen) :
    Calls Try.prog 75 #[.slice A n c, .slice S m cs] w (RetS 5 w (n + (8 + m)) (l ++ recB s)) := by
  have HL := Lib.hid hS.len
  have hwm : IntKind.u64.wrap (m : Int) = m := IntWalk.u64_in _ ⟨by omega, by omega⟩
  have C1 := Lib.hid (put4 none 0 0 [] (m : Int) w (Rd.nil _ _ _) (by omega) (by omega) (by omega))
  go_enter Try.func75, Try.ntmps75
  go_wp2_with fail
  refine C1.out.mono ?_
  rintro e w1 ⟨A1, c1, rfl, hl1, hO1, hB1⟩
  rw [List.nil_append, Nat.zero_add, show beB (m : Int) 4 = headB s by unfold headB; rw [HL.out]] at hl1 hO1
  have C2 := Lib.hid (of_two (E := 35) (Own.sl hO1 hl1) (x := .slice A1 4 c1) (y := .slice S m cs) (l := headB s) (m := s) ⟨S, cs, by rw [HL.out], by rw [HL.out]; exact hmc, hcs, by rw [HL.out]; exact hS.on hB1 hB1.size⟩ (beB_byt _ _) (by rw [headB_length]; omega) hY (by rw [HL.out]; omega))
  have hlt : ofC (headB s ++ s) < 4294967296 := moreC_lt (by decide) ((beB_byt _ _).append hY)
  have hr1 := Own.rd hO1 hl1
  obtain ⟨r, hr⟩ : ∃ r, r = ofC (headB s ++ s) := ⟨_, rfl⟩
  rw [← hr] at C2 hlt
  have hwr : IntKind.u64.wrap (r : Int) = r := IntWalk.u64_in _ ⟨by omega, by omega⟩
  have HRr := Lib.hid hr
  clear hr
  go_wp2_with fail
  refine C2.out.mono ?_
  rintro e w2 ⟨rfl, hB2⟩
  have C3 := Lib.hid (put4 A1 4 c1 (headB s) (r : Int) w2 (hr1.on hB2 hB2.size) (by omega) (by omega) (by omega))
  go_wp2_with fail
  refine C3.out.mono ?_
  rintro e w3 ⟨A3, c3, rfl, hl3, hO3, hB3⟩
  have hb13 : Below w1.heap.size w1 w3 := hB2.trans (hB3.mono hB2.size)
  have hb03 : Below w.heap.size w w3 := hB1.trans (hb13.mono hB1.size)
  have r0 : Rd w3 w3.heap.size A n l := hR.on hb03 hb03.size
  have r3 := Own.rd hO3 hl3
  have HS := Lib.hid (hS.on hb03 hb03.size)
  have HB := Lib.hid hb03
  have HL3 := Lib.hid hl3
  have HN := Lib.hid hR.len
  clear C1 C2 C3 hO1 hO3 hR hS hB1 hB2 hB3 hb13 hb03 hl1 hl3 hr1
  go_wp2_with (with_reducible refine wpList_slice_hm rfl (.tmp 29) (.tmp 31) (.tmp 33) 35 rfl 5 Try.underlying35 info5 A n c w3.heap.size l rfl r0 .i64 .i64 _ _ n n rfl rfl rfl rfl (Nat.le_refl _) (Nat.le_refl _) hnc ?_)
  intro A4 r4
  rw [List.take_of_length_le (by rw [HN.out]; exact Nat.le_refl _)] at r4
  go_wp2_with (at_builtin; with_reducible refine wpList_append_full rfl (.tmp 34) (.tmp 35) 35 rfl 5 Try.underlying35 info5 A4 n w3.heap.size l rfl r4 w3.heap.size A3 _ c3 _ rfl r3 ?h1 ?h2 ?_)
  case h1 => omega
  case h2 => omega
  intro A5 c5 w5 hO5 hB5
  have r5 := HS.out.on hB5 hB5.size
  go_wp2_with (at_builtin; with_reducible refine wpList_append_rd rfl (.tmp 37) (.tmp 38) 35 rfl w3.heap.size 5 Try.underlying35 info5 A5 _ c5 _ ?hf rfl hO5 _ S m cs s rfl r5 ?hg ?hh ?_)
  case hf => rw [List.length_append, HN.out, HL3.out]
  case hg => omega
  case hh => exact hB5.size
  intro A6 c6 w6 hO6 hB6 _
  go_wp2_with fail
  go_ret2
  have e1 : n + (4 + 4) + m = n + (8 + m) := by omega
  have e2 : l ++ (headB s ++ (beB (r : Int) 4 ++ s)) = l ++ recB s := by unfold recB sumB; rw [HRr.out]
  rw [e2, show n + 8 + m = n + (8 + m) by omega] at hO6
  refine ⟨A6, c6, by simp [← e1], by rw [List.length_append, recB_length, HN.out, HL.out], hO6.more HB.out.size, ?_⟩
  exact HB.out.trans (Below.mono (hB5.trans hB6) HB.out.size)

set_option maxHeartbeats 1000000 in
theorem next_any (A : Option Addr) (n c : Nat) (l : List Int) (p : Int) (w : World) (hR : Rd w w.heap.size A n l) (hY : Byt l) (hn : n ≤ 1099511627776) (hnc : n ≤ c) (hcm : c ≤ maxLen) (hp0 : -9223372036854775808 ≤ p) (hp1 : p ≤ 9223372036854775807) :
    Calls Try.prog 79 #[.slice A n c, .int .i64 p] w (RetN w l p) := by
  have hl := hR.len
  by_cases h1 : p < 0 ∨ (n : Int) < p
  · have HE := Lib.hid (show nextE l p = 1 by unfold nextE; rw [hl, if_pos h1])
    clear hR
    by_cases hneg : p < 0
    · go_enter Try.func79, Try.ntmps79
      go_wp2_with fail
      go_ret3
      exact RetN.err HE.out (by decide) (Below.refl _ _)
    · have hgt : (n : Int) < p := by omega
      go_enter Try.func79, Try.ntmps79
      go_wp2_with fail
      go_ret3
      exact RetN.err HE.out (by decide) (Below.refl _ _)
  obtain ⟨k, rfl⟩ := Int.eq_ofNat_of_zero_le (show 0 ≤ p by omega)
  have hk : k ≤ n := by omega
  have HL := Lib.hid hl
  clear h1
  go_enter Try.func79, Try.ntmps79
  go_wp2_with (with_reducible refine wpList_slice_l rfl (.tmp 22) (.tmp 23) 35 rfl 5 Try.underlying35 info5 A n c w.heap.size l rfl hR .i64 _ k rfl rfl hk hnc ?_)
  intro A1 c1 hR1 hnc0 hcc1
  have hnc1 : n - k ≤ c1 := by omega
  have hY1 : Byt (l.drop k) := hY.drop k
  by_cases h8 : n < k + 8
  · have HE := Lib.hid (show nextE l k = 2 by unfold nextE; rw [HL.out, if_neg (by omega), if_pos (by omega)])
    clear hR hR1
    have h8' : n - k < 8 := by omega
    go_wp2_with fail
    go_ret3
    exact RetN.err HE.out (by decide) (Below.refl _ _)
  have hk8 : k + 8 ≤ n := by omega
  have C1 := Lib.hid (get_ok A1 (n - k) c1 (l.drop k) 0 4 w _ hR1 hY1 (by omega) hnc1 (by omega) (by omega) (by omega))
  have C2 := Lib.hid (get_ok A1 (n - k) c1 (l.drop k) 4 4 w _ hR1 hY1 (by omega) hnc1 (by omega) (by omega) (by omega))
  rw [List.drop_zero, num4_get] at C1
  rw [List.drop_drop, num4_get] at C2
  have hb := num4_bound hY k
  have hb2 := num4_bound hY (k + 4)
  have HE := Lib.hid (show nextE l k = if 1048576 < num4 l k then 3 else if (n : Int) - k - 8 < num4 l k then 2 else if ((ofC (piece l k 4 ++ piece l (k + 8) (num4 l k).toNat) : Nat) : Int) ≠ num4 l (k + 4) then 4 else 0 by
    unfold nextE; rw [HL.out, if_neg (by omega), if_neg (by omega), Int.toNat_natCast])
  obtain ⟨m, hm⟩ := Int.eq_ofNat_of_zero_le hb.1
  obtain ⟨s, hs⟩ := Int.eq_ofNat_of_zero_le hb2.1
  rw [hm] at hb HE C1
  rw [hs] at hb2 HE C2
  rw [Int.toNat_natCast] at HE
  have HM := Lib.hid hm
  have HS := Lib.hid hs
  clear hm hs
  have h8' : ¬ (n - k) < 8 := by omega
  go_wp2_with fail
  refine C1.out.mono ?_
  rintro e w1 ⟨rfl, rfl⟩
  by_cases h3 : 1048576 < m
  · have HE3 := HE.out
    rw [if_pos (by omega)] at HE3
    have HE4 := Lib.hid HE3
    clear HE HE3
    go_wp2_with fail
    go_ret3
    exact RetN.err HE4.out (by decide) (Below.refl _ _)
  have h3' : m ≤ 1048576 := by omega
  have hwm : IntKind.i64.wrap (m : Int) = m := IntWalk.i64_in _ ⟨by omega, by omega⟩
  have hw8 : IntKind.i64.wrap (8 + (m : Int)) = 8 + (m : Int) := IntWalk.i64_in _ ⟨by omega, by omega⟩
  by_cases h4 : n < k + 8 + m
  · have HE3 := HE.out
    rw [if_neg (by omega), if_pos (by omega)] at HE3
    have HE4 := Lib.hid HE3
    clear HE HE3
    have h5 : ((n - k : Nat) : Int) < 8 + (m : Int) := by omega
    go_wp2_with fail
    go_ret3
    exact RetN.err HE4.out (by decide) (Below.refl _ _)
  have h5 : ¬ ((n - k : Nat) : Int) < 8 + (m : Int) := by omega
  go_wp2_with (with_reducible refine wpList_slice_lhm rfl (.tmp 42) (.const (.int .i64 8)) (.tmp 43) (.tmp 44) 35 rfl 5 Try.underlying35 info5 A1 (n - k) c1 w.heap.size (l.drop k) rfl hR1 .i64 .i64 .i64 _ _ _ 8 (8 + m) (8 + m) rfl rfl rfl rfl ?g1 ?g2 ?g3 ?g4 ?g5 ?g6 ?_)
  case g1 => omega
  case g2 => omega
  case g3 => omega
  case g4 => omega
  case g5 => omega
  case g6 => omega
  intro A2 hR2
  go_wp2_with fail
  refine C2.out.mono ?_
  rintro e w2 ⟨rfl, rfl⟩
  go_wp2_with (with_reducible refine wpList_slice_h rfl (.tmp 51) (.const (.int .i64 4)) 35 rfl 5 Try.underlying35 info5 A1 (n - k) c1 w.heap.size (l.drop k) rfl hR1 .i64 _ 4 rfl rfl ?g7 hnc1 ?_)
  case g7 => omega
  intro A3 c3 hR3 hc3 hc4
  have hp1 : (piece l k 4).length = 4 := piece_length (by omega)
  have hp2 : (piece l (k + 8) m).length = m := piece_length (by omega)
  have CO := Lib.hid (of_two (E := 35) (w := w) (x := .slice A3 4 c3) (y := .slice A2 m m) (l := piece l k 4) (m := piece l (k + 8) m) ⟨A3, c3, by rw [hp1], by rw [hp1]; exact hc3, by omega, by rw [hp1]; exact hR3⟩ ⟨A2, m, by rw [hp2], by rw [hp2]; exact Nat.le_refl _, by unfold maxLen; omega, by rw [hp2]; exact hR2⟩ (piece_byt hY _ _) (by omega) (piece_byt hY _ _) (by omega))
  obtain ⟨r, hr⟩ : ∃ r, r = ofC (piece l k 4 ++ piece l (k + 8) m) := ⟨_, rfl⟩
  have hrb : r < 4294967296 := by rw [hr]; exact moreC_lt (by decide) ((piece_byt hY _ _).append (piece_byt hY _ _))
  have hru : IntKind.u64.wrap (r : Int) = r := IntWalk.u64_in _ ⟨by omega, by omega⟩
  rw [← hr] at HE CO
  have HE0 := Lib.hid (show r = s → nextE l k = 0 from fun h => by rw [HE.out, if_neg (by omega), if_neg (by omega), if_neg (by omega)])
  have HE1 := Lib.hid (show r ≠ s → nextE l k = 4 from fun h => by rw [HE.out, if_neg (by omega), if_neg (by omega), if_pos (by omega)])
  clear hr HE hp1
  go_wp2_with fail
  refine CO.out.mono ?_
  rintro e w3 ⟨rfl, hB3⟩
  by_cases hrs : r = s
  · subst hrs
    have CC := Lib.hid (clone_any A2 m m (piece l (k + 8) m) w3 (hR2.on hB3 hB3.size) (by omega))
    have HE4 := Lib.hid (HE0.out rfl)
    clear HE0 HE1 CO C1 C2
    go_wp2_with fail
    refine CC.out.mono ?_
    rintro e w4 ⟨A5, c5, rfl, hl5, hO5, hB5⟩
    have hwk : IntKind.i64.wrap ((k : Int) + (8 + (m : Int))) = (k : Int) + (8 + (m : Int)) := IntWalk.i64_in _ ⟨by omega, by omega⟩
    go_wp2_with fail
    go_ret3
    have hR := RetN.ok (W := w) hY HE4.out HM.out (by omega) (hO5.more hB3.size) (hB3.trans (hB5.mono hB3.size))
    rw [Int.add_assoc] at hR
    exact hR
  · have hne : (r != s) = true := by simpa using hrs
    have HE4 := Lib.hid (HE1.out hrs)
    clear HE0 HE1 CO C1 C2
    go_wp2_with fail
    go_ret3
    exact RetN.err HE4.out (by decide) hB3

set_option maxHeartbeats 1000000 in
theorem scan_any (A : Option Addr) (n c : Nat) (l : List Int) (w : World) (hR : Rd w w.heap.size A n l) (hY : Byt l) (hn : n ≤ 1099511627776) (hnc : n ≤ c) (hcm : c ≤ maxLen) :
    Calls Try.prog 71 #[.slice A n c] w (RetScan w l) := by
  have HN := Lib.hid hR.len
  have HR := Lib.hid hR
  clear hR
  go_enter Try.func71, Try.ntmps71
  go_wp2_with fail
  go_loopw [2, 3] (fun s i wr => ∃ (q j : Nat) (A' : Option Addr) (c' : Nat) (xs : List Value) (L : List (List Int)), q ≤ n ∧ j ≤ q ∧ i = .int .i64 q ∧ s = .slice A' j c' ∧ Hid (xs.length = j) ∧ Hid (L.length = j) ∧ Hid (Chain l 0 L q) ∧ OwnV 35 wr w.heap.size (.slice A' j c') xs ∧ OwnsOf 5 wr w.heap.size xs L ∧ Below w.heap.size w wr) (fun _ i _ => n - (intOf i).toNat)
  case atStart => exact ⟨0, 0, none, 0, [], [], by omega, by omega, rfl, rfl, rfl, rfl, rfl, OwnV.nil _ _ _, OwnsOf.nil _ _ _, Below.refl _ _⟩
  case round =>
    obtain ⟨q, j, A', c', xs, L, hq, hjq, rfl, rfl, HX, HL, HC, hO, hS, hB⟩ := hrel
    have C := Lib.hid (next_any A n c l q wr (HR.out.on hB hB.size) hY hn hnc hcm (by omega) (by omega))
    go_wp2_with fail
    refine C.out.mono ?_
    clear C
    rintro e w1 ⟨A1, n1, c1, rfl, hn1, hO1, hB1⟩
    by_cases hE : nextE l q = 0
    · have hg := next_good hY hE
      have hX2 := HC.out.snoc hE rfl
      obtain ⟨q2, hq2⟩ := Int.eq_ofNat_of_zero_le (show 0 ≤ nextN l q by omega)
      have HG := Lib.hid hg
      rw [hq2] at hX2
      have hb1 : q + 8 ≤ q2 ∧ q2 ≤ n := by have := HN.out; rw [hq2] at hg; omega
      have HX2 := Lib.hid hX2
      have hO2 := (hO.below hB1).alloc (.cells #[.slice A1 n1 c1] 35)
      have hS2 := ((hS.below hB1).snoc hS HX.out HL.out hO1 hB.size).below (w' := w1.alloc (.cells #[.slice A1 n1 c1] 35)) ((Below.refl _ _).alloc (Nat.le_refl _) _)
      rw [hE, hq2]
      clear hX2 hg hS HR hO1
      go_wp2_with (at_builtin; with_reducible refine wpList_append_v rfl (.tmp 18) (.tmp 20) 36 rfl w.heap.size 35 (.slice none 0 0) 24 Try.underlying36 law0.infoB rfl A' j c' xs HX.out rfl hO2 _ _ 1 1 [_] rfl (RdV.one _ _ _) ?h1 ?h2 ?h3 ?h4 ?_)
      case h1 => intro u hu; rw [List.mem_singleton] at hu; subst hu; rfl
      case h2 => omega
      case h3 => unfold maxLen; omega
      case h4 => have := hB.size; have := hB1.size; simp; omega
      intro A3 c3 w3 hO3 hB3 hG3
      go_wp2_with fail
      go_roundw
      case rel => exact ⟨q2, j + 1, A3, c3, xs ++ [.slice A1 n1 c1], L ++ [nextR l q], hb1.2, by omega, rfl, rfl, by show _ = _; rw [List.length_append, HX.out]; rfl, by show _ = _; rw [List.length_append, HL.out]; rfl, HX2.out, hO3, hS2.grown (by decide) hO2 hG3, (hB.trans (hB1.mono hB.size)).trans (Below.trans ((Below.refl _ _).alloc (Nat.le_trans hB.size hB1.size) _) hB3)⟩
      case measure => simp [intOf]; omega
    · obtain ⟨x, hx⟩ : ∃ x, nextE l q = x := ⟨_, rfl⟩
      have HE := Lib.hid hE
      have hne : (x != 0) = true := by rw [← hx]; simpa using hE
      have hne2 : ¬ x = 0 := by rw [← hx]; exact hE
      rw [hx]
      clear hx hE
      go_wp2_with fail
      go_ret2
      exact ⟨A', j, c', xs, L, q, rfl, HX.out, HL.out, ⟨HC.out, HE.out⟩, hO.below hB1, hS.below hB1, hB.trans (hB1.mono hB.size)⟩
end Go.Proofs.Ytafdgibkhefplaa.frame
