/- What the program's sets come to: Of, List, Count, Has, With, Less, May, Subsets. Conditions: sets are uint16 values. -/
import Derived.Test.YtdjfmpejhgmbbaaRef9
import Derived.Test.YtdjfmpejhgmbbaaSeR
import Derived.Defers
import Derived.Recover
namespace Go.Proofs.Ytdjfmpejhgmbbaa.seti
open Go Go.RowKit Go.Proofs.Ytdjfmpejhgmbbaa.kit Go.Proofs.Ytdjfmpejhgmbbaa.nums Go.Proofs.Ytdjfmpejhgmbbaa.se Go.Proofs.Ytdjfmpejhgmbbaa.ref9
set_option linter.unusedVariables false

theorem bit_any (n : Int) (w : World) (h0 : -9223372036854775808 ≤ n) (h1 : n ≤ 9223372036854775807) :
    Calls Try.prog 22 #[.int .i64 n] w fun e w' => e = .returned (.int .u16 (bitF n : Nat)) ∧ w = w' := by
  cases hn : nodeB n
  · rw [bitF_not hn]
    have hb : n < 1 ∨ 9 < n := nodeB_not hn
    by_cases hl : n < 1
    · go_enter Try.func22, Try.ntmps22
      go_wp2_with fail
      go_ret
      exact ⟨rfl, rfl⟩
    · have hg : 9 < n := by omega
      go_enter Try.func22, Try.ntmps22
      go_wp2_with fail
      go_ret
      exact ⟨rfl, rfl⟩
  · obtain ⟨k, rfl, k1, k9⟩ := nodeB_nat hn
    rw [bitF_node k1 k9]
    go_enter Try.func22, Try.ntmps22
    go_wp2_with fail
    go_ret
    exact ⟨ret_u16 (by rw [show ((2 : Int) ^ k) = ((2 ^ k : Nat) : Int) from by simp]; exact wrap_u16_nat _ (by have := pow_le9 k9; omega)), rfl⟩
theorem has_any (s : Nat) (n : Int) (w : World) (hs : s < 65536) (h0 : -9223372036854775808 ≤ n) (h1 : n ≤ 9223372036854775807) :
    Calls Try.prog 12 #[.int .u16 (s : Int), .int .i64 n] w fun e w' => e = .returned (.bool (hasF s n)) ∧ Below w.heap.size w w' := by
  have C := Lib.hid (fun w => bit_any n w h0 h1)
  have HL := bitF_le n
  have HA := bits_and_u16_nat s (bitF n) hs (by omega)
  have HZ := Lib.hid (and_bit_zero s n)
  generalize s &&& bitF n = z at *
  generalize bitF n = b at *
  go_enter Try.func12, Try.ntmps12
  go_wp2_with fail
  refine (C.out _).mono ?_
  rintro e w2 ⟨rfl, rfl⟩
  go_wp2_with fail
  go_ret
  refine ⟨ret_bool ?_, Below.refl _ _⟩
  have hz := HZ.out
  cases h : hasF s n
  · rw [h] at hz
    obtain rfl := hz.2 rfl
    rfl
  · rw [h] at hz
    have : z ≠ 0 := fun e => by have := hz.1 e; cases this
    simp [bne_iff_ne]
    omega
theorem of_any (A : Option Addr) (k c : Nat) (l : List Int) (w : World) (B : Nat) (hR : RdV w B A k (i64s l)) (hI : Ints l) (hk : k ≤ 1099511627776) :
    Calls Try.prog 7 #[.slice A k c] w fun e w' => e = .returned (ofV (ofF 0 l)) ∧ Below w.heap.size w w' := by
  have HL := Lib.hid (show l.length = k from by have := hR.1; rwa [i64s_length] at this)
  have HA := Lib.hid (fun j hj => rdv_at hR j hj)
  have B := Lib.hid (fun (n : Int) (h : n ∈ l) w => bit_any n w (hI n h).1 (hI n h).2)
  clear hR
  go_enter Try.func7, Try.ntmps7
  go_wp2_with fail
  go_loop [4, 6, 7, 10] (fun v _ _ iv => ∃ (j s : Nat), j ≤ k ∧ iv = .int .i64 j ∧ v = .int .u16 (s : Int) ∧ s < 65536 ∧ Hid (ofF 0 (l.take j) = some s)) (fun _ _ _ iv => k - (intOf iv).toNat)
  case atStart => exact ⟨0, 0, by omega, rfl, rfl, by omega, rfl⟩
  case round =>
    obtain ⟨j, s, hj, rfl, rfl, hs, HS⟩ := hrel
    by_cases hlt : j < k
    · obtain ⟨p, o, n, rfl, hn, hc⟩ := HA.out j hlt
      have hm := List.mem_of_getElem? hn
      have hB := B.out n hm
      have hl := bitF_le n
      have hwl := withF_lt n hs
      have HO := bits_or_u16_nat s (bitF n) hs (by omega)
      rw [show s ||| bitF n = withF s n from rfl] at HO
      have HT : Hid (ofF 0 (l.take (j + 1)) = if nodeB n then some (withF s n) else none) := by
        show _ = _; rw [take_get hn, ofF_snoc, HS.out]; rfl
      cases hnb : nodeB n
      · have HF := Lib.hid (ofF_bad hn hnb 0)
        rw [bitF_not hnb] at hB
        clear hn HO
        go_wp2_with fail
        refine (hB _).mono ?_
        rintro e w3 ⟨rfl, rfl⟩
        go_wp2_with fail
        go_ret2
        rw [HF.out]
        exact ⟨rfl, Below.refl _ _⟩
      · have hp := bitF_pos.2 hnb
        rw [hnb] at HT
        clear hn
        generalize withF s n = z at *
        generalize bitF n = b at *
        go_wp2_with fail
        refine (hB _).mono ?_
        rintro e w3 ⟨rfl, rfl⟩
        go_wp2_with fail
        go_round
        case rel => exact ⟨j + 1, z, by omega, by go_num, by first | rfl | rw [HO], hwl, HT.out⟩
        case measure => simp [intOf]; omega
    · obtain rfl : j = k := by omega
      have HV : Hid (ofF 0 l = some s) := by show _ = _; rw [← HS.out, ← HL.out, List.take_length]
      go_wp2_with fail
      go_ret2
      rw [HV.out]
      exact ⟨rfl, Below.refl _ _⟩
theorem own_far {E : TypeId} {w : World} {base : Nat} {v : Value} {xs : List Value} (h : OwnV E w base v xs) {p : Addr} (hp : p.block < base) (u : Value) : OwnV E (w.setCell p u) base v xs := by
  refine ⟨h.1, ?_⟩
  rcases h.2 with hn | ⟨g, cap, cur, rfl, hb, hg, r⟩
  · exact .inl hn
  · exact .inr ⟨g, cap, cur, rfl, hb, (Below.heap_setCell w p u g (by omega)).trans hg, r⟩
theorem bit_next (s j : Nat) (hj : j < 9) : hasF s ((j + 1 : Nat) : Int) = s.testBit (j + 1) := hasF_node (by omega) (by omega)
set_option maxHeartbeats 1000000 in
/-- The walk through the nodes of a set with a closure that captures one variable: I j is what holds behind the first j numbers. -/
theorem each_any (s : Nat) (g : FuncId) (v : Value) (I : Nat → World → Prop) (w : World) (hs : s < 65536) (hg : ∀ (args : Array Value) (w : World), (callFunc g args).run Try.prog w = .ok (.enter g args) w)
    (hK : ∀ (j : Nat) (w w' : World), I j w → Below w.heap.size w w' → I j w')
    (hN : ∀ (j : Nat) (w : World), j < 9 → s.testBit (j + 1) = false → I j w → I (j + 1) w)
    (hC : ∀ (j : Nat) (w : World), j < 9 → s.testBit (j + 1) = true → I j w → Calls Try.prog g #[.int .i64 ((j + 1 : Nat) : Int), v] w fun e w' => e = .returned (.tuple #[]) ∧ I (j + 1) w') (h0 : I 0 w) :
    Calls Try.prog 24 #[.int .u16 (s : Int), .func (.func g) #[] #[v]] w fun e w' => e = .returned (.tuple #[]) ∧ I 9 w' := by
  have C := Lib.hid (fun (j : Nat) (hj : j ≤ 9) w => has_any s (j : Int) w hs (by omega) (by omega))
  have HC := Lib.hid hC
  have HN := Lib.hid hN
  have HK := Lib.hid hK
  clear hC hN hK
  go_enter Try.func24, Try.ntmps24
  go_wp2_with fail
  go_loopw [4] (fun iv wr => ∃ (j : Nat), j ≤ 9 ∧ iv = .int .i64 ((j + 1 : Nat) : Int) ∧ I j wr) (fun iv _ => 10 - (intOf iv).toNat)
  case atStart => exact ⟨0, by omega, rfl, h0⟩
  case round =>
    obtain ⟨j, hj, rfl, hI⟩ := hrel
    by_cases hlt : j < 9
    · have hC := C.out (j + 1) (by omega)
      rw [bit_next s j hlt] at hC
      have HH := Lib.hid hC
      clear hC C
      cases hb : s.testBit (j + 1)
      · rw [hb] at HH
        go_wp2_with fail
        refine (HH.out _).mono ?_
        rintro e w2 ⟨rfl, hB2⟩
        have hI2 := HN.out j _ hlt hb (HK.out j _ _ hI hB2)
        clear hI
        go_wp2_with fail
        go_round
        case rel => exact ⟨j + 1, by omega, by go_num, hI2⟩
        case measure => simp [intOf]; omega
      · rw [hb] at HH
        go_wp2_with fail
        refine (HH.out _).mono ?_
        rintro e w2 ⟨rfl, hB2⟩
        have hcall := Lib.hid (HC.out j _ hlt hb (HK.out j _ _ hI hB2))
        clear hI
        go_wp2_with (rw [hg])
        refine hcall.out.mono ?_
        rintro e w3 ⟨rfl, hI3⟩
        clear hcall
        go_wp2_with fail
        go_round
        case rel => exact ⟨j + 1, by omega, by go_num, hI3⟩
        case measure => simp [intOf]; omega
    · obtain rfl : j = 9 := by omega
      go_wp2_with fail
      go_end0
      exact ⟨rfl, hI⟩
/-- What holds behind the first j numbers of List: the captured variable's block is p. -/
def ListI (s p : Nat) (w : World) (j : Nat) (wr : World) : Prop :=
  ∃ (k : Nat) (A : Option Addr) (c : Nat), k ≤ j ∧ (listTo s j).length = k ∧ Blk 22 wr p [.slice A k c] ∧ OwnV 3 wr (p + 1) (.slice A k c) (i64s (listTo s j)) ∧ Below p w wr
set_option maxHeartbeats 1000000 in
theorem list_add (s p j : Nat) (w wr : World) (hj : j < 9) (hb : s.testBit (j + 1) = true) (hI : ListI s p w j wr) :
    Calls Try.prog 25 #[.int .i64 ((j + 1 : Nat) : Int), .pointer (some ⟨p, 0, none⟩)] wr fun e w' => e = .returned (.tuple #[]) ∧ ListI s p w (j + 1) w' := by
  obtain ⟨k, A, c, hk, HL, hP, hO, hB⟩ := hI
  have HN : Hid (listTo s (j + 1) = listTo s j ++ [((j + 1 : Nat) : Int)]) := Lib.hid (by show (if s.testBit (j + 1) then _ else _) = _; rw [if_pos hb])
  have hln : (i64s (listTo s j)).length = k := by rw [i64s_length]; exact HL
  have HL := Lib.hid HL
  obtain ⟨xs, hxs⟩ : ∃ xs, i64s (listTo s j) = xs := ⟨_, rfl⟩
  rw [hxs] at hO hln
  have HX := Lib.hid hxs
  clear hxs hb
  have hsz := hP.lt
  have c0 := hP.cell 0
  have df := hP.frozen 0
  simp only [List.getElem?_cons_zero] at c0
  have hO2 := hO.alloc (.cells #[.int .i64 ((j : Int) + 1)] 3)
  have hP2 := hP.alloc (.cells #[.int .i64 ((j : Int) + 1)] 3)
  have hB2 := hB.alloc (Nat.le_of_lt hsz) (.cells #[.int .i64 ((j : Int) + 1)] 3)
  have HP := Lib.hid hP2
  have HO := Lib.hid hO2
  have HB := Lib.hid hB2
  clear hP2 hO2 hB2 hB hO hP
  go_enter Try.func25, Try.ntmps25
  go_wp2_with (at_builtin; with_reducible refine wpList_append_v rfl (.tmp 3) (.tmp 5) 22 rfl (p + 1) 3 (.int .i64 0) 8 Try.underlying22 infoI rfl A k c xs hln rfl HO.out _ _ 1 1 [_] rfl (RdV.one _ _ _) ?k1 ?k2 ?k3 ?k4 ?_)
  case k1 => intro u hu; rw [List.mem_singleton] at hu; subst hu; rfl
  case k2 => omega
  case k3 => unfold maxLen; omega
  case k4 => simp; omega
  intro A3 c3 w3 hO3 hB3 _
  have hP3 := HP.out.below hB3 (by omega)
  have hB4 := HB.out.trans (hB3.mono (by omega))
  have d3 := hP3.frozen 0
  have e3 := hP3.cell 0
  have HP3 := Lib.hid hP3
  have HO3 := Lib.hid hO3
  have HB4 := Lib.hid hB4
  clear hP3 hO3 hB4 hB3 HP HO HB c0 df
  go_wp2_with fail
  go_end0
  have hf := HP3.out.set_ 0 (.slice A3 (k + 1) c3)
  have hp3 := HP3.out.lt
  refine ⟨rfl, k + 1, A3, c3, by omega, by rw [HN.out, List.length_append, HL.out]; rfl, hf, ?_, HB4.out.setCell (p := ⟨p, 0, none⟩) (Nat.le_refl _) _⟩
  rw [HN.out, i64s_append, HX.out]
  exact own_far HO3.out (p := ⟨p, 0, none⟩) (Nat.lt_succ_self _) _
theorem list_any (s : Nat) (w : World) (hs : s < 65536) : Calls Try.prog 9 #[.int .u16 (s : Int)] w (IsIs w (listF s)) := by
  have hmf : ∀ (fn : Fn) (first cap : Array Value) (w : World), (Instr.makeFunc fn first cap).run Try.prog w = .ok (.func fn first cap) w := fun _ _ _ _ => rfl
  have hP : Blk 22 (w.alloc (.cells #[.slice none 0 0] 22)) w.heap.size [.slice none 0 0] := heap_alloc_new w _
  have hB := (Below.refl w.heap.size w).alloc (Nat.le_refl _) (.cells #[.slice none 0 0] 22)
  have C := Lib.hid (each_any s 25 (.pointer (some ⟨w.heap.size, 0, none⟩)) (ListI s w.heap.size w) (w.alloc (.cells #[.slice none 0 0] 22)) hs (fun _ _ => rfl)
    (fun j w1 w2 ⟨k, A, c, h1, h2, h3, h4, h5⟩ hb => ⟨k, A, c, h1, h2, h3.below hb h3.lt, h4.below hb, h5.trans (hb.mono (Nat.le_of_lt h3.lt))⟩)
    (fun j w1 hj hb ⟨k, A, c, h1, h2, h3, h4, h5⟩ => by
      have e : listTo s (j + 1) = listTo s j := by show (if s.testBit (j + 1) then _ else _) = _; rw [hb]; rfl
      exact ⟨k, A, c, by omega, by rw [e]; exact h2, h3, by rw [e]; exact h4, h5⟩)
    (fun j w1 hj hb hI => list_add s w.heap.size j w w1 hj hb hI)
    ⟨0, none, 0, Nat.le_refl _, rfl, hP, OwnV.nil _ _ _, hB⟩)
  clear hP hB
  unfold IsIs
  have hl9 : listTo s 9 = listF s := rfl
  generalize listF s = xs at *
  go_enter Try.func9, Try.ntmps9
  go_wp2_with (rw [hmf])
  refine C.out.mono ?_
  rintro e w2 ⟨rfl, k, A, c, hk, HL, hP, hO, hB⟩
  rw [hl9] at HL hO
  have c0 := hP.cell 0
  simp only [List.getElem?_cons_zero] at c0
  have HO := Lib.hid hO
  have HB := Lib.hid hB
  clear hO hB hP C hl9
  subst HL
  go_wp2_with fail
  go_ret
  exact ⟨A, c, rfl, HO.out.more (Nat.le_succ _), HB.out⟩
/-- What holds behind the first j numbers of Count. -/
def CountC (s p : Nat) (w : World) (j : Nat) (wr : World) : Prop := Blk 3 wr p [.int .i64 ((listTo s j).length : Int)] ∧ (listTo s j).length ≤ j ∧ Below p w wr
theorem count_add (s p j : Nat) (w wr : World) (hj : j < 9) (hb : s.testBit (j + 1) = true) (hI : CountC s p w j wr) :
    Calls Try.prog 26 #[.int .i64 ((j + 1 : Nat) : Int), .pointer (some ⟨p, 0, none⟩)] wr fun e w' => e = .returned (.tuple #[]) ∧ CountC s p w (j + 1) w' := by
  obtain ⟨hP, HL, hB⟩ := hI
  have HN : (listTo s (j + 1)).length = (listTo s j).length + 1 := by
    show (if s.testBit (j + 1) then listTo s j ++ [((j + 1 : Nat) : Int)] else listTo s j).length = _
    rw [if_pos hb, List.length_append]; rfl
  unfold CountC
  rw [HN]
  generalize (listTo s j).length = k at *
  have c0 := hP.cell 0
  have df := hP.frozen 0
  simp only [List.getElem?_cons_zero] at c0
  have HP := Lib.hid hP
  have HB := Lib.hid hB
  clear hP hB HN hb
  go_enter Try.func26, Try.ntmps26
  go_wp2_with fail
  go_end0
  exact ⟨rfl, HP.out.set_ 0 _, by omega, HB.out.setCell (p := ⟨p, 0, none⟩) (Nat.le_refl _) _⟩
theorem count_any (s : Nat) (w : World) (hs : s < 65536) : Calls Try.prog 11 #[.int .u16 (s : Int)] w fun e w' => e = .returned (.int .i64 ((listF s).length : Int)) ∧ Below w.heap.size w w' := by
  have hmf : ∀ (fn : Fn) (first cap : Array Value) (w : World), (Instr.makeFunc fn first cap).run Try.prog w = .ok (.func fn first cap) w := fun _ _ _ _ => rfl
  have hP : Blk 3 (w.alloc (.cells #[.int .i64 0] 3)) w.heap.size [.int .i64 0] := heap_alloc_new w _
  have hB := (Below.refl w.heap.size w).alloc (Nat.le_refl _) (.cells #[.int .i64 0] 3)
  have C := Lib.hid (each_any s 26 (.pointer (some ⟨w.heap.size, 0, none⟩)) (CountC s w.heap.size w) _ hs (fun _ _ => rfl)
    (fun j w1 w2 ⟨h1, h2, h3⟩ hb => ⟨h1.below hb h1.lt, h2, h3.trans (hb.mono (Nat.le_of_lt h1.lt))⟩)
    (fun j w1 hj hb ⟨h1, h2, h3⟩ => by
      have e : listTo s (j + 1) = listTo s j := by show (if s.testBit (j + 1) then _ else _) = _; rw [hb]; rfl
      unfold CountC
      rw [e]
      exact ⟨h1, by omega, h3⟩)
    (fun j w1 hj hb hI => count_add s w.heap.size j w w1 hj hb hI)
    ⟨hP, Nat.le_refl _, hB⟩)
  clear hP hB
  have hl9 : listTo s 9 = listF s := rfl
  generalize listF s = xs at *
  go_enter Try.func11, Try.ntmps11
  go_wp2_with (rw [hmf])
  refine C.out.mono ?_
  rintro e w2 ⟨rfl, hP, hk, hB⟩
  rw [hl9] at hP
  have c0 := hP.cell 0
  simp only [List.getElem?_cons_zero] at c0
  have HB := Lib.hid hB
  clear hB hP C hl9
  go_wp2_with fail
  go_ret
  exact ⟨rfl, HB.out⟩
theorem with_any (s : Nat) (n : Int) (w : World) (hs : s < 65536) (h0 : -9223372036854775808 ≤ n) (h1 : n ≤ 9223372036854775807) :
    Calls Try.prog 14 #[.int .u16 (s : Int), .int .i64 n] w fun e w' => e = .returned (.int .u16 ((withF s n : Nat) : Int)) ∧ Below w.heap.size w w' := by
  have C := Lib.hid (fun w => bit_any n w h0 h1)
  have HL := bitF_le n
  have HA := bits_or_u16_nat s (bitF n) hs (by omega)
  have HW : s ||| bitF n = withF s n := rfl
  rw [HW] at HA
  generalize withF s n = z at *
  generalize bitF n = b at *
  go_enter Try.func14, Try.ntmps14
  go_wp2_with fail
  refine (C.out _).mono ?_
  rintro e w2 ⟨rfl, rfl⟩
  go_wp2_with fail
  go_ret
  exact ⟨rfl, Below.refl _ _⟩
theorem less_any (s : Nat) (n : Int) (w : World) (hs : s < 65536) (h0 : -9223372036854775808 ≤ n) (h1 : n ≤ 9223372036854775807) :
    Calls Try.prog 16 #[.int .u16 (s : Int), .int .i64 n] w fun e w' => e = .returned (.int .u16 ((lessF s n : Nat) : Int)) ∧ Below w.heap.size w w' := by
  have C := Lib.hid (fun w => bit_any n w h0 h1)
  have HL := bitF_le n
  have HA := bits_andNot_u16_nat s (bitF n) hs (by omega)
  rw [less_xor] at HA
  generalize lessF s n = z at *
  generalize bitF n = b at *
  go_enter Try.func16, Try.ntmps16
  go_wp2_with fail
  refine (C.out _).mono ?_
  rintro e w2 ⟨rfl, rfl⟩
  go_wp2_with fail
  go_ret
  exact ⟨rfl, Below.refl _ _⟩
theorem may_any (s : Nat) (w : World) (hs : s < 65536) : Calls Try.prog 18 #[.int .u16 (s : Int)] w fun e w' => e = .returned (.bool (mayF s)) ∧ Below w.heap.size w w' := by
  have HA : bits .andNot .u16 (s : Int) 1022 = _ := bits_andNot_u16_nat s 1022 hs (by omega)
  have HZ := Lib.hid (may_xor s)
  generalize s ^^^ (s &&& 1022) = z at *
  go_enter Try.func18, Try.ntmps18
  go_wp2_with fail
  go_ret
  refine ⟨ret_bool ?_, Below.refl _ _⟩
  have hz := HZ.out
  rw [Bool.eq_iff_iff, ← hz, beq_iff_eq]
  omega
theorem func_nil (g : FuncId) (v : Value) (w : World) : (binOp .eql 33 (.func (.func g) #[v] #[]) .nilFunc).run Try.prog w = .ok (.bool false) w := rfl
theorem func_nil2 (g : FuncId) (v : Value) (w : World) : (binOp .neq 33 (.func (.func g) #[v] #[]) .nilFunc).run Try.prog w = .ok (.bool true) w := rfl
theorem nil_nil (w : World) : (binOp .eql 33 .nilFunc .nilFunc).run Try.prog w = .ok (.bool true) w := rfl
theorem nil_nil2 (w : World) : (binOp .neq 33 .nilFunc .nilFunc).run Try.prog w = .ok (.bool false) w := rfl
/-- How many are told, the i-th answer of the function being 'go i'. -/
def ToldN (go : Nat → Bool) (k m : Nat) : Prop := m ≤ k ∧ (∀ i, i + 1 < m → go i = true) ∧ (m = k ∨ ∃ i, m = i + 1 ∧ go i = false)
/-- What Subsets defers: where nothing has panicked recover finds nothing. -/
theorem recover_idle (w : World) : CallsD Try.prog 27 #[] .returning w fun e u' w' => e = .returned (.tuple #[]) ∧ u' = .returning ∧ w' = w := by
  refine callsD_of_wpS Try.func27 rfl fun c₀ cs hu => ?_
  apply wpS_region
  simp [wpOpsS, go_sem, recoverD, hu, Try.ntmps27, bodyPostS, results, Try.results27]
  cases c₀
  simp_all
theorem door {R : Ending → World → Prop} {tmps : Array Value} {w : World} (h : R (.returned (.tuple #[])) w) :
    Leaves Try.prog Try.f20 tmps R [{ target := .fn (.func 27) #[], args := #[] }] .returning w := by
  refine leaves_cons (f := 27) (args := #[]) (by simp) (by simp [go_sem]) ?_
  refine (recover_idle _).mono ?_
  rintro e u' w'' ⟨rfl, rfl, rfl⟩
  simpa [Leaves, settle, results, Try.results20, go_sem] using h
theorem bits_not_u16 (S : Nat) (hS : S < 65536) : bits .xor .u16 (if IntKind.u16.signed = true then -1 else IntKind.u16.max) (S : Int) = ((65535 - S : Nat) : Int) := by
  show bits .xor .u16 ((65535 : Nat) : Int) (S : Int) = _
  rw [bits_xor_u16_nat 65535 S (by omega) hS]
  have e : (BitVec.allOnes 16 ^^^ BitVec.ofNat 16 S).toNat = (~~~(BitVec.ofNat 16 S)).toNat := by rw [BitVec.allOnes_xor]
  rw [BitVec.toNat_xor, BitVec.toNat_not, BitVec.toNat_ofNat, Nat.mod_eq_of_lt hS] at e
  have e2 : (BitVec.allOnes 16).toNat = 65535 := rfl
  rw [e2] at e
  rw [e]
theorem or_not (x S : Nat) (hx : x &&& S = x) (hS : S < 65536) : x ||| (65535 - S) = x + (65535 - S) := by
  have hl : x ≤ S := by rw [← hx]; exact Nat.and_le_right
  have e := BitVec.add_eq_or_of_and_eq_zero (BitVec.ofNat 16 x) (~~~(BitVec.ofNat 16 S)) (by
    have : BitVec.ofNat 16 x &&& BitVec.ofNat 16 S = BitVec.ofNat 16 x := by rw [← BitVec.ofNat_and, hx]
    rw [← this, BitVec.and_assoc, BitVec.and_not_self]
    exact BitVec.and_zero)
  have e3 := congrArg BitVec.toNat e
  rw [BitVec.toNat_add, BitVec.toNat_or, BitVec.toNat_not, BitVec.toNat_ofNat, BitVec.toNat_ofNat, Nat.mod_eq_of_lt hS, Nat.mod_eq_of_lt (show x < 2 ^ 16 by omega)] at e3
  have e4 : (2 : Nat) ^ 16 - 1 - S = 65535 - S := by omega
  rw [e4] at e3
  rw [← e3]
  omega
/-- The next subset: the 1 is carried past the bits that S lacks. -/
theorem carry (x S : Nat) (hx : x &&& S = x) (hS : S < 65536) :
    bits .and .u16 (IntKind.u16.wrap (bits .or .u16 (x : Int) (bits .xor .u16 (if IntKind.u16.signed = true then -1 else IntKind.u16.max) (S : Int)) + 1)) (S : Int) = (((x + (65536 - S)) % 65536 &&& S : Nat) : Int) := by
  have hl : x ≤ S := by rw [← hx]; exact Nat.and_le_right
  rw [bits_not_u16 S hS, bits_or_u16_nat x (65535 - S) (by omega) (by omega), or_not x S hx hS]
  have hw : IntKind.u16.wrap (((x + (65535 - S) : Nat) : Int) + 1) = (((x + (65536 - S)) % 65536 : Nat) : Int) := by
    simp [IntKind.wrap, IntKind.bits, IntKind.signed]
    omega
  rw [hw, bits_and_u16_nat _ S (Nat.mod_lt _ (by omega)) hS]
/-- Subsets, of a method value: I i is what holds behind i calls. -/
theorem subsets_any (s : Nat) (g : FuncId) (v : Value) (go : Nat → Bool) (I : Nat → World → Prop) (w : World) (hs : s < 65536) (hg : ∀ (args : Array Value) (w : World), (callFunc g args).run Try.prog w = .ok (.enter g args) w)
    (hK : ∀ (i : Nat) (w w' : World), I i w → Below w.heap.size w w' → I i w')
    (hC : ∀ (i x : Nat) (w : World), (subL s)[i]? = some x → I i w → Calls Try.prog g #[v, .int .u16 (x : Int)] w fun e w' => e = .returned (.bool (go i)) ∧ I (i + 1) w') (h0 : I 0 w) :
    Calls Try.prog 20 #[.int .u16 (s : Int), .func (.func g) #[v] #[]] w fun e w' => e = .returned (.tuple #[]) ∧ ∃ m, I m w' ∧ ToldN go (subL s).length m := by
  have HX : bits .and .u16 (s : Int) 1022 = ((s &&& 1022 : Nat) : Int) := bits_and_u16_nat s 1022 hs (by omega)
  have hS : s &&& 1022 < 65536 := Nat.lt_of_le_of_lt Nat.and_le_left hs
  have HST := Lib.hid (fun i x (hx : (subL s)[i]? = some x) => @subL_step s i x hx)
  have HLA := Lib.hid (fun i x (hx : (subL s)[i]? = some x) => @subL_last s i x hx)
  have HM := Lib.hid (fun x (hx : x ∈ subL s) => (subL_mem hx).1)
  have HM2 := Lib.hid (fun x (hx : x ∈ subL s) => (subL_mem hx).2)
  have HR := Lib.hid (fun i x y (hx : (subL s)[i]? = some x) (hy : (subL s)[i + 1]? = some y) => subL_next hx hy)
  have H0 := Lib.hid (subL_zero s)
  have HAN := Lib.hid (fun x (hx : x &&& (s &&& 1022) = x) => carry x (s &&& 1022) hx hS)
  generalize s &&& 1022 = S at *
  generalize subL s = L at *
  have HC := Lib.hid hC
  clear hC
  go_enter_defers Try.func20, Try.ntmps20
  go_wp2_with (rw [func_nil])
  go_loopw [4] (fun xv wr => ∃ (i x : Nat), xv = .int .u16 (x : Int) ∧ x < 1024 ∧ I i wr ∧ Hid (L[i]? = some x) ∧ Hid (∀ q, q < i → go q = true)) (fun xv _ => 65536 - (intOf xv).toNat)
  case atStart => exact ⟨0, 0, rfl, by omega, h0, H0.out, fun q h => by omega⟩
  case round =>
    obtain ⟨i, x, rfl, hx, hI, HL, HG⟩ := hrel
    have C := Lib.hid (HC.out i x _ HL.out hI)
    clear hI
    go_wp2_with (rw [hg])
    refine C.out.mono ?_
    rintro e w2 ⟨rfl, hI2⟩
    have hiL := (List.getElem?_eq_some_iff.1 HL.out).1
    cases hgo : go i
    · go_wp2_with fail
      refine door ?_
      exact ⟨rfl, i + 1, hI2, hiL, fun q hq => HG.out q (by omega), .inr ⟨i, rfl, hgo⟩⟩
    · by_cases hxS : x = S
      · have hlast := (HLA.out i x HL.out).2 hxS
        subst hxS
        go_wp2_with fail
        refine door ?_
        exact ⟨rfl, i + 1, hI2, hiL, fun q hq => HG.out q (by omega), .inl hlast⟩
      · have hnx := HST.out i x HL.out hxS
        have hne : ¬ ((x : Int) = (S : Int)) := by omega
        have ha := HAN.out x (HM2.out x (List.mem_of_getElem? HL.out))
        have hy := HM.out _ (List.mem_of_getElem? hnx)
        have hxy := HR.out i x _ HL.out hnx
        generalize ((x + (65536 - S)) % 65536) = d at *
        generalize d &&& S = y at *
        have HN := Lib.hid hnx
        have HA := Lib.hid ha
        clear hnx ha
        go_wp2_with fail
        refine ⟨⟨i + 1, y, by first | rfl | rw [HA.out], hy, hI2, HN.out, fun q hq => ?_⟩, ?_⟩
        · by_cases e : q = i
          · rw [e]; exact hgo
          · exact HG.out q (by omega)
        · simp [intOf, HA.out]; omega
theorem subsets_nil (s : Nat) (w : World) (hs : s < 65536) :
    Calls Try.prog 20 #[.int .u16 (s : Int), .nilFunc] w fun e w' => e = .returned (.tuple #[]) ∧ Below w.heap.size w w' := by
  go_enter Try.func20, Try.ntmps20
  go_wp2_with (rw [nil_nil])
  refine bodyPost_ret (v := .tuple #[]) (by simp [results, Try.results20, go_sem]) rfl ?_
  exact ⟨rfl, Below.refl _ _⟩
end Go.Proofs.Ytdjfmpejhgmbbaa.seti
