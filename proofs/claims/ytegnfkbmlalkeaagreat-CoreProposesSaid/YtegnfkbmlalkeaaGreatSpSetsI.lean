/- What the program's sets come to: Of, List, Count, Has, With, Less, May, Subsets. Conditions: sets are uint16 values. -/
import Derived.Defers
import Derived.Recover
import Derived.Test.YtegnfkbmlalkeaaGreatSpRef9
import Derived.Test.YtegnfkbmlalkeaaGreatSpJ0
set_option linter.unusedVariables false
set_option maxHeartbeats 16000000
set_option maxRecDepth 10000
namespace Go.Proofs.YtegnfkbmlalkeaaGreat.seti
open Go Go.RowKit kit nums se ref9
set_option maxRecDepth 10000
theorem bit_any (n : Int) (w : World) (h0 : -9223372036854775808 ≤ n) (h1 : n ≤ 9223372036854775807) :
  Calls Tryz.prog 161 #[.int .i64 n] w fun e w' => e = .returned (.int .u16 (bitF n : Nat)) ∧ w = w' := by
 cases hn : nodeB n
 ·
  rw [bitF_not hn]
  have hb : n < 1 ∨ 9 < n := nodeB_not hn
  by_cases hl : n < 1
  ·
   go_enter Tryz.func161, Tryz.ntmps161
   go_wp2_with fail
   go_ret
   exact ⟨rfl, rfl⟩
  ·
   have hg : 9 < n := by omega
   go_enter Tryz.func161, Tryz.ntmps161
   go_wp2_with fail
   go_ret
   exact ⟨rfl, rfl⟩
 ·
  obtain ⟨k, rfl, k1, k9⟩ := nodeB_nat hn
  rw [bitF_node k1 k9]
  go_enter Tryz.func161, Tryz.ntmps161
  go_wp2_with fail
  go_ret
  exact ⟨ret_u16 (by rw [show ((2 : Int) ^ k) = ((2 ^ k : Nat) : Int) from by simp]; exact wrap_u16_nat _ (by have := pow_le9 k9; omega)), rfl⟩
theorem has_any (s : Nat) (n : Int) (w : World) (hs : s < 65536) (h0 : -9223372036854775808 ≤ n) (h1 : n ≤ 9223372036854775807) :
  Calls Tryz.prog 114 #[.int .u16 (s : Int), .int .i64 n] w fun e w' => e = .returned (.bool (hasF s n)) ∧ Below w.heap.size w w' := by
 have C := Lh (fun w => bit_any n w h0 h1)
 have HL := bitF_le n
 have HA := bits_and_u16_nat s (bitF n) hs (by omega)
 have HZ := Lh (and_bit_zero s n)
 generalize s &&& bitF n = z at *
 generalize bitF n = b at *
 go_enter Tryz.func114, Tryz.ntmps114
 go_wp2_with fail
 refine (C.out _).mono ?_
 rintro e w2 ⟨rfl, rfl⟩
 go_wp2_with fail
 go_ret
 refine ⟨ret_bool ?_, Below.refl _ _⟩
 have hz := HZ.out
 cases h : hasF s n
 ·
  rw [h] at hz
  obtain rfl := hz.2 rfl
  rfl
 ·
  rw [h] at hz
  have : z ≠ 0 := fun e => by have := hz.1 e; cases this
  simp [bne_iff_ne]
  omega
theorem own_far {E : TypeId} {w : World} {base : Nat} {v : Value} {xs : List Value} (h : OwnV E w base v xs) {p : Addr} (hp : p.block < base) (u : Value) : OwnV E (w.setCell p u) base v xs := by
 refine ⟨h.1, ?_⟩
 rcases h.2 with hn | ⟨g, cap, cur, rfl, hb, hg, r⟩
 · exact .inl hn
 · exact .inr ⟨g, cap, cur, rfl, hb, (Below.heap_setCell w p u g (by omega)).trans hg, r⟩
theorem bit_next (s j : Nat) (hj : j < 9) : hasF s ((j + 1 : Nat) : Int) = s.testBit (j + 1) := hasF_node (by omega) (by omega)
theorem each_any (s : Nat) (g : FuncId) (v : Value) (I : Nat → World → Prop) (w : World) (hs : s < 65536) (hg : ∀ (args : Array Value) (w : World), (callFunc g args).run Tryz.prog w = .ok (.enter g args) w)
  (hK : ∀ (j : Nat) (w w' : World), I j w → Below w.heap.size w w' → I j w')
  (hN : ∀ (j : Nat) (w : World), j < 9 → s.testBit (j + 1) = false → I j w → I (j + 1) w)
  (hC : ∀ (j : Nat) (w : World), j < 9 → s.testBit (j + 1) = true → I j w → Calls Tryz.prog g #[.int .i64 ((j + 1 : Nat) : Int), v] w fun e w' => e = .returned (.tuple #[]) ∧ I (j + 1) w') (h0 : I 0 w) :
  Calls Tryz.prog 176 #[.int .u16 (s : Int), .func (.func g) #[] #[v]] w fun e w' => e = .returned (.tuple #[]) ∧ I 9 w' := by
 have C := Lh (fun (j : Nat) (hj : j ≤ 9) w => has_any s (j : Int) w hs (by omega) (by omega))
 have HC := Lh hC
 have HN := Lh hN
 have HK := Lh hK
 clear hC hN hK
 go_enter Tryz.func176, Tryz.ntmps176
 go_wp2_with fail
 go_loopw [4] (fun iv wr => ∃ (j : Nat), j ≤ 9 ∧ iv = .int .i64 ((j + 1 : Nat) : Int) ∧ I j wr) (fun iv _ => 10 - (intOf iv).toNat)
 case atStart => exact ⟨0, by omega, rfl, h0⟩
 case round =>
  obtain ⟨j, hj, rfl, hI⟩ := hrel
  by_cases hlt : j < 9
  ·
   have hC := C.out (j + 1) (by omega)
   rw [bit_next s j hlt] at hC
   have HH := Lh hC
   clear hC C
   cases hb : s.testBit (j + 1)
   ·
    rw [hb] at HH
    go_wp2_with fail
    refine (HH.out _).mono ?_
    rintro e w2 ⟨rfl, hB2⟩
    have hI2 := HN.out j _ hlt hb (HK.out j _ _ hI hB2)
    clear hI
    go_wp2_with fail
    go_round
    case rel => exact ⟨j + 1, by omega, by go_num, hI2⟩
    case measure => simp [intOf]; omega
   ·
    rw [hb] at HH
    go_wp2_with fail
    refine (HH.out _).mono ?_
    rintro e w2 ⟨rfl, hB2⟩
    have hcall := Lh (HC.out j _ hlt hb (HK.out j _ _ hI hB2))
    clear hI
    go_wp2_with (rw [hg])
    refine hcall.out.mono ?_
    rintro e w3 ⟨rfl, hI3⟩
    clear hcall
    go_wp2_with fail
    go_round
    case rel => exact ⟨j + 1, by omega, by go_num, hI3⟩
    case measure => simp [intOf]; omega
  ·
   obtain rfl : j = 9 := by omega
   go_wp2_with fail
   go_end0
   exact ⟨rfl, hI⟩
def ListI (s p : Nat) (w : World) (j : Nat) (wr : World) : Prop :=
 ∃ (k : Nat) (A : Option Addr) (c : Nat), k ≤ j ∧ (listTo s j).length = k ∧ Blk 101 wr p [.slice A k c] ∧ OwnV 3 wr (p + 1) (.slice A k c) (i64s (listTo s j)) ∧ Below p w wr
theorem list_add (s p j : Nat) (w wr : World) (hj : j < 9) (hb : s.testBit (j + 1) = true) (hI : ListI s p w j wr) :
  Calls Tryz.prog 178 #[.int .i64 ((j + 1 : Nat) : Int), .pointer (some ⟨p, 0, none⟩)] wr fun e w' => e = .returned (.tuple #[]) ∧ ListI s p w (j + 1) w' := by
 obtain ⟨k, A, c, hk, HL, hP, hO, hB⟩ := hI
 have HN : Hid (listTo s (j + 1) = listTo s j ++ [((j + 1 : Nat) : Int)]) := Lh (by show (if s.testBit (j + 1) then _ else _) = _; rw [if_pos hb])
 have hln : (i64s (listTo s j)).length = k := by rw [i64s_length]; exact HL
 have HL := Lh HL
 obtain ⟨xs, hxs⟩ : ∃ xs, i64s (listTo s j) = xs := ⟨_, rfl⟩
 rw [hxs] at hO hln
 have HX := Lh hxs
 clear hxs hb
 have hsz := hP.lt
 have c0 := hP.cell 0
 have df := hP.frozen 0
 simp only [List.getElem?_cons_zero] at c0
 have hO2 := hO.alloc (.cells #[.int .i64 ((j : Int) + 1)] 3)
 have hP2 := hP.alloc (.cells #[.int .i64 ((j : Int) + 1)] 3)
 have hB2 := hB.alloc (Nat.le_of_lt hsz) (.cells #[.int .i64 ((j : Int) + 1)] 3)
 have HP := Lh hP2
 have HO := Lh hO2
 have HB := Lh hB2
 clear hP2 hO2 hB2 hB hO hP
 go_enter Tryz.func178, Tryz.ntmps178
 go_wp2_with (at_builtin; with_reducible refine wpList_append_v rfl (.tmp 3) (.tmp 5) 101 rfl (p + 1) 3 (.int .i64 0) 8 Tryz.underlying101 infoI rfl A k c xs hln rfl HO.out _ _ 1 1 [_] rfl (RdV.one _ _ _) ?k1 ?k2 ?k3 ?k4 ?_)
 case k1 => intro u hu; rw [List.mem_singleton] at hu; subst hu; rfl
 case k2 => omega
 case k3 => unfold maxLen; omega
 case k4 => simp; omega
 intro A3 c3 w3 hO3 hB3 _
 have hP3 := HP.out.below hB3 (by omega)
 have hB4 := HB.out.trans (hB3.mono (by omega))
 have d3 := hP3.frozen 0
 have e3 := hP3.cell 0
 have HP3 := Lh hP3
 have HO3 := Lh hO3
 have HB4 := Lh hB4
 clear hP3 hO3 hB4 hB3 HP HO HB c0 df
 go_wp2_with fail
 go_end0
 have hf := HP3.out.set_ 0 (.slice A3 (k + 1) c3)
 have hp3 := HP3.out.lt
 refine ⟨rfl, k + 1, A3, c3, by omega, by rw [HN.out, List.length_append, HL.out]; rfl, hf, ?_, HB4.out.setCell (p := ⟨p, 0, none⟩) (Nat.le_refl _) _⟩
 rw [HN.out, i64s_append, HX.out]
 exact own_far HO3.out (p := ⟨p, 0, none⟩) (Nat.lt_succ_self _) _
theorem list_any (s : Nat) (w : World) (hs : s < 65536) : Calls Tryz.prog 163 #[.int .u16 (s : Int)] w (IsIs w (listF s)) := by
 have hmf : ∀ (fn : Fn) (first cap : Array Value) (w : World), (Instr.makeFunc fn first cap).run Tryz.prog w = .ok (.func fn first cap) w := fun _ _ _ _ => rfl
 have hP : Blk 101 (w.alloc (.cells #[.slice none 0 0] 101)) w.heap.size [.slice none 0 0] := heap_alloc_new w _
 have hB := (Below.refl w.heap.size w).alloc (Nat.le_refl _) (.cells #[.slice none 0 0] 101)
 have C := Lh (each_any s 178 (.pointer (some ⟨w.heap.size, 0, none⟩)) (ListI s w.heap.size w) (w.alloc (.cells #[.slice none 0 0] 101)) hs (fun _ _ => rfl)
  (fun j w1 w2 ⟨k, A, c, h1, h2, h3, h4, h5⟩ hb => ⟨k, A, c, h1, h2, h3.below hb h3.lt, h4.below hb, h5.trans (hb.mono (Nat.le_of_lt h3.lt))⟩)
  (fun j w1 hj hb ⟨k, A, c, h1, h2, h3, h4, h5⟩ => by
   have e : listTo s (j + 1) = listTo s j := by show (if s.testBit (j + 1) then _ else _) = _; rw [hb]; rfl
   exact ⟨k, A, c, by omega, by rw [e]; exact h2, h3, by rw [e]; exact h4, h5⟩)
  (fun j w1 hj hb hI => list_add s w.heap.size j w w1 hj hb hI)
  ⟨0, none, 0, Nat.le_refl _, rfl, hP, OwnV.nil _ _ _, hB⟩)
 clear hP hB
 unfold IsIs
 have hl9 : listTo s 9 = listF s := rfl
 generalize listF s = xs at *
 go_enter Tryz.func163, Tryz.ntmps163
 go_wp2_with (rw [hmf])
 refine C.out.mono ?_
 rintro e w2 ⟨rfl, k, A, c, hk, HL, hP, hO, hB⟩
 rw [hl9] at HL hO
 have c0 := hP.cell 0
 simp only [List.getElem?_cons_zero] at c0
 have HO := Lh hO
 have HB := Lh hB
 clear hO hB hP C hl9
 subst HL
 go_wp2_with fail
 go_ret
 exact ⟨A, c, rfl, HO.out.more (Nat.le_succ _), HB.out⟩
def CountC (s p : Nat) (w : World) (j : Nat) (wr : World) : Prop := Blk 3 wr p [.int .i64 ((listTo s j).length : Int)] ∧ (listTo s j).length ≤ j ∧ Below p w wr
theorem count_add (s p j : Nat) (w wr : World) (hj : j < 9) (hb : s.testBit (j + 1) = true) (hI : CountC s p w j wr) :
  Calls Tryz.prog 177 #[.int .i64 ((j + 1 : Nat) : Int), .pointer (some ⟨p, 0, none⟩)] wr fun e w' => e = .returned (.tuple #[]) ∧ CountC s p w (j + 1) w' := by
 obtain ⟨hP, HL, hB⟩ := hI
 have HN : (listTo s (j + 1)).length = (listTo s j).length + 1 := by
  show (if s.testBit (j + 1) then listTo s j ++ [((j + 1 : Nat) : Int)] else listTo s j).length = _
  rw [if_pos hb, List.length_append]; rfl
 unfold CountC
 rw [HN]
 generalize (listTo s j).length = k at *
 have c0 := hP.cell 0
 have df := hP.frozen 0
 simp only [List.getElem?_cons_zero] at c0
 have HP := Lh hP
 have HB := Lh hB
 clear hP hB HN hb
 go_enter Tryz.func177, Tryz.ntmps177
 go_wp2_with fail
 go_end0
 exact ⟨rfl, HP.out.set_ 0 _, by omega, HB.out.setCell (p := ⟨p, 0, none⟩) (Nat.le_refl _) _⟩
theorem count_any (s : Nat) (w : World) (hs : s < 65536) : Calls Tryz.prog 159 #[.int .u16 (s : Int)] w fun e w' => e = .returned (.int .i64 ((listF s).length : Int)) ∧ Below w.heap.size w w' := by
 have hmf : ∀ (fn : Fn) (first cap : Array Value) (w : World), (Instr.makeFunc fn first cap).run Tryz.prog w = .ok (.func fn first cap) w := fun _ _ _ _ => rfl
 have hP : Blk 3 (w.alloc (.cells #[.int .i64 0] 3)) w.heap.size [.int .i64 0] := heap_alloc_new w _
 have hB := (Below.refl w.heap.size w).alloc (Nat.le_refl _) (.cells #[.int .i64 0] 3)
 have C := Lh (each_any s 177 (.pointer (some ⟨w.heap.size, 0, none⟩)) (CountC s w.heap.size w) _ hs (fun _ _ => rfl)
  (fun j w1 w2 ⟨h1, h2, h3⟩ hb => ⟨h1.below hb h1.lt, h2, h3.trans (hb.mono (Nat.le_of_lt h1.lt))⟩)
  (fun j w1 hj hb ⟨h1, h2, h3⟩ => by
   have e : listTo s (j + 1) = listTo s j := by show (if s.testBit (j + 1) then _ else _) = _; rw [hb]; rfl
   unfold CountC
   rw [e]
   exact ⟨h1, by omega, h3⟩)
  (fun j w1 hj hb hI => count_add s w.heap.size j w w1 hj hb hI)
  ⟨hP, Nat.le_refl _, hB⟩)
 clear hP hB
 have hl9 : listTo s 9 = listF s := rfl
 generalize listF s = xs at *
 go_enter Tryz.func159, Tryz.ntmps159
 go_wp2_with (rw [hmf])
 refine C.out.mono ?_
 rintro e w2 ⟨rfl, hP, hk, hB⟩
 rw [hl9] at hP
 have c0 := hP.cell 0
 simp only [List.getElem?_cons_zero] at c0
 have HB := Lh hB
 clear hB hP C hl9
 go_wp2_with fail
 go_ret
 exact ⟨rfl, HB.out⟩
theorem with_any (s : Nat) (n : Int) (w : World) (hs : s < 65536) (h0 : -9223372036854775808 ≤ n) (h1 : n ≤ 9223372036854775807) :
  Calls Tryz.prog 112 #[.int .u16 (s : Int), .int .i64 n] w fun e w' => e = .returned (.int .u16 ((withF s n : Nat) : Int)) ∧ Below w.heap.size w w' := by
 have C := Lh (fun w => bit_any n w h0 h1)
 have HL := bitF_le n
 have HA := bits_or_u16_nat s (bitF n) hs (by omega)
 have HW : s ||| bitF n = withF s n := rfl
 rw [HW] at HA
 generalize withF s n = z at *
 generalize bitF n = b at *
 go_enter Tryz.func112, Tryz.ntmps112
 go_wp2_with fail
 refine (C.out _).mono ?_
 rintro e w2 ⟨rfl, rfl⟩
 go_wp2_with fail
 go_ret
 exact ⟨rfl, Below.refl _ _⟩
theorem less_any (s : Nat) (n : Int) (w : World) (hs : s < 65536) (h0 : -9223372036854775808 ≤ n) (h1 : n ≤ 9223372036854775807) :
  Calls Tryz.prog 164 #[.int .u16 (s : Int), .int .i64 n] w fun e w' => e = .returned (.int .u16 ((lessF s n : Nat) : Int)) ∧ Below w.heap.size w w' := by
 have C := Lh (fun w => bit_any n w h0 h1)
 have HL := bitF_le n
 have HA := bits_andNot_u16_nat s (bitF n) hs (by omega)
 rw [less_xor] at HA
 generalize lessF s n = z at *
 generalize bitF n = b at *
 go_enter Tryz.func164, Tryz.ntmps164
 go_wp2_with fail
 refine (C.out _).mono ?_
 rintro e w2 ⟨rfl, rfl⟩
 go_wp2_with fail
 go_ret
 exact ⟨rfl, Below.refl _ _⟩
theorem may_any (s : Nat) (w : World) (hs : s < 65536) : Calls Tryz.prog 173 #[.int .u16 (s : Int)] w fun e w' => e = .returned (.bool (mayF s)) ∧ Below w.heap.size w w' := by
 have HA : bits .andNot .u16 (s : Int) 1022 = _ := bits_andNot_u16_nat s 1022 hs (by omega)
 have HZ := Lh (may_xor s)
 generalize s ^^^ (s &&& 1022) = z at *
 go_enter Tryz.func173, Tryz.ntmps173
 go_wp2_with fail
 go_ret
 refine ⟨ret_bool ?_, Below.refl _ _⟩
 have hz := HZ.out
 rw [Bool.eq_iff_iff, ← hz, beq_iff_eq]
 omega
end Go.Proofs.YtegnfkbmlalkeaaGreat.seti
