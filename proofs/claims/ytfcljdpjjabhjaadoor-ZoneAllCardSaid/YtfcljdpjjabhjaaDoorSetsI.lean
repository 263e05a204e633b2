/- What the program's sets come to: Of, List, Count, Has, With, Less, May, Subsets. Conditions: sets are uint16 values. -/
import Derived.Test.YtfcljdpjjabhjaaDoorRef9
import Derived.Test.YtfcljdpjjabhjaaDoorSeR
import Derived.Defers
import Derived.Recover
namespace Go.Proofs.YtfcljdpjjabhjaaDoor.seti
open Go Go.RowKit Go.Proofs.YtfcljdpjjabhjaaDoor.kit Go.Proofs.YtfcljdpjjabhjaaDoor.nums Go.Proofs.YtfcljdpjjabhjaaDoor.se Go.Proofs.YtfcljdpjjabhjaaDoor.ref9
set_option linter.unusedVariables false

theorem bit_any (n : Int) (w : World) (h0 : -9223372036854775808 ≤ n) (h1 : n ≤ 9223372036854775807) :
    Calls Tryd.prog 61 #[.int .i64 n] w fun e w' => e = .returned (.int .u16 (bitF n : Nat)) ∧ w = w' := by
  cases hn : nodeB n
  · rw [bitF_not hn]
    have hb : n < 1 ∨ 9 < n := nodeB_not hn
    by_cases hl : n < 1
    · go_enter Tryd.func61, Tryd.ntmps61
      go_wp2_with fail
      go_ret
      exact ⟨rfl, rfl⟩
    · have hg : 9 < n := by omega
      go_enter Tryd.func61, Tryd.ntmps61
      go_wp2_with fail
      go_ret
      exact ⟨rfl, rfl⟩
  · obtain ⟨k, rfl, k1, k9⟩ := nodeB_nat hn
    rw [bitF_node k1 k9]
    go_enter Tryd.func61, Tryd.ntmps61
    go_wp2_with fail
    go_ret
    exact ⟨ret_u16 (by rw [show ((2 : Int) ^ k) = ((2 ^ k : Nat) : Int) from by simp]; exact wrap_u16_nat _ (by have := pow_le9 k9; omega)), rfl⟩
theorem has_any (s : Nat) (n : Int) (w : World) (hs : s < 65536) (h0 : -9223372036854775808 ≤ n) (h1 : n ≤ 9223372036854775807) :
    Calls Tryd.prog 63 #[.int .u16 (s : Int), .int .i64 n] w fun e w' => e = .returned (.bool (hasF s n)) ∧ Below w.heap.size w w' := by
  have C := Lib.hid (fun w => bit_any n w h0 h1)
  have HL := bitF_le n
  have HA := bits_and_u16_nat s (bitF n) hs (by omega)
  have HZ := Lib.hid (and_bit_zero s n)
  generalize s &&& bitF n = z at *
  generalize bitF n = b at *
  go_enter Tryd.func63, Tryd.ntmps63
  go_wp2_with fail
  refine (C.out _).mono ?_
  rintro e w2 ⟨rfl, rfl⟩
  go_wp2_with fail
  go_ret
  refine ⟨ret_bool ?_, Below.refl _ _⟩
  have hz := HZ.out
  cases h : hasF s n
  · rw [h] at hz
    obtain rfl := hz.2 rfl
    rfl
  · rw [h] at hz
    have : z ≠ 0 := fun e => by have := hz.1 e; cases this
    simp [bne_iff_ne]
    omega
theorem own_far {E : TypeId} {w : World} {base : Nat} {v : Value} {xs : List Value} (h : OwnV E w base v xs) {p : Addr} (hp : p.block < base) (u : Value) : OwnV E (w.setCell p u) base v xs := by
  refine ⟨h.1, ?_⟩
  rcases h.2 with hn | ⟨g, cap, cur, rfl, hb, hg, r⟩
  · exact .inl hn
  · exact .inr ⟨g, cap, cur, rfl, hb, (Below.heap_setCell w p u g (by omega)).trans hg, r⟩
theorem bit_next (s j : Nat) (hj : j < 9) : hasF s ((j + 1 : Nat) : Int) = s.testBit (j + 1) := hasF_node (by omega) (by omega)
set_option maxHeartbeats 1000000 in
/-- The walk through the nodes of a set with a closure that captures one variable: I j is what holds behind the first j numbers. -/
theorem each_any (s : Nat) (g : FuncId) (v : Value) (I : Nat → World → Prop) (w : World) (hs : s < 65536) (hg : ∀ (args : Array Value) (w : World), (callFunc g args).run Tryd.prog w = .ok (.enter g args) w)
    (hK : ∀ (j : Nat) (w w' : World), I j w → Below w.heap.size w w' → I j w')
    (hN : ∀ (j : Nat) (w : World), j < 9 → s.testBit (j + 1) = false → I j w → I (j + 1) w)
    (hC : ∀ (j : Nat) (w : World), j < 9 → s.testBit (j + 1) = true → I j w → Calls Tryd.prog g #[.int .i64 ((j + 1 : Nat) : Int), v] w fun e w' => e = .returned (.tuple #[]) ∧ I (j + 1) w') (h0 : I 0 w) :
    Calls Tryd.prog 51 #[.int .u16 (s : Int), .func (.func g) #[] #[v]] w fun e w' => e = .returned (.tuple #[]) ∧ I 9 w' := by
  have C := Lib.hid (fun (j : Nat) (hj : j ≤ 9) w => has_any s (j : Int) w hs (by omega) (by omega))
  have HC := Lib.hid hC
  have HN := Lib.hid hN
  have HK := Lib.hid hK
  clear hC hN hK
  go_enter Tryd.func51, Tryd.ntmps51
  go_wp2_with fail
  go_loopw [4] (fun iv wr => ∃ (j : Nat), j ≤ 9 ∧ iv = .int .i64 ((j + 1 : Nat) : Int) ∧ I j wr) (fun iv _ => 10 - (intOf iv).toNat)
  case atStart => exact ⟨0, by omega, rfl, h0⟩
  case round =>
    obtain ⟨j, hj, rfl, hI⟩ := hrel
    by_cases hlt : j < 9
    · have hC := C.out (j + 1) (by omega)
      rw [bit_next s j hlt] at hC
      have HH := Lib.hid hC
      clear hC C
      cases hb : s.testBit (j + 1)
      · rw [hb] at HH
        go_wp2_with fail
        refine (HH.out _).mono ?_
        rintro e w2 ⟨rfl, hB2⟩
        have hI2 := HN.out j _ hlt hb (HK.out j _ _ hI hB2)
        clear hI
        go_wp2_with fail
        go_round
        case rel => exact ⟨j + 1, by omega, by go_num, hI2⟩
        case measure => simp [intOf]; omega
      · rw [hb] at HH
        go_wp2_with fail
        refine (HH.out _).mono ?_
        rintro e w2 ⟨rfl, hB2⟩
        have hcall := Lib.hid (HC.out j _ hlt hb (HK.out j _ _ hI hB2))
        clear hI
        go_wp2_with (rw [hg])
        refine hcall.out.mono ?_
        rintro e w3 ⟨rfl, hI3⟩
        clear hcall
        go_wp2_with fail
        go_round
        case rel => exact ⟨j + 1, by omega, by go_num, hI3⟩
        case measure => simp [intOf]; omega
    · obtain rfl : j = 9 := by omega
      go_wp2_with fail
      go_end0
      exact ⟨rfl, hI⟩
/-- What holds behind the first j numbers of List: the captured variable's block is p. -/
def ListI (s p : Nat) (w : World) (j : Nat) (wr : World) : Prop :=
  ∃ (k : Nat) (A : Option Addr) (c : Nat), k ≤ j ∧ (listTo s j).length = k ∧ Blk 22 wr p [.slice A k c] ∧ OwnV 3 wr (p + 1) (.slice A k c) (i64s (listTo s j)) ∧ Below p w wr
/-- What holds behind the first j numbers of Count. -/
def CountC (s p : Nat) (w : World) (j : Nat) (wr : World) : Prop := Blk 3 wr p [.int .i64 ((listTo s j).length : Int)] ∧ (listTo s j).length ≤ j ∧ Below p w wr
theorem count_add (s p j : Nat) (w wr : World) (hj : j < 9) (hb : s.testBit (j + 1) = true) (hI : CountC s p w j wr) :
    Calls Tryd.prog 52 #[.int .i64 ((j + 1 : Nat) : Int), .pointer (some ⟨p, 0, none⟩)] wr fun e w' => e = .returned (.tuple #[]) ∧ CountC s p w (j + 1) w' := by
  obtain ⟨hP, HL, hB⟩ := hI
  have HN : (listTo s (j + 1)).length = (listTo s j).length + 1 := by
    show (if s.testBit (j + 1) then listTo s j ++ [((j + 1 : Nat) : Int)] else listTo s j).length = _
    rw [if_pos hb, List.length_append]; rfl
  unfold CountC
  rw [HN]
  generalize (listTo s j).length = k at *
  have c0 := hP.cell 0
  have df := hP.frozen 0
  simp only [List.getElem?_cons_zero] at c0
  have HP := Lib.hid hP
  have HB := Lib.hid hB
  clear hP hB HN hb
  go_enter Tryd.func52, Tryd.ntmps52
  go_wp2_with fail
  go_end0
  exact ⟨rfl, HP.out.set_ 0 _, by omega, HB.out.setCell (p := ⟨p, 0, none⟩) (Nat.le_refl _) _⟩
theorem count_any (s : Nat) (w : World) (hs : s < 65536) : Calls Tryd.prog 28 #[.int .u16 (s : Int)] w fun e w' => e = .returned (.int .i64 ((listF s).length : Int)) ∧ Below w.heap.size w w' := by
  have hmf : ∀ (fn : Fn) (first cap : Array Value) (w : World), (Instr.makeFunc fn first cap).run Tryd.prog w = .ok (.func fn first cap) w := fun _ _ _ _ => rfl
  have hP : Blk 3 (w.alloc (.cells #[.int .i64 0] 3)) w.heap.size [.int .i64 0] := heap_alloc_new w _
  have hB := (Below.refl w.heap.size w).alloc (Nat.le_refl _) (.cells #[.int .i64 0] 3)
  have C := Lib.hid (each_any s 52 (.pointer (some ⟨w.heap.size, 0, none⟩)) (CountC s w.heap.size w) _ hs (fun _ _ => rfl)
    (fun j w1 w2 ⟨h1, h2, h3⟩ hb => ⟨h1.below hb h1.lt, h2, h3.trans (hb.mono (Nat.le_of_lt h1.lt))⟩)
    (fun j w1 hj hb ⟨h1, h2, h3⟩ => by
      have e : listTo s (j + 1) = listTo s j := by show (if s.testBit (j + 1) then _ else _) = _; rw [hb]; rfl
      unfold CountC
      rw [e]
      exact ⟨h1, by omega, h3⟩)
    (fun j w1 hj hb hI => count_add s w.heap.size j w w1 hj hb hI)
    ⟨hP, Nat.le_refl _, hB⟩)
  clear hP hB
  have hl9 : listTo s 9 = listF s := rfl
  generalize listF s = xs at *
  go_enter Tryd.func28, Tryd.ntmps28
  go_wp2_with (rw [hmf])
  refine C.out.mono ?_
  rintro e w2 ⟨rfl, hP, hk, hB⟩
  rw [hl9] at hP
  have c0 := hP.cell 0
  simp only [List.getElem?_cons_zero] at c0
  have HB := Lib.hid hB
  clear hB hP C hl9
  go_wp2_with fail
  go_ret
  exact ⟨rfl, HB.out⟩
theorem with_any (s : Nat) (n : Int) (w : World) (hs : s < 65536) (h0 : -9223372036854775808 ≤ n) (h1 : n ≤ 9223372036854775807) :
    Calls Tryd.prog 48 #[.int .u16 (s : Int), .int .i64 n] w fun e w' => e = .returned (.int .u16 ((withF s n : Nat) : Int)) ∧ Below w.heap.size w w' := by
  have C := Lib.hid (fun w => bit_any n w h0 h1)
  have HL := bitF_le n
  have HA := bits_or_u16_nat s (bitF n) hs (by omega)
  have HW : s ||| bitF n = withF s n := rfl
  rw [HW] at HA
  generalize withF s n = z at *
  generalize bitF n = b at *
  go_enter Tryd.func48, Tryd.ntmps48
  go_wp2_with fail
  refine (C.out _).mono ?_
  rintro e w2 ⟨rfl, rfl⟩
  go_wp2_with fail
  go_ret
  exact ⟨rfl, Below.refl _ _⟩
theorem less_any (s : Nat) (n : Int) (w : World) (hs : s < 65536) (h0 : -9223372036854775808 ≤ n) (h1 : n ≤ 9223372036854775807) :
    Calls Tryd.prog 50 #[.int .u16 (s : Int), .int .i64 n] w fun e w' => e = .returned (.int .u16 ((lessF s n : Nat) : Int)) ∧ Below w.heap.size w w' := by
  have C := Lib.hid (fun w => bit_any n w h0 h1)
  have HL := bitF_le n
  have HA := bits_andNot_u16_nat s (bitF n) hs (by omega)
  rw [less_xor] at HA
  generalize lessF s n = z at *
  generalize bitF n = b at *
  go_enter Tryd.func50, Tryd.ntmps50
  go_wp2_with fail
  refine (C.out _).mono ?_
  rintro e w2 ⟨rfl, rfl⟩
  go_wp2_with fail
  go_ret
  exact ⟨rfl, Below.refl _ _⟩
theorem may_any (s : Nat) (w : World) (hs : s < 65536) : Calls Tryd.prog 56 #[.int .u16 (s : Int)] w fun e w' => e = .returned (.bool (mayF s)) ∧ Below w.heap.size w w' := by
  have HA : bits .andNot .u16 (s : Int) 1022 = _ := bits_andNot_u16_nat s 1022 hs (by omega)
  have HZ := Lib.hid (may_xor s)
  generalize s ^^^ (s &&& 1022) = z at *
  go_enter Tryd.func56, Tryd.ntmps56
  go_wp2_with fail
  go_ret
  refine ⟨ret_bool ?_, Below.refl _ _⟩
  have hz := HZ.out
  rw [Bool.eq_iff_iff, ← hz, beq_iff_eq]
  omega
theorem func_nil (g : FuncId) (v : Value) (w : World) : (binOp .eql 70 (.func (.func g) #[v] #[]) .nilFunc).run Tryd.prog w = .ok (.bool false) w := rfl
theorem func_nil2 (g : FuncId) (v : Value) (w : World) : (binOp .neq 70 (.func (.func g) #[v] #[]) .nilFunc).run Tryd.prog w = .ok (.bool true) w := rfl
theorem nil_nil (w : World) : (binOp .eql 70 .nilFunc .nilFunc).run Tryd.prog w = .ok (.bool true) w := rfl
theorem nil_nil2 (w : World) : (binOp .neq 70 .nilFunc .nilFunc).run Tryd.prog w = .ok (.bool false) w := rfl
/-- How many are told, the i-th answer of the function being 'go i'. -/
def ToldN (go : Nat → Bool) (k m : Nat) : Prop := m ≤ k ∧ (∀ i, i + 1 < m → go i = true) ∧ (m = k ∨ ∃ i, m = i + 1 ∧ go i = false)
theorem bits_not_u16 (S : Nat) (hS : S < 65536) : bits .xor .u16 (if IntKind.u16.signed = true then -1 else IntKind.u16.max) (S : Int) = ((65535 - S : Nat) : Int) := by
  show bits .xor .u16 ((65535 : Nat) : Int) (S : Int) = _
  rw [bits_xor_u16_nat 65535 S (by omega) hS]
  have e : (BitVec.allOnes 16 ^^^ BitVec.ofNat 16 S).toNat = (~~~(BitVec.ofNat 16 S)).toNat := by rw [BitVec.allOnes_xor]
  rw [BitVec.toNat_xor, BitVec.toNat_not, BitVec.toNat_ofNat, Nat.mod_eq_of_lt hS] at e
  have e2 : (BitVec.allOnes 16).toNat = 65535 := rfl
  rw [e2] at e
  rw [e]
theorem or_not (x S : Nat) (hx : x &&& S = x) (hS : S < 65536) : x ||| (65535 - S) = x + (65535 - S) := by
  have hl : x ≤ S := by rw [← hx]; exact Nat.and_le_right
  have e := BitVec.add_eq_or_of_and_eq_zero (BitVec.ofNat 16 x) (~~~(BitVec.ofNat 16 S)) (by
    have : BitVec.ofNat 16 x &&& BitVec.ofNat 16 S = BitVec.ofNat 16 x := by rw [← BitVec.ofNat_and, hx]
    rw [← this, BitVec.and_assoc, BitVec.and_not_self]
    exact BitVec.and_zero)
  have e3 := congrArg BitVec.toNat e
  rw [BitVec.toNat_add, BitVec.toNat_or, BitVec.toNat_not, BitVec.toNat_ofNat, BitVec.toNat_ofNat, Nat.mod_eq_of_lt hS, Nat.mod_eq_of_lt (show x < 2 ^ 16 by omega)] at e3
  have e4 : (2 : Nat) ^ 16 - 1 - S = 65535 - S := by omega
  rw [e4] at e3
  rw [← e3]
  omega
/-- The next subset: the 1 is carried past the bits that S lacks. -/
theorem carry (x S : Nat) (hx : x &&& S = x) (hS : S < 65536) :
    bits .and .u16 (IntKind.u16.wrap (bits .or .u16 (x : Int) (bits .xor .u16 (if IntKind.u16.signed = true then -1 else IntKind.u16.max) (S : Int)) + 1)) (S : Int) = (((x + (65536 - S)) % 65536 &&& S : Nat) : Int) := by
  have hl : x ≤ S := by rw [← hx]; exact Nat.and_le_right
  rw [bits_not_u16 S hS, bits_or_u16_nat x (65535 - S) (by omega) (by omega), or_not x S hx hS]
  have hw : IntKind.u16.wrap (((x + (65535 - S) : Nat) : Int) + 1) = (((x + (65536 - S)) % 65536 : Nat) : Int) := by
    simp [IntKind.wrap, IntKind.bits, IntKind.signed]
    omega
  rw [hw, bits_and_u16_nat _ S (Nat.mod_lt _ (by omega)) hS]
end Go.Proofs.YtfcljdpjjabhjaaDoor.seti
