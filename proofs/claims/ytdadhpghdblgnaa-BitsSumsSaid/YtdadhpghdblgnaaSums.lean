/- BitsSums and BitsRing answer true: which sums and products there are, and how they hang together. Conditions: the numbers are of their kind. -/
import Derived.Test.YtdadhpghdblgnaaBegun
import Derived.Deep.Cut
namespace Go.Proofs.Ytdadhpghdblgnaa.sums
open Go.RowKit Go.Proofs.Ytdadhpghdblgnaa.kit Go.Proofs.Ytdadhpghdblgnaa.nums
set_option linter.unusedVariables false

/-- What Add answers: the sum and 0, or 0 and ErrRange. -/
def addV (a b : Int) : Int := if -9223372036854775808 ≤ a + b ∧ a + b ≤ 9223372036854775807 then a + b else 0
def addE (a b : Int) : Int := if -9223372036854775808 ≤ a + b ∧ a + b ≤ 9223372036854775807 then 0 else 5
def mulV (a b : Int) : Int := if -9223372036854775808 ≤ a * b ∧ a * b ≤ 9223372036854775807 then a * b else 0
def mulE (a b : Int) : Int := if -9223372036854775808 ≤ a * b ∧ a * b ≤ 9223372036854775807 then 0 else 5

theorem add_any (a b : Int) (w : World) (ha : InI a) (hb : InI b) :
    Calls Try.prog 34 #[.int .i64 a, .int .i64 b] w fun e w' => e = .returned (.tuple #[.int .i64 (addV a b), .int .i64 (addE a b)]) ∧ w = w' := by
  by_cases h : -9223372036854775808 ≤ a + b ∧ a + b ≤ 9223372036854775807
  · rw [show addV a b = a + b from if_pos h, show addE a b = 0 from if_pos h]; exact ints.add_ok a b w ha hb h
  · rw [show addV a b = 0 from if_neg h, show addE a b = 5 from if_neg h]; exact ints.add_out a b w ha hb h
theorem radd_any (a b : Int) (w : World) (ha : InI a) (hb : InI b) :
    Calls Try.prog 35 #[.int .i64 a, .int .i64 b] w fun e w' => e = .returned (.tuple #[.int .i64 (addV a b), .int .i64 (addE a b)]) ∧ w = w' := by
  by_cases h : -9223372036854775808 ≤ a + b ∧ a + b ≤ 9223372036854775807
  · rw [show addV a b = a + b from if_pos h, show addE a b = 0 from if_pos h]; exact ints.radd_ok a b w ha hb h
  · rw [show addV a b = 0 from if_neg h, show addE a b = 5 from if_neg h]; exact ints.radd_out a b w ha hb h
theorem zero_in : -9223372036854775808 ≤ (0 : Int) ∧ (0 : Int) ≤ 9223372036854775807 := by omega
theorem mul_any (a b : Int) (w : World) (ha : InI a) (hb : InI b) :
    Calls Try.prog 36 #[.int .i64 a, .int .i64 b] w fun e w' => e = .returned (.tuple #[.int .i64 (mulV a b), .int .i64 (mulE a b)]) ∧ w = w' := by
  by_cases h0 : a = 0
  · subst h0
    rw [show mulV 0 b = 0 by unfold mulV; rw [Int.zero_mul, if_pos zero_in], show mulE 0 b = 0 by unfold mulE; rw [Int.zero_mul, if_pos zero_in]]
    exact ints.mul_zero b w
  · by_cases h : -9223372036854775808 ≤ a * b ∧ a * b ≤ 9223372036854775807
    · rw [show mulV a b = a * b from if_pos h, show mulE a b = 0 from if_pos h]; exact ints.mul_ok a b w h0 hb h
    · rw [show mulV a b = 0 from if_neg h, show mulE a b = 5 from if_neg h]; exact ints.mul_no a b w h0 ha hb h
theorem rmul_any (a b : Int) (w : World) (ha : InI a) (hb : InI b) :
    Calls Try.prog 37 #[.int .i64 a, .int .i64 b] w fun e w' => e = .returned (.tuple #[.int .i64 (mulV a b), .int .i64 (mulE a b)]) ∧ w = w' := by
  by_cases h0 : a = 0 ∨ b = 0
  · have e : a * b = 0 := by rcases h0 with rfl | rfl <;> simp
    rw [show mulV a b = 0 by unfold mulV; rw [e, if_pos zero_in], show mulE a b = 0 by unfold mulE; rw [e, if_pos zero_in]]
    exact ints.rmul_zero a b w h0
  · by_cases h : -9223372036854775808 ≤ a * b ∧ a * b ≤ 9223372036854775807
    · rw [show mulV a b = a * b from if_pos h, show mulE a b = 0 from if_pos h]; exact ints.rmul_ok a b w ha hb (by omega) (by omega) h
    · rw [show mulV a b = 0 from if_neg h, show mulE a b = 5 from if_neg h]; exact ints.rmul_out a b w ha hb (by omega) (by omega) h
theorem in_of_wf {a : Int} (h : (Lit.int .i64 a).wf = true) : InI a := by
  unfold InI; simpa [Lit.wf, IntKind.min, IntKind.max, IntKind.signed, IntKind.bits] using h

set_option maxHeartbeats 400000 in
theorem sums_walk (a0 : Int) (a1 : Int) (w : World) (w0 : (Lit.int .i64 a0).wf = true) (w1 : (Lit.int .i64 a1).wf = true) :
    Calls Try.prog 8 #[.int .i64 a0, .int .i64 a1] w fun e w' => e = .returned (.bool true) ∧ Below w.heap.size w w' := by
  have ha := in_of_wf w0
  have hb := in_of_wf w1
  have c1 := Lib.hid fun w => add_any a0 a1 w ha hb
  have c2 := Lib.hid fun w => radd_any a0 a1 w ha hb
  have c3 := Lib.hid fun w => mul_any a0 a1 w ha hb
  have c4 := Lib.hid fun w => rmul_any a0 a1 w ha hb
  clear ha hb w0 w1
  generalize addV a0 a1 = x at *
  generalize addE a0 a1 = xe at *
  generalize mulV a0 a1 = y at *
  generalize mulE a0 a1 = ye at *
  go_enter Try.func8, Try.ntmps8
  go_wp2_with fail
  refine (c1.out _).mono ?_
  rintro e w2 ⟨rfl, rfl⟩
  go_wp2_with fail
  refine (c2.out _).mono ?_
  rintro e w2 ⟨rfl, rfl⟩
  go_wp2_with fail
  refine (c3.out _).mono ?_
  rintro e w2 ⟨rfl, rfl⟩
  go_wp2_with fail
  refine (c4.out _).mono ?_
  rintro e w2 ⟨rfl, rfl⟩
  go_wp2_with fail
  refine (bytes.begun_any _).mono ?_
  rintro e w1 ⟨rfl, hB⟩
  go_wp2_with fail
  go_ret
  exact ⟨rfl, hB⟩

def A : Int → Int → World → Int → Int → Prop := fun a b w x e => Calls Try.prog 34 #[.int .i64 a, .int .i64 b] w fun r w' => r = .returned (.tuple #[.int .i64 x, .int .i64 e]) ∧ w = w'
def M : Int → Int → World → Int → Int → Prop := fun a b w x e => Calls Try.prog 36 #[.int .i64 a, .int .i64 b] w fun r w' => r = .returned (.tuple #[.int .i64 x, .int .i64 e]) ∧ w = w'

set_option maxHeartbeats 400000 in
theorem ring_aa (a x : Int) (w : World) (c1 : Hid (∀ w, A a 0 w x 0)) (c2 : Hid (∀ w, A 0 a w x 0)) (c3 : Hid (∀ w, M a 0 w 0 0)) (c4 : Hid (∀ w, M 0 a w 0 0)) (hs : wrap64 x = a) :
    Calls Try.prog 9 #[.int .i64 a, .int .i64 0] w fun e w' => e = .returned (.bool true) ∧ Below w.heap.size w w' := by
  go_enter Try.func9, Try.ntmps9
  go_wp2_with fail
  refine (bytes.begun_any _).mono ?_
  rintro e w1 ⟨rfl, hB⟩
  go_wp2_with fail
  refine (c1.out _).mono ?_
  rintro e w2 ⟨rfl, rfl⟩
  go_wp2_with fail
  refine (c2.out _).mono ?_
  rintro e w2 ⟨rfl, rfl⟩
  go_wp2_with fail
  refine (c3.out _).mono ?_
  rintro e w2 ⟨rfl, rfl⟩
  go_wp2_with fail
  refine (c4.out _).mono ?_
  rintro e w2 ⟨rfl, rfl⟩
  go_upto_region 7 with (fail)
  simp only [List.append_eq, List.cons_append, List.nil_append]
  go_wp2_with fail
  go_ret
  exact ⟨rfl, hB⟩

set_option maxHeartbeats 400000 in
theorem ring_ab (a b x m : Int) (w : World) (c1 : Hid (∀ w, A a b w x 0)) (c2 : Hid (∀ w, A b a w x 0)) (c3 : Hid (∀ w, M a b w m 0)) (c4 : Hid (∀ w, M b a w m 0)) (hs : wrap64 (x - b) = a) (hb1 : (b == 0) = false) (hb2 : ¬ b = 0) (hr : m.tmod b = 0) (hq : wrap64 (m.tdiv b) = a) :
    Calls Try.prog 9 #[.int .i64 a, .int .i64 b] w fun e w' => e = .returned (.bool true) ∧ Below w.heap.size w w' := by
  go_enter Try.func9, Try.ntmps9
  go_wp2_with fail
  refine (bytes.begun_any _).mono ?_
  rintro e w1 ⟨rfl, hB⟩
  go_wp2_with fail
  refine (c1.out _).mono ?_
  rintro e w2 ⟨rfl, rfl⟩
  go_wp2_with fail
  refine (c2.out _).mono ?_
  rintro e w2 ⟨rfl, rfl⟩
  go_wp2_with fail
  refine (c3.out _).mono ?_
  rintro e w2 ⟨rfl, rfl⟩
  go_wp2_with fail
  refine (c4.out _).mono ?_
  rintro e w2 ⟨rfl, rfl⟩
  go_upto_region 7 with (fail)
  simp only [List.append_eq, List.cons_append, List.nil_append]
  go_wp2_with fail
  go_ret
  exact ⟨rfl, hB⟩

set_option maxHeartbeats 400000 in
theorem ring_ac (a b x : Int) (w : World) (c1 : Hid (∀ w, A a b w x 0)) (c2 : Hid (∀ w, A b a w x 0)) (c3 : Hid (∀ w, M a b w 0 5)) (c4 : Hid (∀ w, M b a w 0 5)) (hs : wrap64 (x - b) = a) :
    Calls Try.prog 9 #[.int .i64 a, .int .i64 b] w fun e w' => e = .returned (.bool true) ∧ Below w.heap.size w w' := by
  go_enter Try.func9, Try.ntmps9
  go_wp2_with fail
  refine (bytes.begun_any _).mono ?_
  rintro e w1 ⟨rfl, hB⟩
  go_wp2_with fail
  refine (c1.out _).mono ?_
  rintro e w2 ⟨rfl, rfl⟩
  go_wp2_with fail
  refine (c2.out _).mono ?_
  rintro e w2 ⟨rfl, rfl⟩
  go_wp2_with fail
  refine (c3.out _).mono ?_
  rintro e w2 ⟨rfl, rfl⟩
  go_wp2_with fail
  refine (c4.out _).mono ?_
  rintro e w2 ⟨rfl, rfl⟩
  go_upto_region 7 with (fail)
  simp only [List.append_eq, List.cons_append, List.nil_append]
  go_wp2_with fail
  go_ret
  exact ⟨rfl, hB⟩

set_option maxHeartbeats 400000 in
theorem ring_ba (a : Int) (w : World) (c1 : Hid (∀ w, A a 0 w 0 5)) (c2 : Hid (∀ w, A 0 a w 0 5)) (c3 : Hid (∀ w, M a 0 w 0 0)) (c4 : Hid (∀ w, M 0 a w 0 0)) :
    Calls Try.prog 9 #[.int .i64 a, .int .i64 0] w fun e w' => e = .returned (.bool true) ∧ Below w.heap.size w w' := by
  go_enter Try.func9, Try.ntmps9
  go_wp2_with fail
  refine (bytes.begun_any _).mono ?_
  rintro e w1 ⟨rfl, hB⟩
  go_wp2_with fail
  refine (c1.out _).mono ?_
  rintro e w2 ⟨rfl, rfl⟩
  go_wp2_with fail
  refine (c2.out _).mono ?_
  rintro e w2 ⟨rfl, rfl⟩
  go_wp2_with fail
  refine (c3.out _).mono ?_
  rintro e w2 ⟨rfl, rfl⟩
  go_wp2_with fail
  refine (c4.out _).mono ?_
  rintro e w2 ⟨rfl, rfl⟩
  go_upto_region 7 with (fail)
  simp only [List.append_eq, List.cons_append, List.nil_append]
  go_wp2_with fail
  go_ret
  exact ⟨rfl, hB⟩

set_option maxHeartbeats 400000 in
theorem ring_bb (a b m : Int) (w : World) (c1 : Hid (∀ w, A a b w 0 5)) (c2 : Hid (∀ w, A b a w 0 5)) (c3 : Hid (∀ w, M a b w m 0)) (c4 : Hid (∀ w, M b a w m 0)) (hb1 : (b == 0) = false) (hb2 : ¬ b = 0) (hr : m.tmod b = 0) (hq : wrap64 (m.tdiv b) = a) :
    Calls Try.prog 9 #[.int .i64 a, .int .i64 b] w fun e w' => e = .returned (.bool true) ∧ Below w.heap.size w w' := by
  go_enter Try.func9, Try.ntmps9
  go_wp2_with fail
  refine (bytes.begun_any _).mono ?_
  rintro e w1 ⟨rfl, hB⟩
  go_wp2_with fail
  refine (c1.out _).mono ?_
  rintro e w2 ⟨rfl, rfl⟩
  go_wp2_with fail
  refine (c2.out _).mono ?_
  rintro e w2 ⟨rfl, rfl⟩
  go_wp2_with fail
  refine (c3.out _).mono ?_
  rintro e w2 ⟨rfl, rfl⟩
  go_wp2_with fail
  refine (c4.out _).mono ?_
  rintro e w2 ⟨rfl, rfl⟩
  go_upto_region 7 with (fail)
  simp only [List.append_eq, List.cons_append, List.nil_append]
  go_wp2_with fail
  go_ret
  exact ⟨rfl, hB⟩

set_option maxHeartbeats 400000 in
theorem ring_bc (a b : Int) (w : World) (c1 : Hid (∀ w, A a b w 0 5)) (c2 : Hid (∀ w, A b a w 0 5)) (c3 : Hid (∀ w, M a b w 0 5)) (c4 : Hid (∀ w, M b a w 0 5)) :
    Calls Try.prog 9 #[.int .i64 a, .int .i64 b] w fun e w' => e = .returned (.bool true) ∧ Below w.heap.size w w' := by
  go_enter Try.func9, Try.ntmps9
  go_wp2_with fail
  refine (bytes.begun_any _).mono ?_
  rintro e w1 ⟨rfl, hB⟩
  go_wp2_with fail
  refine (c1.out _).mono ?_
  rintro e w2 ⟨rfl, rfl⟩
  go_wp2_with fail
  refine (c2.out _).mono ?_
  rintro e w2 ⟨rfl, rfl⟩
  go_wp2_with fail
  refine (c3.out _).mono ?_
  rintro e w2 ⟨rfl, rfl⟩
  go_wp2_with fail
  refine (c4.out _).mono ?_
  rintro e w2 ⟨rfl, rfl⟩
  go_upto_region 7 with (fail)
  simp only [List.append_eq, List.cons_append, List.nil_append]
  go_wp2_with fail
  go_ret
  exact ⟨rfl, hB⟩

/-- The road through BitsRing, of a sum x with the error xe (0 or 5) and a product m with the error me. -/
theorem ring_walk_of (a b : Int) (x xe m me : Int) (w : World) (c1 : Hid (∀ w, A a b w x xe)) (c2 : Hid (∀ w, A b a w x xe)) (c3 : Hid (∀ w, M a b w m me)) (c4 : Hid (∀ w, M b a w m me))
    (hx : (xe = 0 ∧ wrap64 (x - b) = a) ∨ (xe = 5 ∧ x = 0)) (hm : (me = 0 ∧ b = 0 ∧ m = 0) ∨ (me = 0 ∧ b ≠ 0 ∧ m.tmod b = 0 ∧ wrap64 (m.tdiv b) = a) ∨ (me = 5 ∧ m = 0)) :
    Calls Try.prog 9 #[.int .i64 a, .int .i64 b] w fun e w' => e = .returned (.bool true) ∧ Below w.heap.size w w' := by
  rcases hx with ⟨rfl, hs⟩ | ⟨rfl, rfl⟩ <;> rcases hm with ⟨rfl, rfl, rfl⟩ | ⟨rfl, hb, hr, hq⟩ | ⟨rfl, rfl⟩
  · exact ring_aa a x w c1 c2 c3 c4 (by simpa using hs)
  · exact ring_ab a b x m w c1 c2 c3 c4 hs (beq_eq_false_iff_ne.2 hb) hb hr hq
  · exact ring_ac a b x w c1 c2 c3 c4 hs
  · exact ring_ba a w c1 c2 c3 c4
  · exact ring_bb a b m w c1 c2 c3 c4 (beq_eq_false_iff_ne.2 hb) hb hr hq
  · exact ring_bc a b w c1 c2 c3 c4

theorem ring_walk (a0 : Int) (a1 : Int) (w : World) (w0 : (Lit.int .i64 a0).wf = true) (w1 : (Lit.int .i64 a1).wf = true) :
    Calls Try.prog 9 #[.int .i64 a0, .int .i64 a1] w fun e w' => e = .returned (.bool true) ∧ Below w.heap.size w w' := by
  have ha := in_of_wf w0
  have hb := in_of_wf w1
  have e1 : addV a1 a0 = addV a0 a1 := by unfold addV; rw [Int.add_comm]
  have e2 : addE a1 a0 = addE a0 a1 := by unfold addE; rw [Int.add_comm]
  have e3 : mulV a1 a0 = mulV a0 a1 := by unfold mulV; rw [Int.mul_comm]
  have e4 : mulE a1 a0 = mulE a0 a1 := by unfold mulE; rw [Int.mul_comm]
  refine ring_walk_of a0 a1 (addV a0 a1) (addE a0 a1) (mulV a0 a1) (mulE a0 a1) w (fun w => add_any a0 a1 w ha hb) (fun w => by rw [← e1, ← e2]; exact add_any a1 a0 w hb ha)
    (fun w => mul_any a0 a1 w ha hb) (fun w => by rw [← e3, ← e4]; exact mul_any a1 a0 w hb ha) ?_ ?_
  · unfold addV addE
    split
    · left
      refine ⟨rfl, ?_⟩
      unfold InI at ha
      unfold wrap64; omega
    · exact .inr ⟨rfl, rfl⟩
  · unfold mulV mulE
    split
    · by_cases h1 : a1 = 0
      · left
        exact ⟨rfl, h1, by rw [h1, Int.mul_zero]⟩
      · right; left
        refine ⟨rfl, h1, Int.mul_tmod_left a0 a1, ?_⟩
        rw [Int.mul_tdiv_cancel _ h1]
        unfold InI at ha
        unfold wrap64; omega
    · exact .inr (.inr ⟨rfl, rfl⟩)
end Go.Proofs.Ytdadhpghdblgnaa.sums
