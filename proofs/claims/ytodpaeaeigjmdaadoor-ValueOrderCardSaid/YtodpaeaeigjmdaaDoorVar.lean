/- Plain numbers and lists for varints: their bytes, and what bytes are one. It speaks of no program. -/
import Derived.Test.YtodpaeaeigjmdaaDoorNums
import Derived.Laws.BitsAllLaws
namespace Go.Proofs.YtodpaeaeigjmdaaDoor.nums
set_option linter.unusedVariables false

/-- The varint of u, of at most k + 1 bytes. -/
def varN : Nat → Int → List Int
  | 0, u => [u % 256]
  | k + 1, u => if u < 128 then [u] else (u % 128 + 128) :: varN k (u / 128)
def varB (u : Int) : List Int := varN 9 u
theorem varN_lt {k : Nat} {u : Int} (h : u < 128) : varN (k + 1) u = [u] := if_pos h
theorem varN_ge {k : Nat} {u : Int} (h : ¬ u < 128) : varN (k + 1) u = (u % 128 + 128) :: varN k (u / 128) := if_neg h
theorem varN_length (k : Nat) : ∀ u, 1 ≤ (varN k u).length ∧ (varN k u).length ≤ k + 1 := by
  induction k with
  | zero => intro u; simp [varN]
  | succ k ih =>
    intro u
    by_cases h : u < 128
    · rw [varN_lt h]; simp
    · rw [varN_ge h]; have := ih (u / 128); simp; omega
theorem varB_length (u : Int) : 1 ≤ (varB u).length ∧ (varB u).length ≤ 10 := varN_length 9 u
theorem varN_byt (k : Nat) : ∀ u, 0 ≤ u → Byt (varN k u) := by
  induction k with
  | zero => intro u h; exact Byt.one (by omega) (by omega)
  | succ k ih =>
    intro u h0
    by_cases h : u < 128
    · rw [varN_lt h]; exact Byt.one h0 (by omega)
    · rw [varN_ge h]; exact (Byt.one (x := u % 128 + 128) (by omega) (by omega)).append (ih (u / 128) (by omega))
theorem varB_byt {u : Int} (h : 0 ≤ u) : Byt (varB u) := varN_byt 9 u h
/-- At the last byte nothing is left. -/
theorem varN_last {k : Nat} {u : Int} (h0 : 0 ≤ u) (h : u < 128) : varN k u = [u] := by
  cases k with
  | zero => unfold varN; rw [Int.emod_eq_of_lt h0 (by omega)]
  | succ k => exact varN_lt h
/-- How far u may be with k bytes behind the one that is written. -/
def room (k : Nat) : Int := 2 * 128 ^ k
theorem room_zero : room 0 = 2 := rfl
theorem room_succ (k : Nat) : room (k + 1) = room k * 128 := by unfold room; rw [Int.pow_succ, Int.mul_assoc]
theorem room_nine : room 9 = 18446744073709551616 := by decide
theorem room_div {k : Nat} {u : Int} (h : u < room (k + 1)) : u / 128 < room k := by rw [room_succ] at h; omega
/-- No varint is the beginning of another one. -/
theorem varN_apart (k : Nat) : ∀ a b n, 0 ≤ a → 0 ≤ b → a < room k → b < room k → n = min (varN k a).length (varN k b).length → (varN k a).take n = (varN k b).take n → a = b := by
  induction k with
  | zero =>
    intro a b n ha hb ha1 hb1 hn h
    rw [room_zero] at ha1 hb1
    have hn1 : n = 1 := by simpa [varN] using hn
    subst hn1
    have h2 : a % 256 = b % 256 := by simpa [varN] using h
    omega
  | succ k ih =>
    intro a b n ha hb ha1 hb1 hn h
    by_cases ca : a < 128 <;> by_cases cb : b < 128
    · rw [varN_lt ca, varN_lt cb] at h hn
      have hn1 : n = 1 := by simpa using hn
      subst hn1
      simpa using h
    · rw [varN_lt ca, varN_ge cb] at h hn
      have hl := (varN_length k (b / 128)).1
      have hn1 : n = 1 := by simp at hn; omega
      subst hn1
      simp at h
      omega
    · rw [varN_ge ca, varN_lt cb] at h hn
      have hl := (varN_length k (a / 128)).1
      have hn1 : n = 1 := by simp at hn; omega
      subst hn1
      simp at h
      omega
    · rw [varN_ge ca, varN_ge cb] at h hn
      obtain ⟨m, rfl⟩ : ∃ m, n = m + 1 := ⟨n - 1, by simp at hn; omega⟩
      simp only [List.take_succ_cons, List.cons.injEq] at h
      have := ih (a / 128) (b / 128) m (by omega) (by omega) (room_div ha1) (room_div hb1) (by simp at hn; omega) h.2
      omega

/-- What the bytes l behind i bytes of a varint, of value v so far, come to: the number, how many bytes it has, the error. -/
def tv : Nat → Int → List Int → Int × Int × Int
  | _, _, [] => (0, 0, 2)
  | i, v, c :: r => if i = 9 ∧ 1 < c then (0, 0, 5) else if 128 ≤ c then tv (i + 1) (v + c % 128 * 128 ^ i) r else if c = 0 ∧ 0 < i then (0, 0, 9) else (v + c % 128 * 128 ^ i, i + 1, 0)
theorem tv_nil (i : Nat) (v : Int) : tv i v [] = (0, 0, 2) := rfl
theorem tv_great (i : Nat) (v c : Int) (r : List Int) (h : i = 9 ∧ 1 < c) : tv i v (c :: r) = (0, 0, 5) := if_pos h
theorem tv_more (i : Nat) (v c : Int) (r : List Int) (h : ¬ (i = 9 ∧ 1 < c)) (h2 : 128 ≤ c) : tv i v (c :: r) = tv (i + 1) (v + c % 128 * 128 ^ i) r := by
  rw [tv, if_neg h, if_pos h2]
theorem tv_form (i : Nat) (v c : Int) (r : List Int) (h2 : ¬ 128 ≤ c) (h3 : c = 0 ∧ 0 < i) : tv i v (c :: r) = (0, 0, 9) := by
  rw [tv, if_neg (by omega), if_neg h2, if_pos h3]
theorem tv_done (i : Nat) (v c : Int) (r : List Int) (h : ¬ (i = 9 ∧ 1 < c)) (h2 : ¬ 128 ≤ c) (h3 : ¬ (c = 0 ∧ 0 < i)) : tv i v (c :: r) = (v + c % 128 * 128 ^ i, (i : Int) + 1, 0) := by
  rw [tv, if_neg h, if_neg h2, if_neg h3]
/-- What Takevar answers of the bytes l. -/
def takeV (l : List Int) : Int × Int × Int := tv 0 0 l

theorem tv_varN (k : Nat) : ∀ (i : Nat) (acc u : Int) (rest : List Int), i + k = 9 → 0 ≤ u → u < room k → (i = 0 ∨ 0 < u) → tv i acc (varN k u ++ rest) = (acc + u * 128 ^ i, (i : Int) + ((varN k u).length : Int), 0) := by
  induction k with
  | zero =>
    intro i acc u rest hi h0 h1 h2
    rw [room_zero] at h1
    have e : u % 256 = u := by omega
    have e2 : u % 128 = u := by omega
    show tv i acc ((u % 256) :: rest) = _
    rw [e, tv_done i acc u rest (by omega) (by omega) (by omega), e2]
    rfl
  | succ k ih =>
    intro i acc u rest hi h0 h1 h2
    by_cases c : u < 128
    · have e2 : u % 128 = u := by omega
      rw [varN_lt c]
      show tv i acc (u :: rest) = _
      rw [tv_done i acc u rest (by omega) (by omega) (by omega), e2]
      rfl
    · rw [varN_ge c]
      show tv i acc ((u % 128 + 128) :: (varN k (u / 128) ++ rest)) = _
      have e : (u % 128 + 128) % 128 = u % 128 := by omega
      rw [tv_more i acc _ _ (by omega) (by omega), ih (i + 1) _ (u / 128) rest (by omega) (by omega) (room_div h1) (by omega), e, List.length_cons]
      have hd : u = u % 128 + u / 128 * 128 := by omega
      have hp : acc + u % 128 * 128 ^ i + u / 128 * 128 ^ (i + 1) = acc + u * 128 ^ i := by
        rw [Int.pow_succ, Int.add_assoc]
        congr 1
        conv => rhs; rw [hd]
        rw [Int.add_mul, Int.mul_assoc, Int.mul_comm 128]
      rw [hp]
      simp only [Prod.mk.injEq, true_and, and_true]
      omega
theorem takeV_varB {u : Int} (h0 : 0 ≤ u) (h1 : u ≤ 18446744073709551615) (rest : List Int) : takeV (varB u ++ rest) = (u, ((varB u).length : Int), 0) := by
  unfold takeV varB
  rw [tv_varN 9 0 0 u rest rfl h0 (by rw [room_nine]; omega) (.inl rfl)]
  simp

/-- The bounds of what is told. -/
def Good (len : Int) (r : Int × Int × Int) : Prop := 0 ≤ r.1 ∧ r.1 ≤ 18446744073709551615 ∧ 0 ≤ r.2.1 ∧ r.2.1 ≤ len ∧ (r.2.2 = 0 ∨ r.2.2 = 2 ∨ r.2.2 = 5 ∨ r.2.2 = 9) ∧ (r.2.2 ≠ 0 → r.1 = 0 ∧ r.2.1 = 0)
theorem pow_step (i : Nat) (v c : Int) (h0 : 0 ≤ v) (h1 : v < 128 ^ i) : 0 ≤ v + c % 128 * 128 ^ i ∧ v + c % 128 * 128 ^ i < 128 ^ (i + 1) := by
  rw [Int.pow_succ]
  generalize (128 : Int) ^ i = q at *
  have g0 : 0 ≤ c % 128 * q := Int.mul_nonneg (by omega) (by omega)
  have g1 : c % 128 * q ≤ 127 * q := Int.mul_le_mul_of_nonneg_right (by omega) (by omega)
  omega
theorem pow_le9 {i : Nat} (h : i ≤ 9) : (128 : Int) ^ i ≤ 9223372036854775808 := by
  have : ∀ j : Fin 10, (128 : Int) ^ j.1 ≤ 9223372036854775808 := by decide
  exact this ⟨i, by omega⟩
theorem pow_pos' (i : Nat) : (1 : Int) ≤ 128 ^ i := by
  induction i with
  | zero => decide
  | succ i ih => rw [Int.pow_succ]; omega
theorem pow_nine : (128 : Int) ^ 9 = 9223372036854775808 := by decide
theorem last_le (v c : Int) (h0 : 0 ≤ v) (h1 : v < 128 ^ 9) (c0 : 0 ≤ c) (c1 : c ≤ 1) : 0 ≤ v + c % 128 * 128 ^ 9 ∧ v + c % 128 * 128 ^ 9 ≤ 18446744073709551615 := by
  rw [pow_nine] at *; omega
theorem tv_good (l : List Int) : ∀ (i : Nat) (v : Int), Byt l → i ≤ 9 → 0 ≤ v → v < 128 ^ i → Good (i + l.length) (tv i v l) := by
  induction l with
  | nil => intro i v _ _ _ _; rw [tv_nil]; unfold Good; simp
  | cons c r ih =>
    intro i v hb hi h0 h1
    obtain ⟨c0, c1⟩ := hb c (by simp)
    by_cases g1 : i = 9 ∧ 1 < c
    · rw [tv_great i v c r g1]; unfold Good; simp; omega
    · by_cases g2 : 128 ≤ c
      · rw [tv_more i v c r g1 g2]
        have := ih (i + 1) _ (fun y hy => hb y (List.mem_cons_of_mem _ hy)) (by omega) (pow_step i v c h0 h1).1 (pow_step i v c h0 h1).2
        have e : ((i + 1 : Nat) : Int) + (r.length : Int) = (i : Int) + ((c :: r).length : Int) := by simp; omega
        rw [← e]; exact this
      · by_cases g3 : c = 0 ∧ 0 < i
        · rw [tv_form i v c r g2 g3]; unfold Good; simp; omega
        · rw [tv_done i v c r g1 g2 g3]
          have hlen : (((c :: r).length : Nat) : Int) = r.length + 1 := by simp
          unfold Good
          by_cases h9 : i = 9
          · subst h9
            have hl := last_le v c h0 h1 c0 (by omega)
            rw [hlen]
            refine ⟨hl.1, hl.2, ?_, ?_, ?_, ?_⟩ <;> simp <;> omega
          · have hs := pow_step i v c h0 h1
            have hp := pow_le9 (i := i + 1) (by omega)
            rw [hlen]
            refine ⟨hs.1, by simp only []; omega, ?_, ?_, ?_, ?_⟩ <;> simp <;> omega
theorem takeV_good {l : List Int} (h : Byt l) : Good l.length (takeV l) := by
  have := tv_good l 0 0 h (by omega) (by omega) (by decide)
  unfold takeV
  simpa using this

/-- What Taketext answers of the bytes l: the error, the end, the text. -/
def tErr (l : List Int) : Int := if (takeV l).2.2 ≠ 0 then (takeV l).2.2 else if 1048576 < (takeV l).1 then 3 else if (l.length : Int) < (takeV l).2.1 + (takeV l).1 then 2 else 0
def tEnd (l : List Int) : Int := if tErr l = 0 then (takeV l).2.1 + (takeV l).1 else 0
def tTxt (l : List Int) : List Int := if tErr l = 0 then (l.drop (takeV l).2.1.toNat).take (takeV l).1.toNat else []
theorem t_bad {l : List Int} {v k e : Int} (h : takeV l = (v, k, e)) (he : e ≠ 0) : tErr l = e ∧ tEnd l = 0 ∧ tTxt l = [] := by
  have h1 : tErr l = e := by unfold tErr; rw [h]; exact if_pos he
  exact ⟨h1, by unfold tEnd; rw [h1, if_neg he], by unfold tTxt; rw [h1, if_neg he]⟩
theorem t_long {l : List Int} {v k : Int} (h : takeV l = (v, k, 0)) (hv : 1048576 < v) : tErr l = 3 ∧ tEnd l = 0 ∧ tTxt l = [] := by
  have h1 : tErr l = 3 := by unfold tErr; rw [h]; simp [hv]
  exact ⟨h1, by unfold tEnd; rw [h1, if_neg (by omega)], by unfold tTxt; rw [h1, if_neg (by omega)]⟩
theorem t_short {l : List Int} {v k : Int} (h : takeV l = (v, k, 0)) (hv : v ≤ 1048576) (hs : (l.length : Int) < k + v) : tErr l = 2 ∧ tEnd l = 0 ∧ tTxt l = [] := by
  have h1 : tErr l = 2 := by unfold tErr; rw [h]; simp [hs, show ¬ 1048576 < v by omega]
  exact ⟨h1, by unfold tEnd; rw [h1, if_neg (by omega)], by unfold tTxt; rw [h1, if_neg (by omega)]⟩
theorem t_ok {l : List Int} {v k : Nat} (h : takeV l = ((v : Int), (k : Int), 0)) (hv : v ≤ 1048576) (hs : k + v ≤ l.length) : tErr l = 0 ∧ tEnd l = k + v ∧ tTxt l = (l.drop k).take v := by
  have h1 : tErr l = 0 := by unfold tErr; rw [h]; simp [show ¬ (1048576 : Int) < v by omega, show ¬ (l.length : Int) < k + v by omega]
  exact ⟨h1, by unfold tEnd; rw [h1, h, if_pos rfl], by unfold tTxt; rw [h1, h, if_pos rfl]; simp⟩

theorem or128 (u : Int) : bits .or .u8 (u % 256) 128 = u % 128 + 128 := by
  obtain ⟨n, hn⟩ := Int.eq_ofNat_of_zero_le (show 0 ≤ u % 256 by omega)
  have hlt : n < 256 := by omega
  have h : ∀ m : Fin 256, m.1 ||| 128 = m.1 % 128 + 128 := by decide +kernel
  have h2 := h ⟨n, hlt⟩
  simp only at h2
  rw [hn, show (128 : Int) = ((128 : Nat) : Int) from rfl, u8_or_nat n 128 hlt (by decide), h2]
  omega
theorem not128 (c : Int) (h0 : 0 ≤ c) (h1 : c ≤ 255) : bits .andNot .u8 c 128 = c % 128 := by
  obtain ⟨n, rfl⟩ := Int.eq_ofNat_of_zero_le h0
  have hlt : n < 256 := by omega
  have h : ∀ m : Fin 256, m.1 &&& (255 - 128) = m.1 % 128 := by decide +kernel
  have h2 := h ⟨n, hlt⟩
  simp only at h2
  rw [show (128 : Int) = ((128 : Nat) : Int) from rfl, u8_andNot_nat n 128 hlt (by decide), h2]
  omega
/-- 'v | x << 7i' where v lies below 2^7i. -/
theorem or_join (i : Nat) (v x : Int) (h0 : 0 ≤ v) (h1 : v < 128 ^ i) (hi : i ≤ 9) (x0 : 0 ≤ x) (hx : x * 128 ^ i ≤ 18446744073709551615) : bits .or .u64 v (x * 128 ^ i) = v + x * 128 ^ i := by
  have e : (128 : Int) ^ i = 2 ^ (7 * i) := by rw [Int.pow_mul]; rfl
  have hp := pow_le9 hi
  have hq := pow_pos' i
  rw [e] at h1 hx hp hq
  rw [e]
  exact bits_join_low .u64 64 (by decide) wraps_u64 (7 * i) v _ h0 h1 (by omega) (Int.mul_nonneg x0 (by omega)) (Int.mul_emod_left _ _) (by omega)
theorem or_walk (i : Nat) (v x : Int) (h0 : 0 ≤ v) (h1 : v < 128 ^ i) (hi : i ≤ 8) (x0 : 0 ≤ x) : bits .or .u64 v (IntKind.u64.wrap (x % 128 * 2 ^ (7 * i))) = v + x % 128 * 128 ^ i := by
  have e : (128 : Int) ^ i = 2 ^ (7 * i) := by rw [Int.pow_mul]; rfl
  have hs := pow_step i v x h0 h1
  have hp := pow_le9 (i := i + 1) (by omega)
  have hj := or_join i v (x % 128) h0 h1 (by omega) (by omega) (by omega)
  rw [← e]
  rw [u64_wrap_id (x % 128 * 128 ^ i) (Int.mul_nonneg (by omega) (by have := pow_pos' i; omega)) (by omega)]
  exact hj
theorem or_nine (v x : Int) (h0 : 0 ≤ v) (h1 : v < 128 ^ 9) (x0 : 0 ≤ x) (x1 : x ≤ 1) : bits .or .u64 v (x % 128 * 9223372036854775808) = v + x % 128 * 128 ^ 9 := by
  have := or_join 9 v (x % 128) h0 h1 (by omega) (by omega) (by rw [pow_nine]; omega)
  rw [pow_nine] at *
  exact this
end Go.Proofs.YtodpaeaeigjmdaaDoor.nums
