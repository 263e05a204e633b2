/- Plain numbers for CRC-32C: the register step by step, as one number of many bits, and what it tells apart. It speaks of no program. -/
import Derived.Test.YtcjaffdjhbhhaaaNums
namespace Go.Proofs.Ytcjaffdjhbhhaaa.crc
open Go.Proofs.Ytcjaffdjhbhhaaa.nums
set_option linter.unusedVariables false

def poly : Nat := 2197175160
def ones : Nat := 4294967295
/-- One step of the register. -/
def stepC (c : Nat) : Nat := if c % 2 = 1 then c / 2 ^^^ poly else c / 2
def stepsC : Nat → Nat → Nat
  | 0, c => c
  | k + 1, c => stepsC k (stepC c)
theorem stepsC_succ (k c : Nat) : stepsC (k + 1) c = stepsC k (stepC c) := rfl
theorem stepsC_add (j : Nat) : ∀ k c, stepsC (j + k) c = stepsC k (stepsC j c) := by
  induction j with
  | zero => intro k c; rw [Nat.zero_add]; rfl
  | succ j ih => intro k c; rw [Nat.add_right_comm, stepsC_succ, ih]; rfl

theorem xor_div2 (a b : Nat) : (a ^^^ b) / 2 = a / 2 ^^^ b / 2 := by
  have := Nat.shiftRight_xor_distrib (a := a) (b := b) (i := 1)
  simpa [Nat.shiftRight_eq_div_pow] using this
theorem xor_mod2 (a b : Nat) : (a ^^^ b) % 2 = (a + b) % 2 := by
  have h : (a ^^^ b) % 2 ^ 1 = a % 2 ^ 1 ^^^ b % 2 ^ 1 := Nat.xor_mod_two_pow
  rw [Nat.pow_one] at h
  rw [h]
  rcases Nat.mod_two_eq_zero_or_one a with ha | ha <;> rcases Nat.mod_two_eq_zero_or_one b with hb | hb <;> rw [ha, hb] <;> simp <;> omega
theorem xor_zero_eq {a b : Nat} (h : a ^^^ b = 0) : a = b := by
  have : (a ^^^ b) ^^^ b = b := by rw [h, Nat.zero_xor]
  rwa [Nat.xor_assoc, Nat.xor_self, Nat.xor_zero] at this
theorem xor4 (a b c d : Nat) : (a ^^^ b) ^^^ (c ^^^ d) = (a ^^^ c) ^^^ (b ^^^ d) := by
  rw [Nat.xor_assoc, Nat.xor_assoc, ← Nat.xor_assoc b c d, Nat.xor_comm b c, Nat.xor_assoc c b d]
theorem stepC_xor (a b : Nat) : stepC (a ^^^ b) = stepC a ^^^ stepC b := by
  unfold stepC
  rw [xor_div2, xor_mod2]
  rcases Nat.mod_two_eq_zero_or_one a with ha | ha <;> rcases Nat.mod_two_eq_zero_or_one b with hb | hb
  · rw [if_neg (by omega), if_neg (by omega), if_neg (by omega)]
  · rw [if_pos (by omega), if_neg (by omega), if_pos (by omega), Nat.xor_assoc]
  · rw [if_pos (by omega), if_pos (by omega), if_neg (by omega), Nat.xor_assoc, Nat.xor_assoc, Nat.xor_comm poly]
  · rw [if_neg (by omega), if_pos (by omega), if_pos (by omega), xor4, Nat.xor_self, Nat.xor_zero]
theorem stepsC_xor (k : Nat) : ∀ a b, stepsC k (a ^^^ b) = stepsC k a ^^^ stepsC k b := by
  induction k with
  | zero => intro a b; rfl
  | succ k ih => intro a b; rw [stepsC_succ, stepC_xor, ih]; rfl
theorem stepC_even (c : Nat) : stepC (2 * c) = c := by
  unfold stepC
  rw [if_neg (by omega)]
  omega
theorem stepsC_shift (k : Nat) : ∀ c, stepsC k (c * 2 ^ k) = c := by
  induction k with
  | zero => intro c; simp [stepsC]
  | succ k ih =>
    intro c
    rw [stepsC_succ, Nat.pow_succ, show c * (2 ^ k * 2) = 2 * (c * 2 ^ k) by rw [← Nat.mul_assoc, Nat.mul_comm], stepC_even, ih]
theorem xor_lt {a b : Nat} (ha : a < 4294967296) (hb : b < 4294967296) : a ^^^ b < 4294967296 := Nat.xor_lt_two_pow (n := 32) ha hb
theorem stepC_lt {c : Nat} (h : c < 4294967296) : stepC c < 4294967296 := by
  unfold stepC
  split
  · exact xor_lt (by omega) (by decide)
  · omega
theorem stepsC_lt (k : Nat) : ∀ {c}, c < 4294967296 → stepsC k c < 4294967296 := by
  induction k with
  | zero => intro c h; exact h
  | succ k ih => intro c h; exact ih (stepC_lt h)
theorem stepC_zero {c : Nat} (h : c < 4294967296) (hz : stepC c = 0) : c = 0 := by
  unfold stepC at hz
  split at hz
  · have : c / 2 = poly := xor_zero_eq hz
    unfold poly at this
    omega
  · omega
theorem stepsC_zero (k : Nat) : ∀ {c}, c < 4294967296 → stepsC k c = 0 → c = 0 := by
  induction k with
  | zero => intro c h hz; exact hz
  | succ k ih => intro c h hz; exact stepC_zero h (ih (stepC_lt h) hz)
theorem stepsC_nought (k : Nat) : stepsC k 0 = 0 := by
  induction k with
  | zero => rfl
  | succ k ih => rw [stepsC_succ]; exact ih

/-- The register over one byte, and over bytes. -/
def byteC (c x : Nat) : Nat := stepsC 8 (c ^^^ x)
def runC (c : Nat) (l : List Int) : Nat := l.foldl (fun c x => byteC c x.toNat) c
theorem runC_nil (c : Nat) : runC c [] = c := rfl
theorem runC_cons (c : Nat) (x : Int) (l : List Int) : runC c (x :: l) = runC (byteC c x.toNat) l := rfl
theorem runC_append (c : Nat) (l m : List Int) : runC c (l ++ m) = runC (runC c l) m := by unfold runC; rw [List.foldl_append]
theorem runC_lt (l : List Int) : ∀ {c}, c < 4294967296 → Byt l → runC c l < 4294967296 := by
  induction l with
  | nil => intro c h _; exact h
  | cons x l ih =>
    intro c h hb
    have := hb x (by simp)
    exact ih (stepsC_lt 8 (xor_lt h (by omega))) (fun y hy => hb y (List.mem_cons_of_mem _ hy))

/-- The bytes as one number, the first one lowest. -/
def numC : List Int → Nat
  | [] => 0
  | x :: l => x.toNat ^^^ (numC l * 2 ^ 8)
/-- All bytes at once. -/
theorem runC_num (l : List Int) : ∀ c, Byt l → runC c l = stepsC (8 * l.length) (c ^^^ numC l) := by
  induction l with
  | nil => intro c _; rw [runC_nil]; show c = c ^^^ 0; rw [Nat.xor_zero]
  | cons x l ih =>
    intro c hb
    rw [runC_cons, ih _ (fun y hy => hb y (List.mem_cons_of_mem _ hy)), List.length_cons, Nat.mul_succ, Nat.add_comm (8 * l.length) 8, stepsC_add]
    congr 1
    show _ = stepsC 8 (c ^^^ (x.toNat ^^^ numC l * 2 ^ 8))
    rw [← Nat.xor_assoc, stepsC_xor 8 (c ^^^ x.toNat), stepsC_shift]
    rfl

/-- The sum that goes on from one: P2.1. -/
def moreC (c : Nat) (l : List Int) : Nat := runC (c ^^^ ones) l ^^^ ones
def ofC (l : List Int) : Nat := moreC 0 l
theorem moreC_nil (c : Nat) : moreC c [] = c := by unfold moreC; rw [runC_nil, Nat.xor_assoc, Nat.xor_self, Nat.xor_zero]
theorem moreC_append (c : Nat) (l m : List Int) : moreC c (l ++ m) = moreC (moreC c l) m := by
  unfold moreC
  rw [runC_append, Nat.xor_assoc _ ones ones, Nat.xor_self, Nat.xor_zero]
theorem moreC_lt {c : Nat} {l : List Int} (h : c < 4294967296) (hb : Byt l) : moreC c l < 4294967296 :=
  xor_lt (runC_lt l (xor_lt h (by decide)) hb) (by decide)
/-- A run of bits that is turned: bytes of one length whose numbers differ by a mask of 32 bits, moved up. -/
theorem burst {l m : List Int} (hl : Byt l) (hm : Byt m) (hlen : l.length = m.length) {mask at_ : Nat} (hmask : mask < 4294967296) (hat : at_ ≤ 8 * l.length) (hd : numC m = numC l ^^^ mask * 2 ^ at_) :
    ofC l = ofC m ↔ mask = 0 := by
  have key : runC (0 ^^^ ones) l ^^^ runC (0 ^^^ ones) m = stepsC (8 * l.length - at_) mask := by
    rw [runC_num l _ hl, runC_num m _ hm, ← hlen, ← stepsC_xor, hd]
    have : (0 ^^^ ones ^^^ numC l) ^^^ (0 ^^^ ones ^^^ (numC l ^^^ mask * 2 ^ at_)) = mask * 2 ^ at_ := by
      rw [← Nat.xor_assoc (0 ^^^ ones), ← Nat.xor_assoc, Nat.xor_self, Nat.zero_xor]
    rw [this]
    have e : 8 * l.length = at_ + (8 * l.length - at_) := by omega
    conv => lhs; rw [e]
    rw [stepsC_add, stepsC_shift]
  unfold ofC moreC
  constructor
  · intro h
    have h2 : runC (0 ^^^ ones) l = runC (0 ^^^ ones) m := by
      have := congrArg (· ^^^ ones) h
      simpa [Nat.xor_assoc] using this
    rw [h2, Nat.xor_self] at key
    exact stepsC_zero _ hmask key.symm
  · intro h
    subst h
    rw [stepsC_nought] at key
    rw [xor_zero_eq key]
/-- Sums of texts of one length are lines. -/
theorem lines {x a b c : List Int} (hx : Byt x) (ha : Byt a) (hb : Byt b) (hc : Byt c) (ea : a.length = x.length) (eb : b.length = x.length) (ec : c.length = x.length) (hd : numC x = numC a ^^^ numC b ^^^ numC c) :
    ofC x = ofC a ^^^ ofC b ^^^ ofC c := by
  unfold ofC moreC
  rw [runC_num x _ hx, runC_num a _ ha, runC_num b _ hb, runC_num c _ hc, ea, eb, ec, hd]
  generalize 8 * x.length = k
  rw [Nat.zero_xor]
  have e : ones ^^^ (numC a ^^^ numC b ^^^ numC c) = (ones ^^^ numC a) ^^^ (ones ^^^ numC b) ^^^ (ones ^^^ numC c) := by
    rw [xor4 ones (numC a) ones (numC b), Nat.xor_self, Nat.zero_xor, ← Nat.xor_assoc ones, ← Nat.xor_assoc (numC a ^^^ numC b), Nat.xor_comm ones]
  rw [e, stepsC_xor, stepsC_xor]
  generalize stepsC k (ones ^^^ numC a) = p
  generalize stepsC k (ones ^^^ numC b) = q
  generalize stepsC k (ones ^^^ numC c) = r
  rw [xor4 p ones q ones, Nat.xor_self, Nat.xor_zero, ← Nat.xor_assoc]

theorem xor_shl (a b k : Nat) : (a ^^^ b) * 2 ^ k = a * 2 ^ k ^^^ b * 2 ^ k := by
  have := Nat.shiftLeft_xor_distrib (a := a) (b := b) (i := k)
  simpa [Nat.shiftLeft_eq] using this
/-- One bit is turned. -/
theorem numC_set (q : Nat) : ∀ (l : List Int) (p : Nat), p < l.length → numC (l.set p (((l.getD p 0).toNat ^^^ 2 ^ q : Nat) : Int)) = numC l ^^^ 2 ^ (8 * p + q) := by
  intro l
  induction l with
  | nil => intro p hp; simp at hp
  | cons x l ih =>
    intro p hp
    match p with
    | 0 =>
      show ((((x.toNat ^^^ 2 ^ q : Nat) : Int)).toNat ^^^ numC l * 2 ^ 8) = (x.toNat ^^^ numC l * 2 ^ 8) ^^^ 2 ^ (8 * 0 + q)
      rw [Int.toNat_natCast, Nat.mul_zero, Nat.zero_add, Nat.xor_assoc, Nat.xor_assoc, Nat.xor_comm (2 ^ q)]
    | p + 1 =>
      show (x.toNat ^^^ numC (l.set p (((l.getD p 0).toNat ^^^ 2 ^ q : Nat) : Int)) * 2 ^ 8) = (x.toNat ^^^ numC l * 2 ^ 8) ^^^ 2 ^ (8 * (p + 1) + q)
      rw [ih p (by simpa using hp), xor_shl, Nat.xor_assoc, ← Nat.pow_add, show 8 * p + q + 8 = 8 * (p + 1) + q by omega]
theorem low_xor {x j : Nat} (h : x / 2 ^ j % 2 = 1) : x % 2 ^ (j + 1) = x % 2 ^ j ^^^ 2 ^ j := by
  have hb : x.testBit j = true := by rw [Nat.testBit_eq_decide_div_mod_eq]; simp [h]
  apply Nat.eq_of_testBit_eq
  intro i
  rw [Nat.testBit_xor, Nat.testBit_mod_two_pow, Nat.testBit_mod_two_pow, Nat.testBit_two_pow]
  by_cases h1 : i < j
  · simp [h1, show i < j + 1 by omega, show ¬ j = i by omega]
  · by_cases h2 : i = j
    · subst h2; simp [hb]
    · simp [h1, show ¬ i < j + 1 by omega, show ¬ j = i by omega]
theorem burst_step {x y mask a j e : Nat} (hx : x = y ^^^ mask % 2 ^ j * 2 ^ a) (h : mask / 2 ^ j % 2 = 1) (he : e = a + j) : x ^^^ 2 ^ e = y ^^^ mask % 2 ^ (j + 1) * 2 ^ a := by
  rw [hx, low_xor h, xor_shl, Nat.xor_assoc, ← Nat.pow_add, he, Nat.add_comm j a]

theorem numC_snoc (v : Int) : ∀ l : List Int, numC (l ++ [v]) = numC l ^^^ v.toNat * 2 ^ (8 * l.length) := by
  intro l
  induction l with
  | nil => show v.toNat ^^^ 0 * 2 ^ 8 = 0 ^^^ v.toNat * 2 ^ (8 * 0); simp
  | cons x l ih =>
    show x.toNat ^^^ numC (l ++ [v]) * 2 ^ 8 = (x.toNat ^^^ numC l * 2 ^ 8) ^^^ v.toNat * 2 ^ (8 * (l.length + 1))
    rw [ih, xor_shl, Nat.mul_assoc, ← Nat.pow_add, show 8 * l.length + 8 = 8 * (l.length + 1) by omega, Nat.xor_assoc]
theorem take_getD (l : List Int) (i : Nat) (h : i < l.length) : l.take (i + 1) = l.take i ++ [l.getD i 0] := by
  rw [List.take_succ_eq_append_getElem h]; simp [List.getD, h]
theorem xor6 (a b c x y z : Nat) : (a ^^^ b ^^^ c) ^^^ (x ^^^ y ^^^ z) = (a ^^^ x) ^^^ (b ^^^ y) ^^^ (c ^^^ z) := by
  rw [xor4 (a ^^^ b) c (x ^^^ y) z, xor4 a b x y]
/-- One more byte of three texts, xored. -/
theorem lines_step {xs la lb lc : List Int} {j x y z : Nat} (hx : xs.length = j) (hd : numC xs = numC (la.take j) ^^^ numC (lb.take j) ^^^ numC (lc.take j)) (h1 : j < la.length) (h2 : j < lb.length) (h3 : j < lc.length) (e1 : la.getD j 0 = x) (e2 : lb.getD j 0 = y) (e3 : lc.getD j 0 = z) :
    numC (xs ++ [((x ^^^ y ^^^ z : Nat) : Int)]) = numC (la.take (j + 1)) ^^^ numC (lb.take (j + 1)) ^^^ numC (lc.take (j + 1)) := by
  rw [numC_snoc, take_getD la j h1, take_getD lb j h2, take_getD lc j h3, numC_snoc, numC_snoc, numC_snoc, e1, e2, e3, hx, hd]
  simp only [Int.toNat_natCast, List.length_take, Nat.min_eq_left (Nat.le_of_lt h1), Nat.min_eq_left (Nat.le_of_lt h2), Nat.min_eq_left (Nat.le_of_lt h3)]
  rw [xor_shl, xor_shl, xor6]
end Go.Proofs.Ytcjaffdjhbhhaaa.crc
