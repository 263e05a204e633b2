/- Zones and where replicas lie, as plain values: which may be, the nodes of a region, the next node that is taken, what is taken one by one, which losses are survived. It speaks of no program. -/
import Derived.Test.YtfcljdpjjabhjaaDoorCf
import Derived.Lib.TrailingZeros
namespace Go.Proofs.YtfcljdpjjabhjaaDoor.zn
open Go.RowKit Go.Proofs.YtfcljdpjjabhjaaDoor.nums Go.Proofs.YtfcljdpjjabhjaaDoor.se Go.Proofs.YtfcljdpjjabhjaaDoor.cf
set_option linter.unusedVariables false

structure ZnL where
  v : List Int
  w : List Int
  l : List Int
  e : Int
  k : Int
  s : Int
def ZnL.lst (z : ZnL) : Nat → List Int
  | 0 => z.v
  | 1 => z.w
  | _ => z.l
def withinB (l : List Int) (m : Int) : Bool := l.all fun n => decide (0 ≤ n) && decide (n ≤ m)
def mayR (rs : List Int) : Bool := decide (1 ≤ rs.length) && decide (rs.length ≤ 9) && withinB rs 3
def mayL (l : List Int) : Bool := decide (l.length ≤ 4) && withinB l 9
def mayN (n : Int) : Bool := decide (0 ≤ n) && decide (n ≤ 9)
def mayS (n : Int) : Bool := decide (0 ≤ n) && decide (n ≤ 2)
def mayZ (z : ZnL) : Bool := mayL z.v && mayL z.w && mayL z.l && mayN z.e && mayN z.k && mayS z.s
/-- The load of node n. -/
def nodeLd (l : List Int) (n : Nat) : Int := l.getD (n - 1) 0
/-- What is in a and not in b. -/
def anF (a b : Nat) : Nat := a ^^^ (a &&& b)
theorem an_bit (a b i : Nat) : (anF a b).testBit i = (a.testBit i && !b.testBit i) := by
  unfold anF
  rw [Nat.testBit_xor, Nat.testBit_and]
  cases a.testBit i <;> cases b.testBit i <;> rfl
theorem an_lt {a b n : Nat} (h : a < 2 ^ n) : anF a b < 2 ^ n := Nat.xor_lt_two_pow h (Nat.lt_of_le_of_lt Nat.and_le_left h)
theorem bit_1022 (i : Nat) : (1022 : Nat).testBit i = decide (1 ≤ i ∧ i ≤ 9) := by
  by_cases h : i < 10
  · have h2 : ∀ j : Fin 10, (1022 : Nat).testBit j.val = decide (1 ≤ j.val ∧ j.val ≤ 9) := by decide
    exact h2 ⟨i, h⟩
  · rw [Nat.testBit_lt_two_pow (Nat.lt_of_lt_of_le (show 1022 < 2 ^ 10 by decide) (Nat.pow_le_pow_right (by decide) (by omega)))]
    simp; omega
theorem may_bits {s : Nat} : mayF s = true ↔ ∀ i, s.testBit i = true → 1 ≤ i ∧ i ≤ 9 := by
  rw [may_iff]
  constructor
  · intro h i hi
    rw [← h, Nat.testBit_and, bit_1022, Bool.and_eq_true, decide_eq_true_eq] at hi
    exact hi.2
  · intro h
    apply Nat.eq_of_testBit_eq
    intro i
    rw [Nat.testBit_and, bit_1022]
    cases hb : s.testBit i
    · rfl
    · simpa using h i hb
theorem may_lt {s : Nat} (h : mayF s = true) : s < 1024 := by
  rw [may_iff] at h
  rw [← h]
  exact Nat.lt_of_le_of_lt Nat.and_le_right (by decide)
theorem an_may {a : Nat} (b : Nat) (h : mayF a = true) : mayF (anF a b) = true := by
  rw [may_bits] at *
  intro i hi
  rw [an_bit, Bool.and_eq_true] at hi
  exact h i hi.1
theorem with_bit {s n : Nat} (h1 : 1 ≤ n) (h9 : n ≤ 9) (i : Nat) : (withF s (n : Int)).testBit i = (s.testBit i || decide (i = n)) := by
  unfold withF
  rw [bitF_node h1 h9, Nat.testBit_or, Nat.testBit_two_pow]
  congr 1
  simp [eq_comm]
theorem lessF_bit {s n : Nat} (h1 : 1 ≤ n) (h9 : n ≤ 9) (i : Nat) : (lessF s (n : Int)).testBit i = (s.testBit i && !decide (i = n)) := by
  unfold lessF
  rw [hasF_node h1 h9]
  cases hb : s.testBit n
  · simp only [Bool.false_eq_true, if_false]
    by_cases e : i = n
    · subst e; simp [hb]
    · simp [e]
  · rw [if_pos rfl, bitF_node h1 h9, less_bit hb]
    simp
theorem less_an {a u n : Nat} (h1 : 1 ≤ n) (h9 : n ≤ 9) : lessF (anF a u) (n : Int) = anF a (withF u (n : Int)) := by
  apply Nat.eq_of_testBit_eq
  intro i
  rw [lessF_bit h1 h9, an_bit, an_bit, with_bit h1 h9]
  cases a.testBit i <;> cases u.testBit i <;> cases decide (i = n) <;> rfl
/-- The nodes of a region, of the first k. -/
def regTo (rs : List Int) (r : Int) : Nat → Nat
  | 0 => 0
  | k + 1 => if rs.getD k (-1) = r then withF (regTo rs r k) ((k + 1 : Nat) : Int) else regTo rs r k
def regF (rs : List Int) (r : Int) : Nat := regTo rs r rs.length
theorem regTo_bit (rs : List Int) (r : Int) (i : Nat) : ∀ k, k ≤ 9 → (regTo rs r k).testBit i = decide (1 ≤ i ∧ i ≤ k ∧ rs.getD (i - 1) (-1) = r) := by
  intro k hk
  induction k with
  | zero => simp [regTo]; omega
  | succ k ih =>
    unfold regTo
    split
    · rename_i h
      rw [with_bit (by omega) hk, ih (by omega), ← Bool.decide_or, decide_eq_decide]
      constructor
      · rintro (⟨h1, h2, h3⟩ | rfl)
        · exact ⟨h1, by omega, h3⟩
        · exact ⟨by omega, Nat.le_refl _, h⟩
      · rintro ⟨h1, h2, h3⟩
        by_cases e : i = k + 1
        · exact .inr e
        · exact .inl ⟨h1, by omega, h3⟩
    · rename_i h
      rw [ih (by omega), decide_eq_decide]
      constructor
      · rintro ⟨h1, h2, h3⟩; exact ⟨h1, by omega, h3⟩
      · rintro ⟨h1, h2, h3⟩
        refine ⟨h1, ?_, h3⟩
        by_cases e : i = k + 1
        · subst e; exact absurd h3 h
        · omega
theorem reg_bit {rs : List Int} (h9 : rs.length ≤ 9) (r : Int) (i : Nat) : (regF rs r).testBit i = decide (1 ≤ i ∧ i ≤ rs.length ∧ rs.getD (i - 1) (-1) = r) := regTo_bit rs r i _ h9
theorem regTo_may (rs : List Int) (r : Int) (k : Nat) (hk : k ≤ 9) : mayF (regTo rs r k) = true := by
  rw [may_bits]
  intro i hi
  rw [regTo_bit rs r i k hk, decide_eq_true_eq] at hi
  omega
theorem reg_may {rs : List Int} (h9 : rs.length ≤ 9) (r : Int) : mayF (regF rs r) = true := regTo_may rs r _ h9
theorem regTo_lt (rs : List Int) (r : Int) (k : Nat) (hk : k ≤ 9) : regTo rs r k < 65536 := Nat.lt_of_lt_of_le (may_lt (regTo_may rs r k hk)) (by decide)
/-- The node of a set, of the first j, that has the least load; the lowest of several; 0: none. -/
def pickTo (s : Nat) (ld : List Int) : Nat → Nat
  | 0 => 0
  | j + 1 => if s.testBit (j + 1) = true ∧ (pickTo s ld j = 0 ∨ nodeLd ld (j + 1) < nodeLd ld (pickTo s ld j)) then j + 1 else pickTo s ld j
def pickF (s : Nat) (ld : List Int) : Nat := pickTo s ld 9
theorem pick_le (s : Nat) (ld : List Int) (j : Nat) : pickTo s ld j ≤ j := by
  induction j with
  | zero => exact Nat.le_refl _
  | succ j ih => unfold pickTo; split <;> omega
theorem pick_zero {s : Nat} {ld : List Int} {j : Nat} : pickTo s ld j = 0 ↔ ∀ i, 1 ≤ i → i ≤ j → s.testBit i = false := by
  induction j with
  | zero => exact ⟨fun _ i h1 h2 => by omega, fun _ => rfl⟩
  | succ j ih =>
    unfold pickTo
    constructor
    · intro h i h1 h2
      split at h
      · omega
      · rename_i hn
        by_cases e : i = j + 1
        · subst e
          cases hb : s.testBit (j + 1)
          · rfl
          · exact absurd ⟨hb, .inl h⟩ hn
        · exact ih.1 h i h1 (by omega)
    · intro h
      have h0 := h (j + 1) (by omega) (Nat.le_refl _)
      rw [if_neg (by rw [h0]; simp)]
      exact ih.2 fun i h1 h2 => h i h1 (by omega)
theorem pick_mem {s : Nat} {ld : List Int} {j : Nat} (h : pickTo s ld j ≠ 0) : s.testBit (pickTo s ld j) = true := by
  induction j with
  | zero => exact absurd rfl h
  | succ j ih =>
    unfold pickTo at h ⊢
    split
    · rename_i hc; exact hc.1
    · rename_i hc
      rw [if_neg hc] at h
      exact ih h
theorem pick_min {s : Nat} {ld : List Int} {j : Nat} : ∀ i, 1 ≤ i → i ≤ j → s.testBit i = true → nodeLd ld (pickTo s ld j) < nodeLd ld i ∨ (nodeLd ld (pickTo s ld j) = nodeLd ld i ∧ pickTo s ld j ≤ i) := by
  induction j with
  | zero => intro i h1 h2; omega
  | succ j ih =>
    intro i h1 h2 hi
    unfold pickTo
    split
    · rename_i hc
      by_cases e : i = j + 1
      · subst e; exact .inr ⟨rfl, Nat.le_refl _⟩
      · have := ih i h1 (by omega) hi
        rcases hc.2 with h0 | h0
        · have := pick_zero.1 h0 i h1 (by omega)
          rw [this] at hi; cases hi
        · left
          omega
    · rename_i hc
      by_cases e : i = j + 1
      · subst e
        have h0 : ¬ (pickTo s ld j = 0 ∨ nodeLd ld (j + 1) < nodeLd ld (pickTo s ld j)) := fun h => hc ⟨hi, h⟩
        have hle := pick_le s ld j
        have : ¬ nodeLd ld (j + 1) < nodeLd ld (pickTo s ld j) := fun h => h0 (.inr h)
        omega
      · exact ih i h1 (by omega) hi
theorem pick_skip {s : Nat} {ld : List Int} {i j : Nat} (hij : i ≤ j) (h : ∀ m, i < m → m ≤ j → s.testBit m = false) : pickTo s ld j = pickTo s ld i := by
  induction j with
  | zero => obtain rfl : i = 0 := by omega
            rfl
  | succ j ih =>
    by_cases e : i = j + 1
    · subst e; rfl
    · have h0 := h (j + 1) (by omega) (Nat.le_refl _)
      conv => lhs; unfold pickTo
      rw [if_neg (by rw [h0]; simp)]
      exact ih (by omega) fun m h1 h2 => h m h1 (by omega)
theorem pick_in {s : Nat} {ld : List Int} {j : Nat} (h : s.testBit (j + 1) = true) (hl : pickTo s ld j = 0 ∨ nodeLd ld (j + 1) < nodeLd ld (pickTo s ld j)) : pickTo s ld (j + 1) = j + 1 := by
  conv => lhs; unfold pickTo
  rw [if_pos ⟨h, hl⟩]
theorem pick_out {s : Nat} {ld : List Int} {j : Nat} (h : s.testBit (j + 1) = false ∨ ¬ (pickTo s ld j = 0 ∨ nodeLd ld (j + 1) < nodeLd ld (pickTo s ld j))) : pickTo s ld (j + 1) = pickTo s ld j := by
  conv => lhs; unfold pickTo
  rw [if_neg]
  rintro ⟨h1, h2⟩
  rcases h with h | h
  · rw [h] at h1; cases h1
  · exact h h2
/-- Which nodes of a region are free. -/
theorem free_bit {rs : List Int} {u j : Nat} {x r : Int} (h9 : rs.length ≤ 9) (hx : rs[j]? = some x) : (anF (regF rs r) u).testBit (j + 1) = (decide (x = r) && !hasF u ((j + 1 : Nat) : Int)) := by
  obtain ⟨hj, rfl⟩ := List.getElem?_eq_some_iff.1 hx
  rw [an_bit, reg_bit h9, hasF_node (by omega) (by omega)]
  congr 1
  rw [decide_eq_decide]
  have e : rs.getD (j + 1 - 1) (-1) = rs[j] := by rw [List.getD_eq_getElem?_getD, show j + 1 - 1 = j by omega, List.getElem?_eq_getElem hj]; rfl
  rw [e]
  exact ⟨fun h => h.2.2, fun h => ⟨by omega, by omega, h⟩⟩
theorem free_end {rs ld : List Int} {u : Nat} {r : Int} (h9 : rs.length ≤ 9) : pickTo (anF (regF rs r) u) ld rs.length = pickF (anF (regF rs r) u) ld := by
  refine (pick_skip h9 fun m h1 h2 => ?_).symm
  rw [an_bit, reg_bit h9]
  simp; omega
/-- The lowest bit of a set, and the set without it: at each of the 1,024. -/
theorem low_fact : ∀ x : Fin 1024, x.val ≠ 0 → Lib.ctz 16 x.val < 10 ∧ x.val.testBit (Lib.ctz 16 x.val) = true ∧ (∀ i : Fin 10, i.val < Lib.ctz 16 x.val → x.val.testBit i.val = false) ∧ x.val &&& (x.val - 1) = x.val >>> (Lib.ctz 16 x.val + 1) <<< (Lib.ctz 16 x.val + 1) := by decide +kernel
/-- The nodes from m on. -/
def hiF (s m : Nat) : Nat := s >>> m <<< m
theorem hi_bit (s m i : Nat) : (hiF s m).testBit i = (decide (m ≤ i) && s.testBit i) := by
  unfold hiF
  rw [Nat.testBit_shiftLeft, Nat.testBit_shiftRight]
  by_cases h : m ≤ i
  · simp [h, show m + (i - m) = i by omega]
  · simp [h]
theorem hi_le (s m : Nat) : hiF s m ≤ s := by
  unfold hiF
  rw [Nat.shiftRight_eq_div_pow, Nat.shiftLeft_eq]
  exact Nat.div_mul_le_self s (2 ^ m)
theorem hi_one {s : Nat} (h : mayF s = true) : hiF s 1 = s := by
  apply Nat.eq_of_testBit_eq
  intro i
  rw [hi_bit]
  cases hb : s.testBit i
  · simp
  · simpa using (may_bits.1 h i hb).1
theorem low_spec {x : Nat} (hx : x < 1024) (h0 : x ≠ 0) : Lib.ctz 16 x < 10 ∧ x.testBit (Lib.ctz 16 x) = true ∧ (∀ i, i < Lib.ctz 16 x → x.testBit i = false) ∧ x &&& (x - 1) = hiF x (Lib.ctz 16 x + 1) := by
  obtain ⟨h1, h2, h3, h4⟩ := low_fact ⟨x, hx⟩ h0
  exact ⟨h1, h2, fun i hi => h3 ⟨i, Nat.lt_trans hi h1⟩ hi, h4⟩
theorem low_eq {x k : Nat} (hx : x < 1024) (hk : x.testBit k = true) (hl : ∀ i, i < k → x.testBit i = false) : Lib.ctz 16 x = k := by
  have h0 : x ≠ 0 := by rintro rfl; simp at hk
  obtain ⟨h1, h2, h3, _⟩ := low_spec hx h0
  rcases Nat.lt_trichotomy (Lib.ctz 16 x) k with h | h | h
  · rw [hl _ h] at h2; cases h2
  · exact h
  · rw [h3 _ h] at hk; cases hk
/-- The best so far, when the nodes below m have been seen. -/
def bestF (s : Nat) (ld : List Int) (m : Nat) : Nat := if pickTo s ld (m - 1) = 0 then Lib.ctz 16 s else pickTo s ld (m - 1)
theorem best_node {s : Nat} (ld : List Int) (m : Nat) (h : mayF s = true) (h0 : s ≠ 0) : 1 ≤ bestF s ld m ∧ bestF s ld m ≤ 9 := by
  unfold bestF
  split
  · exact may_bits.1 h _ (low_spec (may_lt h) h0).2.1
  · rename_i hp
    exact may_bits.1 h _ (pick_mem hp)
theorem light_next {s m : Nat} {ld : List Int} (h : mayF s = true) (h1 : 1 ≤ m) (hx : hiF s m ≠ 0) :
    m ≤ Lib.ctz 16 (hiF s m) ∧ Lib.ctz 16 (hiF s m) ≤ 9 ∧ hiF s m &&& (hiF s m - 1) = hiF s (Lib.ctz 16 (hiF s m) + 1) ∧
      bestF s ld (Lib.ctz 16 (hiF s m) + 1) = if nodeLd ld (Lib.ctz 16 (hiF s m)) < nodeLd ld (bestF s ld m) then Lib.ctz 16 (hiF s m) else bestF s ld m := by
  have hlt : hiF s m < 1024 := Nat.lt_of_le_of_lt (hi_le s m) (may_lt h)
  obtain ⟨k1, k2, k3, k4⟩ := low_spec hlt hx
  generalize hk : Lib.ctz 16 (hiF s m) = k at *
  rw [hi_bit, Bool.and_eq_true, decide_eq_true_eq] at k2
  obtain ⟨hm, hb⟩ := k2
  have hs : ∀ i, m ≤ i → i < k → s.testBit i = false := fun i h1 h2 => by
    have := k3 i h2
    rw [hi_bit] at this
    simpa [h1] using this
  refine ⟨hm, by omega, ?_, ?_⟩
  · rw [k4]
    apply Nat.eq_of_testBit_eq
    intro i
    rw [hi_bit, hi_bit, hi_bit]
    by_cases h : k + 1 ≤ i
    · simp [h, show m ≤ i by omega]
    · simp [h]
  · have e1 : k + 1 - 1 = k := by omega
    have hsk : pickTo s ld (k - 1) = pickTo s ld (m - 1) := pick_skip (by omega) fun i i1 i2 => hs i (by omega) (by omega)
    have hstep : pickTo s ld k = if s.testBit k = true ∧ (pickTo s ld (m - 1) = 0 ∨ nodeLd ld k < nodeLd ld (pickTo s ld (m - 1))) then k else pickTo s ld (m - 1) := by
      obtain ⟨j, rfl⟩ : ∃ j, k = j + 1 := ⟨k - 1, by omega⟩
      rw [show j + 1 - 1 = j by omega] at hsk
      conv => lhs; unfold pickTo
      rw [hsk]
    unfold bestF
    rw [e1]
    by_cases hp : pickTo s ld (m - 1) = 0
    · have hlow : Lib.ctz 16 s = k := by
        refine low_eq (may_lt h) hb fun i hi => ?_
        by_cases h0 : i = 0
        · subst h0
          cases hz : s.testBit 0
          · rfl
          · have := (may_bits.1 h 0 hz).1; omega
        · by_cases hl : i < m
          · exact pick_zero.1 hp i (by omega) (by omega)
          · exact hs i (by omega) hi
      have hpk : pickTo s ld k = k := by rw [hstep, if_pos ⟨hb, .inl hp⟩]
      rw [hpk, if_neg (show ¬ k = 0 by omega), if_pos hp, hlow]
      split <;> rfl
    · by_cases hl : nodeLd ld k < nodeLd ld (pickTo s ld (m - 1))
      · have hpk : pickTo s ld k = k := by rw [hstep, if_pos ⟨hb, .inr hl⟩]
        rw [hpk, if_neg (show ¬ k = 0 by omega), if_neg hp, if_pos hl]
      · have hpk : pickTo s ld k = pickTo s ld (m - 1) := by rw [hstep, if_neg (fun h => h.2.elim hp hl)]
        rw [hpk, if_neg hp, if_neg hl]
theorem light_end {s m : Nat} {ld : List Int} (h : mayF s = true) (h0 : s ≠ 0) (h1 : 1 ≤ m) (hm : m ≤ 10) (hx : hiF s m = 0) : bestF s ld m = pickF s ld := by
  have hs : ∀ i, m ≤ i → s.testBit i = false := fun i hi => by
    have : (hiF s m).testBit i = false := by rw [hx]; simp
    rw [hi_bit] at this
    simpa [hi] using this
  have e : pickF s ld = pickTo s ld (m - 1) := pick_skip (by omega) fun i i1 i2 => hs i (by omega)
  unfold bestF
  rw [e]
  split
  · rename_i hp
    exfalso
    have hb := (low_spec (may_lt h) h0).2.1
    have h19 := may_bits.1 h _ hb
    by_cases hl : Lib.ctz 16 s < m
    · rw [pick_zero.1 hp _ h19.1 (by omega)] at hb; cases hb
    · rw [hs _ (by omega)] at hb; cases hb
  · rfl
theorem pick_node {s : Nat} {ld : List Int} (h : mayF s = true) (h0 : s ≠ 0) : 1 ≤ pickF s ld ∧ pickF s ld ≤ 9 ∧ s.testBit (pickF s ld) = true := by
  have hne : pickF s ld ≠ 0 := by
    intro hp
    apply h0
    apply Nat.eq_of_testBit_eq
    intro i
    cases hb : s.testBit i
    · simp
    · have h19 := may_bits.1 h i hb
      rw [pick_zero.1 hp i h19.1 h19.2] at hb; cases hb
  exact ⟨by omega, pick_le _ _ _, pick_mem hne⟩
theorem pick_none {s : Nat} {ld : List Int} (h : mayF s = true) : pickF s ld = 0 ↔ s = 0 := by
  constructor
  · intro hp
    refine Decidable.byContradiction fun h0 => ?_
    have := (pick_node (ld := ld) h h0).1
    omega
  · rintro rfl
    exact pick_zero.2 fun i _ _ => by simp
/-- What has been chosen, and all that has been. -/
structure StL where
  v : Nat
  w : Nat
  l : Nat
  u : Nat
def StL.sel (s : StL) : Nat → Nat
  | 0 => s.v
  | 1 => s.w
  | _ => s.l
def StL.put (s : StL) (i n : Nat) : StL :=
  match i with
  | 0 => ⟨withF s.v (n : Int), s.w, s.l, withF s.u (n : Int)⟩
  | 1 => ⟨s.v, withF s.w (n : Int), s.l, withF s.u (n : Int)⟩
  | _ => ⟨s.v, s.w, withF s.l (n : Int), withF s.u (n : Int)⟩
def zeroS : StL := ⟨0, 0, 0, 0⟩
/-- One node more, of region x.1, for what x.2 names. -/
def stepF (rs ld : List Int) (s : StL) (x : Nat × Nat) : Option StL :=
  if pickF (anF (regF rs (x.1 : Int)) s.u) ld = 0 then none else some (s.put x.2 (pickF (anF (regF rs (x.1 : Int)) s.u) ld))
def runF (rs ld : List Int) (xs : List (Nat × Nat)) : Option StL := xs.foldlM (stepF rs ld) zeroS
theorem run_snoc (rs ld : List Int) (xs : List (Nat × Nat)) (x : Nat × Nat) : runF rs ld (xs ++ [x]) = (runF rs ld xs).bind fun s => stepF rs ld s x := by
  unfold runF
  rw [List.foldlM_append]
  simp
theorem run_none {rs ld : List Int} {xs ys : List (Nat × Nat)} (h : runF rs ld xs = none) : runF rs ld (xs ++ ys) = none := by
  unfold runF at *
  rw [List.foldlM_append, h]
  rfl
def ZnL.cnt (z : ZnL) (i r : Nat) : Nat := ((z.lst i).getD r 0).toNat
def regP (z : ZnL) (r i : Nat) : List (Nat × Nat) := (List.range i).flatMap fun i => List.replicate (z.cnt i r) (r, i)
def preF (z : ZnL) (r : Nat) : List (Nat × Nat) := (List.range r).flatMap fun r => regP z r 3
def picksF (z : ZnL) : List (Nat × Nat) := preF z 4
theorem reg_succ (z : ZnL) (r i : Nat) : regP z r (i + 1) = regP z r i ++ List.replicate (z.cnt i r) (r, i) := by
  unfold regP; rw [List.range_succ, List.flatMap_append]; simp
theorem pre_succ (z : ZnL) (r : Nat) : preF z (r + 1) = preF z r ++ regP z r 3 := by
  unfold preF; rw [List.range_succ, List.flatMap_append]; simp
theorem pre_le (z : ZnL) : ∀ (a b : Nat), a ≤ b → ∃ t, preF z b = preF z a ++ t := by
  intro a b h
  induction b with
  | zero => obtain rfl : a = 0 := by omega
            exact ⟨[], by simp⟩
  | succ b ih =>
    by_cases e : a = b + 1
    · subst e; exact ⟨[], by simp⟩
    · obtain ⟨t, ht⟩ := ih (by omega)
      exact ⟨t ++ regP z b 3, by rw [pre_succ, ht, List.append_assoc]⟩
theorem regP_le (z : ZnL) (r : Nat) : ∀ (a b : Nat), a ≤ b → ∃ t, regP z r b = regP z r a ++ t := by
  intro a b h
  induction b with
  | zero => obtain rfl : a = 0 := by omega
            exact ⟨[], by simp⟩
  | succ b ih =>
    by_cases e : a = b + 1
    · subst e; exact ⟨[], by simp⟩
    · obtain ⟨t, ht⟩ := ih (by omega)
      exact ⟨t ++ List.replicate (z.cnt b r) (r, b), by rw [reg_succ, ht, List.append_assoc]⟩
/-- What is taken up to the k-th of what i names, of region r, is the beginning of all. -/
theorem picks_at (z : ZnL) {r i k : Nat} (hr : r < 4) (hi : i < 3) (hk : k ≤ z.cnt i r) : ∃ t, picksF z = (preF z r ++ regP z r i ++ List.replicate k (r, i)) ++ t := by
  obtain ⟨t1, h1⟩ := pre_le z (r + 1) 4 (by omega)
  obtain ⟨t2, h2⟩ := regP_le z r (i + 1) 3 (by omega)
  refine ⟨List.replicate (z.cnt i r - k) (r, i) ++ t2 ++ t1, ?_⟩
  have h3 : List.replicate (z.cnt i r) (r, i) = List.replicate k (r, i) ++ List.replicate (z.cnt i r - k) (r, i) := by
    rw [List.replicate_append_replicate]; congr 1; omega
  unfold picksF
  rw [h1, pre_succ, h2, reg_succ, h3]
  simp only [List.append_assoc]
theorem rep_succ (k : Nat) (x : Nat × Nat) (xs : List (Nat × Nat)) : xs ++ List.replicate (k + 1) x = (xs ++ List.replicate k x) ++ [x] := by
  rw [List.replicate_succ', List.append_assoc]
/-- What Elect and Commit are. -/
def quoF (asked : Int) (n : Nat) : Int := if asked = 0 then ((n / 2 + 1 : Nat) : Int) else asked
def confOf (z : ZnL) (s : StL) : CfL := ⟨s.v, s.w, s.l, quoF z.e (cntF (s.v ||| s.w)), quoF z.k (cntF (s.v ||| s.w))⟩
def allotF (rs : List Int) (z : ZnL) (ld : List Int) : CfL × Int :=
  if (mayR rs && mayZ z) = true then (match runF rs ld (picksF z) with | none => (zeroC, 8) | some s => (confOf z s, 0)) else (zeroC, 1)
/-- Does a configuration stand without the nodes of g? -/
def withoutF (c : CfL) (g : Nat) : Bool := decide (c.e ≤ cntF (anF (votF c) g)) && decide (c.k ≤ cntF (anF (votF c) g)) && decide (0 < cntF (anF c.v g))
def lossL (rs : List Int) (what : Int) : List Nat :=
  if what = 1 then (List.range rs.length).map (fun i => bitF ((i + 1 : Nat) : Int)) else if what = 2 then (List.range 4).map (fun (r : Nat) => regF rs (r : Int)) else []
def firstF (what : Int) : Int := if what = 1 then 1 else 0
def survF (rs : List Int) (c : CfL) (what : Int) : Bool × Int :=
  if (mayR rs && mayS what) = true then (match (lossL rs what).findIdx? (fun g => !withoutF c g) with | none => (true, -1) | some i => (false, firstF what + i)) else (false, -1)
def checkF (rs : List Int) (z : ZnL) (ld : List Int) : CfL × Int :=
  if (allotF rs z ld).2 = 0 then (if mayC (allotF rs z ld).1 = true then (if (survF rs (allotF rs z ld).1 z.s).1 = true then ((allotF rs z ld).1, 0) else (zeroC, 12)) else (zeroC, 11)) else (zeroC, (allotF rs z ld).2)
theorem loss_all {L : List Nat} {c : CfL} {k : Nat} (h : ∀ g ∈ L.take k, withoutF c g = true) (hk : L.length = k) : L.findIdx? (fun g => !withoutF c g) = none := by
  rw [List.findIdx?_eq_none_iff]
  intro g hg
  rw [← hk, List.take_length] at h
  rw [h g hg]; rfl
theorem loss_at {L : List Nat} {c : CfL} {i g : Nat} (h : ∀ g ∈ L.take i, withoutF c g = true) (hg : L[i]? = some g) (hb : withoutF c g = false) : L.findIdx? (fun g => !withoutF c g) = some i := by
  obtain ⟨hi, rfl⟩ := List.getElem?_eq_some_iff.1 hg
  rw [List.findIdx?_eq_some_iff_getElem]
  refine ⟨hi, by rw [hb]; rfl, fun j hj => ?_⟩
  have : withoutF c L[j] = true := h _ (List.mem_take_iff_getElem.2 ⟨j, by omega, rfl⟩)
  rw [this]; decide
theorem loss_more {L : List Nat} {c : CfL} {i g : Nat} (h : ∀ g ∈ L.take i, withoutF c g = true) (hg : L[i]? = some g) (hb : withoutF c g = true) : ∀ g ∈ L.take (i + 1), withoutF c g = true := by
  obtain ⟨hi, rfl⟩ := List.getElem?_eq_some_iff.1 hg
  intro x hx
  rw [List.take_succ_eq_append_getElem hi] at hx
  rcases List.mem_append.1 hx with h1 | h1
  · exact h x h1
  · rw [List.mem_singleton] at h1; subst h1; exact hb
theorem loss_len (rs : List Int) (what : Int) : (lossL rs what).length = if what = 1 then rs.length else if what = 2 then 4 else 0 := by
  unfold lossL
  split
  · simp
  · split <;> simp
theorem within_bad {l : List Int} {m x : Int} {i : Nat} (h : l[i]? = some x) (hx : ¬ (0 ≤ x ∧ x ≤ m)) : withinB l m = false := by
  unfold withinB
  rw [List.all_eq_false]
  exact ⟨x, List.mem_of_getElem? h, by simp; omega⟩
theorem within_more {l : List Int} {m x : Int} {i : Nat} (h : ∀ y ∈ l.take i, 0 ≤ y ∧ y ≤ m) (hx : l[i]? = some x) (hm : 0 ≤ x ∧ x ≤ m) : ∀ y ∈ l.take (i + 1), 0 ≤ y ∧ y ≤ m := by
  obtain ⟨hi, rfl⟩ := List.getElem?_eq_some_iff.1 hx
  intro y hy
  rw [List.take_succ_eq_append_getElem hi] at hy
  rcases List.mem_append.1 hy with h1 | h1
  · exact h y h1
  · rw [List.mem_singleton] at h1; subst h1; exact hm
theorem within_good {l : List Int} {m : Int} {k : Nat} (h : ∀ y ∈ l.take k, 0 ≤ y ∧ y ≤ m) (hk : l.length = k) : withinB l m = true := by
  rw [← hk, List.take_length] at h
  unfold withinB
  rw [List.all_eq_true]
  intro y hy
  simpa using h y hy
theorem within_get {l : List Int} {m x : Int} {i : Nat} (h : withinB l m = true) (hx : l[i]? = some x) : 0 ≤ x ∧ x ≤ m := by
  unfold withinB at h
  rw [List.all_eq_true] at h
  simpa using h x (List.mem_of_getElem? hx)
/-- The nodes of each region, of the first i. -/
def tabL (rs : List Int) (i : Nat) : List Nat := (List.range 4).map fun (r : Nat) => regTo rs (r : Int) i
theorem tab_len (rs : List Int) (i : Nat) : (tabL rs i).length = 4 := by simp [tabL]
theorem tab_get (rs : List Int) (i r : Nat) (hr : r < 4) : (tabL rs i)[r]? = some (regTo rs (r : Int) i) := by
  simp [tabL, List.getElem?_map, List.getElem?_range hr]
theorem tab_succ {rs : List Int} {i a : Nat} (h : rs[i]? = some (a : Int)) : tabL rs (i + 1) = (tabL rs i).set a (withF (regTo rs (a : Int) i) ((i + 1 : Nat) : Int)) := by
  have hd : rs.getD i (-1) = (a : Int) := by rw [List.getD_eq_getElem?_getD, h]; rfl
  apply List.ext_getElem?
  intro r
  rw [List.getElem?_set]
  by_cases hr : r < 4
  · rw [tab_get _ _ _ hr, tab_get _ _ _ hr, tab_len]
    have hu : regTo rs (r : Int) (i + 1) = if rs.getD i (-1) = (r : Int) then withF (regTo rs (r : Int) i) ((i + 1 : Nat) : Int) else regTo rs (r : Int) i := rfl
    rw [hu, hd]
    by_cases e : a = r
    · subst e; simp [hr]
    · rw [if_neg (by omega), if_neg e]
  · rw [List.getElem?_eq_none (by rw [tab_len]; omega), List.getElem?_eq_none (l := tabL rs i) (by rw [tab_len]; omega), tab_len]
    split
    · rw [if_neg (by omega)]
    · rfl
/-- What so many choices make of what is chosen and what is free; none: too few are free. -/
def chooseTo (ld : List Int) (c f : Nat) : Nat → Option (Nat × Nat)
  | 0 => some (c, f)
  | j + 1 => (chooseTo ld c f j).bind fun x => if x.2 = 0 then none else some (withF x.1 ((pickF x.2 ld : Nat) : Int), lessF x.2 ((pickF x.2 ld : Nat) : Int))
theorem choose_none {ld : List Int} {c f j k : Nat} (h : chooseTo ld c f j = none) (hj : j ≤ k) : chooseTo ld c f k = none := by
  induction k with
  | zero => obtain rfl : j = 0 := by omega
            exact h
  | succ k ih =>
    by_cases e : j = k + 1
    · subst e; exact h
    · unfold chooseTo; rw [ih (by omega)]; rfl
theorem choose_zero {ld : List Int} {c f j k c' : Nat} (h : chooseTo ld c f j = some (c', 0)) (hj : j < k) : chooseTo ld c f k = none := by
  refine choose_none (j := j + 1) ?_ hj
  unfold chooseTo; rw [h]; rfl
theorem choose_succ {ld : List Int} {c f j c' f' : Nat} (h : chooseTo ld c f j = some (c', f')) (hf : f' ≠ 0) : chooseTo ld c f (j + 1) = some (withF c' ((pickF f' ld : Nat) : Int), lessF f' ((pickF f' ld : Nat) : Int)) := by
  conv => lhs; unfold chooseTo
  rw [h]; simp [hf]
end Go.Proofs.YtfcljdpjjabhjaaDoor.zn
