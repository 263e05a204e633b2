/- Plain facts: bytes of one length stand in the order of the numbers that they are; a stamp's bytes are its two numbers. It speaks of no program. -/
import Derived.Test.YtodpaeaeigjmdaaDoorSt
import Derived.Test.YtodpaeaeigjmdaaDoorStr
import Derived.Sort.Walk0
namespace Go.Proofs.YtodpaeaeigjmdaaDoor.st
open Go Go.Proofs.YtodpaeaeigjmdaaDoor.nums
set_option linter.unusedVariables false

theorem beV_cons (x : Int) (l : List Int) : beV (x :: l) = x * 256 ^ l.length + beV l := by
  have key : ∀ (l : List Int) (a : Int), l.foldl (fun a x => a * 256 + x) a = a * 256 ^ l.length + l.foldl (fun a x => a * 256 + x) 0 := by
    intro l
    induction l with
    | nil => intro a; simp
    | cons y l ih =>
      intro a
      rw [List.foldl_cons, List.foldl_cons, ih (a * 256 + y), ih (0 * 256 + y), List.length_cons, Int.pow_succ]
      generalize (256 : Int) ^ l.length = q
      rw [Int.zero_mul, Int.zero_add, Int.add_mul, Int.mul_assoc, Int.mul_comm 256 q, Int.add_assoc]
  have h := key l x
  unfold beV
  rw [List.foldl_cons, Int.zero_mul, Int.zero_add]
  exact h
theorem beV_append (l m : List Int) : beV (l ++ m) = beV l * 256 ^ m.length + beV m := by
  induction l with
  | nil => simp [beV]
  | cons x l ih =>
    rw [List.cons_append, beV_cons, beV_cons, ih, List.length_append, Int.pow_add, Int.add_mul, Int.mul_assoc, Int.add_assoc]
theorem u8_lt {x y : Int} (hx : 0 ≤ x ∧ x ≤ 255) (hy : 0 ≤ y ∧ y ≤ 255) : decide (UInt8.ofNat x.toNat < UInt8.ofNat y.toNat) = decide (x < y) := by
  have h1 := u8_of x hx.1 hx.2
  have h2 := u8_of y hy.1 hy.2
  apply decide_eq_decide.2
  rw [UInt8.lt_iff_toNat_lt]
  omega
theorem u8_eq {x y : Int} (hx : 0 ≤ x ∧ x ≤ 255) (hy : 0 ≤ y ∧ y ≤ 255) : (UInt8.ofNat x.toNat == UInt8.ofNat y.toNat) = decide (x = y) := by
  have h1 := u8_of x hx.1 hx.2
  have h2 := u8_of y hy.1 hy.2
  rw [Bool.eq_iff_iff]
  simp only [beq_iff_eq, decide_eq_true_eq]
  exact ⟨fun h => by rw [← h1, ← h2, h], fun h => by rw [h]⟩
/-- Bytes of one length stand in the order of their numbers. -/
theorem less_beV : ∀ (l m : List Int), Byt l → Byt m → l.length = m.length → Op.bytesLess (l.map (fun n => UInt8.ofNat n.toNat)) (m.map (fun n => UInt8.ofNat n.toNat)) = decide (beV l < beV m)
  | [], [], _, _, _ => by simp [Op.bytesLess]
  | [], _ :: _, _, _, h => by cases h
  | _ :: _, [], _, _, h => by cases h
  | x :: l, y :: m, hl, hm, h => by
    have hlm : l.length = m.length := by simpa using h
    have hx := hl x (by simp)
    have hy := hm y (by simp)
    have hl2 : Byt l := fun z hz => hl z (List.mem_cons_of_mem _ hz)
    have hm2 : Byt m := fun z hz => hm z (List.mem_cons_of_mem _ hz)
    have b1 := beV_bound l hl2
    have b2 := beV_bound m hm2
    rw [List.map_cons, List.map_cons, Op.bytesLess, less_beV l m hl2 hm2 hlm, u8_lt hx hy, u8_eq hx hy, beV_cons, beV_cons, hlm]
    rw [hlm] at b1
    generalize beV l = p at *
    generalize beV m = q at *
    generalize (256 : Int) ^ m.length = r at *
    rcases Int.lt_trichotomy x y with hlt | rfl | hgt
    · have h1 : x * r + p < y * r + q := by
        have : (x + 1) * r ≤ y * r := Int.mul_le_mul_of_nonneg_right (by omega) (by omega)
        rw [Int.add_mul, Int.one_mul] at this
        omega
      simp [hlt, h1]
    · simp
    · have h1 : ¬ x * r + p < y * r + q := by
        have : (y + 1) * r ≤ x * r := Int.mul_le_mul_of_nonneg_right (by omega) (by omega)
        rw [Int.add_mul, Int.one_mul] at this
        omega
      have h2 : ¬ x < y := by omega
      have h3 : ¬ x = y := by omega
      simp [h1, h2, h3]
theorem str_less {l m : List Int} (hl : Byt l) (hm : Byt m) (h : l.length = m.length) : Op.bytesLess (strOfNums l).toList (strOfNums m).toList = decide (beV l < beV m) := by
  rw [ByteArray.toList_eq, ByteArray.toList_eq, ← less_beV l m hl hm h]
  congr 1 <;> simp [strOfNums]
theorem beV_beB (v : Int) (k : Nat) (h0 : 0 ≤ v) (h : v / 2 ^ (8 * k) = 0) : beV (beB v k) = v := by
  have key : ∀ j, j ≤ k → beV ((beB v k).take j) = v / 2 ^ (8 * (k - j)) := by
    intro j
    induction j with
    | zero => intro _; rw [Nat.sub_zero, h]; rfl
    | succ j ih =>
      intro hj
      rw [beB_take v k (k - j - 1) j (by omega), beV_snoc, ih (by omega), show k - j = (k - j - 1) + 1 by omega, ← div_step, show k - (j + 1) = k - j - 1 by omega, show (k - j - 1 + 1) - 1 = k - j - 1 by omega]
      generalize v / 2 ^ (8 * (k - j - 1)) = u
      omega
  have := key k (Nat.le_refl _)
  rw [beB_all, Nat.sub_self] at this
  simpa using this
theorem beV_beB8 (v : Int) (h0 : 0 ≤ v) (h1 : v ≤ 18446744073709551615) : beV (beB v 8) = v := beV_beB v 8 h0 (Int.ediv_eq_zero_of_lt h0 (by omega))
theorem stB_len (a : StL) : (stB a).length = 16 := by unfold stB; rw [List.length_append, beB_length, beB_length]
theorem stB_byt (a : StL) : Byt (stB a) := (beB_byt _ _).append (beB_byt _ _)
theorem stB_less (a b : StL) (ha : a.ok) (hb : b.ok) : Op.bytesLess (strOfNums (stB a)).toList (strOfNums (stB b)).toList = lessF a b := by
  rw [str_less (stB_byt a) (stB_byt b) (by rw [stB_len, stB_len])]
  obtain ⟨p, q⟩ := a
  obtain ⟨r, s⟩ := b
  obtain ⟨⟨p0, p1⟩, q0, q1⟩ := ha
  obtain ⟨⟨r0, r1⟩, s0, s1⟩ := hb
  unfold stB lessF
  dsimp only at *
  rw [beV_append, beV_append, beB_length, beB_length, beV_beB8 _ (by omega) (by omega), beV_beB8 _ (by omega) (by omega), beV_beB8 _ (by omega) (by omega), beV_beB8 _ (by omega) (by omega), show (256 : Int) ^ 8 = 18446744073709551616 by decide]
  rw [Bool.eq_iff_iff]
  simp only [decide_eq_true_eq, Bool.or_eq_true, Bool.and_eq_true]
  omega
theorem take_stB (a : StL) (ha : a.ok) : takeF (stB a) = a ∧ takeE (stB a) = 0 := by
  obtain ⟨p, q⟩ := a
  obtain ⟨⟨p0, p1⟩, q0, q1⟩ := ha
  constructor
  · unfold takeF
    rw [if_pos (stB_len _)]
    unfold stB
    dsimp only at *
    rw [List.take_left' (beB_length _ _), List.drop_left' (beB_length _ _), beV_beB8 _ (by omega) (by omega), beV_beB8 _ (by omega) (by omega)]
    congr 1 <;> omega
  · unfold takeE
    rw [stB_len]; rfl
theorem takeE_more (l m : List Int) (h : l.length = 16) : decide (takeE (l ++ m) = 0) = decide (m.length = 0) := by
  unfold takeE
  rw [List.length_append, h]
  rcases hm : m.length with _ | k
  · rfl
  · rw [if_neg (by omega), if_pos (by omega)]; simp
end Go.Proofs.YtodpaeaeigjmdaaDoor.st
