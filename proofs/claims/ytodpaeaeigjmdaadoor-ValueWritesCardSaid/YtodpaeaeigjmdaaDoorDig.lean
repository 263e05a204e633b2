/- Numbers in decimal, and quotes doubled: the library's words for them are ours. It speaks of no program. -/
import Derived.Test.YtodpaeaeigjmdaaDoorVa
import Derived.Lib.ItoaNum
import Derived.Lib.ReplaceLaws
namespace Go.Proofs.YtodpaeaeigjmdaaDoor.dig
open Go Go.Proofs.YtodpaeaeigjmdaaDoor.nums Go.Proofs.YtodpaeaeigjmdaaDoor.st Go.Proofs.YtodpaeaeigjmdaaDoor.va
set_option linter.unusedVariables false

def u8 (l : List Int) : List UInt8 := l.map fun n => UInt8.ofNat n.toNat
theorem dec_lt (u : Nat) (h : u < 10) : Lib.decDigits u = [UInt8.ofNat (48 + u)] := by rw [Lib.decDigits, dif_pos h]
theorem dec_ge (u : Nat) (h : ¬ u < 10) : Lib.decDigits u = Lib.decDigits (u / 10) ++ [UInt8.ofNat (48 + u % 10)] := by rw [Lib.decDigits, dif_neg h]
theorem u8_dig : ∀ (k u : Nat), u < 10 ^ k → 0 < u → u8 (digN k u) = Lib.decDigits u
  | 0, u, h, h0 => by simp at h; omega
  | k + 1, u, h, h0 => by
    have e1 : digN (k + 1) (u : Int) = digN k ((u / 10 : Nat) : Int) ++ [48 + ((u % 10 : Nat) : Int)] :=
       (if_neg (show ¬ (u : Int) = 0 by omega) : digN (k + 1) (u : Int) = digN k ((u : Int) / 10) ++ [48 + (u : Int) % 10])
    have e2 : UInt8.ofNat (48 + ((u % 10 : Nat) : Int)).toNat = UInt8.ofNat (48 + u % 10) := by congr 1
    rw [e1, u8, List.map_append, List.map_cons, List.map_nil, e2]
    by_cases hu : u < 10
    · rw [dec_lt u hu, show u / 10 = 0 by omega, show u % 10 = u by omega]
      have : digN k ((0 : Nat) : Int) = [] := by cases k <;> simp [digN]
      rw [this]; rfl
    · rw [dec_ge u hu, ← u8_dig k (u / 10) (by rw [Nat.pow_succ] at h; omega) (by omega)]
      rfl
theorem u8_digF (v : Int) (h0 : -9223372036854775808 ≤ v) (h1 : v ≤ 9223372036854775807) : u8 (digF v) = Lib.itoa v := by
  unfold digF Lib.itoa
  by_cases hz : v = 0
  · subst hz
    rw [if_pos rfl, if_neg (by omega), dec_lt _ (by decide)]
    rfl
  rw [if_neg hz]
  by_cases hn : v < 0
  · rw [if_pos hn, if_pos hn]
    have e : -v = ((v.natAbs : Nat) : Int) := by omega
    rw [e]
    show UInt8.ofNat 45 :: u8 (digN 20 (v.natAbs : Int)) = _
    rw [u8_dig 20 v.natAbs (by omega) (by omega)]
    rfl
  · rw [if_neg hn, if_neg hn]
    obtain ⟨u, rfl⟩ := Int.eq_ofNat_of_zero_le (show 0 ≤ v by omega)
    rw [u8_dig 20 u (by omega) (by omega)]
    rfl
def quoB : List UInt8 → List UInt8
  | [] => []
  | x :: l => if x = 39 then 39 :: 39 :: quoB l else x :: quoB l
theorem u8_quo : ∀ (s : List Int), Byt s → u8 (quo s) = quoB (u8 s)
  | [], _ => rfl
  | x :: l, h => by
    have hx := h x (by simp)
    have ih := u8_quo l (fun y hy => h y (List.mem_cons_of_mem _ hy))
    by_cases h39 : x = 39
    · subst h39
      show u8 (39 :: 39 :: quo l) = quoB (39 :: u8 l)
      rw [quoB, if_pos rfl, ← ih]
      rfl
    · rw [show quo (x :: l) = x :: quo l from if_neg h39]
      show UInt8.ofNat x.toNat :: u8 (quo l) = quoB (UInt8.ofNat x.toNat :: u8 l)
      have hne : ¬ UInt8.ofNat x.toNat = 39 := fun e => by
        have := congrArg UInt8.toNat e
        simp at this
        omega
      rw [quoB, if_neg hne, ih]
theorem index_ne (c x : UInt8) (t : List UInt8) (h : x ≠ c) : Lib.index (x :: t) [c] = if Lib.index t [c] == -1 then -1 else Lib.index t [c] + 1 := by
  have hp : ([c] : List UInt8).isPrefixOf (x :: t) = false := by simp [List.isPrefixOf, Ne.symm h]
  rw [Lib.index, hp]; simp
theorem index_eq (c : UInt8) (t : List UInt8) : Lib.index (c :: t) [c] = 0 := by
  have hp : ([c] : List UInt8).isPrefixOf (c :: t) = true := by simp [List.isPrefixOf]
  rw [Lib.index, hp]; simp
theorem rep_ne (c : UInt8) (new : List UInt8) (k : Nat) (x : UInt8) (t : List UInt8) (h : x ≠ c) : Lib.replaceK [c] new k (x :: t) = x :: Lib.replaceK [c] new k t := by
  cases k with
  | zero => rfl
  | succ k =>
    rw [Lib.replaceK, Lib.replaceK, index_ne c x t h]
    by_cases hi : Lib.index t [c] = -1
    · simp [hi]
    · have hg := Lib.index_ge t [c]
      obtain ⟨i, hi'⟩ : ∃ i : Nat, Lib.index t [c] = i := ⟨(Lib.index t [c]).toNat, by omega⟩
      rw [hi']
      have e1 : ((i : Int) == -1) = false := by simp
      have e2 : ((i : Int) + 1 == -1) = false := by simp; omega
      have e3 : ((i : Int) + 1).toNat = i + 1 := by omega
      simp only [e1, e2, e3, Bool.false_eq_true, if_false]
      simp
theorem rep_eq (c : UInt8) (new : List UInt8) (k : Nat) (t : List UInt8) : Lib.replaceK [c] new (k + 1) (c :: t) = new ++ Lib.replaceK [c] new k t := by
  rw [Lib.replaceK, index_eq]
  simp
theorem rep_quo : ∀ t : List UInt8, Lib.replaceK [39] [39, 39] (t.count 39) t = quoB t
  | [] => rfl
  | x :: t => by
    by_cases h : x = 39
    · subst h
      rw [List.count_cons_self, rep_eq, rep_quo t, quoB, if_pos rfl]
      rfl
    · rw [List.count_cons_of_ne h, rep_ne _ _ _ _ _ h, rep_quo t, quoB, if_neg h]
theorem replace_quo (t : List UInt8) : Lib.replaceAll t [39] [39, 39] = quoB t := by
  unfold Lib.replaceAll Lib.replace Lib.replaceNum
  rw [if_neg (by decide), if_pos (Or.inl (by decide)), Lib.count_one]
  exact rep_quo t
end Go.Proofs.YtodpaeaeigjmdaaDoor.dig
