/- Plain numbers and lists for package bits: big-endian bytes, varints, zigzag, sums and products of 64 bits. It speaks of no program. -/
import Derived.RowKit
import Derived.Laws.Bits64
import Derived.Lib.EndianBits
namespace Go.Proofs.Yteadkgjikaikjaa.nums

/-- Each number is a byte. -/
def Byt (l : List Int) : Prop := ∀ x ∈ l, 0 ≤ x ∧ x ≤ 255
theorem Byt.nil : Byt [] := fun x h => by cases h
theorem Byt.append {l m : List Int} (h : Byt l) (k : Byt m) : Byt (l ++ m) := fun x hx => by
  rcases List.mem_append.1 hx with hx | hx
  · exact h x hx
  · exact k x hx
theorem Byt.one {x : Int} (h0 : 0 ≤ x) (h1 : x ≤ 255) : Byt [x] := fun y hy => by
  rw [List.mem_singleton] at hy; subst hy; exact ⟨h0, h1⟩
theorem Byt.at_ {l : List Int} (h : Byt l) (j : Nat) : 0 ≤ l.getD j 0 ∧ l.getD j 0 ≤ 255 := by
  rw [List.getD_eq_getElem?_getD]
  rcases e : l[j]? with _ | x
  · simp
  · exact h x (List.mem_of_getElem? e)
theorem Byt.take {l : List Int} (h : Byt l) (j : Nat) : Byt (l.take j) := fun x hx => h x (List.mem_of_mem_take hx)
theorem Byt.drop {l : List Int} (h : Byt l) (j : Nat) : Byt (l.drop j) := fun x hx => h x (List.mem_of_mem_drop hx)

/-- The number that bytes are, the highest first. -/
def beV (l : List Int) : Int := l.foldl (fun a x => a * 256 + x) 0
theorem beV_snoc (l : List Int) (x : Int) : beV (l ++ [x]) = beV l * 256 + x := by simp [beV]
theorem beV_acc (l : List Int) : ∀ (a : Int) (m : Nat), Byt l → 0 ≤ a → a < 256 ^ m → 0 ≤ l.foldl (fun a x => a * 256 + x) a ∧ l.foldl (fun a x => a * 256 + x) a < 256 ^ (m + l.length) := by
  induction l with
  | nil => intro a m _ h0 h1; exact ⟨h0, h1⟩
  | cons x l ih =>
    intro a m hb h0 h1
    obtain ⟨g0, g1⟩ := hb x (by simp)
    have h := ih (a * 256 + x) (m + 1) (fun y hy => hb y (List.mem_cons_of_mem _ hy)) (by omega) (by rw [Int.pow_succ]; generalize (256 : Int) ^ m = q at *; omega)
    rw [List.foldl_cons, List.length_cons, show m + (l.length + 1) = m + 1 + l.length by omega]
    exact h
theorem beV_bound (l : List Int) (h : Byt l) : 0 ≤ beV l ∧ beV l < 256 ^ l.length := by
  have := beV_acc l 0 0 h (by omega) (by decide)
  rw [Nat.zero_add] at this
  exact this
theorem beV_lt (l : List Int) (h : Byt l) (hl : l.length ≤ 7) : 0 ≤ beV l ∧ beV l ≤ 72057594037927935 := by
  obtain ⟨h0, h1⟩ := beV_bound l h
  have h2 : (((256 : Nat) ^ l.length : Nat) : Int) ≤ ((256 ^ 7 : Nat) : Int) := Int.ofNat_le.2 (Nat.pow_le_pow_right (by decide) hl)
  rw [Int.natCast_pow] at h2
  have e : ((256 ^ 7 : Nat) : Int) = 72057594037927936 := by decide
  have e2 : ((256 : Nat) : Int) = 256 := rfl
  rw [e, e2] at h2
  exact ⟨h0, by omega⟩
theorem beV_or (a x : Int) (h0 : 0 ≤ a) (h1 : a ≤ 72057594037927935) (g0 : 0 ≤ x) (g1 : x ≤ 255) : bits .or .u64 (a * 256) x = a * 256 + x := by
  exact bits_join .u64 64 (by decide) wraps_u64 8 _ _ (by omega) (by omega) (by omega) g0 (by omega) (by omega)

/-- The lowest k bytes of v, the highest first. -/
def beB (v : Int) (k : Nat) : List Int := (List.range k).map fun j => v / 2 ^ (8 * (k - 1 - j)) % 256
theorem beB_length (v : Int) (k : Nat) : (beB v k).length = k := by simp [beB]
theorem beB_take (v : Int) (k m j : Nat) (h : m + 1 + j = k) : (beB v k).take (j + 1) = (beB v k).take j ++ [v / 2 ^ (8 * m) % 256] := by
  have hj : j < (beB v k).length := by rw [beB_length]; omega
  rw [List.take_succ_eq_append_getElem hj]
  have e : k - 1 - j = m := by omega
  simp [beB, e]
theorem beB_drop (v : Int) (k m j : Nat) (h : m + 1 + j = k) : (beB v k).drop m = v / 2 ^ (8 * j) % 256 :: (beB v k).drop (m + 1) := by
  have hm : m < (beB v k).length := by rw [beB_length]; omega
  rw [List.drop_eq_getElem_cons hm]
  have e : k - 1 - m = j := by omega
  simp [beB, e]
theorem div_step (v : Int) (j : Nat) : v / 2 ^ (8 * j) / 256 = v / 2 ^ (8 * (j + 1)) := by
  rw [Int.ediv_ediv_of_nonneg (Int.le_of_lt (Int.pow_pos (by decide))), show 8 * (j + 1) = 8 * j + 8 by omega, Int.pow_add]
  rfl
theorem beB_byt (v : Int) (k : Nat) : Byt (beB v k) := fun x hx => by
  obtain ⟨j, _, rfl⟩ := List.mem_map.1 hx
  omega
theorem beB_all (v : Int) (k : Nat) : (beB v k).take k = beB v k := List.take_of_length_le (by rw [beB_length]; exact Nat.le_refl _)
end Go.Proofs.Yteadkgjikaikjaa.nums
