/- Texts of this claim, joined (Tk, Nums, St, Mv, Tail, MvP, MvK, MvL, MvT, MvO, MvF, Kit, Frame, Ref6, KitV, FrameV, FrameSt, KitM, KitC, KitM2): see each one's own words. -/
import Derived.Deep.RegionHeld3
import Derived.RowKit
import Derived.Laws.Bits64
import Derived.Lib.EndianBits
import GoSem.Op.String
import Derived.Lib.Bytealg
import Derived.WalkKit
import Derived.WalkLawsBesides
import Derived.WalkSpells
import Derived.OwnWalk
import Derived.Laws.CopyOwn
import Derived.Laws.BytesArg
import Derived.Lib.Hide
import Derived.Test.YtlkhmpfdajefiaaRows
import Derived.ProofKit
import Derived.OpenShut
import Derived.Test.YtlkhmpfdajefiaaProg
import Derived.Outline
import Derived.Handy
import Derived.BigQuiet
import Derived.Deep.Cut
import Derived.Lib.ConvBytes
import Derived.ArgAppend
/- One operation of a region that draws its order, taken: the law of the library with its side conditions filled in. It speaks of no program. -/
namespace Go.Proofs.Ytlkhmpfdajefiaa.kit
open Go
variable {P : Program} {ops : Array Oper} {md : Region.Mode} {Q : Exit → Act → World → Prop} {S : World → Prop}
theorem tk {fuel : Nat} {listed : Array Bool} {a : Act} {w : World} (i : Nat) (oi : Oper) (v : Value) (h : wpAnyH P md ops Q S fuel (listed.setIfInBounds i true) (a.put oi.dst v) w)
    (hi : ops[i]? = some oi := by rfl) (hs : Region.noSelect ops = true := by kernel_rfl) (hf : Region.free md ops listed i = true := by kernel_rfl) (hr : (Region.ready md ops listed).contains i = true := by kernel_rfl)
    (hQ : ∀ c a w, Q (.panic c) (a.put oi.dst v) w → Q (.panic c) a w := by exact fun _ _ _ h => h) (hw : Region.wanted oi (yielded ops a.tmps) = true := by rfl) (hS : S w := by assumption)
    (hy : ∀ w, S w → (execOp a.eval oi).run P w = .ok (.value v) w := by (intro wq hSw; (try dsimp only at hSw); go_simp; first | done | with_reducible rfl)) : wpAnyH P md ops Q S (fuel + 1) listed a w :=
  wpAnyH_take hi hs hf hr hQ (Or.inl ⟨hw, hy⟩) hS h
theorem tu {fuel : Nat} {listed : Array Bool} {a : Act} {w : World} (i : Nat) (oi : Oper) (h : wpAnyH P md ops Q S fuel (listed.setIfInBounds i true) (a.put oi.dst undef) w)
    (hi : ops[i]? = some oi := by rfl) (hs : Region.noSelect ops = true := by kernel_rfl) (hf : Region.free md ops listed i = true := by kernel_rfl) (hr : (Region.ready md ops listed).contains i = true := by kernel_rfl)
    (hQ : ∀ c a w, Q (.panic c) (a.put oi.dst undef) w → Q (.panic c) a w := by exact fun _ _ _ h => h) (hw : Region.wanted oi (yielded ops a.tmps) = false := by rfl) (hS : S w := by assumption) : wpAnyH P md ops Q S (fuel + 1) listed a w :=
  wpAnyH_take hi hs hf hr hQ (Or.inr ⟨hw, rfl⟩) hS h
end Go.Proofs.Ytlkhmpfdajefiaa.kit

/- Plain numbers and lists for package bits: big-endian bytes, varints, zigzag, sums and products of 64 bits. It speaks of no program. -/
namespace Go.Proofs.Ytlkhmpfdajefiaa.nums

/-- Each number is a byte. -/
def Byt (l : List Int) : Prop := ∀ x ∈ l, 0 ≤ x ∧ x ≤ 255
theorem Byt.nil : Byt [] := fun x h => by cases h
theorem Byt.append {l m : List Int} (h : Byt l) (k : Byt m) : Byt (l ++ m) := fun x hx => by
  rcases List.mem_append.1 hx with hx | hx
  · exact h x hx
  · exact k x hx
theorem Byt.one {x : Int} (h0 : 0 ≤ x) (h1 : x ≤ 255) : Byt [x] := fun y hy => by
  rw [List.mem_singleton] at hy; subst hy; exact ⟨h0, h1⟩
theorem Byt.at_ {l : List Int} (h : Byt l) (j : Nat) : 0 ≤ l.getD j 0 ∧ l.getD j 0 ≤ 255 := by
  rw [List.getD_eq_getElem?_getD]
  rcases e : l[j]? with _ | x
  · simp
  · exact h x (List.mem_of_getElem? e)
theorem Byt.take {l : List Int} (h : Byt l) (j : Nat) : Byt (l.take j) := fun x hx => h x (List.mem_of_mem_take hx)
theorem Byt.drop {l : List Int} (h : Byt l) (j : Nat) : Byt (l.drop j) := fun x hx => h x (List.mem_of_mem_drop hx)

/-- The number that bytes are, the highest first. -/
def beV (l : List Int) : Int := l.foldl (fun a x => a * 256 + x) 0
theorem beV_snoc (l : List Int) (x : Int) : beV (l ++ [x]) = beV l * 256 + x := by simp [beV]
theorem beV_acc (l : List Int) : ∀ (a : Int) (m : Nat), Byt l → 0 ≤ a → a < 256 ^ m → 0 ≤ l.foldl (fun a x => a * 256 + x) a ∧ l.foldl (fun a x => a * 256 + x) a < 256 ^ (m + l.length) := by
  induction l with
  | nil => intro a m _ h0 h1; exact ⟨h0, h1⟩
  | cons x l ih =>
    intro a m hb h0 h1
    obtain ⟨g0, g1⟩ := hb x (by simp)
    have h := ih (a * 256 + x) (m + 1) (fun y hy => hb y (List.mem_cons_of_mem _ hy)) (by omega) (by rw [Int.pow_succ]; generalize (256 : Int) ^ m = q at *; omega)
    rw [List.foldl_cons, List.length_cons, show m + (l.length + 1) = m + 1 + l.length by omega]
    exact h
theorem beV_bound (l : List Int) (h : Byt l) : 0 ≤ beV l ∧ beV l < 256 ^ l.length := by
  have := beV_acc l 0 0 h (by omega) (by decide)
  rw [Nat.zero_add] at this
  exact this
theorem beV_lt (l : List Int) (h : Byt l) (hl : l.length ≤ 7) : 0 ≤ beV l ∧ beV l ≤ 72057594037927935 := by
  obtain ⟨h0, h1⟩ := beV_bound l h
  have h2 : (((256 : Nat) ^ l.length : Nat) : Int) ≤ ((256 ^ 7 : Nat) : Int) := Int.ofNat_le.2 (Nat.pow_le_pow_right (by decide) hl)
  rw [Int.natCast_pow] at h2
  have e : ((256 ^ 7 : Nat) : Int) = 72057594037927936 := by decide
  have e2 : ((256 : Nat) : Int) = 256 := rfl
  rw [e, e2] at h2
  exact ⟨h0, by omega⟩
theorem beV_or (a x : Int) (h0 : 0 ≤ a) (h1 : a ≤ 72057594037927935) (g0 : 0 ≤ x) (g1 : x ≤ 255) : bits .or .u64 (a * 256) x = a * 256 + x := by
  exact bits_join .u64 64 (by decide) wraps_u64 8 _ _ (by omega) (by omega) (by omega) g0 (by omega) (by omega)

/-- The lowest k bytes of v, the highest first. -/
def beB (v : Int) (k : Nat) : List Int := (List.range k).map fun j => v / 2 ^ (8 * (k - 1 - j)) % 256
theorem beB_length (v : Int) (k : Nat) : (beB v k).length = k := by simp [beB]
theorem beB_take (v : Int) (k m j : Nat) (h : m + 1 + j = k) : (beB v k).take (j + 1) = (beB v k).take j ++ [v / 2 ^ (8 * m) % 256] := by
  have hj : j < (beB v k).length := by rw [beB_length]; omega
  rw [List.take_succ_eq_append_getElem hj]
  have e : k - 1 - j = m := by omega
  simp [beB, e]
theorem beB_drop (v : Int) (k m j : Nat) (h : m + 1 + j = k) : (beB v k).drop m = v / 2 ^ (8 * j) % 256 :: (beB v k).drop (m + 1) := by
  have hm : m < (beB v k).length := by rw [beB_length]; omega
  rw [List.drop_eq_getElem_cons hm]
  have e : k - 1 - m = j := by omega
  simp [beB, e]
theorem div_step (v : Int) (j : Nat) : v / 2 ^ (8 * j) / 256 = v / 2 ^ (8 * (j + 1)) := by
  rw [Int.ediv_ediv_of_nonneg (Int.le_of_lt (Int.pow_pos (by decide))), show 8 * (j + 1) = 8 * j + 8 by omega, Int.pow_add]
  rfl
theorem beB_byt (v : Int) (k : Nat) : Byt (beB v k) := fun x hx => by
  obtain ⟨j, _, rfl⟩ := List.mem_map.1 hx
  omega
theorem beB_all (v : Int) (k : Nat) : (beB v k).take k = beB v k := List.take_of_length_le (by rw [beB_length]; exact Nat.le_refl _)
end Go.Proofs.Ytlkhmpfdajefiaa.nums

/- Plain numbers for stamps, attempts and clocks. It speaks of no program. -/
namespace Go.Proofs.Ytlkhmpfdajefiaa.st
open Go.Proofs.Ytlkhmpfdajefiaa.nums
set_option linter.unusedVariables false

/-- A stamp. -/
structure StL where
  wall : Int
  tie : Int
deriving DecidableEq
/-- An attempt. -/
structure TrL where
  node : Int
  life : Int
  seq : Int
  att : Int
deriving DecidableEq
def lessF (a b : StL) : Bool := decide (a.wall < b.wall) || (decide (a.wall = b.wall) && decide (a.tie < b.tie))
def maxF (a b : StL) : StL := if lessF a b then b else a
def lessT (a b : TrL) : Bool :=
  if a.node ≠ b.node then decide (a.node < b.node) else if a.life ≠ b.life then decide (a.life < b.life) else if a.seq ≠ b.seq then decide (a.seq < b.seq) else decide (a.att < b.att)
/-- Stamps stand in a line. -/
theorem less_irr (a b : StL) : (decide (a = b) = (!lessF a b && !lessF b a)) := by
  obtain ⟨p, q⟩ := a
  obtain ⟨r, s⟩ := b
  unfold lessF
  by_cases h1 : p < r
  · have h2 : ¬ p = r := by omega
    simp [h1, h2]
  · by_cases h3 : r < p
    · have h2 : ¬ p = r := by omega
      have h4 : ¬ r = p := by omega
      simp [h1, h2, h3]
    · obtain rfl : p = r := by omega
      by_cases h5 : q < s
      · have : ¬ q = s := by omega
        simp [h5, this]
      · by_cases h6 : s < q
        · have : ¬ q = s := by omega
          simp [h6, this]
        · obtain rfl : q = s := by omega
          simp
def TrL.row (a : TrL) : List Int := [a.node, a.life, a.seq, a.att]
theorem lessT_at (a b : TrL) (j : Nat) (hj : j < 4) (h : ∀ k, k < j → a.row.getD k 0 = b.row.getD k 0) (hne : a.row.getD j 0 ≠ b.row.getD j 0) : lessT a b = decide (a.row.getD j 0 < b.row.getD j 0) := by
  obtain ⟨a0, a1, a2, a3⟩ := a
  obtain ⟨b0, b1, b2, b3⟩ := b
  unfold lessT
  dsimp only
  rcases j with _ | _ | _ | _ | j
  · have h0 : ¬ a0 = b0 := hne
    rw [if_pos h0]; rfl
  · have h0 : a0 = b0 := h 0 (by omega)
    have h1 : ¬ a1 = b1 := hne
    rw [if_neg (by simp [h0]), if_pos h1]; rfl
  · have h0 : a0 = b0 := h 0 (by omega)
    have h1 : a1 = b1 := h 1 (by omega)
    have h2 : ¬ a2 = b2 := hne
    rw [if_neg (by simp [h0]), if_neg (by simp [h1]), if_pos h2]; rfl
  · have h0 : a0 = b0 := h 0 (by omega)
    have h1 : a1 = b1 := h 1 (by omega)
    have h2 : a2 = b2 := h 2 (by omega)
    rw [if_neg (by simp [h0]), if_neg (by simp [h1]), if_neg (by simp [h2])]; rfl
  · omega
theorem lessT_end (a b : TrL) (h : ∀ k, k < 4 → a.row.getD k 0 = b.row.getD k 0) : lessT a b = false := by
  obtain ⟨a0, a1, a2, a3⟩ := a
  obtain ⟨b0, b1, b2, b3⟩ := b
  obtain rfl : a0 = b0 := h 0 (by omega)
  obtain rfl : a1 = b1 := h 1 (by omega)
  obtain rfl : a2 = b2 := h 2 (by omega)
  obtain rfl : a3 = b3 := h 3 (by omega)
  simp [lessT]
/-- The ties there are not. -/
def tieBad (n l s a : Int) : Prop := n < 1 ∨ 9 < n ∨ a < 0 ∨ 15 < a ∨ l < 0 ∨ 1048576 ≤ l ∨ s < 0 ∨ 16777216 ≤ s
instance (n l s a : Int) : Decidable (tieBad n l s a) := by unfold tieBad; infer_instance
def tieF (n l s a : Int) : Int := if tieBad n l s a then 0 else ((n * 1048576 + l) * 16777216 + s) * 16 + a
def tieE (n l s a : Int) : Int := if tieBad n l s a then 1 else 0
def limBad (w o : Int) : Prop := w < 0 ∨ o < 0 ∨ 4611686018427387904 ≤ w ∨ 4611686018427387903 - w < o
instance (w o : Int) : Decidable (limBad w o) := by unfold limBad; infer_instance
def limF (w o : Int) : Int := if limBad w o then 0 else w + o + 1
def limE (w o : Int) : Int := if limBad w o then 5 else 0
def readF (w r : Int) : Int := max w (min (max r 0) 1125899906842624)
/-- No two ties are alike. -/
theorem tie_inj {n l s a n' l' s' a' : Int} (h : ¬ tieBad n l s a) (h' : ¬ tieBad n' l' s' a') (he : tieF n l s a = tieF n' l' s' a') : n = n' ∧ l = l' ∧ s = s' ∧ a = a' := by
  unfold tieF at he
  rw [if_neg h, if_neg h'] at he
  unfold tieBad at h h'
  omega
/-- The stamp that bytes are, and the error. -/
def takeF (l : List Int) : StL := if l.length = 16 then ⟨beV (l.take 8) - 9223372036854775808, beV (l.drop 8) - 9223372036854775808⟩ else ⟨0, 0⟩
def takeE (l : List Int) : Int := if l.length < 16 then 2 else if 16 < l.length then 3 else 0
def I64 (x : Int) : Prop := -9223372036854775808 ≤ x ∧ x ≤ 9223372036854775807
def StL.ok (a : StL) : Prop := I64 a.wall ∧ I64 a.tie
def TrL.ok (a : TrL) : Prop := I64 a.node ∧ I64 a.life ∧ I64 a.seq ∧ I64 a.att
instance (x : Int) : Decidable (I64 x) := by unfold I64; infer_instance
instance (a : StL) : Decidable a.ok := by unfold StL.ok; infer_instance
instance (a : TrL) : Decidable a.ok := by unfold TrL.ok; infer_instance
/-- The bytes of a stamp. -/
def stB (a : StL) : List Int := beB (a.wall + 9223372036854775808) 8 ++ beB (a.tie + 9223372036854775808) 8
end Go.Proofs.Ytlkhmpfdajefiaa.st

/- Plain cells of keys: versions and locks, and what is done to them (stage 8). It speaks of no program. -/
namespace Go.Proofs.Ytlkhmpfdajefiaa.mv
open Go Go.Proofs.Ytlkhmpfdajefiaa.nums Go.Proofs.Ytlkhmpfdajefiaa.st
set_option linter.unusedVariables false

/-- Texts in the order of their bytes. -/
def sl (a b : ByteArray) : Bool := Op.bytesLess a.data.toList b.data.toList
theorem u8_tri (a b : UInt8) : a < b ∨ a = b ∨ b < a := by
  rcases Nat.lt_trichotomy a.toNat b.toNat with h | h | h
  · exact .inl (UInt8.lt_iff_toNat_lt.2 h)
  · exact .inr (.inl (UInt8.toNat_inj.1 h))
  · exact .inr (.inr (UInt8.lt_iff_toNat_lt.2 h))
theorem u8_irr (a : UInt8) : ¬ a < a := fun h => by have := UInt8.lt_iff_toNat_lt.1 h; omega
theorem u8_trans {a b c : UInt8} (h : a < b) (g : b < c) : a < c := by
  have h1 := UInt8.lt_iff_toNat_lt.1 h
  have h2 := UInt8.lt_iff_toNat_lt.1 g
  exact UInt8.lt_iff_toNat_lt.2 (by omega)
theorem bl_irr : ∀ l : List UInt8, Op.bytesLess l l = false
  | [] => rfl
  | x :: l => by simp [Op.bytesLess, bl_irr l, u8_irr x]
theorem bl_trans : ∀ l m k : List UInt8, Op.bytesLess l m = true → Op.bytesLess m k = true → Op.bytesLess l k = true
  | _, [], _, h, _ => by simp [Op.bytesLess] at h
  | _, _ :: _, [], _, h => by simp [Op.bytesLess] at h
  | [], _ :: _, _ :: _, _, _ => rfl
  | x :: l, y :: m, z :: k, h1, h2 => by
    simp only [Op.bytesLess, Bool.or_eq_true, decide_eq_true_eq, Bool.and_eq_true, beq_iff_eq] at h1 h2 ⊢
    rcases h1 with h1 | ⟨rfl, h1⟩
    · rcases h2 with h2 | ⟨rfl, h2⟩
      · exact .inl (u8_trans h1 h2)
      · exact .inl h1
    · rcases h2 with h2 | ⟨rfl, h2⟩
      · exact .inl h2
      · exact .inr ⟨rfl, bl_trans l m k h1 h2⟩
theorem bl_tri : ∀ l m : List UInt8, Op.bytesLess l m = true ∨ l = m ∨ Op.bytesLess m l = true
  | [], [] => .inr (.inl rfl)
  | [], _ :: _ => .inl rfl
  | _ :: _, [] => .inr (.inr rfl)
  | x :: l, y :: m => by
    rcases u8_tri x y with h | rfl | h
    · left; simp [Op.bytesLess, h]
    · rcases bl_tri l m with h | rfl | h
      · left; simp [Op.bytesLess, h]
      · right; left; rfl
      · right; right; simp [Op.bytesLess, h]
    · right; right; simp [Op.bytesLess, h]
theorem sl_irr (a : ByteArray) : sl a a = false := bl_irr _
theorem sl_trans {a b c : ByteArray} (h : sl a b = true) (g : sl b c = true) : sl a c = true := bl_trans _ _ _ h g
theorem sl_tri (a b : ByteArray) : sl a b = true ∨ a = b ∨ sl b a = true := by
  rcases bl_tri a.data.toList b.data.toList with h | h | h
  · exact .inl h
  · exact .inr (.inl (ByteArray.ext (Array.toList_inj.1 h)))
  · exact .inr (.inr h)
theorem sl_asym {a b : ByteArray} (h : sl a b = true) : sl b a = false := by
  cases hc : sl b a with
  | false => rfl
  | true => have := sl_trans h hc; rw [sl_irr] at this; cases this
theorem sl_ne {a b : ByteArray} (h : sl a b = true) : a ≠ b := fun e => by rw [e, sl_irr] at h; cases h
/-- Stamps stand in a line. -/
theorem lt_irr (a : StL) : lessF a a = false := by simp [lessF]
theorem lt_iff (a b : StL) : lessF a b = true ↔ a.wall < b.wall ∨ (a.wall = b.wall ∧ a.tie < b.tie) := by simp [lessF]
theorem lt_trans {a b c : StL} (h : lessF a b = true) (g : lessF b c = true) : lessF a c = true := by
  rw [lt_iff] at *
  omega
theorem lt_tri (a b : StL) : lessF a b = true ∨ a = b ∨ lessF b a = true := by
  obtain ⟨p, q⟩ := a
  obtain ⟨r, s⟩ := b
  rw [lt_iff, lt_iff]
  simp only [StL.mk.injEq]
  omega
theorem lt_asym {a b : StL} (h : lessF a b = true) : lessF b a = false := by
  cases hc : lessF b a with
  | false => rfl
  | true => have := lt_trans h hc; rw [lt_irr] at this; cases this
theorem lt_ne {a b : StL} (h : lessF a b = true) : a ≠ b := fun e => by rw [e, lt_irr] at h; cases h
theorem ge_trans {a b c : StL} (h : lessF b a = false) (g : lessF c b = false) : lessF c a = false := by
  cases hc : lessF c a with
  | false => rfl
  | true =>
    rw [lt_iff] at hc
    have h1 : ¬ lessF b a = true := by simp [h]
    have h2 : ¬ lessF c b = true := by simp [g]
    rw [lt_iff] at h1 h2
    omega

structure VerL where
  at_ : StL
  drop : Bool
  data : ByteArray
deriving DecidableEq
structure LockL where
  by_ : TrL
  home : Int
  at_ : StL
  drop : Bool
  data : ByteArray
deriving DecidableEq
structure CellL where
  key : ByteArray
  vers : List VerL
  locked : Bool
  lock : LockL
deriving DecidableEq
def noText : ByteArray := ⟨#[]⟩
def zeroL : LockL := ⟨⟨0, 0, 0, 0⟩, 0, ⟨0, 0⟩, false, noText⟩
/-- Versions that may be. -/
def verP (l : List VerL) : Prop := l.Pairwise (fun a b => lessF a.at_ b.at_ = true) ∧ ∀ v ∈ l, v.drop = true → v.data = noText
/-- A cell that may be. -/
def cellP (x : CellL) : Prop := verP x.vers ∧ (x.locked = false → x.lock = zeroL) ∧ (x.vers = [] → x.locked = true) ∧ (x.lock.drop = true → x.lock.data = noText)
/-- Cells that may be. -/
def okC (c : List CellL) : Prop := c.Pairwise (fun a b => sl a.key b.key = true) ∧ ∀ x ∈ c, cellP x
def pickF (l : List VerL) (t : StL) : Option VerL := (l.filter fun v => !lessF t v.at_).getLast?
def ofF (l : List VerL) (t : StL) : Option ByteArray := match pickF l t with | some v => if v.drop then none else some v.data | none => none
def findF (c : List CellL) (k : ByteArray) : Option CellL := c.find? fun x => decide (x.key = k)
def getF (c : List CellL) (k : ByteArray) (t : StL) : Option ByteArray := (findF c k).bind fun x => ofF x.vers t
def inF (k lo hi : ByteArray) : Bool := !sl k lo && sl k hi
def blocksF (c : List CellL) (lo hi : ByteArray) (t : StL) : Option LockL := (c.find? fun x => inF x.key lo hi && x.locked && !lessF t x.lock.at_).map (·.lock)
def scanF (c : List CellL) (lo hi : ByteArray) (t : StL) : List (ByteArray × ByteArray) := c.filterMap fun x => if inF x.key lo hi then (ofF x.vers t).map fun d => (x.key, d) else none
def heldF (c : List CellL) (k : ByteArray) : Option LockL := (findF c k).bind fun x => if x.locked then some x.lock else none
def mineF (c : List CellL) (b : TrL) : Bool := c.any fun x => x.locked && decide (x.lock.by_ = b)
/-- What a write makes of a lock. -/
def lockOf (drop : Bool) (data : ByteArray) (l : LockL) : LockL := { l with drop := drop, data := if drop then noText else data }
def lockF (k : ByteArray) (l : LockL) : List CellL → List CellL
  | [] => [⟨k, [], true, l⟩]
  | x :: r => if x.key = k then { x with locked := true, lock := l } :: r else if sl x.key k then x :: lockF k l r else ⟨k, [], true, l⟩ :: x :: r
def withF (v : VerL) : List VerL → List VerL
  | [] => [v]
  | x :: r => if lessF x.at_ v.at_ then x :: withF v r else if x.at_ = v.at_ then v :: r else v :: x :: r
def keepF (x : CellL) : Option CellL := if x.locked || !x.vers.isEmpty then some x else none
def freeF (b : TrL) (yes : Bool) (x : CellL) : CellL :=
  if x.locked && decide (x.lock.by_ = b) then ⟨x.key, if yes then withF ⟨x.lock.at_, x.lock.drop, x.lock.data⟩ x.vers else x.vers, false, zeroL⟩ else x
def settleF (b : TrL) (yes : Bool) (c : List CellL) : List CellL := c.filterMap fun x => keepF (freeF b yes x)
/-- What a trim leaves of versions. -/
def cutF (t : StL) : List VerL → List VerL
  | [] => []
  | v :: r => if lessF t v.at_ then v :: r else match r with
    | [] => if v.drop then [] else [v]
    | u :: _ => if lessF t u.at_ then (if v.drop then r else v :: r) else cutF t r
def trimF (t : StL) (c : List CellL) : List CellL := c.filterMap fun x => keepF { x with vers := cutF t x.vers }
end Go.Proofs.Ytlkhmpfdajefiaa.mv

/- A region that draws its order and ends in stores that wait for all else: what it reads is read ahead of them, whatever the order. It speaks of no program. -/
namespace Go.Proofs.Ytlkhmpfdajefiaa.tail
open Go
set_option linter.unusedVariables false
section
variable {P : Program} {ops : Array Oper} {Q : Exit → Act → World → Prop} {md : Region.Mode} {S : World → Prop} {F : List Nat}

/-- Every order: behind each operation S holds, but behind those of F, the last ones. -/
def AnyT (P : Program) (md : Region.Mode) (ops : Array Oper) (Q : Exit → Act → World → Prop) (S : World → Prop) (F : List Nat) : Nat → Array Bool → Act → World → Prop
  | 0, done, a, w => Region.ready md ops done = [] ∧ Q .normal a w
  | n + 1, done, a, w => (Region.ready md ops done = [] → Q .normal a w) ∧
      ∀ i ∈ Region.ready md ops done, wpOp P ops Q i (fun b u => (i ∈ F ∨ S u) ∧ AnyT P md ops Q S F n (done.setIfInBounds i true) b u) a w

theorem AnyT.plain : ∀ (n : Nat) (done : Array Bool) (a : Act) (w : World), AnyT P md ops Q S F n done a w → wpAny P md ops Q n done a w := by
  intro n
  induction n with
  | zero => exact fun _ _ _ h => h
  | succ n ih => exact fun _ _ _ h => ⟨h.1, fun i hi => wpOp_mono (fun b u hb => ih _ _ _ hb.2) (h.2 i hi)⟩

/-- Operation j waits for operation i, maybe by others (at most n steps). -/
def reach (md : Region.Mode) (ops : Array Oper) (i : Nat) : Nat → Nat → Bool
  | 0, _ => false
  | n + 1, j => match ops[j]? with
    | some o => o.after.any fun e => Region.binds md e && (e.on == i || reach md ops i n e.on)
    | none => false
/-- All of F wait for operation i. -/
def waits (md : Region.Mode) (ops : Array Oper) (F : List Nat) (i : Nat) : Bool := F.all fun j => reach md ops i ops.size j
/-- What is done has done all that it waits for. -/
def Closed (md : Region.Mode) (ops : Array Oper) (done : Array Bool) : Prop :=
  ∀ j o, ops[j]? = some o → done.getD j false = true → ∀ e ∈ o.after, Region.binds md e = true → done.getD e.on false = true
def closedB (md : Region.Mode) (ops : Array Oper) (done : Array Bool) : Bool := (List.range ops.size).all fun j => match ops[j]? with
  | some o => !done.getD j false || o.after.all fun e => !Region.binds md e || done.getD e.on false
  | none => true
theorem Closed.of {done : Array Bool} (h : closedB md ops done = true) : Closed md ops done := by
  intro j o ho hd e he hb
  have h1 := List.all_eq_true.1 h j (List.mem_range.2 (Array.getElem?_eq_some_iff.1 ho).1)
  simp only [ho, hd, Bool.not_true, Bool.false_or] at h1
  have h2 := Array.all_eq_true_iff_forall_mem.1 h1 e he
  simpa [hb] using h2
theorem Closed.set {done : Array Bool} {i : Nat} (h : Closed md ops done) (hi : i ∈ Region.ready md ops done) : Closed md ops (done.setIfInBounds i true) := by
  intro j o ho hd e he hb
  by_cases hij : i = j
  · subst hij
    obtain ⟨_, o', ho', hall⟩ := mem_ready.1 hi
    rw [ho] at ho'
    obtain rfl := Option.some.inj ho'
    exact getD_set_true (hall e he hb)
  · rw [getD_set_ne false hij] at hd
    exact getD_set_true (h j o ho hd e he hb)
theorem reached {i : Nat} {done : Array Bool} (hC : Closed md ops done) : ∀ (n j : Nat) (o : Oper), ops[j]? = some o → (∀ e ∈ o.after, Region.binds md e = true → done.getD e.on false = true) → reach md ops i n j = true → done.getD i false = true := by
  intro n
  induction n with
  | zero => intro j o _ _ h; cases h
  | succ n ih =>
    intro j o ho hd h
    simp only [reach, ho] at h
    obtain ⟨k, hk, hk2⟩ := Array.any_eq_true.1 h
    simp only [Bool.and_eq_true, Bool.or_eq_true, beq_iff_eq] at hk2
    obtain ⟨hb, hk3⟩ := hk2
    have hdone := hd _ (Array.getElem_mem hk) hb
    rcases hk3 with hk3 | hk3
    · rw [← hk3]; exact hdone
    · cases ho2 : ops[o.after[k].on]? with
      | none => cases n <;> simp [reach, ho2] at hk3
      | some o2 => exact ih _ o2 ho2 (fun e he hb2 => hC _ o2 ho2 hdone e he hb2) hk3

theorem take_go {i : Nat} {o : Oper} {v : Value} (ho : ops[i]? = some o) (hs : Region.noSelect ops = true) (hF : waits md ops F i = true)
    (hQ : ∀ c a w, Q (.panic c) (a.put o.dst v) w → Q (.panic c) a w) : ∀ (n : Nat) (done : Array Bool) (a : Act) (w : World), Closed md ops done →
    (∀ j oj, ops[j]? = some oj → j ≠ i → done.getD j true = false → (∀ e ∈ oj.after, Region.binds md e = true → e.on ≠ i) → o.apart ops oj = true) →
    i ∈ Region.ready md ops done → YieldsIf P ops S o v a → S w → AnyT P md ops Q S F n (done.setIfInBounds i true) (a.put o.dst v) w → AnyT P md ops Q S F (n + 1) done a w := by
  intro n
  induction n with
  | zero =>
    intro done a w hC hap hr hy hS h
    refine ⟨fun h0 => absurd hr (by rw [h0]; simp), fun j hj => ?_⟩
    by_cases hji : j = i
    · rw [hji]; exact hy.wpOp ho hS ⟨.inr hS, h⟩
    · exact absurd (ready_mono hj hji) (by rw [h.1]; simp)
  | succ n ih =>
    intro done a w hC hap hr hy hS h
    refine ⟨fun h0 => absurd hr (by rw [h0]; simp), fun j hj => ?_⟩
    by_cases hji : j = i
    · rw [hji]; exact hy.wpOp ho hS ⟨.inr hS, h⟩
    obtain ⟨hun, oj, hoj, hdep⟩ := mem_ready.1 hj
    have hui := (mem_ready.1 hr).1
    -- what may come up now does not wait for i
    have hfree : ∀ e ∈ oj.after, Region.binds md e = true → e.on ≠ i := by
      intro e he hb heq
      have h1 := hdep e he hb
      rw [heq] at h1
      rcases Nat.lt_or_ge i done.size with hlt | hge
      · simp [hlt] at hui h1
        rw [hui] at h1
        cases h1
      · simp [Array.getElem?_eq_none hge] at h1
    have hnF : j ∉ F := fun hjF => by
      have h1 := reached hC ops.size j oj hoj hdep (List.all_eq_true.1 hF j hjF)
      rcases Nat.lt_or_ge i done.size with hlt | hge
      · simp [hlt] at hui h1
        rw [hui] at h1
        cases h1
      · simp [Array.getElem?_eq_none hge] at h1
    have h2 := wpOp_putIf hoj (hap j oj hoj hji hun hfree) (fun cs b => Region.noSelect_spec hs i o cs b ho) (fun cs b => Region.noSelect_spec hs j oj cs b hoj) hQ hy (h.2 j (ready_mono hj hji))
    refine wpOp_mono ?_ h2
    rintro b u ⟨hyb, hSu, hb⟩
    have hSu' : S u := hSu.resolve_left hnF
    refine ⟨.inr hSu', ih _ _ _ (hC.set hj) (fun k ok hok hki hk hno => ?_) (ready_mono hr (fun h => hji h.symm)) hyb hSu' (by rw [Array.setIfInBounds_comm _ _ hji]; exact hb)⟩
    refine hap k ok hok hki ?_ hno
    by_cases hjk : j = k
    · rw [← hjk]; exact hun
    · rw [← getD_set_ne true hjk]; exact hk

theorem take {i : Nat} {oi : Oper} {v : Value} {n : Nat} {done : Array Bool} {a : Act} {w : World} (hi : ops[i]? = some oi)
    (hs : Region.noSelect ops = true) (hf : Region.free md ops done i = true) (hr : (Region.ready md ops done).contains i = true)
    (hQ : ∀ c a w, Q (.panic c) (a.put oi.dst v) w → Q (.panic c) a w) (hy : YieldsIf P ops S oi v a) (hS : S w) (hF : waits md ops F i = true) (hC : closedB md ops done = true)
    (h : AnyT P md ops Q S F n (done.setIfInBounds i true) (a.put oi.dst v) w) : AnyT P md ops Q S F (n + 1) done a w :=
  take_go hi hs hF hQ n done a w (Closed.of hC) (Region.free_spec hi hf) (by simpa using hr) hy hS h

/-- One operation that alone may come up. -/
theorem next {i : Nat} {o : Oper} {n : Nat} {done : Array Bool} {a : Act} {w : World} (ho : ops[i]? = some o) (hr : Region.ready md ops done = [i])
    (h : ∀ K : Act → World → Prop, Shut (∀ b u, (i ∈ F ∨ S u) → AnyT P md ops Q S F n (done.setIfInBounds i true) b u → K b u) →
      if Region.wanted o (yielded ops a.tmps) = true then Oper.wp P o a w K Q else K (a.put o.dst undef) w) : AnyT P md ops Q S F (n + 1) done a w := by
  refine ⟨fun h0 => (by rw [hr] at h0; cases h0), fun j hj => ?_⟩
  rw [hr] at hj
  obtain rfl := List.mem_singleton.1 hj
  exact wpOp_step ho (fun K hK => h K (fun b u h1 h2 => hK b u ⟨h1, h2⟩))

theorem done {l : Array Bool} {a : Act} {w : World} (hr : Region.ready md ops l = []) (h : Q .normal a w) : ∀ n, AnyT P md ops Q S F n l a w
  | 0 => ⟨hr, h⟩
  | _ + 1 => ⟨fun _ => h, by rw [hr]; simp⟩

theorem region {id : Nat} {a : Act} {w : World} (F : List Nat) (hm : P.follows .mixedOrders = true) (hS : S w.drew)
    (h : S w.drew → AnyT P .any ops Q S F ops.size (Array.replicate ops.size false) a w.drew) : (Code.region id ops true).wp P Q a w :=
  wp_region_any hm (AnyT.plain _ _ _ _ (h hS))
end
end Go.Proofs.Ytlkhmpfdajefiaa.tail

/- Plain cells of keys: what is done to cells that may be leaves cells that may be; what trims, settlings and locks turn of what is told. It speaks of no program. -/
namespace Go.Proofs.Ytlkhmpfdajefiaa.mv
open Go Go.Proofs.Ytlkhmpfdajefiaa.nums Go.Proofs.Ytlkhmpfdajefiaa.st
set_option linter.unusedVariables false

theorem with_mem (v : VerL) : ∀ (l : List VerL) (x : VerL), x ∈ withF v l → x = v ∨ x ∈ l
  | [], x, h => by simp [withF] at h; exact .inl h
  | y :: r, x, h => by
    unfold withF at h
    split at h
    · rcases List.mem_cons.1 h with h | h
      · exact .inr (by simp [h])
      · rcases with_mem v r x h with h | h
        · exact .inl h
        · exact .inr (List.mem_cons_of_mem _ h)
    · split at h
      · rcases List.mem_cons.1 h with h | h
        · exact .inl h
        · exact .inr (List.mem_cons_of_mem _ h)
      · rcases List.mem_cons.1 h with h | h
        · exact .inl h
        · exact .inr h
theorem with_rise (v : VerL) : ∀ (l : List VerL), l.Pairwise (fun a b => lessF a.at_ b.at_ = true) → (withF v l).Pairwise (fun a b => lessF a.at_ b.at_ = true)
  | [], _ => by simp [withF]
  | y :: r, h => by
    obtain ⟨h1, h2⟩ := List.pairwise_cons.1 h
    unfold withF
    split
    · rename_i hc
      refine List.pairwise_cons.2 ⟨fun x hx => ?_, with_rise v r h2⟩
      rcases with_mem v r x hx with rfl | hx
      · exact hc
      · exact h1 x hx
    · split
      · rename_i hc he
        exact List.pairwise_cons.2 ⟨fun x hx => by rw [← he]; exact h1 x hx, h2⟩
      · rename_i hc he
        have hv : lessF v.at_ y.at_ = true := by
          rcases lt_tri v.at_ y.at_ with h | h | h
          · exact h
          · exact absurd h.symm he
          · exact absurd h hc
        refine List.pairwise_cons.2 ⟨fun x hx => ?_, h⟩
        rcases List.mem_cons.1 hx with rfl | hx
        · exact hv
        · exact lt_trans hv (h1 x hx)
theorem with_ok {v : VerL} {l : List VerL} (h : verP l) (hv : v.drop = true → v.data = noText) : verP (withF v l) :=
  ⟨with_rise v l h.1, fun x hx => by
    rcases with_mem v l x hx with rfl | hx
    · exact hv
    · exact h.2 x hx⟩
theorem with_ne (v : VerL) (l : List VerL) : withF v l ≠ [] := by
  cases l with
  | nil => simp [withF]
  | cons y r => unfold withF; split <;> (try split) <;> simp
theorem with_length (v : VerL) : ∀ l : List VerL, (withF v l).length ≤ l.length + 1
  | [] => by simp [withF]
  | y :: r => by
    have := with_length v r
    unfold withF
    split
    · simp; omega
    · split <;> simp
theorem cut_suffix (t : StL) : ∀ l : List VerL, cutF t l <:+ l
  | [] => by simp [cutF]
  | [v] => by
    unfold cutF
    by_cases h : lessF t v.at_ = true
    · simp [h]
    · by_cases hd : v.drop = true <;> simp [h, hd]
  | v :: u :: r => by
    unfold cutF
    by_cases h : lessF t v.at_ = true
    · simp [h]
    · simp only [h]
      by_cases h2 : lessF t u.at_ = true
      · simp only [h2]
        by_cases hd : v.drop = true
        · simp only [hd]
          exact List.suffix_cons _ _
        · simp [hd]
      · simp only [h2]
        exact (cut_suffix t (u :: r)).trans (List.suffix_cons _ _)
theorem cut_ok {t : StL} {l : List VerL} (h : verP l) : verP (cutF t l) :=
  ⟨h.1.sublist (cut_suffix t l).sublist, fun x hx => h.2 x ((cut_suffix t l).subset hx)⟩
theorem keep_some {x y : CellL} (h : keepF x = some y) : y = x ∧ (x.vers = [] → x.locked = true) := by
  unfold keepF at h
  split at h
  · rename_i hc
    injection h with h
    refine ⟨h.symm, fun he => ?_⟩
    rw [he] at hc
    simpa using hc
  · cases h
theorem free_key (b : TrL) (yes : Bool) (x : CellL) : (freeF b yes x).key = x.key := by unfold freeF; split <;> rfl
theorem free_ok {b : TrL} {yes : Bool} {x : CellL} (h : cellP x) : verP (freeF b yes x).vers ∧ ((freeF b yes x).locked = false → (freeF b yes x).lock = zeroL) ∧ ((freeF b yes x).lock.drop = true → (freeF b yes x).lock.data = noText) := by
  obtain ⟨h1, h2, h3, h4⟩ := h
  unfold freeF
  split
  · refine ⟨?_, fun _ => rfl, fun hd => by simp [zeroL] at hd⟩
    cases yes with
    | true => exact with_ok h1 h4
    | false => exact h1
  · exact ⟨h1, h2, h4⟩
theorem pairwise_filterMap_key {f : CellL → Option CellL} (hf : ∀ x y, f x = some y → y.key = x.key) : ∀ c : List CellL, c.Pairwise (fun a b => sl a.key b.key = true) → (c.filterMap f).Pairwise (fun a b => sl a.key b.key = true)
  | [], _ => by simp
  | x :: c, h => by
    obtain ⟨h1, h2⟩ := List.pairwise_cons.1 h
    have ih := pairwise_filterMap_key hf c h2
    cases hx : f x with
    | none => rw [List.filterMap_cons_none hx]; exact ih
    | some y =>
      rw [List.filterMap_cons_some hx]
      refine List.pairwise_cons.2 ⟨fun z hz => ?_, ih⟩
      obtain ⟨u, hu, hz⟩ := List.mem_filterMap.1 hz
      rw [hf x y hx, hf u z hz]
      exact h1 u hu
theorem ok_settle {c : List CellL} (h : okC c) (b : TrL) (yes : Bool) : okC (settleF b yes c) := by
  refine ⟨pairwise_filterMap_key (fun x y hy => by rw [(keep_some hy).1, free_key]) c h.1, fun y hy => ?_⟩
  obtain ⟨x, hx, hxy⟩ := List.mem_filterMap.1 hy
  obtain ⟨rfl, h3⟩ := keep_some hxy
  obtain ⟨g1, g2, g4⟩ := free_ok (b := b) (yes := yes) (h.2 x hx)
  exact ⟨g1, g2, h3, g4⟩
theorem ok_trim {c : List CellL} (h : okC c) (t : StL) : okC (trimF t c) := by
  refine ⟨pairwise_filterMap_key (fun x y hy => by rw [(keep_some hy).1]) c h.1, fun y hy => ?_⟩
  obtain ⟨x, hx, hxy⟩ := List.mem_filterMap.1 hy
  obtain ⟨rfl, h3⟩ := keep_some hxy
  obtain ⟨g1, g2, g3, g4⟩ := h.2 x hx
  exact ⟨cut_ok g1, g2, h3, g4⟩
theorem lock_key (k : ByteArray) (l : LockL) : ∀ (c : List CellL) (y : CellL), y ∈ lockF k l c → y.key = k ∨ ∃ x ∈ c, y.key = x.key
  | [], y, h => by simp [lockF] at h; exact .inl (by rw [h])
  | x :: r, y, h => by
    unfold lockF at h
    split at h
    · rename_i he
      rcases List.mem_cons.1 h with rfl | h
      · exact .inl he
      · exact .inr ⟨y, List.mem_cons_of_mem _ h, rfl⟩
    · split at h
      · rcases List.mem_cons.1 h with rfl | h
        · exact .inr ⟨y, by simp, rfl⟩
        · rcases lock_key k l r y h with h | ⟨z, hz, h⟩
          · exact .inl h
          · exact .inr ⟨z, List.mem_cons_of_mem _ hz, h⟩
      · rcases List.mem_cons.1 h with rfl | h
        · exact .inl rfl
        · exact .inr ⟨y, h, rfl⟩
theorem ok_lock (k : ByteArray) (l : LockL) (hl : l.drop = true → l.data = noText) : ∀ c : List CellL, okC c → okC (lockF k l c)
  | [], _ => ⟨by simp [lockF], fun y hy => by
      simp [lockF] at hy
      subst hy
      exact ⟨⟨by simp, fun v hv => by cases hv⟩, fun h => by simp at h, fun _ => rfl, hl⟩⟩
  | x :: r, h => by
    obtain ⟨h1, h2⟩ := List.pairwise_cons.1 h.1
    have hr : okC r := ⟨h2, fun y hy => h.2 y (List.mem_cons_of_mem _ hy)⟩
    have hx := h.2 x (by simp)
    unfold lockF
    split
    · refine ⟨List.pairwise_cons.2 ⟨h1, h2⟩, fun y hy => ?_⟩
      rcases List.mem_cons.1 hy with rfl | hy
      · exact ⟨hx.1, fun h => by simp at h, fun _ => rfl, hl⟩
      · exact hr.2 y hy
    · split
      · rename_i hne hlt
        obtain ⟨i1, i2⟩ := ok_lock k l hl r hr
        refine ⟨List.pairwise_cons.2 ⟨fun y hy => ?_, i1⟩, fun y hy => ?_⟩
        · rcases lock_key k l r y hy with h | ⟨z, hz, h⟩
          · rw [h]; exact hlt
          · rw [h]; exact h1 z hz
        · rcases List.mem_cons.1 hy with rfl | hy
          · exact hx
          · exact i2 y hy
      · rename_i hne hlt
        have hk : sl k x.key = true := by
          rcases sl_tri k x.key with h | h | h
          · exact h
          · exact absurd h.symm hne
          · exact absurd h hlt
        refine ⟨List.pairwise_cons.2 ⟨fun y hy => ?_, h.1⟩, fun y hy => ?_⟩
        · rcases List.mem_cons.1 hy with rfl | hy
          · exact hk
          · exact sl_trans hk (h1 y hy)
        · rcases List.mem_cons.1 hy with rfl | hy
          · exact ⟨⟨by simp, fun v hv => by cases hv⟩, fun h => by simp at h, fun _ => rfl, hl⟩
          · exact h.2 y hy
theorem lock_length (k : ByteArray) (l : LockL) : ∀ c : List CellL, (lockF k l c).length ≤ c.length + 1
  | [] => by simp [lockF]
  | x :: r => by
    have := lock_length k l r
    unfold lockF
    split
    · simp
    · split <;> simp <;> omega
theorem settle_length (b : TrL) (yes : Bool) (c : List CellL) : (settleF b yes c).length ≤ c.length := List.length_filterMap_le _ _
theorem trim_length (t : StL) (c : List CellL) : (trimF t c).length ≤ c.length := List.length_filterMap_le _ _
/-- The last version that is not behind t. -/
theorem pick_cons (v : VerL) (r : List VerL) (t : StL) : pickF (v :: r) t = match pickF r t with | some u => some u | none => if lessF t v.at_ then none else some v := by
  unfold pickF
  by_cases h : lessF t v.at_ = true
  · simp only [List.filter_cons, h, Bool.not_true, Bool.false_eq_true, if_false, if_true]
    cases hg : (List.filter (fun v => !lessF t v.at_) r).getLast? <;> rfl
  · simp only [List.filter_cons, h, Bool.not_false, if_true, Bool.false_eq_true, if_false]
    cases hl : List.filter (fun v => !lessF t v.at_) r with
    | nil => simp
    | cons y s => simp [List.getLast?_eq_some_getLast]
theorem pick_some_of_mem {l : List VerL} {t : StL} {u : VerL} (hu : u ∈ l) (h : lessF t u.at_ = false) : ∃ z, pickF l t = some z := by
  unfold pickF
  have hm : u ∈ l.filter fun v => !lessF t v.at_ := List.mem_filter.2 ⟨hu, by simp [h]⟩
  exact ⟨_, List.getLast?_eq_some_getLast (List.ne_nil_of_mem hm)⟩
/-- A trim turns nothing of what is told at its stamp or later. -/
theorem of_cut (t t' : StL) (ht : lessF t' t = false) : ∀ l : List VerL, ofF (cutF t l) t' = ofF l t'
  | [] => by simp [cutF]
  | [v] => by
    unfold cutF
    by_cases h : lessF t v.at_ = true
    · simp [h]
    · have h' : lessF t' v.at_ = false := ge_trans (b := t) (by simpa using h) ht
      by_cases hd : v.drop = true
      · simp [h, hd, ofF, pickF, h']
      · simp [h, hd]
  | v :: u :: r => by
    unfold cutF
    by_cases h : lessF t v.at_ = true
    · simp [h]
    · simp only [h]
      by_cases h2 : lessF t u.at_ = true
      · simp only [h2]
        by_cases hd : v.drop = true
        · simp only [hd]
          simp only [if_true, Bool.false_eq_true, if_false]
          unfold ofF
          rw [pick_cons v (u :: r) t']
          cases hp : pickF (u :: r) t' with
          | some z => rfl
          | none =>
            by_cases hv : lessF t' v.at_ = true <;> simp [hv, hd]
        · simp [hd]
      · simp only [h2]
        have ih := of_cut t t' ht (u :: r)
        simp only [Bool.false_eq_true, if_false]
        rw [ih]
        have h' : lessF t' u.at_ = false := ge_trans (b := t) (by simpa using h2) ht
        obtain ⟨z, hz⟩ := pick_some_of_mem (l := u :: r) (t := t') (u := u) (by simp) h'
        unfold ofF
        rw [pick_cons v (u :: r) t', hz]
theorem cut_cut (t : StL) : ∀ l : List VerL, cutF t (cutF t l) = cutF t l
  | [] => by simp [cutF]
  | [v] => by
    by_cases h : lessF t v.at_ = true
    · simp [cutF, h]
    · by_cases hd : v.drop = true <;> simp [cutF, h, hd]
  | v :: u :: r => by
    by_cases h : lessF t v.at_ = true
    · simp [cutF, h]
    · by_cases h2 : lessF t u.at_ = true
      · by_cases hd : v.drop = true
        · simp [cutF, h, h2, hd]
        · simp [cutF, h, h2, hd]
      · have ih := cut_cut t (u :: r)
        have e : cutF t (v :: u :: r) = cutF t (u :: r) := by rw [cutF]; simp [h, h2]
        rw [e, ih]
end Go.Proofs.Ytlkhmpfdajefiaa.mv

/- Plain cells: where a lock is put. Conditions: those that each theorem names. -/
namespace Go.Proofs.Ytlkhmpfdajefiaa.mv
open Go Go.Proofs.Ytlkhmpfdajefiaa.nums Go.Proofs.Ytlkhmpfdajefiaa.st
set_option linter.unusedVariables false

theorem lock_at (k : ByteArray) (l : LockL) : ∀ (c : List CellL), c.Pairwise (fun a b => sl a.key b.key = true) → ∀ (i : Nat) (x : CellL), c[i]? = some x → x.key = k → lockF k l c = c.set i { x with locked := true, lock := l }
  | [], _, i, x, h, _ => by cases h
  | y :: r, hp, 0, x, h, hk => by
    obtain rfl := Option.some.inj h
    unfold lockF
    rw [if_pos hk, List.set_cons_zero]
  | y :: r, hp, i + 1, x, h, hk => by
    have hx : r[i]? = some x := h
    have hs := (List.pairwise_cons.1 hp).1 x (List.mem_of_getElem? hx)
    rw [hk] at hs
    unfold lockF
    rw [if_neg (sl_ne hs), if_pos hs, lock_at k l r (List.pairwise_cons.1 hp).2 i x hx hk, List.set_cons_succ]
theorem lock_new (k : ByteArray) (l : LockL) : ∀ (c : List CellL), (∀ x ∈ c, x.key ≠ k) → ∀ p, p ≤ c.length → (∀ (i : Nat) (x : CellL), i < p → c[i]? = some x → sl x.key k = true) → (∀ x, c[p]? = some x → sl x.key k = false) → lockF k l c = c.take p ++ ⟨k, [], true, l⟩ :: c.drop p
  | [], _, p, hp, _, _ => by
    obtain rfl : p = 0 := by simpa using hp
    rfl
  | y :: r, hne, 0, _, _, hz => by
    have h0 := hz y rfl
    unfold lockF
    rw [if_neg (hne y (List.mem_cons_self ..)), h0]
    rfl
  | y :: r, hne, p + 1, hp, hl, hz => by
    have h0 := hl 0 y (by omega) rfl
    have hr := lock_new k l r (fun x hx => hne x (List.mem_cons_of_mem _ hx)) p (by simpa using hp) (fun i x hi hx => hl (i + 1) x (by omega) hx) (fun x hx => hz x hx)
    unfold lockF
    rw [if_neg (hne y (List.mem_cons_self ..)), if_pos h0, hr]
    rfl
theorem lock_put (k : ByteArray) (l : LockL) (c : List CellL) (p : Nat) (hp : p ≤ c.length) (z : LockL) : ((c.take p ++ [(⟨k, [], false, z⟩ : CellL)]) ++ c.drop p).set p (⟨k, [], true, l⟩ : CellL) = c.take p ++ ⟨k, [], true, l⟩ :: c.drop p := by
  rw [List.append_assoc, List.set_append, if_neg (by rw [List.length_take]; omega), List.length_take, Nat.min_eq_left hp, Nat.sub_self]
  rfl
theorem lock_get (k : ByteArray) (c : List CellL) (p : Nat) (hp : p ≤ c.length) (z : LockL) : ((c.take p ++ [(⟨k, [], false, z⟩ : CellL)]) ++ c.drop p)[p]? = some (⟨k, [], false, z⟩ : CellL) := by
  rw [List.append_assoc, List.getElem?_append_right (by rw [List.length_take]; omega), List.length_take, Nat.min_eq_left hp, Nat.sub_self]
  rfl
end Go.Proofs.Ytlkhmpfdajefiaa.mv

/- Plain cells of keys: what the statements of stage 8 say, of cells that may be. It speaks of no program. -/
namespace Go.Proofs.Ytlkhmpfdajefiaa.mv
open Go Go.Proofs.Ytlkhmpfdajefiaa.nums Go.Proofs.Ytlkhmpfdajefiaa.st
set_option linter.unusedVariables false

theorem find_none {c : List CellL} {k : ByteArray} (h : ∀ x ∈ c, x.key ≠ k) : findF c k = none := by
  unfold findF
  rw [List.find?_eq_none]
  intro x hx
  simpa using h x hx
theorem find_cons (x : CellL) (c : List CellL) (k : ByteArray) : findF (x :: c) k = if x.key = k then some x else findF c k := by
  unfold findF
  rw [List.find?_cons]
  by_cases h : x.key = k <;> simp [h]
theorem find_key {c : List CellL} {k : ByteArray} {x : CellL} (h : findF c k = some x) : x ∈ c ∧ x.key = k := by
  unfold findF at h
  exact ⟨List.mem_of_find?_eq_some h, by simpa using List.find?_some h⟩
theorem find_filterMap {f : CellL → Option CellL} (hf : ∀ x y, f x = some y → y.key = x.key) (k : ByteArray) : ∀ c : List CellL, c.Pairwise (fun a b => sl a.key b.key = true) → findF (c.filterMap f) k = (findF c k).bind f
  | [], _ => rfl
  | x :: c, h => by
    obtain ⟨h1, h2⟩ := List.pairwise_cons.1 h
    have ih := find_filterMap hf k c h2
    rw [find_cons]
    by_cases hk : x.key = k
    · rw [if_pos hk]
      cases hx : f x with
      | none =>
        rw [List.filterMap_cons_none hx, ih, find_none (fun y hy => by rw [← hk]; exact (sl_ne (h1 y hy)).symm)]
        exact hx.symm
      | some y =>
        rw [List.filterMap_cons_some hx, find_cons, if_pos (by rw [hf x y hx, hk])]
        exact hx.symm
    · rw [if_neg hk]
      cases hx : f x with
      | none => rw [List.filterMap_cons_none hx, ih]
      | some y => rw [List.filterMap_cons_some hx, find_cons, if_neg (by rw [hf x y hx]; exact hk), ih]
theorem find_mem {c : List CellL} (h : c.Pairwise (fun a b => sl a.key b.key = true)) : ∀ x ∈ c, findF c x.key = some x := by
  induction c with
  | nil => intro x hx; cases hx
  | cons y c ih =>
    intro x hx
    obtain ⟨h1, h2⟩ := List.pairwise_cons.1 h
    rw [find_cons]
    rcases List.mem_cons.1 hx with rfl | hx
    · rw [if_pos rfl]
    · rw [if_neg (sl_ne (h1 x hx)), ih h2 x hx]
theorem keep_of {x : CellL} (h : cellP x) : keepF x = some x := by
  unfold keepF
  have h3 := h.2.2.1
  by_cases hv : x.vers = []
  · simp [h3 hv]
  · have : x.vers.isEmpty = false := by simp [hv]
    simp [this]
theorem free_not {b : TrL} {yes : Bool} {x : CellL} (h : ¬ (x.locked = true ∧ x.lock.by_ = b)) : freeF b yes x = x := by
  unfold freeF
  rw [if_neg]
  simpa using h
theorem not_mine {c : List CellL} {b : TrL} (h : mineF c b = false) : ∀ x ∈ c, ¬ (x.locked = true ∧ x.lock.by_ = b) := fun x hx ⟨h1, h2⟩ => by
  have : mineF c b = true := List.any_eq_true.2 ⟨x, hx, by simp [h1, h2]⟩
  rw [h] at this; cases this
theorem filterMap_id {f : CellL → Option CellL} : ∀ c : List CellL, (∀ x ∈ c, f x = some x) → c.filterMap f = c
  | [], _ => rfl
  | x :: c, h => by rw [List.filterMap_cons_some (h x (by simp)), filterMap_id c (fun y hy => h y (List.mem_cons_of_mem _ hy))]
theorem settle_id {c : List CellL} {b : TrL} (yes : Bool) (hc : ∀ x ∈ c, cellP x) (h : mineF c b = false) : settleF b yes c = c :=
  filterMap_id c (fun x hx => by rw [free_not (not_mine h x hx), keep_of (hc x hx)])
/-- Trims. -/
theorem scan_trim (t t' : StL) (ht : lessF t' t = false) (c : List CellL) (lo hi : ByteArray) : scanF (trimF t c) lo hi t' = scanF c lo hi t' := by
  unfold scanF trimF
  rw [List.filterMap_filterMap]
  congr 1
  funext x
  have h := of_cut t t' ht x.vers
  unfold keepF
  dsimp only
  by_cases hk : (x.locked || !(cutF t x.vers).isEmpty) = true
  · rw [if_pos hk]
    show (if _ then _ else none) = _
    dsimp only
    rw [h]
  · rw [if_neg hk]
    have hv : cutF t x.vers = [] := by simp at hk; exact hk.2
    rw [hv] at h
    rw [← h]
    simp [ofF, pickF]
theorem trim_trim (t : StL) (c : List CellL) : trimF t (trimF t c) = trimF t c := by
  unfold trimF
  rw [List.filterMap_filterMap]
  congr 1
  funext x
  unfold keepF
  dsimp only
  by_cases hk : (x.locked || !(cutF t x.vers).isEmpty) = true
  · rw [if_pos hk]
    show (if _ then _ else none) = _
    dsimp only
    rw [cut_cut, if_pos hk]
  · rw [if_neg hk]; rfl
/-- Two attempts in either order. -/
theorem keep_keep (x : CellL) : (keepF x).bind keepF = keepF x := by
  unfold keepF
  split
  · rename_i h; show keepF x = _; unfold keepF; rw [if_pos h]
  · rfl
theorem free_unlocked {b : TrL} {yes : Bool} {x : CellL} (h : x.locked = false) : freeF b yes x = x := free_not (by simp [h])
theorem turns {a b : TrL} (hab : a ≠ b) (x y : Bool) (c : List CellL) : settleF b y (settleF a x c) = settleF a x (settleF b y c) := by
  unfold settleF
  rw [List.filterMap_filterMap, List.filterMap_filterMap]
  congr 1
  funext z
  have key : ∀ (a b : TrL) (x y : Bool), a ≠ b → z.locked = true ∧ z.lock.by_ = a → ((keepF (freeF a x z)).bind fun u => keepF (freeF b y u)) = ((keepF (freeF b y z)).bind fun u => keepF (freeF a x u)) := fun a b x y hab h => by
    have h1 : freeF b y z = z := free_not (fun g => hab (h.2.symm.trans g.2))
    have h2 : keepF z = some z := by unfold keepF; simp [h.1]
    rw [h1, h2]
    show _ = keepF (freeF a x z)
    have h3 : (freeF a x z).locked = false := by unfold freeF; rw [if_pos (by simp [h.1, h.2])]
    cases hk : keepF (freeF a x z) with
    | none => rfl
    | some u =>
      obtain ⟨rfl, _⟩ := keep_some hk
      show keepF (freeF b y _) = _
      rw [free_unlocked h3, hk]
  by_cases ha : z.locked = true ∧ z.lock.by_ = a
  · exact key a b x y hab ha
  · by_cases hb : z.locked = true ∧ z.lock.by_ = b
    · exact (key b a y x hab.symm hb).symm
    · rw [free_not ha, free_not hb]
      cases hk : keepF z with
      | none => rfl
      | some u =>
        obtain ⟨rfl, _⟩ := keep_some hk
        show keepF (freeF b y _) = keepF (freeF a x _)
        rw [free_not ha, free_not hb]
theorem turn_again (a : TrL) (x y : Bool) (c : List CellL) : settleF a y (settleF a x c) = settleF a x c := by
  unfold settleF
  rw [List.filterMap_filterMap]
  congr 1
  funext z
  by_cases ha : z.locked = true ∧ z.lock.by_ = a
  · have h3 : (freeF a x z).locked = false := by unfold freeF; rw [if_pos (by simp [ha.1, ha.2])]
    cases hk : keepF (freeF a x z) with
    | none => rfl
    | some u =>
      obtain ⟨rfl, _⟩ := keep_some hk
      show keepF (freeF a y _) = _
      rw [free_unlocked h3, hk]
  · rw [free_not ha]
    cases hk : keepF z with
    | none => rfl
    | some u =>
      obtain ⟨rfl, _⟩ := keep_some hk
      show keepF (freeF a y _) = _
      rw [free_not ha, hk]
/-- Locks. -/
theorem find_lock (k : ByteArray) (l : LockL) : ∀ c : List CellL, c.Pairwise (fun a b => sl a.key b.key = true) → findF (lockF k l c) k = some (match findF c k with | some x => { x with locked := true, lock := l } | none => ⟨k, [], true, l⟩)
  | [], _ => by simp [lockF, findF]
  | x :: r, h => by
    obtain ⟨h1, h2⟩ := List.pairwise_cons.1 h
    rw [find_cons]
    unfold lockF
    by_cases hk : x.key = k
    · rw [if_pos hk, if_pos hk, find_cons, if_pos hk]
    · rw [if_neg hk, if_neg hk]
      by_cases hs : sl x.key k = true
      · rw [if_pos hs, find_cons, if_neg hk, find_lock k l r h2]
      · rw [if_neg hs, find_cons, if_pos rfl]
        have hks : sl k x.key = true := by
          rcases sl_tri k x.key with h | h | h
          · exact h
          · exact absurd h.symm hk
          · exact absurd h hs
        rw [find_none (fun y hy => (sl_ne (sl_trans hks (h1 y hy))).symm)]
theorem find_lock_other {k k' : ByteArray} (hne : k' ≠ k) (l : LockL) : ∀ c : List CellL, findF (lockF k l c) k' = findF c k'
  | [] => by
    unfold lockF
    rw [find_cons, if_neg (fun e => hne e.symm)]
  | x :: r => by
    have ih := find_lock_other hne l r
    unfold lockF
    by_cases hk : x.key = k
    · rw [if_pos hk, find_cons, find_cons, if_neg (by rw [hk]; exact fun e => hne e.symm), if_neg (by rw [hk]; exact fun e => hne e.symm)]
    · rw [if_neg hk]
      split
      · rw [find_cons, find_cons, ih]
      · rw [find_cons, if_neg (fun e => hne e.symm)]
theorem held_lock {k : ByteArray} {l : LockL} {c : List CellL} (h : okC c) : heldF (lockF k l c) k = some l := by
  unfold heldF
  rw [find_lock k l c h.1]
  cases findF c k <;> rfl
theorem pick_with_at (v : VerL) : ∀ l : List VerL, l.Pairwise (fun a b => lessF a.at_ b.at_ = true) → pickF (withF v l) v.at_ = some v
  | [], _ => by simp [withF, pickF, lt_irr]
  | x :: r, h => by
    obtain ⟨h1, h2⟩ := List.pairwise_cons.1 h
    have ih := pick_with_at v r h2
    have none_of : ∀ (r : List VerL) (t : StL), (∀ y ∈ r, lessF t y.at_ = true) → pickF r t = none := fun r t hr => by
      unfold pickF
      rw [List.filter_eq_nil_iff.2 (fun y hy => by simp [hr y hy])]
      rfl
    unfold withF
    split
    · rw [pick_cons, ih]
    · split
      · rename_i hc he
        rw [pick_cons, none_of r v.at_ (fun y hy => by rw [← he]; exact h1 y hy)]
        simp [lt_irr]
      · rename_i hc he
        have hv : lessF v.at_ x.at_ = true := by
          rcases lt_tri v.at_ x.at_ with h | h | h
          · exact h
          · exact absurd h.symm he
          · exact absurd h hc
        rw [pick_cons, none_of (x :: r) v.at_ (fun y hy => by
          rcases List.mem_cons.1 hy with rfl | hy
          · exact hv
          · exact lt_trans hv (h1 y hy))]
        simp [lt_irr]
theorem pick_with_before (v : VerL) (t : StL) (ht : lessF t v.at_ = true) : ∀ l : List VerL, pickF (withF v l) t = pickF l t
  | [] => by simp [withF, pickF, ht]
  | x :: r => by
    have ih := pick_with_before v t ht r
    unfold withF
    split
    · rw [pick_cons, pick_cons, ih]
    · split
      · rename_i hc he
        rw [pick_cons v r, pick_cons x r, he]
        simp only [ht, if_true]
      · rw [pick_cons v (x :: r)]
        simp only [ht, if_true]
        cases pickF (x :: r) t <;> rfl
/-- What is settled, told. -/
theorem past {c : List CellL} (h : okC c) (k : ByteArray) (l : LockL) (yes : Bool) (t : StL) (hm : mineF c l.by_ = false) :
    ((lessF t l.at_ = true ∨ yes = false) → getF (settleF l.by_ yes (lockF k l c)) k t = getF c k t) ∧ (yes = true → getF (settleF l.by_ yes (lockF k l c)) k l.at_ = if l.drop then none else some l.data) := by
  have hf : ∀ x y : CellL, keepF (freeF l.by_ yes x) = some y → y.key = x.key := fun x y hy => by rw [(keep_some hy).1, free_key]
  have key : ∀ t, getF (settleF l.by_ yes (lockF k l c)) k t = ofF (if yes then withF ⟨l.at_, l.drop, l.data⟩ (match findF c k with | some x => x.vers | none => []) else (match findF c k with | some x => x.vers | none => [])) t := fun t => by
    unfold getF settleF
    have hp : (lockF k l c).Pairwise (fun a b => sl a.key b.key = true) := by
      have h0 : ∀ c : List CellL, c.Pairwise (fun a b => sl a.key b.key = true) → (lockF k l c).Pairwise (fun a b => sl a.key b.key = true) := by
        intro c
        induction c with
        | nil => intro _; simp [lockF]
        | cons x r ih =>
          intro h
          obtain ⟨h1, h2⟩ := List.pairwise_cons.1 h
          unfold lockF
          split
          · exact List.pairwise_cons.2 ⟨h1, h2⟩
          · split
            · rename_i hne hlt
              refine List.pairwise_cons.2 ⟨fun y hy => ?_, ih h2⟩
              rcases lock_key k l r y hy with h | ⟨z, hz, h⟩
              · rw [h]; exact hlt
              · rw [h]; exact h1 z hz
            · rename_i hne hlt
              have hk : sl k x.key = true := by
                rcases sl_tri k x.key with h | h | h
                · exact h
                · exact absurd h.symm hne
                · exact absurd h hlt
              refine List.pairwise_cons.2 ⟨fun y hy => ?_, h⟩
              rcases List.mem_cons.1 hy with rfl | hy
              · exact hk
              · exact sl_trans hk (h1 y hy)
      exact h0 c h.1
    rw [find_filterMap hf k _ hp, find_lock k l c h.1]
    have hbind : ∀ (vers : List VerL) (key : ByteArray), ((keepF (freeF l.by_ yes ⟨key, vers, true, l⟩)).bind fun x => ofF x.vers t) = ofF (if yes then withF ⟨l.at_, l.drop, l.data⟩ vers else vers) t := fun vers key => by
      unfold freeF
      rw [if_pos (by simp)]
      unfold keepF
      dsimp only
      generalize (if yes = true then withF ⟨l.at_, l.drop, l.data⟩ vers else vers) = q
      cases q with
      | nil => simp [ofF, pickF]
      | cons a b => simp
    cases findF c k with
    | none => exact hbind [] k
    | some x => exact hbind x.vers x.key
  have hget : getF c k t = ofF (match findF c k with | some x => x.vers | none => []) t := by
    unfold getF
    cases findF c k with
    | none => simp [ofF, pickF]
    | some x => rfl
  have hrise : (match findF c k with | some x => x.vers | none => ([] : List VerL)).Pairwise (fun (a b : VerL) => lessF a.at_ b.at_ = true) := by
    cases hx : findF c k with
    | none => simp
    | some x => exact (h.2 x (find_key hx).1).1.1
  refine ⟨fun hh => ?_, fun hy => ?_⟩
  · rw [key t, hget]
    cases yes with
    | false => rfl
    | true =>
      rcases hh with hh | hh
      · unfold ofF
        simp only [if_true]
        rw [pick_with_before ⟨l.at_, l.drop, l.data⟩ t hh]
      · cases hh
  · subst hy
    rw [key]
    unfold ofF
    simp only [if_true]
    rw [pick_with_at ⟨l.at_, l.drop, l.data⟩ _ hrise]
/-- Keys apart. -/
theorem apart {c : List CellL} (h : okC c) {k k' : ByteArray} (hne : k' ≠ k) (l : LockL) (yes : Bool) (t : StL) (hl : l.drop = true → l.data = noText) (hm : mineF c l.by_ = false) :
    getF (settleF l.by_ yes (lockF k l c)) k' t = getF c k' t ∧ heldF (lockF k l c) k' = heldF c k' := by
  have hf : ∀ x y : CellL, keepF (freeF l.by_ yes x) = some y → y.key = x.key := fun x y hy => by rw [(keep_some hy).1, free_key]
  refine ⟨?_, by unfold heldF; rw [find_lock_other hne]⟩
  unfold getF settleF
  rw [find_filterMap hf k' _ (ok_lock k l hl c h).1, find_lock_other hne]
  cases hx : findF c k' with
  | none => rfl
  | some x =>
    have hxm := (find_key hx).1
    show (keepF (freeF l.by_ yes x)).bind _ = _
    rw [free_not (not_mine hm x hxm), keep_of (h.2 x hxm)]
/-- Locked and let go. -/
theorem freed {c : List CellL} (h : okC c) (k : ByteArray) (l : LockL) (hh : heldF c k = none) (hm : mineF c l.by_ = false) : settleF l.by_ false (lockF k l c) = c := by
  induction c with
  | nil => simp [lockF, settleF, freeF, keepF]
  | cons x r ih =>
    obtain ⟨h1, h2⟩ := List.pairwise_cons.1 h.1
    have hr : okC r := ⟨h2, fun y hy => h.2 y (List.mem_cons_of_mem _ hy)⟩
    have hx := h.2 x (by simp)
    have hmr : mineF r l.by_ = false := by
      simp only [mineF, List.any_cons, Bool.or_eq_false_iff] at hm
      exact hm.2
    have hxm := not_mine hm x (by simp)
    unfold heldF at hh
    rw [find_cons] at hh
    have hset := settle_id (b := l.by_) false hr.2 hmr
    unfold settleF at hset
    have hxk : keepF (freeF l.by_ false x) = some x := by rw [free_not hxm, keep_of hx]
    unfold lockF
    by_cases hk : x.key = k
    · rw [if_pos hk] at hh ⊢
      have hun : x.locked = false := by
        cases hl : x.locked with
        | false => rfl
        | true => simp [hl] at hh
      have hz := hx.2.1 hun
      unfold settleF
      have e1 : freeF l.by_ false { x with locked := true, lock := l } = x := by
        unfold freeF
        rw [if_pos (by simp)]
        obtain ⟨a, b, c, d⟩ := x
        simp only at hun hz
        subst hun hz
        rfl
      rw [List.filterMap_cons_some (by rw [e1]; exact keep_of hx), hset]
    · rw [if_neg hk] at hh ⊢
      split
      · unfold settleF
        rw [List.filterMap_cons_some (f := fun x => keepF (freeF l.by_ false x)) hxk]
        have := ih hr hh hmr
        unfold settleF at this
        rw [this]
      · unfold settleF
        rw [List.filterMap_cons_none (by unfold freeF; rw [if_pos (by simp)]; unfold keepF; simp), List.filterMap_cons_some (f := fun x => keepF (freeF l.by_ false x)) hxk, hset]
/-- A scan, cell by cell. -/
theorem scan_get {c : List CellL} (h : okC c) (lo hi : ByteArray) (t : StL) : scanF c lo hi t = c.filterMap fun x => if inF x.key lo hi then (getF c x.key t).map fun d => (x.key, d) else none := by
  have cong : ∀ (f g : CellL → Option (ByteArray × ByteArray)) (c : List CellL), (∀ x ∈ c, f x = g x) → c.filterMap f = c.filterMap g := fun f g c => by
    induction c with
    | nil => intro _; rfl
    | cons x c ih =>
      intro h
      rw [List.filterMap_cons, List.filterMap_cons, h x (by simp), ih (fun y hy => h y (List.mem_cons_of_mem _ hy))]
  unfold scanF
  apply cong
  intro x hx
  unfold getF
  rw [find_mem h.1 x hx]
  rfl
end Go.Proofs.Ytlkhmpfdajefiaa.mv

/- Plain cells: what one round of Trim and of Settle does. Conditions: those that each theorem names. -/
namespace Go.Proofs.Ytlkhmpfdajefiaa.mv
open Go Go.Proofs.Ytlkhmpfdajefiaa.st
set_option linter.unusedVariables false

/-- One cell more. -/
theorem fm_step {f : CellL → Option CellL} {cs : List CellL} {j : Nat} {x : CellL} (hx : cs[j]? = some x) : (cs.take (j + 1)).filterMap f = (cs.take j).filterMap f ++ (f x).toList := by
  obtain ⟨hj, rfl⟩ := List.getElem?_eq_some_iff.1 hx
  rw [List.take_succ_eq_append_getElem hj, List.filterMap_append]
  cases hf : f cs[j] <;> simp [hf]
theorem fm_len (f : CellL → Option CellL) (cs : List CellL) (j : Nat) : ((cs.take j).filterMap f).length ≤ j :=
  Nat.le_trans (List.length_filterMap_le _ _) (by rw [List.length_take]; omega)
theorem keep_yes {x : CellL} (h : (x.locked || !x.vers.isEmpty) = true) : keepF x = some x := by unfold keepF; rw [if_pos h]
theorem keep_no {x : CellL} (h : (x.locked || !x.vers.isEmpty) = false) : keepF x = none := by unfold keepF; rw [h]; rfl
theorem free_mine {b : TrL} {yes : Bool} {x : CellL} (h1 : x.locked = true) (h2 : x.lock.by_ = b) : freeF b yes x = ⟨x.key, if yes then withF ⟨x.lock.at_, x.lock.drop, x.lock.data⟩ x.vers else x.vers, false, zeroL⟩ := by
  unfold freeF
  rw [if_pos (by rw [h1, decide_eq_true h2]; rfl)]
theorem free_other {b : TrL} {yes : Bool} {x : CellL} (h : (x.locked && decide (x.lock.by_ = b)) = false) : freeF b yes x = x := by
  unfold freeF
  rw [h]; rfl
/-- Nothing lies at or below the bound. -/
theorem cut_zero {t : StL} {vs : List VerL} (h : ∀ v, vs[0]? = some v → lessF t v.at_ = true) : cutF t vs = vs := by
  cases vs with
  | nil => rfl
  | cons v r => rw [cutF.eq_def]; simp only [h v rfl, if_true]
/-- The last one at or below the bound is at j. -/
theorem cut_some {t : StL} : ∀ (vs : List VerL) (j : Nat) (u : VerL), vs[j]? = some u → (∀ v ∈ vs.take (j + 1), lessF t v.at_ = false) → (∀ v, vs[j + 1]? = some v → lessF t v.at_ = true) → cutF t vs = if u.drop then vs.drop (j + 1) else vs.drop j
  | [], j, u, hu, _, _ => by cases hu
  | [v], j, u, hu, ha, hn => by
    cases j with
    | zero =>
      obtain rfl := Option.some.inj hu
      have h := ha v (by simp)
      rw [cutF, if_neg (by rw [h]; decide)]
      rfl
    | succ j => cases hu
  | v :: x :: r, j, u, hu, ha, hn => by
    have h := ha v (by simp)
    cases j with
    | zero =>
      obtain rfl := Option.some.inj hu
      have h2 := hn x rfl
      rw [cutF, if_neg (by rw [h]; decide)]
      simp only [h2, if_true]
      rfl
    | succ j =>
      have h2 := ha x (by simp)
      rw [cutF, if_neg (by rw [h]; decide)]
      simp only [h2, Bool.false_eq_true, if_false]
      exact cut_some (x :: r) j u hu (fun y hy => ha y (by rw [List.take_succ_cons]; exact List.mem_cons_of_mem _ hy)) hn
/-- Where Trim's count has come to. -/
theorem take_more {t : StL} {vs : List VerL} {k : Nat} {v : VerL} (h : ∀ u ∈ vs.take k, lessF t u.at_ = false) (hv : vs[k]? = some v) (hl : lessF t v.at_ = false) : ∀ u ∈ vs.take (k + 1), lessF t u.at_ = false := by
  obtain ⟨hk, rfl⟩ := List.getElem?_eq_some_iff.1 hv
  rw [List.take_succ_eq_append_getElem hk]
  intro u hu
  rcases List.mem_append.1 hu with hu | hu
  · exact h u hu
  · rw [List.mem_singleton] at hu
    rw [hu]; exact hl
end Go.Proofs.Ytlkhmpfdajefiaa.mv

/- Plain cells that may be, one after another. Conditions: those that each theorem names. -/
namespace Go.Proofs.Ytlkhmpfdajefiaa.mv
open Go Go.Proofs.Ytlkhmpfdajefiaa.st
set_option linter.unusedVariables false

theorem pw_step {α : Type} {R : α → α → Prop} (tr : ∀ a b c, R a b → R b c → R a c) (l : List α) (x : α) : (l ++ [x]).Pairwise R ↔ l.Pairwise R ∧ ∀ y, l.getLast? = some y → R y x := by
  rw [List.pairwise_append]
  constructor
  · rintro ⟨h1, _, h3⟩
    exact ⟨h1, fun y hy => h3 y (List.mem_of_getLast? hy) x (List.mem_singleton.2 rfl)⟩
  · rintro ⟨h1, h2⟩
    refine ⟨h1, List.pairwise_singleton _ _, fun a ha b hb => ?_⟩
    rw [List.mem_singleton] at hb
    subst hb
    rcases List.eq_nil_or_concat l with rfl | ⟨l', y, rfl⟩
    · cases ha
    · have hy := h2 y (by simp)
      rw [List.concat_eq_append] at h1 ha
      rcases List.mem_append.1 ha with ha | ha
      · exact tr _ _ _ ((List.pairwise_append.1 h1).2.2 a ha y (List.mem_singleton.2 rfl)) hy
      · rw [List.mem_singleton] at ha
        subst ha
        exact hy
theorem take_last {α : Type} {l : List α} {j : Nat} (hj : j ≤ l.length) : (l.take j).getLast? = if j = 0 then none else l[j - 1]? := by
  by_cases h0 : j = 0
  · subst h0; rfl
  · rw [List.getLast?_eq_getElem?, List.length_take, List.getElem?_take, if_neg h0, Nat.min_eq_left hj, if_pos (by omega)]
/-- Versions that may be: one more. -/
theorem ver_step {vs : List VerL} {k : Nat} {v : VerL} (hv : vs[k]? = some v) : verP (vs.take (k + 1)) ↔ verP (vs.take k) ∧ (∀ u, 0 < k → vs[k - 1]? = some u → lessF u.at_ v.at_ = true) ∧ (v.drop = true → v.data = noText) := by
  obtain ⟨hk, rfl⟩ := List.getElem?_eq_some_iff.1 hv
  unfold verP
  rw [List.take_succ_eq_append_getElem hk, pw_step (R := fun a b : VerL => lessF a.at_ b.at_ = true) (fun a b c h1 h2 => lt_trans h1 h2), take_last (by omega)]
  constructor
  · rintro ⟨⟨h1, h2⟩, h3⟩
    refine ⟨⟨h1, fun u hu => h3 u (List.mem_append_left _ hu)⟩, fun u h0 hu => h2 u (by rw [if_neg (by omega)]; exact hu), h3 _ (List.mem_append_right _ (List.mem_singleton.2 rfl))⟩
  · rintro ⟨⟨h1, h2⟩, h3, h4⟩
    refine ⟨⟨h1, fun u hu => ?_⟩, fun u hu => ?_⟩
    · by_cases h0 : k = 0
      · rw [if_pos h0] at hu; cases hu
      · rw [if_neg h0] at hu; exact h3 u (by omega) hu
    · rcases List.mem_append.1 hu with hu | hu
      · exact h2 u hu
      · rw [List.mem_singleton] at hu
        rw [hu]; exact h4
/-- Cells that may be: one more. -/
theorem ok_step {cs : List CellL} {j : Nat} {x : CellL} (hx : cs[j]? = some x) : okC (cs.take (j + 1)) ↔ okC (cs.take j) ∧ (∀ y, 0 < j → cs[j - 1]? = some y → sl y.key x.key = true) ∧ cellP x := by
  obtain ⟨hj, rfl⟩ := List.getElem?_eq_some_iff.1 hx
  unfold okC
  rw [List.take_succ_eq_append_getElem hj, pw_step (R := fun a b : CellL => sl a.key b.key = true) (fun a b c h1 h2 => sl_trans h1 h2), take_last (by omega)]
  constructor
  · rintro ⟨⟨h1, h2⟩, h3⟩
    refine ⟨⟨h1, fun u hu => h3 u (List.mem_append_left _ hu)⟩, fun u h0 hu => h2 u (by rw [if_neg (by omega)]; exact hu), h3 _ (List.mem_append_right _ (List.mem_singleton.2 rfl))⟩
  · rintro ⟨⟨h1, h2⟩, h3, h4⟩
    refine ⟨⟨h1, fun u hu => ?_⟩, fun u hu => ?_⟩
    · by_cases h0 : j = 0
      · rw [if_pos h0] at hu; cases hu
      · rw [if_neg h0] at hu; exact h3 u (by omega) hu
    · rcases List.mem_append.1 hu with hu | hu
      · exact h2 u hu
      · rw [List.mem_singleton] at hu
        rw [hu]; exact h4
theorem ok_take {cs : List CellL} (h : okC cs) (j : Nat) : okC (cs.take j) := ⟨h.1.sublist (List.take_sublist j cs), fun x hx => h.2 x (List.mem_of_mem_take hx)⟩
theorem ver_take {vs : List VerL} (h : verP vs) (k : Nat) : verP (vs.take k) := ⟨h.1.sublist (List.take_sublist k vs), fun v hv => h.2 v (List.mem_of_mem_take hv)⟩
theorem ok_none : okC [] := ⟨List.Pairwise.nil, fun x hx => by cases hx⟩
theorem ver_none : verP [] := ⟨List.Pairwise.nil, fun x hx => by cases hx⟩
end Go.Proofs.Ytlkhmpfdajefiaa.mv

/- Plain cells of keys: where a key stands in a row that rises, what of versions is reached (stage 8, the landed program). It speaks of no program. -/
namespace Go.Proofs.Ytlkhmpfdajefiaa.mv
open Go Go.Proofs.Ytlkhmpfdajefiaa.nums Go.Proofs.Ytlkhmpfdajefiaa.st
set_option linter.unusedVariables false

/-- What a comparison of texts tells. -/
def cmpS (a b : ByteArray) : Int := if sl a b then -1 else if a = b then 0 else 1
theorem cmp_list : ∀ l m : List UInt8, Lib.compareBytes l m = if Op.bytesLess l m then -1 else if l = m then 0 else 1
  | [], [] => rfl
  | [], _ :: _ => rfl
  | _ :: _, [] => by simp [Lib.compareBytes, Op.bytesLess]
  | x :: l, y :: m => by
    rcases u8_tri x y with h | rfl | h
    · simp [Lib.compareBytes, Op.bytesLess, h]
    · simp [Lib.compareBytes, Op.bytesLess, u8_irr x, cmp_list l m]
    · have h1 : ¬ x < y := fun g => u8_irr _ (u8_trans h g)
      have h2 : ¬ x = y := fun e => by subst e; exact u8_irr _ h
      simp [Lib.compareBytes, Op.bytesLess, h, h1, h2]
theorem cmp_text (a b : ByteArray) : Lib.compareBytes a.data.toList b.data.toList = cmpS a b := by
  rw [cmp_list]
  unfold cmpS sl
  by_cases h : Op.bytesLess a.data.toList b.data.toList = true
  · rw [if_pos h, if_pos h]
  · rw [if_neg h, if_neg h]
    by_cases e : a = b
    · rw [if_pos e, if_pos (by rw [e])]
    · rw [if_neg e, if_neg (fun g => e (ByteArray.ext (Array.toList_inj.1 g)))]
theorem cmp_lt {a b : ByteArray} : cmpS a b < 0 ↔ sl a b = true := by
  unfold cmpS
  split
  · simp_all
  · split <;> simp_all
theorem cmp_zero {a b : ByteArray} : cmpS a b = 0 ↔ a = b := by
  unfold cmpS
  split
  · rename_i h
    exact ⟨fun g => absurd g (by decide), fun g => by rw [g, sl_irr] at h; cases h⟩
  · split
    · rename_i h; exact ⟨fun _ => h, fun _ => rfl⟩
    · rename_i h; exact ⟨fun g => absurd g (by decide), fun g => absurd g h⟩
/-- How many of the keys stand ahead of k. -/
def Pos (cs : List CellL) (k : ByteArray) (p : Nat) : Prop :=
  p ≤ cs.length ∧ (∀ (i : Nat) (x : CellL), i < p → cs[i]? = some x → sl x.key k = true) ∧ ∀ (i : Nat) (x : CellL), p ≤ i → cs[i]? = some x → sl x.key k = false
/-- .. and whether k is the next one. -/
def PosB (cs : List CellL) (k : ByteArray) (p : Nat) (b : Bool) : Prop :=
  Pos cs k p ∧ (b = true → ∃ x, cs[p]? = some x ∧ x.key = k) ∧ (b = false → ∀ x, cs[p]? = some x → x.key ≠ k)
theorem keys_mono {cs : List CellL} (h : cs.Pairwise (fun a b => sl a.key b.key = true)) {i j : Nat} {x y : CellL} (hij : i < j) (hx : cs[i]? = some x) (hy : cs[j]? = some y) : sl x.key y.key = true := by
  obtain ⟨hi, rfl⟩ := List.getElem?_eq_some_iff.1 hx
  obtain ⟨hj, rfl⟩ := List.getElem?_eq_some_iff.1 hy
  exact List.pairwise_iff_getElem.1 h i j hi hj hij
theorem pos_up {cs : List CellL} (h : cs.Pairwise (fun a b => sl a.key b.key = true)) {k : ByteArray} {j : Nat} {y : CellL} (hy : cs[j]? = some y) (hk : sl y.key k = true) : ∀ (i : Nat) (x : CellL), i < j + 1 → cs[i]? = some x → sl x.key k = true := fun i x hi hx => by
  rcases Nat.lt_succ_iff_lt_or_eq.1 hi with h1 | rfl
  · exact sl_trans (keys_mono h h1 hx hy) hk
  · rw [hx] at hy; obtain rfl := Option.some.inj hy; exact hk
theorem pos_down {cs : List CellL} (h : cs.Pairwise (fun a b => sl a.key b.key = true)) {k : ByteArray} {j : Nat} {y : CellL} (hy : cs[j]? = some y) (hk : sl y.key k = false) : ∀ (i : Nat) (x : CellL), j ≤ i → cs[i]? = some x → sl x.key k = false := fun i x hi hx => by
  rcases Nat.lt_or_eq_of_le hi with h1 | rfl
  · cases hs : sl x.key k with
    | false => rfl
    | true => have := sl_trans (keys_mono h h1 hy hx) hs; rw [hk] at this; cases this
  · rw [hx] at hy; obtain rfl := Option.some.inj hy; exact hk
theorem posB_found {cs : List CellL} {k : ByteArray} {p : Nat} (hp : okC cs) (h : PosB cs k p true) : ∃ x, cs[p]? = some x ∧ x.key = k ∧ findF cs k = some x := by
  obtain ⟨x, hx, hk⟩ := h.2.1 rfl
  exact ⟨x, hx, hk, by rw [← hk]; exact find_mem hp.1 x (List.mem_of_getElem? hx)⟩
theorem posB_ne {cs : List CellL} {k : ByteArray} {p : Nat} (hs : cs.Pairwise (fun a b => sl a.key b.key = true)) (h : PosB cs k p false) : ∀ x ∈ cs, x.key ≠ k := fun x hx e => by
  obtain ⟨i, hi⟩ := List.mem_iff_getElem?.1 hx
  rcases Nat.lt_trichotomy i p with h1 | rfl | h1
  · have := h.1.2.1 i x h1 hi
    rw [e, sl_irr] at this; cases this
  · exact h.2.2 rfl x hi e
  · have hl := (List.getElem?_eq_some_iff.1 hi).1
    have hp : cs[p]? = some cs[p] := List.getElem?_eq_getElem (by omega)
    have h2 := h.1.2.2 p _ (Nat.le_refl _) hp
    have h3 := keys_mono hs h1 hp hi
    rw [e, h2] at h3; cases h3
theorem posB_none {cs : List CellL} {k : ByteArray} {p : Nat} (hs : cs.Pairwise (fun a b => sl a.key b.key = true)) (h : PosB cs k p false) : findF cs k = none := find_none (posB_ne hs h)
/-- What lies within a span is a piece. -/
theorem within_eq {cs : List CellL} {lo hi : ByteArray} {p q : Nat} (hp : Pos cs lo p) (hq : Pos cs hi q) : (cs.take (max p q)).drop p = cs.filter fun x => inF x.key lo hi := by
  have key : ∀ (l : List CellL) (p q : Nat), Pos l lo p → Pos l hi q → (l.take (max p q)).drop p = l.filter fun x => inF x.key lo hi := by
    intro l
    induction l with
    | nil => intro p q _ _; simp
    | cons x r ih =>
      intro p q hp hq
      have tl : ∀ (k : ByteArray) (m : Nat), Pos (x :: r) k m → Pos r k (m - 1) := fun k m h => ⟨by have := h.1; simp only [List.length_cons] at this; omega, fun i y hi hy => h.2.1 (i + 1) y (by omega) hy, fun i y hi hy => h.2.2 (i + 1) y (by omega) hy⟩
      have ihr := ih (p - 1) (q - 1) (tl _ _ hp) (tl _ _ hq)
      rcases p with _ | p
      · have h1 : sl x.key lo = false := hp.2.2 0 x (Nat.le_refl _) rfl
        rcases q with _ | q
        · have h2 : sl x.key hi = false := hq.2.2 0 x (Nat.le_refl _) rfl
          have hx : inF x.key lo hi = false := by simp [inF, h2]
          rw [List.filter_cons, hx]
          simpa using ihr
        · have h2 : sl x.key hi = true := hq.2.1 0 x (by omega) rfl
          have hx : inF x.key lo hi = true := by simp [inF, h1, h2]
          rw [List.filter_cons, hx]
          simp only [Nat.zero_max, Nat.add_sub_cancel, Nat.zero_sub] at ihr ⊢
          simpa using ihr
      · have h1 : sl x.key lo = true := hp.2.1 0 x (by omega) rfl
        have hx : inF x.key lo hi = false := by simp [inF, h1]
        rw [List.filter_cons, hx]
        simp only [Nat.add_sub_cancel] at ihr
        obtain ⟨m, hm⟩ : ∃ m, max (p + 1) q = m + 1 ∧ (m = max p (q - 1)) := ⟨max p (q - 1), by omega, rfl⟩
        rw [hm.1, hm.2, List.take_succ_cons, List.drop_succ_cons]
        simpa using ihr
  exact key cs p q hp hq
theorem blocks_within (cs : List CellL) (lo hi : ByteArray) (t : StL) : blocksF cs lo hi t = ((cs.filter fun x => inF x.key lo hi).find? fun x => x.locked && !lessF t x.lock.at_).map (·.lock) := by
  unfold blocksF
  rw [List.find?_filter]
  congr 2
  funext x
  rw [Bool.and_assoc]
  by_cases h : inF x.key lo hi = true
  · simp [h]
  · simp [h]
theorem scan_within (cs : List CellL) (lo hi : ByteArray) (t : StL) : scanF cs lo hi t = (cs.filter fun x => inF x.key lo hi).filterMap fun x => (ofF x.vers t).map fun d => (x.key, d) := by
  unfold scanF
  rw [List.filterMap_filter]
/-- How many versions are reached. -/
def Rch (vs : List VerL) (t : StL) (k : Nat) : Prop := k ≤ vs.length ∧ (∀ u ∈ vs.take k, lessF t u.at_ = false) ∧ ∀ u ∈ vs.drop k, lessF t u.at_ = true
theorem rch_of {vs : List VerL} (h : vs.Pairwise (fun a b => lessF a.at_ b.at_ = true)) {t : StL} {k : Nat} (hk : k ≤ vs.length) (hd : ∀ u ∈ vs.drop k, lessF t u.at_ = true) (hl : ∀ u, 0 < k → vs[k - 1]? = some u → lessF t u.at_ = false) : Rch vs t k := by
  refine ⟨hk, fun u hu => ?_, hd⟩
  obtain ⟨i, hi⟩ := List.mem_iff_getElem?.1 hu
  rw [List.getElem?_take] at hi
  split at hi
  · rename_i hik
    have hlen := (List.getElem?_eq_some_iff.1 hi).1
    have h1 : vs[k - 1]? = some vs[k - 1] := List.getElem?_eq_getElem (by omega)
    have h2 := hl _ (by omega) h1
    rcases Nat.lt_or_eq_of_le (show i ≤ k - 1 by omega) with h3 | rfl
    · cases hs : lessF t u.at_ with
      | false => rfl
      | true =>
        obtain ⟨hi1, rfl⟩ := List.getElem?_eq_some_iff.1 hi
        have := lt_trans hs (List.pairwise_iff_getElem.1 h i (k - 1) hi1 (by omega) h3)
        rw [h2] at this; cases this
    · rw [h1] at hi; obtain rfl := Option.some.inj hi; exact h2
  · cases hi
theorem rch_of_pick {vs : List VerL} {t : StL} {k : Nat} (h : Rch vs t k) : pickF vs t = if k = 0 then none else vs[k - 1]? := by
  unfold pickF
  have e : vs.filter (fun v => !lessF t v.at_) = vs.take k := by
    conv => lhs; rw [← List.take_append_drop k vs]
    rw [List.filter_append, List.filter_eq_self.2 (fun u hu => by rw [h.2.1 u hu]; rfl), List.filter_eq_nil_iff.2 (fun u hu => by rw [h.2.2 u hu]; simp), List.append_nil]
  rw [e, take_last h.1]
theorem with_over (v : VerL) : ∀ (l : List VerL) (k : Nat), (∀ u ∈ l.take k, lessF u.at_ v.at_ = true) → (∀ u, l[k]? = some u → lessF u.at_ v.at_ = false ∧ u.at_ = v.at_) → k < l.length → withF v l = l.set k v
  | [], k, _, _, h => by simp at h
  | x :: r, 0, _, h2, _ => by
    have := h2 x rfl
    unfold withF
    rw [this.1, if_neg (by simp), if_pos this.2]
    rfl
  | x :: r, k + 1, h1, h2, h3 => by
    have h0 := h1 x (by simp)
    unfold withF
    rw [if_pos h0, with_over v r k (fun u hu => h1 u (by simp [hu])) (fun u hu => h2 u hu) (by simpa using h3)]
    rfl
theorem with_between (v : VerL) : ∀ (l : List VerL) (k : Nat), k ≤ l.length → (∀ u ∈ l.take k, lessF u.at_ v.at_ = true) → (∀ u ∈ l.drop k, lessF v.at_ u.at_ = true) → withF v l = l.take k ++ v :: l.drop k
  | [], k, hk, _, _ => by simp [withF]
  | x :: r, 0, _, _, h2 => by
    have h0 := h2 x (by simp)
    unfold withF
    rw [lt_asym h0, if_neg (by simp), if_neg (fun e => lt_ne h0 e.symm)]
    rfl
  | x :: r, k + 1, hk, h1, h2 => by
    have h0 := h1 x (by simp)
    unfold withF
    rw [if_pos h0, with_between v r k (by simpa using hk) (fun u hu => h1 u (by simp [hu])) h2]
    rfl
theorem ins_new {v : VerL} {vs : List VerL} (h : vs.Pairwise (fun a b => lessF a.at_ b.at_ = true)) {k : Nat} (hR : Rch vs v.at_ k) (hne : ∀ u, 0 < k → vs[k - 1]? = some u → u.at_ ≠ v.at_) : withF v vs = vs.take k ++ v :: vs.drop k := by
  refine with_between v vs k hR.1 (fun u hu => ?_) hR.2.2
  have hlast : ∀ u, 0 < k → vs[k - 1]? = some u → lessF u.at_ v.at_ = true := fun u h0 hu => by
    have h1 := hR.2.1 u (List.mem_iff_getElem?.2 ⟨k - 1, by rw [List.getElem?_take, if_pos (by omega)]; exact hu⟩)
    rcases lt_tri u.at_ v.at_ with h2 | h2 | h2
    · exact h2
    · exact absurd h2 (hne u h0 hu)
    · rw [h1] at h2; cases h2
  obtain ⟨i, hi⟩ := List.mem_iff_getElem?.1 hu
  rw [List.getElem?_take] at hi
  split at hi
  · rename_i hik
    have hl := (List.getElem?_eq_some_iff.1 hi).1
    have hk1 : k - 1 < vs.length := by have := hR.1; omega
    have h1 : vs[k - 1]? = some vs[k - 1] := List.getElem?_eq_getElem hk1
    have h2 := hlast _ (by omega) h1
    rcases Nat.lt_or_eq_of_le (show i ≤ k - 1 by omega) with h3 | rfl
    · obtain ⟨hi1, rfl⟩ := List.getElem?_eq_some_iff.1 hi
      exact lt_trans (List.pairwise_iff_getElem.1 h i (k - 1) hi1 hk1 h3) h2
    · rw [h1] at hi; obtain rfl := Option.some.inj hi; exact h2
  · cases hi
theorem ins_over {v u : VerL} {vs : List VerL} (h : vs.Pairwise (fun a b => lessF a.at_ b.at_ = true)) {j : Nat} (hu : vs[j]? = some u) (he : u.at_ = v.at_) : withF v vs = vs.set j v := by
  obtain ⟨hj, rfl⟩ := List.getElem?_eq_some_iff.1 hu
  refine with_over v vs j (fun x hx => ?_) (fun x hx => ?_) hj
  · obtain ⟨i, hi⟩ := List.mem_iff_getElem?.1 hx
    rw [List.getElem?_take] at hi
    split at hi
    · obtain ⟨hi1, rfl⟩ := List.getElem?_eq_some_iff.1 hi
      rw [← he]
      exact List.pairwise_iff_getElem.1 h i j hi1 hj (by omega)
    · cases hi
  · rw [hu] at hx
    obtain rfl := Option.some.inj hx
    exact ⟨by rw [he]; exact lt_irr _, he⟩
end Go.Proofs.Ytlkhmpfdajefiaa.mv

/- Plain words on byte slices in memory (what a slice reads as; what a call owns) and laws of make, copy and append for them. Conditions: those that each theorem names. -/
namespace Go.Proofs.Ytlkhmpfdajefiaa.kit
open Go.RowKit

/-- The cells of bytes. -/
def u8s (l : List Int) : List Value := l.map (Value.int .u8)
theorem u8s_length (l : List Int) : (u8s l).length = l.length := by simp [u8s]
theorem u8s_append (l m : List Int) : u8s (l ++ m) = u8s l ++ u8s m := by simp [u8s]
theorem u8s_one (l : List Int) : ∀ u ∈ u8s l, u.oneCell' = true := ints_oneCell .u8 l
theorem u8s_getElem? (l : List Int) (j : Nat) (h : j < l.length) : (u8s l)[j]? = some (.int .u8 (l.getD j 0)) := by
  simp [u8s, List.getD, h]
theorem u8s_inj {l m : List Int} (h : u8s l = u8s m) : l = m := by
  have h' := congrArg (List.map intOf) h
  simpa [u8s, Function.comp_def, intOf] using h'

/-- The slice at address A with n elements reads as the bytes l and lies below block B. -/
def Rd (w : World) (B : Nat) (A : Option Addr) (n : Nat) (l : List Int) : Prop :=
  l.length = n ∧ (0 < n → ∃ b o, A = some ⟨b, o, none⟩ ∧ b < B ∧ ∀ j, j < n → w.cell? ⟨b, o + j, none⟩ = some (.int .u8 (l.getD j 0)))

section
variable {w w' : World} {B B' n : Nat} {A : Option Addr} {l : List Int}
theorem Rd.len (h : Rd w B A n l) : l.length = n := h.1
theorem Rd.keep (h : Rd w B A n l) (hk : ∀ b o, b < B → w'.cell? ⟨b, o, none⟩ = w.cell? ⟨b, o, none⟩) : Rd w' B A n l :=
  ⟨h.1, fun hn => by
    obtain ⟨b, o, e, hb, hc⟩ := h.2 hn
    exact ⟨b, o, e, hb, fun j hj => (hk b (o + j) hb).trans (hc j hj)⟩⟩
theorem Rd.below (h : Rd w B A n l) (hb : Below B w w') : Rd w' B A n l := h.keep fun b o hlt => hb.cell (p := ⟨b, o, none⟩) hlt
theorem Rd.more (h : Rd w B A n l) (hB : B ≤ B') : Rd w B' A n l :=
  ⟨h.1, fun hn => by
    obtain ⟨b, o, e, hb, hc⟩ := h.2 hn
    exact ⟨b, o, e, by omega, hc⟩⟩
theorem Rd.on (h : Rd w B A n l) (hb : Below B w w') (hB : B ≤ B') : Rd w' B' A n l := (h.below hb).more hB
theorem Rd.drew (h : Rd w B A n l) : Rd w.drew B A n l := h
theorem Rd.alloc (h : Rd w B A n l) (hB : B ≤ w.heap.size) (o : Obj) : Rd (w.alloc o) B A n l := h.below ((Below.refl _ _).alloc hB o)
theorem Rd.cut {b o p q : Nat} (h : Rd w B (some ⟨b, o, none⟩) n l) (hp : p ≤ q) (hq : q ≤ n) : Rd w B (some ⟨b, o + p, none⟩) (q - p) ((l.drop p).take (q - p)) := by
  refine ⟨by rw [List.length_take, List.length_drop, h.1]; omega, fun hn => ?_⟩
  obtain ⟨b', o', e, hb, hc⟩ := h.2 (by omega)
  simp only [Option.some.injEq, Addr.mk.injEq, and_true] at e
  obtain ⟨rfl, rfl⟩ := e
  refine ⟨b, o + p, rfl, hb, fun j hj => ?_⟩
  rw [Nat.add_assoc, hc (p + j) (by omega), List.getD_eq_getElem?_getD, List.getD_eq_getElem?_getD, List.getElem?_take, if_pos hj, List.getElem?_drop]
theorem Rd.nil (w : World) (B : Nat) (A : Option Addr) : Rd w B A 0 [] := ⟨rfl, fun h => absurd h (by omega)⟩
/-- The cells of a reading, for the laws of copy and append. -/
theorem Rd.pos (h : Rd w B A n l) : 0 < (u8s l).length → ∃ ad, A = some ad ∧ ∀ j u, (u8s l)[j]? = some u → w.cell? (ad.add j) = some u := by
  intro hl
  rw [u8s_length, h.1] at hl
  obtain ⟨b, o, e, _, hc⟩ := h.2 hl
  refine ⟨⟨b, o, none⟩, e, fun j u hu => ?_⟩
  have hj : j < l.length := by
    have := (List.getElem?_eq_some_iff.1 hu).1
    simpa [u8s_length] using this
  rw [u8s_getElem? l j hj] at hu
  obtain rfl := Option.some.inj hu
  rw [Addr.add_lit]
  exact hc j (by rw [← h.1]; exact hj)
end

/-- The value v is a slice that the call has made (from block 'base' on), with the bytes l; E: the element type's number. -/
def Own (E : TypeId) (w : World) (base : Nat) (v : Value) (l : List Int) : Prop := w.ownsRow base E 1 v l.length (u8s l)

section
variable {E : TypeId} {w w' : World} {base base' : Nat} {v : Value} {l : List Int}
theorem Own.nil (E : TypeId) (w : World) (base : Nat) : Own E w base (.slice none 0 0) [] := World.ownsRow_nil w base E 1
theorem Own.lt (h : Own E w base v l) : ∀ k, v.ownBlock = some k → base ≤ k ∧ k < w.heap.size := World.ownsRow.lt h
/-- What is owned is a slice, and reads. -/
theorem Own.slice (h : Own E w base v l) : ∃ A c, v = .slice A l.length c ∧ l.length ≤ c ∧ c ≤ maxLen ∧ Rd w w.heap.size A l.length l := by
  have h0 := h
  rcases h.2 with ⟨hv, hn⟩ | ⟨g, cap, cur, rfl, hb, hg, hnc, hcm, hcs, htake⟩
  · exact ⟨none, 0, by rw [hv, hn], by omega, by omega, rfl, fun hp => absurd hp (by omega)⟩
  · refine ⟨_, cap, rfl, hnc, hcm, rfl, fun _ => ⟨g, 0, rfl, (Array.getElem?_eq_some_iff.1 hg).1, fun j hj => ?_⟩⟩
    rw [Nat.zero_add, World.ownsRow.cellAt (show w.ownsRow base E 1 _ _ _ from h0) j (by omega), u8s_getElem? l j hj]
theorem Own.more (h : Own E w base v l) (hB : base' ≤ base) : Own E w base' v l := by
  refine ⟨h.1, ?_⟩
  rcases h.2 with hn | ⟨g, cap, cur, rfl, hb, r⟩
  · exact .inl hn
  · exact .inr ⟨g, cap, cur, rfl, by omega, r⟩
/-- What is owned stays so where nothing below the heap's size turns. -/
theorem Own.below (h : Own E w base v l) (hb : Below w.heap.size w w') : Own E w' base v l := by
  refine ⟨h.1, ?_⟩
  rcases h.2 with hn | ⟨g, cap, cur, rfl, hbg, hg, r⟩
  · exact .inl hn
  · exact .inr ⟨g, cap, cur, rfl, hbg, by rw [hb.block g (Array.getElem?_eq_some_iff.1 hg).1]; exact hg, r⟩
/-- What lies below B stays owned where nothing below B turns. -/
theorem Own.below' {B : Nat} (h : Own E w base v l) (hb : Below B w w') (hv : ∀ k, v.ownBlock = some k → k < B) : Own E w' base v l := by
  refine ⟨h.1, ?_⟩
  rcases h.2 with hn | ⟨g, cap, cur, rfl, hbg, hg, r⟩
  · exact .inl hn
  · exact .inr ⟨g, cap, cur, rfl, hbg, by rw [hb.block g (hv g rfl)]; exact hg, r⟩
end

/-- Block g is just the cells cs, of element type E, none frozen. -/
def Blk (E : TypeId) (w : World) (g : Nat) (cs : List Value) : Prop := w.heap[g]? = some (.cells cs.toArray E (0, 0))
/-- So many bytes 0. -/
def zeros (n : Nat) : List Value := List.replicate n (.int .u8 0)
theorem zeros_length (n : Nat) : (zeros n).length = n := by simp [zeros]

section
variable {E : TypeId} {w w' : World} {g : Nat} {cs : List Value}
theorem Blk.lt (h : Blk E w g cs) : g < w.heap.size := (Array.getElem?_eq_some_iff.1 h).1
theorem Blk.drew (h : Blk E w g cs) : Blk E w.drew g cs := h
theorem Blk.below {B : Nat} (h : Blk E w g cs) (hb : Below B w w') (hg : g < B) : Blk E w' g cs := (hb.block g hg).trans h
theorem Blk.alloc (h : Blk E w g cs) (o : Obj) : Blk E (w.alloc o) g cs := h.below ((Below.refl _ _).alloc (Nat.le_refl _) o) h.lt
theorem Blk.cell (h : Blk E w g cs) (j : Nat) : w.cell? ⟨g, j, none⟩ = cs[j]? := by
  rw [cell_of_row w g j _ E (0, 0) h]; simp
theorem Blk.frozen (h : Blk E w g cs) (j : Nat) : w.frozen? ⟨g, j, none⟩ = false := by
  unfold Blk at h; simp [World.frozen?, h]
theorem Blk.rd {l : List Int} {n : Nat} (h : Blk E w g cs) (ht : cs.take n = u8s l) (hn : l.length = n) {B : Nat} (hB : g < B) : Rd w B (some ⟨g, 0, none⟩) n l :=
  ⟨hn, fun _ => ⟨g, 0, rfl, hB, fun j hj => by
    rw [Nat.zero_add, h.cell j]
    have e : (cs.take n)[j]? = cs[j]? := by rw [List.getElem?_take, if_pos hj]
    rw [← e, ht, u8s_getElem? l j (by omega)]⟩⟩
theorem Blk.set_ (h : Blk E w g cs) (j : Nat) (u : Value) : Blk E (w.setCell ⟨g, j, none⟩ u) g (cs.set j u) := by
  unfold Blk at h ⊢
  simp [World.setCell, Array.getElem?_modify, h]
theorem Blk.far (h : Blk E w g cs) {p : Addr} (hp : g ≠ p.block) (u : Value) : Blk E (w.setCell p u) g cs := (Below.heap_setCell w p u g hp).trans h
end

theorem zeros_set (m : Nat) (x : Int) (r : List Value) : (zeros (m + 1) ++ r).set m (.int .u8 x) = zeros m ++ (.int .u8 x :: r) := by
  have h : zeros (m + 1) = zeros m ++ [.int .u8 0] := by unfold zeros; rw [List.replicate_succ']
  rw [h, List.append_assoc, List.set_append_right _ _ (by simp [zeros])]
  simp [zeros]
theorem zeros_get (m : Nat) (r : List Value) : (zeros (m + 1) ++ r)[m]? = some (.int .u8 0) := by
  rw [List.getElem?_append_left (by simp [zeros])]
  simp [zeros]
/-- 'make([]T, l, c)', both variables: a new block of c zero cells. The world behind it is a variable. -/
theorem wpList_make_room {P : Program} (w : World) {ops : Array Oper} {rest : List Oper} {o : Oper} {a : Act} {Q : Exit → Act → World → Prop}
    (hg : o.guard = none) (l c : Operand) (t : TypeId) (hop : o.op = Op.makeSlice t l c)
    (e : TypeId) (i : TypeInfo) (z : Value) (h1 : P.underlying t = some (.slice e)) (h2 : P.info? e = some i) (h3 : i.zero = some z) (h4 : i.size = 1) (hz : z.cells = #[z])
    (kl kc : IntKind) (L C : Int) (m n : Nat) (hl : a.eval l = .int kl L) (hc : a.eval c = .int kc C) (hL : L = (m : Int)) (hC : C = (n : Int)) (hmn : m ≤ n) (b2 : i.bytes * n ≤ 281474976710656) (b3 : n ≤ maxLen)
    (hK : ∀ w', Blk e w' w.heap.size (List.replicate n z) → Below w.heap.size w w' → Hid (w'.heap.size = w.heap.size + 1) →
      wpList P ops Q rest (a.put o.dst (.slice (some ⟨w.heap.size, 0, none⟩) m n)) w') :
    wpList P ops Q (o :: rest) a w := by
  refine wpList_plain hg fun K hK' => ?_
  have h63' : (n : Int) ≤ 9223372036854775807 := by
    have h := b3
    simp [maxLen] at h
    omega
  have hb' : (i.bytes : Int) * (n : Int) ≤ 281474976710656 := by
    have h : ((i.bytes * n : Nat) : Int) ≤ 281474976710656 := by omega
    rwa [Int.natCast_mul] at h
  have hrun := run_make (P := P) w t e i z h1 h2 h3 kl kc m n (by omega) (by omega) hb' h63'
  simp only [Int.toNat_natCast, h4, Nat.mul_one, hz] at hrun
  subst hL
  subst hC
  unfold Oper.wp
  simp [execOp, hop, hl, hc, hrun, Result.andThen]
  refine hK' _ _ (hK _ ?_ ((Below.refl _ _).alloc (Nat.le_refl _) _) ?_)
  · show (w.heap.push _)[w.heap.size]? = _
    rw [Array.getElem?_push, if_pos rfl]
    have e0 : (madeCells #[z] n) = (List.replicate n z).toArray := by
      rw [← toList_madeCells_one z n]
    rw [e0]
  · show (w.heap.push _).size = _
    simp

/-- The same for bytes. -/
theorem wpList_make_bytes {P : Program} (w : World) {ops : Array Oper} {rest : List Oper} {o : Oper} {a : Act} {Q : Exit → Act → World → Prop}
    (hg : o.guard = none) (l c : Operand) (t : TypeId) (hop : o.op = Op.makeSlice t l c)
    (e : TypeId) (h1 : P.underlying t = some (.slice e)) (h2 : (P.info? e).map (fun i => (i.zero, i.size, i.bytes)) = some (some (.int .u8 0), 1, 1))
    (kl kc : IntKind) (L C : Int) (m n : Nat) (hl : a.eval l = .int kl L) (hc : a.eval c = .int kc C) (hL : L = (m : Int)) (hC : C = (n : Int)) (hmn : m ≤ n) (b : n ≤ 140737488355328)
    (hK : ∀ w', Blk e w' w.heap.size (zeros n) → Below w.heap.size w w' → Hid (w'.heap.size = w.heap.size + 1) →
      wpList P ops Q rest (a.put o.dst (.slice (some ⟨w.heap.size, 0, none⟩) m n)) w') :
    wpList P ops Q (o :: rest) a w := by
  obtain ⟨i, hi, hz0, hz1, hz2⟩ := info_parts h2
  exact wpList_make_room w hg l c t hop e i (.int .u8 0) h1 hi hz0 hz1 rfl kl kc L C m n hl hc hL hC hmn (by rw [hz2]; omega) (by unfold maxLen; omega) hK

/-- 'copy(dst, src)': dst in a block that is known whole, src any slice of bytes that is no longer than dst. -/
theorem wpList_copy_rd {P : Program} {w : World} {ops : Array Oper} {rest : List Oper} {o : Oper} {a : Act} {Q : Exit → Act → World → Prop} (hgd : o.guard = none) (d s : Operand) (dT sT : TypeId)
    (ho : o.op = .call { callee := .builtin .copy, args := #[d, s], argTypes := #[dT, sT] }) (e : TypeId) (hu : P.underlying dT = some (.slice e)) (h2 : (P.info? e).map (fun i => (i.zero, i.size, i.bytes)) = some (some (.int .u8 0), 1, 1))
    (dLen dCap sLen sCap : Nat) (sp : Option Addr) (g off : Nat) (hd : a.eval d = .slice (some ⟨g, off, none⟩) dLen dCap) (hs : a.eval s = .slice sp sLen sCap)
    (cur : List Value) (E : TypeId) (hg : Blk E w g cur) (B : Nat) (l : List Int) (hR : Rd w B sp sLen l) (hn : sLen ≤ dLen) (hfit : off + sLen ≤ cur.length)
    (h : ∀ w', Blk E w' g (splice cur off (u8s l)) → Below g w w' → Hid (w'.heap.size = w.heap.size) → wpList P ops Q rest (a.put o.dst (goInt l.length)) w') :
    wpList P ops Q (o :: rest) a w := by
  obtain ⟨i, hi, hz0, hz1, hz2⟩ := info_parts h2
  have hlen : (u8s l).length = sLen := by rw [u8s_length, hR.1]
  have hsz : (P.info? e).map (·.size) = some 1 := by rw [hi]; simp [hz1]
  by_cases h0 : sLen = 0
  · have hl0 : l = [] := List.eq_nil_of_length_eq_zero (by rw [hR.1, h0])
    subst hl0
    refine wpList_copy_nothing hgd d s dT sT ho e hu hsz _ _ _ _ _ _ hd hs (by rw [h0]; simp) ?_
    exact h w (by simpa [splice, u8s] using hg) (Below.refl _ _) rfl
  · obtain ⟨ad, rfl, hsrc⟩ := hR.pos (by omega)
    refine wpList_copy_own hgd d s dT sT ho e hu hsz g off dLen dCap ad sLen sCap hd hs cur.toArray E hg (u8s l) (by rw [hlen]; exact (Nat.min_eq_left hn).symm) hsrc (by simp [hlen]; omega) (u8s_one l) ?_
    rw [u8s_length]
    refine h _ ?_ (below_setRow (Below.refl _ _) (Nat.le_refl _) _) (by show (World.setRow _ _ _).heap.size = _; simp [World.setRow])
    have := setRow_heap w g cur.toArray (cur.take off ++ (u8s l ++ cur.drop (off + (u8s l).length))).toArray E (0, 0) hg
    simpa [Blk, splice, u8s_length] using this

theorem own_of_block {E : TypeId} {w : World} {base g : Nat} {cs : List Value} {l : List Int} {n c : Nat} (hb : base ≤ g) (hg : Blk E w g cs) (hn : l.length = n) (hl : n ≤ c) (hc : c ≤ 140737488355328)
    (hs : cs.length = c) (ht : cs.take n = u8s l) : Own E w base (.slice (some ⟨g, 0, none⟩) n c) l := by
  subst hn
  exact ⟨by rw [u8s_length, Nat.mul_one], .inr ⟨g, c, cs.toArray, rfl, hb, hg, hl, by unfold maxLen; omega, by simpa using hs, by simpa using ht⟩⟩

theorem run_append_src_none {P : Program} (w : World) (base : Nat) (t ty e : TypeId) (i : TypeInfo) (ht : P.underlying t = some (.slice e)) (hi : P.info? e = some i)
    (v : Value) (n : Nat) (xs : List Value) (hown : w.ownsRow base e 1 v n xs) (c : Nat) :
    (Builtin.append_ #[t, t] ty #[v, .slice none 0 c]).run P w = .ok v w := by
  rcases hown.2 with ⟨rfl, rfl⟩ | ⟨g, cap, cur, rfl, _, _, hnc, _⟩
  · simp [Builtin.append_, run_underlying ht, sizeOf, typeInfo, hi, Builtin.lenOf, Builtin.firstCells]
  · simp [Builtin.append_, run_underlying ht, sizeOf, typeInfo, hi, Builtin.lenOf, Builtin.firstCells, hnc, storeCells]

theorem run_append_rd {P : Program} (w : World) (base : Nat) (t ty e : TypeId) (ht : P.underlying t = some (.slice e)) (h2 : (P.info? e).map (fun i => (i.zero, i.size, i.bytes)) = some (some (.int .u8 0), 1, 1))
    (A : Option Addr) (n c : Nat) (l : List Int) (hn : l.length = n) (hown : Own e w base (.slice A n c) l)
    (B : Nat) (X : Option Addr) (m xc : Nat) (news : List Int) (hR : Rd w B X m news) (hb : n + m ≤ 140737488355328) (hbase : base ≤ w.heap.size) :
    ∃ A' c' w', (Builtin.append_ #[t, t] ty #[.slice A n c, .slice X m xc]).run P w = .ok (.slice A' (n + m) c') w' ∧ Own e w' base (.slice A' (n + m) c') (l ++ news) ∧ Below base w w' ∧ w.grownBy w' (Value.ownBlock (.slice A n c)) := by
  obtain ⟨i, hi, hz0, hz1, hz2⟩ := info_parts h2
  have hm : news.length = m := hR.1
  have hfin : ∀ (v' : Value) (w' : World), w'.ownsRow base e 1 v' (n + m) (u8s (l ++ news)) → w.grownBy w' (Value.ownBlock (.slice A n c)) → ∃ A' c', v' = .slice A' (n + m) c' ∧ Own e w' base (.slice A' (n + m) c') (l ++ news) ∧ Below base w w' := by
    intro v' w' h hg
    have hO : Own e w' base v' (l ++ news) := by
      unfold Own; rw [List.length_append, hn, hm]; exact h
    obtain ⟨A', c', e1, _⟩ := hO.slice
    rw [List.length_append, hn, hm] at e1
    refine ⟨A', c', e1, by rw [← e1]; exact hO, ?_⟩
    exact (Below.refl base w).grown hg hbase (fun k hk => (hown.lt k hk).1)
  rcases X with _ | ad
  · have hm0 : m = 0 := by
      rcases Nat.eq_zero_or_pos m with h0 | h0
      · exact h0
      · obtain ⟨b, o, h, _⟩ := hR.2 h0
        cases h
    subst hm0
    have hnews : news = [] := List.eq_nil_of_length_eq_zero hm
    subst hnews
    have hown' : w.ownsRow base e 1 (.slice A n c) n (u8s l) := by unfold Own at hown; rw [hn] at hown; exact hown
    refine ⟨A, c, w, run_append_src_none w base t ty e i ht hi _ n (u8s l) hown' xc, ?_, Below.refl _ _, World.grownBy.refl _ _⟩
    simpa using hown
  · have hcells : ∀ j u, (u8s news)[j]? = some u → w.cell? (ad.add j) = some u := by
      intro j u hu
      have hp : 0 < (u8s news).length := by have := (List.getElem?_eq_some_iff.1 hu).1; omega
      obtain ⟨ad', h, hc⟩ := hR.pos hp
      injection h with h
      subst h
      exact hc j u hu
    have hown' : w.ownsRow base e 1 (.slice A n c) n (u8s l) := by unfold Own at hown; rw [hn] at hown; exact hown
    obtain ⟨v', w', hrun, h3, h4, _⟩ := run_append_own (P := P) w base t ty e i (.int .u8 0) 1 1 ht hi hz0 hz1 hz2 rfl (by omega) _ n (u8s l) hown' ad m xc (u8s news) (by rw [u8s_length, hm, Nat.mul_one]) hcells (u8s_one news) (by unfold maxLen; omega) (by omega) hbase
    rw [← u8s_append] at h3
    obtain ⟨A', c', rfl, hO, hB⟩ := hfin v' w' h3 h4
    exact ⟨A', c', w', hrun, hO, hB, h4⟩

/-- 'append(out, xs...)': out is the call's own, xs any slice of bytes. -/
theorem wpList_append_rd {P : Program} {w : World} {ops : Array Oper} {rest : List Oper} {o : Oper} {a : Act} {Q : Exit → Act → World → Prop} (hgd : o.guard = none) (s x : Operand) (t : TypeId)
    (ho : o.op = .call { callee := .builtin .append, args := #[s, x], argTypes := #[t, t] }) (base : Nat) (e : TypeId) (ht : P.underlying t = some (.slice e)) (h2 : (P.info? e).map (fun i => (i.zero, i.size, i.bytes)) = some (some (.int .u8 0), 1, 1))
    (A : Option Addr) (n c : Nat) (l : List Int) (hn : l.length = n) (hs : a.eval s = .slice A n c) (hown : Own e w base (.slice A n c) l)
    (B : Nat) (X : Option Addr) (m xc : Nat) (news : List Int) (hx : a.eval x = .slice X m xc) (hR : Rd w B X m news) (hb : n + m ≤ 140737488355328) (hbase : base ≤ w.heap.size)
    (h : ∀ A' c' w', Own e w' base (.slice A' (n + m) c') (l ++ news) → Below base w w' → w.grownBy w' (Value.ownBlock (.slice A n c)) → wpList P ops Q rest (a.put o.dst (.slice A' (n + m) c')) w') : wpList P ops Q (o :: rest) a w := by
  refine wpList_plain hgd fun K hK => ?_
  obtain ⟨A', c', w', hrun, h3, h4, h5⟩ := run_append_rd (P := P) w base t o.type e ht h2 A n c l hn hown B X m xc news hR hb hbase
  unfold Oper.wp execOp
  simp only [ho, resolve, invoke, builtin, Sem.run_bind, Sem.run_pure, Result.andThen_ok, List.map_toArray, List.map_cons, List.map_nil, hs, hx, hrun]
  exact hK _ _ (h A' c' w' h3 h4 h5)

/-- The one-cell block that 'append(out, x)' lays. -/
theorem Rd.one (w : World) (E : TypeId) (z : Int) : Rd (w.alloc (.cells #[.int .u8 z] E)) (w.heap.size + 1) (some ⟨w.heap.size, 0, none⟩) 1 [z] := by
  refine ⟨rfl, fun _ => ⟨_, 0, rfl, by omega, fun j hj => ?_⟩⟩
  obtain rfl : j = 0 := by omega
  have hb : Blk E (w.alloc (.cells #[.int .u8 z] E)) w.heap.size [.int .u8 z] := heap_alloc_new w _
  rw [hb.cell]
  rfl
/-- The empty slice that '[]byte{}' lays. -/
theorem Own.empty (w : World) (E : TypeId) {base : Nat} (hb : base ≤ w.heap.size) : Own E (w.alloc (.cells #[] E)) base (.slice (some ⟨w.heap.size, 0, none⟩) 0 0) [] := by
  have h : Blk E (w.alloc (.cells #[] E)) w.heap.size [] := heap_alloc_new w _
  exact ⟨rfl, .inr ⟨w.heap.size, 0, #[], rfl, hb, h, Nat.le_refl _, by unfold maxLen; omega, rfl, rfl⟩⟩
theorem Own.alloc {E : TypeId} {w : World} {base : Nat} {v : Value} {l : List Int} (h : Own E w base v l) (o : Obj) : Own E (w.alloc o) base v l := h.below ((Below.refl _ _).alloc (Nat.le_refl _) o)
theorem Own.drew {E : TypeId} {w : World} {base : Nat} {v : Value} {l : List Int} (h : Own E w base v l) : Own E w.drew base v l := h

/-- 'string(b)' of any slice of bytes. -/
theorem run_string_rd {P : Program} (w : World) (src e dst : TypeId) (hs : P.underlying src = some (.slice e)) (he : P.underlying e = some (.int .u8)) (hd : P.underlying dst = some .string)
    (B : Nat) (A : Option Addr) (n c : Nat) (l : List Int) (hR : Rd w B A n l) : (convert src dst (.slice A n c)).run P w = .ok (.string (strOfNums l)) w := by
  by_cases h0 : n = 0
  · subst h0
    have hl : l = [] := List.eq_nil_of_length_eq_zero hR.1
    subst hl
    rcases A with _ | ad
    · rw [run_convert_bytes_nil w src e hs he 0 c dst hd]; rfl
    · rw [run_convert_bytes_string w src dst e _ 0 c hs he hd, run_bytesToString w ad 0 c [] (by simp [loadCells, loadCellsFrom])]
      rfl
  · obtain ⟨b, o, rfl, _, hc⟩ := hR.2 (by omega)
    exact run_convert_bytes_arg w src e hs he b o n c l hR.1 hc dst hd

/-- What a call ends in that hands back a new slice of n bytes l, and the error 0. -/
def RetS (E : TypeId) (W : World) (n : Nat) (l : List Int) (e : Ending) (w' : World) : Prop :=
  ∃ A c, e = .returned (.tuple #[.slice A n c, .int .i64 0]) ∧ l.length = n ∧ Own E w' W.heap.size (.slice A n c) l ∧ Below W.heap.size W w'
/-- What a call ends in that hands back a slice of n bytes l that lies from block base on. -/
def RetO (E : TypeId) (W : World) (base n : Nat) (l : List Int) (e : Ending) (w' : World) : Prop :=
  ∃ A c, e = .returned (.slice A n c) ∧ l.length = n ∧ Own E w' base (.slice A n c) l ∧ Below base W w'
/-- What a call ends in that hands back a new slice of n bytes l alone. -/
def RetL (E : TypeId) (W : World) (n : Nat) (l : List Int) (e : Ending) (w' : World) : Prop :=
  ∃ A c, e = .returned (.slice A n c) ∧ l.length = n ∧ Own E w' W.heap.size (.slice A n c) l ∧ Below W.heap.size W w'

theorem splice_zeros (n k : Nat) (l : List Int) (h : l.length = n) : (splice (zeros (n + k)) 0 (u8s l)).take n = u8s l ∧ (splice (zeros (n + k)) 0 (u8s l)).length = n + k := by
  constructor
  · rw [← h, ← u8s_length l]; simp [splice]
  · rw [length_splice _ _ _ (by simp [u8s_length, zeros]; omega)]; simp [zeros]
end Go.Proofs.Ytlkhmpfdajefiaa.kit

/- How a slice of bytes that comes in reads, in the words of the kit. No condition. -/
namespace Go.Proofs.Ytlkhmpfdajefiaa.frame
open Go.ChangeShapes Go.WideShapes Go.ChangeAt Go.RowKit Go.Proofs.Ytlkhmpfdajefiaa.kit Go.Proofs.Ytlkhmpfdajefiaa.nums

end Go.Proofs.Ytlkhmpfdajefiaa.frame

/- What the document's stamps (antipoderef6) come to: Less, Max, LessTry, Tie, Limit, Read. Conditions: numbers in range. -/
namespace Go.Proofs.Ytlkhmpfdajefiaa.ref6
open Go.RowKit Go.Proofs.Ytlkhmpfdajefiaa.kit Go.Proofs.Ytlkhmpfdajefiaa.nums Go.Proofs.Ytlkhmpfdajefiaa.st
set_option linter.unusedVariables false

def stV (a : StL) : Value := .agg #[.int .i64 a.wall, .int .i64 a.tie]
def trV (a : TrL) : Value := .agg #[.int .i64 a.node, .int .i64 a.life, .int .i64 a.seq, .int .i64 a.att]
theorem less_any (a b : StL) (w : World) :
    Calls Try.prog 21 #[stV a, stV b] w fun e w' => e = .returned (.bool (lessF a b)) ∧ Below w.heap.size w w' := by
  obtain ⟨p, q⟩ := a
  obtain ⟨r, s⟩ := b
  have HB : Hid (Below w.heap.size w ((w.alloc (.cells #[.int .i64 p, .int .i64 q] 24)).alloc (.cells #[.int .i64 r, .int .i64 s] 24))) := ((Below.refl _ _).alloc (Nat.le_refl _) _).alloc (by simp) _
  unfold stV lessF
  dsimp only
  by_cases h1 : p < r
  · go_enter Try.func21, Try.ntmps21
    go_wp2_with fail
    go_ret
    exact ⟨by simp [h1], HB.out⟩
  · by_cases h2 : p = r
    · subst h2
      go_enter Try.func21, Try.ntmps21
      go_wp2_with fail
      go_ret
      exact ⟨by simp, HB.out⟩
    · have h2' : (p == r) = false := by simpa using h2
      go_enter Try.func21, Try.ntmps21
      go_wp2_with fail
      go_ret
      exact ⟨by simp [h1], HB.out⟩
end Go.Proofs.Ytlkhmpfdajefiaa.ref6

/- Plain words on slices of any one-cell elements in memory, and on slices of slices of bytes; laws of append for them. Conditions: those that each theorem names. -/
namespace Go.Proofs.Ytlkhmpfdajefiaa.kit
open Go.RowKit Go.Proofs.Ytlkhmpfdajefiaa.nums

/-- The slice at address A with n elements has the cells xs and lies below block B. -/
def RdV (w : World) (B : Nat) (A : Option Addr) (n : Nat) (xs : List Value) : Prop :=
  xs.length = n ∧ (0 < n → ∃ b o, A = some ⟨b, o, none⟩ ∧ b < B ∧ ∀ j, j < n → w.cell? ⟨b, o + j, none⟩ = xs[j]?)
def OwnV (E : TypeId) (w : World) (base : Nat) (v : Value) (xs : List Value) : Prop := w.ownsRow base E 1 v xs.length xs

section
variable {w w' : World} {B B' n : Nat} {A : Option Addr} {xs : List Value}
theorem RdV.keep (h : RdV w B A n xs) (hk : ∀ b o, b < B → w'.cell? ⟨b, o, none⟩ = w.cell? ⟨b, o, none⟩) : RdV w' B A n xs :=
  ⟨h.1, fun hn => by
    obtain ⟨b, o, e, hb, hc⟩ := h.2 hn
    exact ⟨b, o, e, hb, fun j hj => (hk b (o + j) hb).trans (hc j hj)⟩⟩
theorem RdV.below (h : RdV w B A n xs) (hb : Below B w w') : RdV w' B A n xs := h.keep fun b o hlt => hb.cell (p := ⟨b, o, none⟩) hlt
theorem RdV.more (h : RdV w B A n xs) (hB : B ≤ B') : RdV w B' A n xs :=
  ⟨h.1, fun hn => by
    obtain ⟨b, o, e, hb, hc⟩ := h.2 hn
    exact ⟨b, o, e, by omega, hc⟩⟩
theorem RdV.on (h : RdV w B A n xs) (hb : Below B w w') (hB : B ≤ B') : RdV w' B' A n xs := (h.below hb).more hB
theorem RdV.nil (w : World) (B : Nat) (A : Option Addr) : RdV w B A 0 [] := ⟨rfl, fun h => absurd h (by omega)⟩
theorem RdV.pos (h : RdV w B A n xs) : 0 < xs.length → ∃ ad, A = some ad ∧ ∀ j u, xs[j]? = some u → w.cell? (ad.add j) = some u := by
  intro hl
  rw [h.1] at hl
  obtain ⟨b, o, e, _, hc⟩ := h.2 hl
  refine ⟨⟨b, o, none⟩, e, fun j u hu => ?_⟩
  have hj : j < xs.length := (List.getElem?_eq_some_iff.1 hu).1
  rw [Addr.add_lit, ← hu]
  exact hc j (by rw [← h.1]; exact hj)
/-- The cell that an index reads. -/
theorem RdV.at_ (h : RdV w B A n xs) {j : Nat} (hj : j < n) : ∃ b o u, A = some ⟨b, o, none⟩ ∧ xs[j]? = some u ∧ w.cell? ⟨b, o + j, none⟩ = some u := by
  obtain ⟨b, o, e, _, hc⟩ := h.2 (by omega)
  have hl : j < xs.length := by have := h.1; omega
  exact ⟨b, o, xs[j], e, List.getElem?_eq_getElem hl, by rw [hc j hj, List.getElem?_eq_getElem hl]⟩
theorem RdV.one (w : World) (E : TypeId) (z : Value) : RdV (w.alloc (.cells #[z] E)) (w.heap.size + 1) (some ⟨w.heap.size, 0, none⟩) 1 [z] := by
  refine ⟨rfl, fun _ => ⟨_, 0, rfl, by omega, fun j hj => ?_⟩⟩
  obtain rfl : j = 0 := by omega
  have hb : Blk E (w.alloc (.cells #[z] E)) w.heap.size [z] := heap_alloc_new w _
  rw [hb.cell]
end

section
variable {E : TypeId} {w w' : World} {base base' : Nat} {v : Value} {xs : List Value}
theorem OwnV.nil (E : TypeId) (w : World) (base : Nat) : OwnV E w base (.slice none 0 0) [] := World.ownsRow_nil w base E 1
theorem OwnV.lt (h : OwnV E w base v xs) : ∀ k, v.ownBlock = some k → base ≤ k ∧ k < w.heap.size := World.ownsRow.lt h
theorem OwnV.slice (h : OwnV E w base v xs) : ∃ A c, v = .slice A xs.length c ∧ xs.length ≤ c ∧ c ≤ maxLen ∧ RdV w w.heap.size A xs.length xs := by
  have h0 := h
  rcases h.2 with ⟨hv, hn⟩ | ⟨g, cap, cur, rfl, hb, hg, hnc, hcm, hcs, htake⟩
  · exact ⟨none, 0, by rw [hv, hn], by omega, by omega, rfl, fun hp => absurd hp (by omega)⟩
  · refine ⟨_, cap, rfl, hnc, hcm, rfl, fun _ => ⟨g, 0, rfl, (Array.getElem?_eq_some_iff.1 hg).1, fun j hj => ?_⟩⟩
    rw [Nat.zero_add, World.ownsRow.cellAt (show w.ownsRow base E 1 _ _ _ from h0) j (by omega)]
theorem OwnV.below (h : OwnV E w base v xs) (hb : Below w.heap.size w w') : OwnV E w' base v xs := by
  refine ⟨h.1, ?_⟩
  rcases h.2 with hn | ⟨g, cap, cur, rfl, hbg, hg, r⟩
  · exact .inl hn
  · exact .inr ⟨g, cap, cur, rfl, hbg, by rw [hb.block g (Array.getElem?_eq_some_iff.1 hg).1]; exact hg, r⟩
theorem OwnV.more (h : OwnV E w base v xs) (hB : base' ≤ base) : OwnV E w base' v xs := by
  refine ⟨h.1, ?_⟩
  rcases h.2 with hn | ⟨g, cap, cur, rfl, hb, r⟩
  · exact .inl hn
  · exact .inr ⟨g, cap, cur, rfl, by omega, r⟩
theorem OwnV.alloc (h : OwnV E w base v xs) (o : Obj) : OwnV E (w.alloc o) base v xs := h.below ((Below.refl _ _).alloc (Nat.le_refl _) o)
end

theorem run_append_v {P : Program} (w : World) (base : Nat) (t ty e : TypeId) (z : Value) (by_ : Nat) (ht : P.underlying t = some (.slice e)) (h2 : (P.info? e).map (fun i => (i.zero, i.size, i.bytes)) = some (some z, 1, by_)) (hz : z.cells.size = 1)
    (A : Option Addr) (n c : Nat) (xs : List Value) (hn : xs.length = n) (hown : OwnV e w base (.slice A n c) xs)
    (B : Nat) (X : Option Addr) (m xc : Nat) (news : List Value) (hR : RdV w B X m news) (h1 : ∀ u ∈ news, u.oneCell' = true) (hb : (n + m) * by_ ≤ 140737488355328) (h63 : n + m ≤ maxLen) (hbase : base ≤ w.heap.size) :
    ∃ A' c' w', (Builtin.append_ #[t, t] ty #[.slice A n c, .slice X m xc]).run P w = .ok (.slice A' (n + m) c') w' ∧ OwnV e w' base (.slice A' (n + m) c') (xs ++ news) ∧ Below base w w' ∧ w.grownBy w' (Value.ownBlock (.slice A n c)) := by
  obtain ⟨i, hi, hz0, hz1, hz2⟩ := info_parts h2
  have hm : news.length = m := hR.1
  have hown' : w.ownsRow base e 1 (.slice A n c) n xs := by unfold OwnV at hown; rw [hn] at hown; exact hown
  have hfin : ∀ (v' : Value) (w' : World), w'.ownsRow base e 1 v' (n + m) (xs ++ news) → w.grownBy w' (Value.ownBlock (.slice A n c)) → ∃ A' c', v' = .slice A' (n + m) c' ∧ OwnV e w' base (.slice A' (n + m) c') (xs ++ news) ∧ Below base w w' := by
    intro v' w' h hg
    have hO : OwnV e w' base v' (xs ++ news) := by
      unfold OwnV; rw [List.length_append, hn, hm]; exact h
    obtain ⟨A', c', e1, _⟩ := hO.slice
    rw [List.length_append, hn, hm] at e1
    refine ⟨A', c', e1, by rw [← e1]; exact hO, ?_⟩
    exact (Below.refl base w).grown hg hbase (fun k hk => (hown.lt k hk).1)
  rcases X with _ | ad
  · have hm0 : m = 0 := by
      rcases Nat.eq_zero_or_pos m with h0 | h0
      · exact h0
      · obtain ⟨b, o, h, _⟩ := hR.2 h0
        cases h
    subst hm0
    have hnews : news = [] := List.eq_nil_of_length_eq_zero hm
    subst hnews
    refine ⟨A, c, w, run_append_src_none w base t ty e i ht hi _ n xs hown' xc, ?_, Below.refl _ _, World.grownBy.refl _ _⟩
    simpa using hown
  · have hcells : ∀ j u, news[j]? = some u → w.cell? (ad.add j) = some u := by
      intro j u hu
      have hp : 0 < news.length := by have := (List.getElem?_eq_some_iff.1 hu).1; omega
      obtain ⟨ad', h, hc⟩ := hR.pos hp
      injection h with h
      subst h
      exact hc j u hu
    obtain ⟨v', w', hrun, h3, h4, _⟩ := run_append_own (P := P) w base t ty e i z 1 by_ ht hi hz0 hz1 hz2 hz (by omega) _ n xs hown' ad m xc news (by omega) hcells h1 h63 hb hbase
    obtain ⟨A', c', rfl, hO, hB⟩ := hfin v' w' h3 h4
    exact ⟨A', c', w', hrun, hO, hB, h4⟩

/-- 'append(out, xs...)': out is the call's own, its elements of one cell. -/
theorem wpList_append_v {P : Program} {w : World} {ops : Array Oper} {rest : List Oper} {o : Oper} {a : Act} {Q : Exit → Act → World → Prop} (hgd : o.guard = none) (s x : Operand) (t : TypeId)
    (ho : o.op = .call { callee := .builtin .append, args := #[s, x], argTypes := #[t, t] }) (base : Nat) (e : TypeId) (z : Value) (by_ : Nat) (ht : P.underlying t = some (.slice e)) (h2 : (P.info? e).map (fun i => (i.zero, i.size, i.bytes)) = some (some z, 1, by_)) (hz : z.cells.size = 1)
    (A : Option Addr) (n c : Nat) (xs : List Value) (hn : xs.length = n) (hs : a.eval s = .slice A n c) (hown : OwnV e w base (.slice A n c) xs)
    (B : Nat) (X : Option Addr) (m xc : Nat) (news : List Value) (hx : a.eval x = .slice X m xc) (hR : RdV w B X m news) (h1 : ∀ u ∈ news, u.oneCell' = true) (hb : (n + m) * by_ ≤ 140737488355328) (h63 : n + m ≤ maxLen) (hbase : base ≤ w.heap.size)
    (h : ∀ A' c' w', OwnV e w' base (.slice A' (n + m) c') (xs ++ news) → Below base w w' → w.grownBy w' (Value.ownBlock (.slice A n c)) → wpList P ops Q rest (a.put o.dst (.slice A' (n + m) c')) w') : wpList P ops Q (o :: rest) a w := by
  refine wpList_plain hgd fun K hK => ?_
  obtain ⟨A', c', w', hrun, h3, h4, h5⟩ := run_append_v (P := P) w base t o.type e z by_ ht h2 hz A n c xs hn hown B X m xc news hR h1 hb h63 hbase
  unfold Oper.wp execOp
  simp only [ho, resolve, invoke, builtin, Sem.run_bind, Sem.run_pure, Result.andThen_ok, List.map_toArray, List.map_cons, List.map_nil, hs, hx, hrun]
  exact hK _ _ (h A' c' w' h3 h4 h5)

/-- The value x is a slice that reads as the bytes l, below block B. -/
def Sl (w : World) (B : Nat) (x : Value) (l : List Int) : Prop := ∃ A c, x = .slice A l.length c ∧ l.length ≤ c ∧ c ≤ maxLen ∧ Rd w B A l.length l
theorem Sl.below {w w' : World} {B : Nat} {x : Value} {l : List Int} (h : Sl w B x l) (hb : Below B w w') : Sl w' B x l := by
  obtain ⟨A, c, e, h1, h2, hR⟩ := h
  exact ⟨A, c, e, h1, h2, hR.below hb⟩
theorem Sl.more {w : World} {B B' : Nat} {x : Value} {l : List Int} (h : Sl w B x l) (hB : B ≤ B') : Sl w B' x l := by
  obtain ⟨A, c, e, h1, h2, hR⟩ := h
  exact ⟨A, c, e, h1, h2, hR.more hB⟩
/-- The slice at address A with n elements reads as the lists of bytes L, below block B: they, and the slices themselves. -/
def RdS (w : World) (B : Nat) (A : Option Addr) (n : Nat) (L : List (List Int)) : Prop :=
  ∃ xs : List Value, RdV w B A n xs ∧ L.length = n ∧ ∀ (j : Nat) (x : Value) (l : List Int), xs[j]? = some x → L[j]? = some l → Sl w B x l
section
variable {w w' : World} {B B' n : Nat} {A : Option Addr} {L : List (List Int)}
theorem RdS.len (h : RdS w B A n L) : L.length = n := by obtain ⟨_, _, h, _⟩ := h; exact h
theorem RdS.below (h : RdS w B A n L) (hb : Below B w w') : RdS w' B A n L := by
  obtain ⟨xs, h1, h2, h3⟩ := h
  exact ⟨xs, h1.below hb, h2, fun j x l hx hl => (h3 j x l hx hl).below hb⟩
theorem RdS.more (h : RdS w B A n L) (hB : B ≤ B') : RdS w B' A n L := by
  obtain ⟨xs, h1, h2, h3⟩ := h
  exact ⟨xs, h1.more hB, h2, fun j x l hx hl => (h3 j x l hx hl).more hB⟩
theorem RdS.on (h : RdS w B A n L) (hb : Below B w w') (hB : B ≤ B') : RdS w' B' A n L := (h.below hb).more hB
/-- What an index reads: a slice of bytes. -/
theorem RdS.at_ (h : RdS w B A n L) {j : Nat} (hj : j < n) : ∃ b o Aj cj l, A = some ⟨b, o, none⟩ ∧ L[j]? = some l ∧ w.cell? ⟨b, o + j, none⟩ = some (.slice Aj l.length cj) ∧ l.length ≤ cj ∧ cj ≤ maxLen ∧ Rd w B Aj l.length l := by
  obtain ⟨xs, h1, h2, h3⟩ := h
  obtain ⟨b, o, u, e, hu, hc⟩ := h1.at_ hj
  have hl : L[j]? = some L[j] := List.getElem?_eq_getElem (by omega)
  obtain ⟨Aj, cj, rfl, g1, g2, hR⟩ := h3 j u _ hu hl
  exact ⟨b, o, Aj, cj, L[j], e, hl, hc, g1, g2, hR⟩
theorem RdS.nil (w : World) (B : Nat) (A : Option Addr) : RdS w B A 0 [] := ⟨[], RdV.nil w B A, rfl, fun j x l hx => by simp at hx⟩
end
/-- Each list is of bytes, and not too long. -/
def AllB (L : List (List Int)) : Prop := ∀ l ∈ L, Byt l ∧ l.length ≤ 1099511627776
theorem AllB.flat {L : List (List Int)} (h : AllB L) : Byt L.flatten := fun x hx => by
  obtain ⟨l, hl, hxl⟩ := List.mem_flatten.1 hx
  exact (h l hl).1 x hxl
theorem AllB.take {L : List (List Int)} (h : AllB L) (j : Nat) : AllB (L.take j) := fun l hl => h l (List.mem_of_mem_take hl)
theorem flat_take {L : List (List Int)} {j : Nat} {l : List Int} (h : L[j]? = some l) : (L.take (j + 1)).flatten = (L.take j).flatten ++ l := by
  obtain ⟨hj, rfl⟩ := List.getElem?_eq_some_iff.1 h
  rw [List.take_succ_eq_append_getElem hj, List.flatten_append]
  simp

theorem flat_le (L : List (List Int)) (j : Nat) : (L.take j).flatten.length ≤ L.flatten.length := by
  conv => rhs; rw [← List.take_append_drop j L, List.flatten_append, List.length_append]
  omega

end Go.Proofs.Ytlkhmpfdajefiaa.kit

/- How a slice of ints, and a slice of slices of bytes, that comes in reads, in the words of the kit. No condition. -/
namespace Go.Proofs.Ytlkhmpfdajefiaa.frame
open Go.ChangeShapes Go.WideShapes Go.ChangeAt Go.RowKit Go.Proofs.Ytlkhmpfdajefiaa.kit Go.Proofs.Ytlkhmpfdajefiaa.nums

theorem gather {α : Type} {P : Nat → α → Prop} : ∀ n : Nat, (∀ i, i < n → ∃ x, P i x) → ∃ L : List α, L.length = n ∧ ∀ i x, L[i]? = some x → P i x
  | 0, _ => ⟨[], rfl, fun i x h => by simp at h⟩
  | n + 1, h => by
    obtain ⟨L, hl, hL⟩ := gather n (fun i hi => h i (by omega))
    obtain ⟨x, hx⟩ := h n (by omega)
    refine ⟨L ++ [x], by simp [hl], fun i y hy => ?_⟩
    by_cases hi : i < n
    · rw [List.getElem?_append_left (by omega)] at hy; exact hL i y hy
    · have hi2 : i < (L ++ [x]).length := (List.getElem?_eq_some_iff.1 hy).1
      simp [hl] at hi2
      obtain rfl : i = n := by omega
      rw [List.getElem?_append_right (by omega), hl, Nat.sub_self] at hy
      simp at hy
      subst hy; exact hx

end Go.Proofs.Ytlkhmpfdajefiaa.frame

/- How stamps, attempts and slices of int64 that come in read, in the words of the kit. No condition. -/
namespace Go.Proofs.Ytlkhmpfdajefiaa.frame
open Go.ChangeShapes Go.WideShapes Go.ChangeAt Go.RowKit Go.Proofs.Ytlkhmpfdajefiaa.kit Go.Proofs.Ytlkhmpfdajefiaa.nums Go.Proofs.Ytlkhmpfdajefiaa.st
set_option linter.unusedVariables false

theorem num_of_trod {H : Type} {enc : TypeId × Value → H} {W : World} {n : Nat} {t : TypeId} {v : Value} {y : DataW H × List MemPlace} (ht : Try.prog.underlying t = some (.int .i64))
    (h : DataW.trod enc Try.prog W 0 (fun _ => true) true n t [v] = some y) : ∃ z, v = .int .i64 z ∧ I64 z := by
  obtain ⟨z, h1, _, hw⟩ := DataW.trod_int ht h
  simp at h1
  exact ⟨z, h1, by unfold I64; simpa [Lit.wf, IntKind.min, IntKind.max, IntKind.signed, IntKind.bits] using hw⟩
theorem two_of {α : Type} (l : List α) (h : l.length = 2) : ∃ a b, l = [a, b] := by
  match l, h with
  | [a, b], _ => exact ⟨a, b, rfl⟩
theorem four_of {α : Type} (l : List α) (h : l.length = 4) : ∃ a b c d, l = [a, b, c, d] := by
  match l, h with
  | [a, b, c, d], _ => exact ⟨a, b, c, d, rfl⟩
theorem st_of_trod {H : Type} {enc : TypeId × Value → H} {W : World} {cs : Array Value} {d : DataW H} {p : List MemPlace}
    (h : DataW.Trod enc Try.prog W 0 (fun _ => true) true 24 (.agg cs) d p) : ∃ a : StL, cs = #[.int .i64 a.wall, .int .i64 a.tie] ∧ a.ok := by
  obtain ⟨fuel, hf⟩ := h
  simp only [Value.cells] at hf
  obtain ⟨xs, m, _, _, hl, hxl, hF⟩ := DataW.trod_struct Try.underlying24 hf
  have hc : Try.prog.cellsOf 24 = 2 := by kernel_rfl
  have k : Try.prog.cellsOf 2 = 1 := by kernel_rfl
  rw [hc] at hl
  obtain ⟨c0, c1, hcs⟩ := two_of cs.toList hl
  obtain ⟨y0, y1, rfl⟩ := two_of xs hxl
  rw [hcs] at hF
  have f0 : DataW.trod enc Try.prog W 0 (fun _ => true) true m 2 [c0] = some y0 := by have h := hF 0 { name := "Wall", type := 2, offset := 0, embedded := false, tag := "", pkgPath := "", byteOffset := 0 } rfl; dsimp only at h; rw [k] at h; exact h
  have f1 : DataW.trod enc Try.prog W 0 (fun _ => true) true m 2 [c1] = some y1 := by have h := hF 1 { name := "Tie", type := 2, offset := 1, embedded := false, tag := "", pkgPath := "", byteOffset := 8 } rfl; dsimp only at h; rw [k] at h; exact h
  obtain ⟨z0, rfl, i0⟩ := num_of_trod Try.underlying2 f0
  obtain ⟨z1, rfl, i1⟩ := num_of_trod Try.underlying2 f1
  exact ⟨⟨z0, z1⟩, by apply Array.toList_inj.1; rw [hcs], i0, i1⟩
theorem tr_of_trod {H : Type} {enc : TypeId × Value → H} {W : World} {cs : Array Value} {d : DataW H} {p : List MemPlace}
    (h : DataW.Trod enc Try.prog W 0 (fun _ => true) true 28 (.agg cs) d p) : ∃ a : TrL, cs = #[.int .i64 a.node, .int .i64 a.life, .int .i64 a.seq, .int .i64 a.att] ∧ a.ok := by
  obtain ⟨fuel, hf⟩ := h
  simp only [Value.cells] at hf
  obtain ⟨xs, m, _, _, hl, hxl, hF⟩ := DataW.trod_struct Try.underlying28 hf
  have hc : Try.prog.cellsOf 28 = 4 := by kernel_rfl
  have k : Try.prog.cellsOf 3 = 1 := by kernel_rfl
  rw [hc] at hl
  obtain ⟨c0, c1, c2, c3, hcs⟩ := four_of cs.toList hl
  obtain ⟨y0, y1, y2, y3, rfl⟩ := four_of xs hxl
  rw [hcs] at hF
  have f0 : DataW.trod enc Try.prog W 0 (fun _ => true) true m 3 [c0] = some y0 := by have h := hF 0 { name := "Node", type := 3, offset := 0, embedded := false, tag := "", pkgPath := "", byteOffset := 0 } rfl; dsimp only at h; rw [k] at h; exact h
  have f1 : DataW.trod enc Try.prog W 0 (fun _ => true) true m 3 [c1] = some y1 := by have h := hF 1 { name := "Life", type := 3, offset := 1, embedded := false, tag := "", pkgPath := "", byteOffset := 8 } rfl; dsimp only at h; rw [k] at h; exact h
  have f2 : DataW.trod enc Try.prog W 0 (fun _ => true) true m 3 [c2] = some y2 := by have h := hF 2 { name := "Seq", type := 3, offset := 2, embedded := false, tag := "", pkgPath := "", byteOffset := 16 } rfl; dsimp only at h; rw [k] at h; exact h
  have f3 : DataW.trod enc Try.prog W 0 (fun _ => true) true m 3 [c3] = some y3 := by have h := hF 3 { name := "Attempt", type := 3, offset := 3, embedded := false, tag := "", pkgPath := "", byteOffset := 24 } rfl; dsimp only at h; rw [k] at h; exact h
  obtain ⟨z0, rfl, i0⟩ := num_of_trod Try.underlying3 f0
  obtain ⟨z1, rfl, i1⟩ := num_of_trod Try.underlying3 f1
  obtain ⟨z2, rfl, i2⟩ := num_of_trod Try.underlying3 f2
  obtain ⟨z3, rfl, i3⟩ := num_of_trod Try.underlying3 f3
  exact ⟨⟨z0, z1, z2, z3⟩, by apply Array.toList_inj.1; rw [hcs], i0, i1, i2, i3⟩
end Go.Proofs.Ytlkhmpfdajefiaa.frame

/- Cells of keys, versions and locks in memory, as plain values (stage 8). Conditions: none. -/
namespace Go.Proofs.Ytlkhmpfdajefiaa.kit
open Go Go.RowKit Go.Proofs.Ytlkhmpfdajefiaa.nums Go.Proofs.Ytlkhmpfdajefiaa.st Go.Proofs.Ytlkhmpfdajefiaa.mv
set_option linter.unusedVariables false

def trC (t : TrL) : List Value := [.int .i64 t.node, .int .i64 t.life, .int .i64 t.seq, .int .i64 t.att]
def stC (t : StL) : List Value := [.int .i64 t.wall, .int .i64 t.tie]
def verC (v : VerL) : List Value := [.int .i64 v.at_.wall, .int .i64 v.at_.tie, .bool v.drop, .string v.data]
def lockC (l : LockL) : List Value := [.int .i64 l.by_.node, .int .i64 l.by_.life, .int .i64 l.by_.seq, .int .i64 l.by_.att, .int .i64 l.home, .int .i64 l.at_.wall, .int .i64 l.at_.tie, .bool l.drop, .string l.data]
def cellC (x : CellL) (sv : Value) : List Value := [.string x.key, sv, .bool x.locked, .int .i64 x.lock.by_.node, .int .i64 x.lock.by_.life, .int .i64 x.lock.by_.seq, .int .i64 x.lock.by_.att, .int .i64 x.lock.home, .int .i64 x.lock.at_.wall, .int .i64 x.lock.at_.tie, .bool x.lock.drop, .string x.lock.data]
/-- The cells at ⟨b, o⟩ are the list. -/
def At (w : World) (b o : Nat) (l : List Value) : Prop := ∀ j u, l[j]? = some u → w.cell? ⟨b, o + j, none⟩ = some u
/-- The slice at A with n elements reads as the versions vs, below block B. -/
def RdVs (w : World) (B : Nat) (A : Option Addr) (n : Nat) (vs : List VerL) : Prop :=
  vs.length = n ∧ (0 < n → ∃ b o, A = some ⟨b, o, none⟩ ∧ b < B ∧ ∀ (j : Nat) (v : VerL), vs[j]? = some v → At w b (o + j * 4) (verC v))
/-- The value is a slice of the versions vs. -/
def SlVs (w : World) (B : Nat) (sv : Value) (vs : List VerL) : Prop := ∃ A c, sv = .slice A vs.length c ∧ vs.length ≤ c ∧ c ≤ maxLen ∧ RdVs w B A vs.length vs
/-- The cell x of keys lies at ⟨b, o⟩. -/
def CellAt (w : World) (B b o : Nat) (x : CellL) : Prop := ∃ sv, At w b o (cellC x sv) ∧ SlVs w B sv x.vers
/-- The slice at A with n elements reads as the cells cs, below block B. -/
def RdC (w : World) (B : Nat) (A : Option Addr) (n : Nat) (cs : List CellL) : Prop :=
  cs.length = n ∧ (0 < n → ∃ b o, A = some ⟨b, o, none⟩ ∧ b < B ∧ ∀ (j : Nat) (x : CellL), cs[j]? = some x → CellAt w B b (o + j * 12) x)
section
variable {w w' : World} {B B' : Nat}
theorem At.below {b o : Nat} {l : List Value} (h : At w b o l) (hlt : b < B) (hb : Below B w w') : At w' b o l := fun j u hu => (hb.cell (p := ⟨b, o + j, none⟩) hlt).trans (h j u hu)
theorem RdVs.below {A : Option Addr} {n : Nat} {vs : List VerL} (h : RdVs w B A n vs) (hb : Below B w w') : RdVs w' B A n vs :=
  ⟨h.1, fun hn => by
    obtain ⟨b, o, e, hlt, hc⟩ := h.2 hn
    exact ⟨b, o, e, hlt, fun j v hv => (hc j v hv).below hlt hb⟩⟩
theorem RdVs.more {A : Option Addr} {n : Nat} {vs : List VerL} (h : RdVs w B A n vs) (hB : B ≤ B') : RdVs w B' A n vs :=
  ⟨h.1, fun hn => by
    obtain ⟨b, o, e, hlt, hc⟩ := h.2 hn
    exact ⟨b, o, e, by omega, hc⟩⟩
theorem SlVs.below {sv : Value} {vs : List VerL} (h : SlVs w B sv vs) (hb : Below B w w') : SlVs w' B sv vs := by
  obtain ⟨A, c, e, h1, h2, h3⟩ := h
  exact ⟨A, c, e, h1, h2, h3.below hb⟩
theorem SlVs.more {sv : Value} {vs : List VerL} (h : SlVs w B sv vs) (hB : B ≤ B') : SlVs w B' sv vs := by
  obtain ⟨A, c, e, h1, h2, h3⟩ := h
  exact ⟨A, c, e, h1, h2, h3.more hB⟩
theorem CellAt.below {b o : Nat} {x : CellL} (h : CellAt w B b o x) (hlt : b < B) (hb : Below B w w') : CellAt w' B b o x := by
  obtain ⟨sv, h1, h2⟩ := h
  exact ⟨sv, h1.below hlt hb, h2.below hb⟩
theorem RdC.below {A : Option Addr} {n : Nat} {cs : List CellL} (h : RdC w B A n cs) (hb : Below B w w') : RdC w' B A n cs :=
  ⟨h.1, fun hn => by
    obtain ⟨b, o, e, hlt, hc⟩ := h.2 hn
    exact ⟨b, o, e, hlt, fun j x hx => (hc j x hx).below hlt hb⟩⟩
theorem RdC.more {A : Option Addr} {n : Nat} {cs : List CellL} (h : RdC w B A n cs) (hB : B ≤ B') : RdC w B' A n cs :=
  ⟨h.1, fun hn => by
    obtain ⟨b, o, e, hlt, hc⟩ := h.2 hn
    refine ⟨b, o, e, by omega, fun j x hx => ?_⟩
    obtain ⟨sv, h1, h2⟩ := hc j x hx
    exact ⟨sv, h1, h2.more hB⟩⟩
theorem RdC.on {A : Option Addr} {n : Nat} {cs : List CellL} (h : RdC w B A n cs) (hb : Below B w w') (hB : B ≤ B') : RdC w' B' A n cs := (h.below hb).more hB
/-- Element j: its twelve cells. -/
theorem RdC.at_ {A : Option Addr} {n : Nat} {cs : List CellL} (h : RdC w B A n cs) {j : Nat} (hj : j < n) : ∃ b o x sv, A = some ⟨b, o, none⟩ ∧ b < B ∧ cs[j]? = some x ∧ SlVs w B sv x.vers ∧ At w b (o + j * 12) (cellC x sv) := by
  obtain ⟨b, o, e, hlt, hc⟩ := h.2 (by omega)
  have hlen := h.1
  have hx : cs[j]? = some (cs[j]) := List.getElem?_eq_getElem (by omega)
  obtain ⟨sv, h1, h2⟩ := hc j _ hx
  exact ⟨b, o, cs[j], sv, e, hlt, hx, h2, h1⟩
theorem RdVs.at_ {A : Option Addr} {n : Nat} {vs : List VerL} (h : RdVs w B A n vs) {j : Nat} (hj : j < n) : ∃ b o v, A = some ⟨b, o, none⟩ ∧ b < B ∧ vs[j]? = some v ∧ At w b (o + j * 4) (verC v) := by
  obtain ⟨b, o, e, hlt, hc⟩ := h.2 (by omega)
  have hlen := h.1
  have hx : vs[j]? = some (vs[j]) := List.getElem?_eq_getElem (by omega)
  exact ⟨b, o, vs[j], e, hlt, hx, hc j _ hx⟩
/-- The cells, one by one. -/
theorem At.cells {b o : Nat} {l : List Value} (h : At w b o l) (j : Nat) (u : Value) (hu : l[j]? = some u) : w.cell? ⟨b, o + j, none⟩ = some u := h j u hu
end
theorem text_eq (a b : ByteArray) : (a.toList == b.toList) = decide (a = b) := by
  rw [ByteArray.toList_eq, ByteArray.toList_eq]
  by_cases h : a = b
  · subst h; simp
  · have : ¬ a.data = b.data := fun e => h (ByteArray.ext e)
    simp [h, this]
theorem text_less (a b : ByteArray) : Op.bytesLess a.toList b.toList = sl a b := by
  rw [ByteArray.toList_eq, ByteArray.toList_eq]; rfl
end Go.Proofs.Ytlkhmpfdajefiaa.kit

/- '[]byte(s)' of any string: a slice that reads as its bytes; what 'append' hands back is its first argument's block or a new one. Conditions: those that the theorem names. -/
namespace Go.Proofs.Ytlkhmpfdajefiaa.kit
open Go.RowKit Go.Proofs.Ytlkhmpfdajefiaa.nums
set_option linter.unusedVariables false

theorem strOfNums_at {l : List Int} (hY : Byt l) (j : Nat) (hj : j < l.length) : (((strOfNums l).data.toList.getD j 0).toNat : Int) = l.getD j 0 := by
  have h := hY.at_ j
  have e1 : (strOfNums l).data.toList = l.map (fun n => UInt8.ofNat n.toNat) := by simp [strOfNums]
  rw [e1, List.getD_eq_getElem?_getD, List.getElem?_map, List.getElem?_eq_getElem hj]
  rw [List.getD_eq_getElem?_getD, List.getElem?_eq_getElem hj] at h ⊢
  simp only [Option.map_some, Option.getD_some] at h ⊢
  rw [UInt8.toNat_ofNat']
  omega
theorem bytesWorld_below (w : World) (e : TypeId) (s : ByteArray) : Below w.heap.size w (Lib.bytesWorld w e s) :=
  ⟨rfl, rfl, rfl, by rw [Lib.bytesWorld_size]; omega, fun k hk => Lib.bytesWorld_at_old w e s k hk⟩
section
variable {P : Program} {w : World} {ops : Array Oper} {rest : List Oper} {o : Oper} {a : Act} {Q : Exit → Act → World → Prop}
theorem wpList_of_string (hgd : o.guard = none) (x : Operand) (src dst e : TypeId) (ho : o.op = .convert src dst x) {u : TypeDesc} (hs : P.underlying src = some u) (hd : P.underlying dst = some (.slice e)) (he : P.underlying e = some (.int .u8))
    (l : List Int) (n : Nat) (hn : l.length = n) (hY : Byt l) (hl : n ≤ 1099511627776) (hx : a.eval x = .string (strOfNums l))
    (h : ∀ A c w', Rd w' w'.heap.size A n l → n ≤ c → c ≤ maxLen → Below w.heap.size w w' → wpList P ops Q rest (a.put o.dst (.slice A n c)) w') : wpList P ops Q (o :: rest) a w := by
  subst hn
  refine wpList_plain hgd fun K hK => ?_
  have hsz := strOfNums_size l
  have hrun := Lib.run_convert_string_bytes (P := P) w src dst e (strOfNums l) hs hd he
  rw [hsz] at hrun
  unfold Oper.wp execOp
  simp only [ho, hx, Sem.run_bind, hrun, Result.andThen_ok, Sem.run_pure]
  refine hK _ _ (h _ _ _ ?_ (by rw [← hsz]; exact grownCap_ge w (strOfNums l).size 0 e) (grownCap_le_maxLen w l.length 0 e (by unfold maxLen; omega)) (bytesWorld_below w e _))
  refine ⟨rfl, fun hp => ⟨_, 0, rfl, by rw [Lib.bytesWorld_size]; omega, fun j hj => ?_⟩⟩
  rw [Nat.zero_add, Lib.bytesWorld_cell w e _ j (by omega), strOfNums_at hY j hj]
end
/-- The row that 'append' hands back lies where the first argument's did, or is new. -/
theorem run_append_fresh {P : Program} (w : World) (base : Nat) (t ty e : TypeId) (z : Value) (by_ : Nat) (ht : P.underlying t = some (.slice e)) (h2 : (P.info? e).map (fun i => (i.zero, i.size, i.bytes)) = some (some z, 1, by_)) (hz : z.cells.size = 1)
    (A : Option Addr) (n c : Nat) (xs : List Value) (hn : xs.length = n) (hown : OwnV e w base (.slice A n c) xs)
    (B : Nat) (X : Option Addr) (m xc : Nat) (news : List Value) (hR : RdV w B X m news) (h1 : ∀ u ∈ news, u.oneCell' = true) (hb : (n + m) * by_ ≤ 140737488355328) (h63 : n + m ≤ maxLen)
    {v' : Value} {w' : World} (hrun : (Builtin.append_ #[t, t] ty #[.slice A n c, .slice X m xc]).run P w = .ok v' w') : ∀ k, v'.ownBlock = some k → (Value.slice A n c).ownBlock = some k ∨ w.heap.size ≤ k := by
  obtain ⟨i, hi, hz0, hz1, hz2⟩ := info_parts h2
  have hm : news.length = m := hR.1
  have hown' : w.ownsRow base e 1 (.slice A n c) n xs := by unfold OwnV at hown; rw [hn] at hown; exact hown
  intro k hk
  rcases X with _ | ad
  · have := run_append_src_none (P := P) w base t ty e i ht hi _ n xs hown' xc
    have hm0 : m = 0 := by
      rcases Nat.eq_zero_or_pos m with h0 | h0
      · exact h0
      · obtain ⟨b, o, h, _⟩ := hR.2 h0
        cases h
    subst hm0
    rw [this] at hrun
    injection hrun with e1 e2
    subst e1
    exact .inl hk
  · have hcells : ∀ j u, news[j]? = some u → w.cell? (ad.add j) = some u := by
      intro j u hu
      have hp : 0 < news.length := by have := (List.getElem?_eq_some_iff.1 hu).1; omega
      obtain ⟨ad', h, hc⟩ := hR.pos hp
      injection h with h
      subst h
      exact hc j u hu
    rcases hown'.2 with ⟨hv, hn0⟩ | ⟨g, cap, cur, hv, hbg, hg, hnc, hcm, hcs, htake⟩
    · obtain ⟨v2, w2, hrun2, h3, _, _⟩ := run_append_own (P := P) w w.heap.size t ty e i z 1 by_ ht hi hz0 hz1 hz2 hz (by omega) _ n xs ⟨hown'.1, .inl ⟨hv, hn0⟩⟩ ad m xc news (by omega) hcells h1 h63 hb (Nat.le_refl _)
      rw [hrun] at hrun2
      injection hrun2 with e1 e2
      subst e1
      exact .inr (World.ownsRow.lt h3 k hk).1
    · simp only [Value.slice.injEq] at hv
      obtain ⟨rfl, -, rfl⟩ := hv
      by_cases hroom : n + m ≤ c
      · left
        have := run_append_room (P := P) w t ty e i ht hi g n c cur hg ad m xc news (by rw [hz1]; omega) hcells h1 hroom (by rw [hz1, hcs, hm]; omega)
        rw [hrun] at this
        injection this with e1 e2
        subst e1
        exact hk
      · right
        have hlo : xs.length = n * 1 := by rw [hn, Nat.mul_one]
        have holds : ∀ j u, xs[j]? = some u → w.cell? ((⟨g, 0, none⟩ : Addr).add j) = some u := fun j u hu => by
          have hj : j < n := by have := (List.getElem?_eq_some_iff.1 hu).1; omega
          rw [Addr.add_lit, Nat.zero_add, World.ownsRow.cellAt hown' j (by omega)]
          exact hu
        obtain ⟨v2, w2, hrun2, h3, _⟩ := run_append_arg_grows (P := P) w t ty e i z 1 by_ ht hi hz0 hz1 hz2 hz (by omega) ⟨g, 0, none⟩ n c xs hlo holds ad m xc news (by omega) hcells (by omega) h63 hb
        rw [hrun] at hrun2
        injection hrun2 with e1 e2
        subst e1
        exact (World.ownsRow.lt h3 k hk).1
/-- 'append(out, xs...)', as wpList_append_v, and where it lies. -/
theorem wpList_append_vf {P : Program} {w : World} {ops : Array Oper} {rest : List Oper} {o : Oper} {a : Act} {Q : Exit → Act → World → Prop} (hgd : o.guard = none) (s x : Operand) (t : TypeId)
    (ho : o.op = .call { callee := .builtin .append, args := #[s, x], argTypes := #[t, t] }) (base : Nat) (e : TypeId) (z : Value) (by_ : Nat) (ht : P.underlying t = some (.slice e)) (h2 : (P.info? e).map (fun i => (i.zero, i.size, i.bytes)) = some (some z, 1, by_)) (hz : z.cells.size = 1)
    (A : Option Addr) (n c : Nat) (xs : List Value) (hn : xs.length = n) (hs : a.eval s = .slice A n c) (hown : OwnV e w base (.slice A n c) xs)
    (B : Nat) (X : Option Addr) (m xc : Nat) (news : List Value) (hx : a.eval x = .slice X m xc) (hR : RdV w B X m news) (h1 : ∀ u ∈ news, u.oneCell' = true) (hb : (n + m) * by_ ≤ 140737488355328) (h63 : n + m ≤ maxLen) (hbase : base ≤ w.heap.size)
    (h : ∀ A' c' w', OwnV e w' base (.slice A' (n + m) c') (xs ++ news) → Below base w w' → w.grownBy w' (Value.ownBlock (.slice A n c)) → (∀ k, (Value.slice A' (n + m) c').ownBlock = some k → (Value.slice A n c).ownBlock = some k ∨ w.heap.size ≤ k) → wpList P ops Q rest (a.put o.dst (.slice A' (n + m) c')) w') : wpList P ops Q (o :: rest) a w := by
  refine wpList_plain hgd fun K hK => ?_
  obtain ⟨A', c', w', hrun, h3, h4, h5⟩ := run_append_v (P := P) w base t o.type e z by_ ht h2 hz A n c xs hn hown B X m xc news hR h1 hb h63 hbase
  have h6 := run_append_fresh (P := P) w base t o.type e z by_ ht h2 hz A n c xs hn hown B X m xc news hR h1 hb h63 hrun
  unfold Oper.wp execOp
  simp only [ho, resolve, invoke, builtin, Sem.run_bind, Sem.run_pure, Result.andThen_ok, List.map_toArray, List.map_cons, List.map_nil, hs, hx, hrun]
  exact hK _ _ (h A' c' w' h3 h4 h5 h6)
/-- The same, one operation of a region alone. -/
theorem wp_append_vf {P : Program} {w : World} {o : Oper} {a : Act} {K : Act → World → Prop} {Q : Exit → Act → World → Prop} (s x : Operand) (t : TypeId)
    (ho : o.op = .call { callee := .builtin .append, args := #[s, x], argTypes := #[t, t] }) (base : Nat) (e : TypeId) (z : Value) (by_ : Nat) (ht : P.underlying t = some (.slice e)) (h2 : (P.info? e).map (fun i => (i.zero, i.size, i.bytes)) = some (some z, 1, by_)) (hz : z.cells.size = 1)
    (A : Option Addr) (n c : Nat) (xs : List Value) (hn : xs.length = n) (hs : a.eval s = .slice A n c) (hown : OwnV e w base (.slice A n c) xs)
    (B : Nat) (X : Option Addr) (m xc : Nat) (news : List Value) (hx : a.eval x = .slice X m xc) (hR : RdV w B X m news) (h1 : ∀ u ∈ news, u.oneCell' = true) (hb : (n + m) * by_ ≤ 140737488355328) (h63 : n + m ≤ maxLen) (hbase : base ≤ w.heap.size)
    (h : ∀ A' c' w', OwnV e w' base (.slice A' (n + m) c') (xs ++ news) → Below base w w' → w.grownBy w' (Value.ownBlock (.slice A n c)) → (∀ k, (Value.slice A' (n + m) c').ownBlock = some k → (Value.slice A n c).ownBlock = some k ∨ w.heap.size ≤ k) → K (a.put o.dst (.slice A' (n + m) c')) w') : o.wp P a w K Q := by
  obtain ⟨A', c', w', hrun, h3, h4, h5⟩ := run_append_v (P := P) w base t o.type e z by_ ht h2 hz A n c xs hn hown B X m xc news hR h1 hb h63 hbase
  have h6 := run_append_fresh (P := P) w base t o.type e z by_ ht h2 hz A n c xs hn hown B X m xc news hR h1 hb h63 hrun
  unfold Oper.wp execOp
  simp only [ho, resolve, invoke, builtin, Sem.run_bind, Sem.run_pure, Result.andThen_ok, List.map_toArray, List.map_cons, List.map_nil, hs, hx, hrun]
  exact h A' c' w' h3 h4 h5 h6
end Go.Proofs.Ytlkhmpfdajefiaa.kit

/- Own slices of versions and of cells of keys: append, and what lasts (stage 8). Conditions: those that each theorem names. -/
namespace Go.Proofs.Ytlkhmpfdajefiaa.kit
open Go Go.RowKit Go.Proofs.Ytlkhmpfdajefiaa.nums Go.Proofs.Ytlkhmpfdajefiaa.st Go.Proofs.Ytlkhmpfdajefiaa.mv
set_option linter.unusedVariables false

theorem flat_get {α : Type} (f : α → List Value) (k : Nat) (hf : ∀ x, (f x).length = k) : ∀ (l : List α) (j i : Nat) (x : α), l[j]? = some x → i < k → (l.flatMap f)[j * k + i]? = (f x)[i]?
  | [], j, i, x, h, _ => by cases h
  | y :: l, 0, i, x, h, hi => by
    obtain rfl := Option.some.inj h
    rw [List.flatMap_cons, Nat.zero_mul, Nat.zero_add, List.getElem?_append_left (by rw [hf]; exact hi)]
  | y :: l, j + 1, i, x, h, hi => by
    rw [List.flatMap_cons, List.getElem?_append_right (by rw [hf, Nat.succ_mul]; omega), hf, show (j + 1) * k + i - k = j * k + i by rw [Nat.succ_mul]; omega]
    exact flat_get f k hf l j i x h hi
theorem flat_length {α : Type} (f : α → List Value) (k : Nat) (hf : ∀ x, (f x).length = k) : ∀ l : List α, (l.flatMap f).length = l.length * k
  | [] => by simp
  | y :: l => by rw [List.flatMap_cons, List.length_append, hf, flat_length f k hf l, List.length_cons, Nat.succ_mul]; omega
theorem ver_len (v : VerL) : (verC v).length = 4 := rfl
theorem cell_len (x : CellL) (sv : Value) : (cellC x sv).length = 12 := rfl
theorem ver_one (v : VerL) : ∀ u ∈ verC v, u.oneCell' = true := by
  intro u hu
  simp only [verC, List.mem_cons, List.not_mem_nil, or_false] at hu
  rcases hu with rfl | rfl | rfl | rfl <;> rfl
theorem cell_one (x : CellL) (A : Option Addr) (n c : Nat) : ∀ u ∈ cellC x (.slice A n c), u.oneCell' = true := by
  intro u hu
  simp only [cellC, List.mem_cons, List.not_mem_nil, or_false] at hu
  rcases hu with rfl | rfl | rfl | rfl | rfl | rfl | rfl | rfl | rfl | rfl | rfl | rfl <;> rfl
/-- The slice at A with m elements of k cells reads as the list. -/
def RdK (w : World) (B : Nat) (A : Option Addr) (m k : Nat) (l : List Value) : Prop := l.length = m * k ∧ (0 < m → ∃ b o, A = some ⟨b, o, none⟩ ∧ b < B ∧ At w b o l)
theorem run_append_src_none_k {P : Program} (w : World) (base : Nat) (t ty e : TypeId) (i : TypeInfo) (k : Nat) (ht : P.underlying t = some (.slice e)) (hi : P.info? e = some i)
    (v : Value) (n : Nat) (xs : List Value) (hown : w.ownsRow base e k v n xs) (c : Nat) :
    (Builtin.append_ #[t, t] ty #[v, .slice none 0 c]).run P w = .ok v w := by
  rcases hown.2 with ⟨rfl, rfl⟩ | ⟨g, cap, cur, rfl, _, _, hnc, _⟩
  · simp [Builtin.append_, run_underlying ht, sizeOf, typeInfo, hi, Builtin.lenOf, Builtin.firstCells]
  · simp [Builtin.append_, run_underlying ht, sizeOf, typeInfo, hi, Builtin.lenOf, Builtin.firstCells, hnc, storeCells]
/-- 'append(s, x...)', s the call's own, its elements of k cells. -/
theorem run_append_k {P : Program} (w : World) (base : Nat) (t ty e : TypeId) (z : Value) (k by_ : Nat) (ht : P.underlying t = some (.slice e)) (h2 : (P.info? e).map (fun i => (i.zero, i.size, i.bytes)) = some (some z, k, by_)) (hz : z.cells.size = k) (hk : 0 < k)
    (A : Option Addr) (n c : Nat) (xs : List Value) (hown : w.ownsRow base e k (.slice A n c) n xs)
    (B : Nat) (X : Option Addr) (m xc : Nat) (news : List Value) (hR : RdK w B X m k news) (h1 : ∀ u ∈ news, u.oneCell' = true) (hb : (n + m) * by_ ≤ 140737488355328) (h63 : n + m ≤ maxLen) (hbase : base ≤ w.heap.size) :
    ∃ A' c' w', (Builtin.append_ #[t, t] ty #[.slice A n c, .slice X m xc]).run P w = .ok (.slice A' (n + m) c') w' ∧ w'.ownsRow base e k (.slice A' (n + m) c') (n + m) (xs ++ news) ∧ Below base w w' ∧ w.grownBy w' (Value.ownBlock (.slice A n c)) := by
  obtain ⟨i, hi, hz0, hz1, hz2⟩ := info_parts h2
  have hm : news.length = m * k := hR.1
  have hfin : ∀ (v' : Value) (w' : World), w'.ownsRow base e k v' (n + m) (xs ++ news) → w.grownBy w' (Value.ownBlock (.slice A n c)) → ∃ A' c', v' = .slice A' (n + m) c' ∧ w'.ownsRow base e k (.slice A' (n + m) c') (n + m) (xs ++ news) ∧ Below base w w' := by
    intro v' w' h hg
    have hB : Below base w w' := (Below.refl base w).grown hg hbase (fun q hq => (hown.lt q hq).1)
    rcases h.2 with ⟨hv, hn⟩ | ⟨g, cap, cur, hv, _⟩
    · exact ⟨none, 0, by rw [hv, hn], by rw [hn] at h ⊢; rw [hv] at h; exact h, hB⟩
    · exact ⟨_, cap, hv, by rw [← hv]; exact h, hB⟩
  rcases X with _ | ad
  · have hm0 : m = 0 := by
      rcases Nat.eq_zero_or_pos m with h0 | h0
      · exact h0
      · obtain ⟨b, o, h, _⟩ := hR.2 h0
        cases h
    subst hm0
    have hnews : news = [] := List.eq_nil_of_length_eq_zero (by rw [hm]; omega)
    subst hnews
    refine ⟨A, c, w, run_append_src_none_k w base t ty e i k ht hi _ n xs hown xc, ?_, Below.refl _ _, World.grownBy.refl _ _⟩
    simpa using hown
  · rcases Nat.eq_zero_or_pos m with h0 | h0
    · subst h0
      have hnews : news = [] := List.eq_nil_of_length_eq_zero (by rw [hm]; omega)
      subst hnews
      obtain ⟨v', w', hrun, h3, h4, _⟩ := run_append_own (P := P) w base t ty e i z k by_ ht hi hz0 hz1 hz2 hz hk _ n xs hown ad 0 xc [] (by simp) (fun j u h => by cases h) (fun u h => by cases h) h63 hb hbase
      obtain ⟨A', c', rfl, hO, hB⟩ := hfin v' w' h3 h4
      exact ⟨A', c', w', hrun, hO, hB, h4⟩
    · obtain ⟨b, o, e0, _, hA⟩ := hR.2 h0
      injection e0 with e0
      subst e0
      have hcells : ∀ j u, news[j]? = some u → w.cell? ((⟨b, o, none⟩ : Addr).add j) = some u := fun j u hu => by
        rw [Addr.add_lit]
        exact hA j u hu
      obtain ⟨v', w', hrun, h3, h4, _⟩ := run_append_own (P := P) w base t ty e i z k by_ ht hi hz0 hz1 hz2 hz hk _ n xs hown ⟨b, o, none⟩ m xc news hm hcells h1 h63 hb hbase
      obtain ⟨A', c', rfl, hO, hB⟩ := hfin v' w' h3 h4
      exact ⟨A', c', w', hrun, hO, hB, h4⟩
theorem wpList_append_k {P : Program} {w : World} {ops : Array Oper} {rest : List Oper} {o : Oper} {a : Act} {Q : Exit → Act → World → Prop} (hgd : o.guard = none) (s x : Operand) (t : TypeId)
    (ho : o.op = .call { callee := .builtin .append, args := #[s, x], argTypes := #[t, t] }) (base : Nat) (e : TypeId) (z : Value) (k by_ : Nat) (ht : P.underlying t = some (.slice e)) (h2 : (P.info? e).map (fun i => (i.zero, i.size, i.bytes)) = some (some z, k, by_)) (hz : z.cells.size = k) (hk : 0 < k)
    (A : Option Addr) (n c : Nat) (xs : List Value) (hs : a.eval s = .slice A n c) (hown : w.ownsRow base e k (.slice A n c) n xs)
    (B : Nat) (X : Option Addr) (m xc : Nat) (news : List Value) (hx : a.eval x = .slice X m xc) (hR : RdK w B X m k news) (h1 : ∀ u ∈ news, u.oneCell' = true) (hb : (n + m) * by_ ≤ 140737488355328) (h63 : n + m ≤ maxLen) (hbase : base ≤ w.heap.size)
    (h : ∀ A' c' w', w'.ownsRow base e k (.slice A' (n + m) c') (n + m) (xs ++ news) → Below base w w' → w.grownBy w' (Value.ownBlock (.slice A n c)) → wpList P ops Q rest (a.put o.dst (.slice A' (n + m) c')) w') : wpList P ops Q (o :: rest) a w := by
  refine wpList_plain hgd fun K hK => ?_
  obtain ⟨A', c', w', hrun, h3, h4, h5⟩ := run_append_k (P := P) w base t o.type e z k by_ ht h2 hz hk A n c xs hown B X m xc news hR h1 hb h63 hbase
  unfold Oper.wp execOp
  simp only [ho, resolve, invoke, builtin, Sem.run_bind, Sem.run_pure, Result.andThen_ok, List.map_toArray, List.map_cons, List.map_nil, hs, hx, hrun]
  exact hK _ _ (h A' c' w' h3 h4 h5)
/-- The value is a slice of the versions vs in a block of the call's own (from base on), or has none. -/
def VsIn (w : World) (base : Nat) (sv : Value) (vs : List VerL) : Prop :=
  ∃ A c, sv = .slice A vs.length c ∧ vs.length ≤ c ∧ c ≤ maxLen ∧ (0 < vs.length → ∃ g o cur, A = some ⟨g, o, none⟩ ∧ base ≤ g ∧ w.heap[g]? = some (.cells cur 47 (0, 0)) ∧ ∀ (j : Nat) (v : VerL), vs[j]? = some v → At w g (o + j * 4) (verC v))
/-- An own slice of versions. -/
def OwnVs (w : World) (base : Nat) (v : Value) (vs : List VerL) : Prop := w.ownsRow base 47 4 v vs.length (vs.flatMap verC)
/-- An own slice of cells of keys, their versions in blocks from base on. -/
def OwnCs (w : World) (base : Nat) (v : Value) (cs : List CellL) : Prop :=
  ∃ svs : List Value, svs.length = cs.length ∧ w.ownsRow base 45 12 v cs.length ((cs.zip svs).flatMap fun p => cellC p.1 p.2) ∧ ∀ (j : Nat) (x : CellL) (sv : Value), cs[j]? = some x → svs[j]? = some sv → VsIn w base sv x.vers
section
variable {w w' : World} {base base' : Nat}
theorem lt_of_block {g : Nat} {o : Obj} (h : w.heap[g]? = some o) : g < w.heap.size := (Array.getElem?_eq_some_iff.1 h).1
theorem At.same {b o : Nat} {l : List Value} (h : At w b o l) (hb : w'.heap[b]? = w.heap[b]?) : At w' b o l := fun j u hu => (World.cell?_of_block (a := ⟨b, o + j, none⟩) hb).trans (h j u hu)
/-- It lasts where no block from base on turns. -/
theorem VsIn.keep {sv : Value} {vs : List VerL} (h : VsIn w base sv vs) (hk : ∀ g cur, base ≤ g → w.heap[g]? = some (.cells cur 47 (0, 0)) → w'.heap[g]? = w.heap[g]?) : VsIn w' base sv vs := by
  obtain ⟨A, c, e, h1, h2, h3⟩ := h
  refine ⟨A, c, e, h1, h2, fun hp => ?_⟩
  obtain ⟨g, o, cur, e2, hb, hg, hA⟩ := h3 hp
  have hs := hk g cur hb hg
  exact ⟨g, o, cur, e2, hb, hs.trans hg, fun j v hv => (hA j v hv).same hs⟩
theorem VsIn.below {sv : Value} {vs : List VerL} (h : VsIn w base sv vs) (hb : Below w.heap.size w w') : VsIn w' base sv vs := h.keep fun g cur _ hg => hb.block g (lt_of_block hg)
theorem VsIn.more {sv : Value} {vs : List VerL} (h : VsIn w base sv vs) (hB : base' ≤ base) : VsIn w base' sv vs := by
  obtain ⟨A, c, e, h1, h2, h3⟩ := h
  refine ⟨A, c, e, h1, h2, fun hp => ?_⟩
  obtain ⟨g, o, cur, e2, hb, hg, hA⟩ := h3 hp
  exact ⟨g, o, cur, e2, by omega, hg, hA⟩
theorem VsIn.rd {sv : Value} {vs : List VerL} (h : VsIn w base sv vs) : SlVs w w.heap.size sv vs := by
  obtain ⟨A, c, e, h1, h2, h3⟩ := h
  refine ⟨A, c, e, h1, h2, rfl, fun hp => ?_⟩
  obtain ⟨g, o, cur, e2, hb, hg, hA⟩ := h3 hp
  exact ⟨g, o, e2, lt_of_block hg, hA⟩
theorem OwnVs.vsIn {v : Value} {vs : List VerL} (h : OwnVs w base v vs) : VsIn w base v vs := by
  rcases h.2 with ⟨hv, hn⟩ | ⟨g, cap, cur, rfl, hb, hg, hnc, hcm, hcs, htake⟩
  · exact ⟨none, 0, by rw [hv, hn], by omega, by omega, fun hp => absurd hp (by omega)⟩
  · refine ⟨_, cap, rfl, hnc, hcm, fun _ => ⟨g, 0, cur, rfl, hb, hg, fun j x hx i u hu => ?_⟩⟩
    have hi : i < 4 := by have := (List.getElem?_eq_some_iff.1 hu).1; rw [ver_len] at this; exact this
    have hj : j < vs.length := (List.getElem?_eq_some_iff.1 hx).1
    have hget := flat_get verC 4 ver_len vs j i x hx hi
    rw [← htake, List.getElem?_take, if_pos (by omega)] at hget
    rw [cell_of_row w g _ _ _ (0, 0) hg, Nat.zero_add, ← Array.getElem?_toList, hget, hu]
theorem OwnVs.below {v : Value} {vs : List VerL} (h : OwnVs w base v vs) (hb : Below w.heap.size w w') : OwnVs w' base v vs := by
  refine ⟨h.1, ?_⟩
  rcases h.2 with hn | ⟨g, cap, cur, rfl, hbg, hg, r⟩
  · exact .inl hn
  · exact .inr ⟨g, cap, cur, rfl, hbg, by rw [hb.block g (lt_of_block hg)]; exact hg, r⟩
end
end Go.Proofs.Ytlkhmpfdajefiaa.kit
