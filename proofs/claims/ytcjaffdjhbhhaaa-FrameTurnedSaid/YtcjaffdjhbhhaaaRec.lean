/- Plain numbers for records: what a record is as bytes, what stands at a place, which records stand one behind the other. It speaks of no program. -/
import Derived.Test.YtcjaffdjhbhhaaaNums
import Derived.Test.YtcjaffdjhbhhaaaCrc
namespace Go.Proofs.Ytcjaffdjhbhhaaa.rec_
open Go.Proofs.Ytcjaffdjhbhhaaa.nums Go.Proofs.Ytcjaffdjhbhhaaa.crc
set_option linter.unusedVariables false

/-- Four bytes and their number. -/
theorem four (l : List Int) (h : Byt l) (hl : l.length = 4) : beB (beV l) 4 = l := by
  match l, hl with
  | [a, b, c, d], _ =>
    have ha := h a (by simp)
    have hb := h b (by simp)
    have hc := h c (by simp)
    have hd := h d (by simp)
    have e : beV [a, b, c, d] = ((a * 256 + b) * 256 + c) * 256 + d := by simp [beV]
    rw [e]
    simp only [beB, List.range, List.range.loop, List.map_cons, List.map_nil]
    simp only [Nat.reduceSub, Nat.reduceMul, Int.reducePow]
    congr 1
    · omega
    · congr 1
      · omega
      · congr 1
        · omega
        · congr 1
          omega
theorem four_back (v : Int) (h0 : 0 ≤ v) (h1 : v < 4294967296) : beV (beB v 4) = v := by
  simp only [beB, List.range, List.range.loop, List.map_cons, List.map_nil]
  simp only [Nat.reduceSub, Nat.reduceMul, Int.reducePow]
  simp only [beV, List.foldl_cons, List.foldl_nil]
  omega

/-- A record's length, its sum, and it whole. -/
def headB (s : List Int) : List Int := beB s.length 4
def sumB (s : List Int) : List Int := beB (ofC (headB s ++ s) : Nat) 4
def recB (s : List Int) : List Int := headB s ++ (sumB s ++ s)
theorem headB_length (s : List Int) : (headB s).length = 4 := beB_length _ _
theorem sumB_length (s : List Int) : (sumB s).length = 4 := beB_length _ _
theorem recB_length (s : List Int) : (recB s).length = 8 + s.length := by
  unfold recB; rw [List.length_append, List.length_append, headB_length, sumB_length]; omega
theorem recB_byt {s : List Int} (h : Byt s) : Byt (recB s) := (beB_byt _ _).append ((beB_byt _ _).append h)

/-- What the four bytes at a place say. -/
def num4 (l : List Int) (p : Nat) : Int := beV ((l.drop p).take 4)
theorem num4_bound {l : List Int} (h : Byt l) (p : Nat) : 0 ≤ num4 l p ∧ num4 l p < 4294967296 := by
  have hb : Byt ((l.drop p).take 4) := (h.drop p).take 4
  have hl : ((l.drop p).take 4).length ≤ 4 := by rw [List.length_take]; omega
  have h2 := beV_bound _ hb
  have h3 : (256 : Int) ^ ((l.drop p).take 4).length ≤ 4294967296 := by
    have := Nat.pow_le_pow_right (n := 256) (by decide) hl
    rw [show (256 : Int) = ((256 : Nat) : Int) from rfl, ← Int.natCast_pow]
    exact Int.ofNat_le.2 (Nat.le_trans this (by decide))
  unfold num4
  exact ⟨h2.1, Int.lt_of_lt_of_le h2.2 h3⟩
/-- The bytes from p on, n of them. -/
def piece (l : List Int) (p n : Nat) : List Int := (l.drop p).take n
theorem piece_length {l : List Int} {p n : Nat} (h : p + n ≤ l.length) : (piece l p n).length = n := by
  unfold piece; rw [List.length_take, List.length_drop]; omega
theorem piece_byt {l : List Int} (h : Byt l) (p n : Nat) : Byt (piece l p n) := (h.drop p).take n
/-- The error that a reading at p tells: P3.2. -/
def nextE (l : List Int) (p : Int) : Int :=
  if p < 0 ∨ (l.length : Int) < p then 1
  else if (l.length : Int) - p < 8 then 2
  else if 1048576 < num4 l p.toNat then 3
  else if (l.length : Int) - p - 8 < num4 l p.toNat then 2
  else if ((ofC (piece l p.toNat 4 ++ piece l (p.toNat + 8) (num4 l p.toNat).toNat) : Nat) : Int) ≠ num4 l (p.toNat + 4) then 4
  else 0
def nextR (l : List Int) (p : Int) : List Int := if nextE l p = 0 then piece l (p.toNat + 8) (num4 l p.toNat).toNat else []
def nextN (l : List Int) (p : Int) : Int := if nextE l p = 0 then p + 8 + num4 l p.toNat else 0
/-- What it says that there is none wrong. -/
theorem next_ok {l : List Int} {p : Nat} (hY : Byt l) (h : nextE l p = 0) :
    ∃ n : Nat, num4 l p = n ∧ n ≤ 1048576 ∧ p + 8 + n ≤ l.length ∧ nextR l p = piece l (p + 8) n ∧ nextN l p = ((p + 8 + n : Nat) : Int) ∧ ((ofC (piece l p 4 ++ piece l (p + 8) n) : Nat) : Int) = num4 l (p + 4) := by
  have h0 := h
  have hb := num4_bound hY p
  unfold nextE at h
  rw [Int.toNat_natCast] at h
  split at h
  · omega
  split at h
  · omega
  split at h
  · omega
  split at h
  · omega
  split at h
  · omega
  refine ⟨(num4 l p).toNat, by omega, by omega, by omega, ?_, ?_, by omega⟩
  · unfold nextR; rw [if_pos h0, Int.toNat_natCast]
  · unfold nextN; rw [if_pos h0, Int.toNat_natCast]; omega
theorem piece_add (l : List Int) (p m n : Nat) : piece l p m ++ piece l (p + m) n = piece l p (m + n) := by
  unfold piece
  rw [← List.drop_drop, List.take_add]
theorem take_piece (l : List Int) (p n : Nat) : l.take p ++ piece l p n = l.take (p + n) := by
  unfold piece; rw [List.take_add]
/-- A record that is read is, written anew, what stood there. -/
theorem again {l : List Int} {p : Nat} (hY : Byt l) (h : nextE l p = 0) : recB (nextR l p) = piece l p (8 + (nextR l p).length) := by
  obtain ⟨n, h1, h2, h3, h4, h5, h6⟩ := next_ok hY h
  have hl : (piece l (p + 8) n).length = n := piece_length (by omega)
  have hh : headB (piece l (p + 8) n) = piece l p 4 := by
    unfold headB
    rw [hl, ← h1]
    exact four _ (piece_byt hY p 4) (piece_length (by omega))
  have hs : sumB (piece l (p + 8) n) = piece l (p + 4) 4 := by
    unfold sumB
    rw [hh, h6]
    exact four _ (piece_byt hY (p + 4) 4) (piece_length (by omega))
  rw [h4, hl]
  unfold recB
  rw [hh, hs, piece_add l (p + 4) 4 n, piece_add l p 4 (4 + n), show 4 + (4 + n) = 8 + n by omega]
/-- The records L stand in l one behind the other, from p to q. -/
def Chain (l : List Int) : Int → List (List Int) → Int → Prop
  | p, [], q => p = q
  | p, r :: L, q => nextE l p = 0 ∧ nextR l p = r ∧ Chain l (nextN l p) L q
/-- They are all that a scan from p on finds. -/
def Scanned (l : List Int) (p : Int) (L : List (List Int)) (q : Int) : Prop := Chain l p L q ∧ nextE l q ≠ 0
theorem Chain.snoc {l : List Int} {r : List Int} {L : List (List Int)} {q : Int} : ∀ {p : Int}, Chain l p L q → nextE l q = 0 → nextR l q = r → Chain l p (L ++ [r]) (nextN l q) := by
  induction L with
  | nil => intro p h he hr; obtain rfl : p = q := h; exact ⟨he, hr, rfl⟩
  | cons s L ih => intro p h he hr; exact ⟨h.1, h.2.1, ih h.2.2 he hr⟩
theorem Scanned.same {l : List Int} {L : List (List Int)} {q : Int} : ∀ {p : Int} {L' : List (List Int)} {q' : Int}, Scanned l p L q → Scanned l p L' q' → L = L' ∧ q = q' := by
  induction L with
  | nil =>
    intro p L' q' h h'
    obtain rfl : p = q := h.1
    match L' with
    | [] => obtain rfl : p = q' := h'.1; exact ⟨rfl, rfl⟩
    | r :: L' => exact absurd h'.1.1 h.2
  | cons r L ih =>
    intro p L' q' h h'
    match L' with
    | [] => obtain rfl : p = q' := h'.1; exact absurd h.1.1 h'.2
    | r' :: L' =>
      obtain ⟨⟨h1, h2, h3⟩, h4⟩ := h
      obtain ⟨⟨g1, g2, g3⟩, g4⟩ := h'
      obtain ⟨e1, e2⟩ := ih ⟨h3, h4⟩ ⟨g3, g4⟩
      exact ⟨by rw [← h2, ← g2, e1], e2⟩
theorem next_good {l : List Int} {p : Int} (hY : Byt l) (h : nextE l p = 0) : 0 ≤ p ∧ p + 8 ≤ nextN l p ∧ nextN l p ≤ l.length ∧ ((nextR l p).length : Int) = nextN l p - p - 8 ∧ Byt (nextR l p) ∧ (nextR l p).length ≤ 1048576 := by
  have hp : 0 ≤ p := by
    unfold nextE at h
    split at h <;> omega
  obtain ⟨k, rfl⟩ := Int.eq_ofNat_of_zero_le hp
  obtain ⟨n, h1, h2, h3, h4, h5, h6⟩ := next_ok hY h
  rw [h4, h5, piece_length (by omega)]
  exact ⟨by omega, by omega, by omega, by omega, piece_byt hY _ _, h2⟩
/-- The bounds of a chain: it goes up; its records are bytes. -/
theorem Chain.good {l : List Int} (hY : Byt l) {L : List (List Int)} {q : Int} : ∀ {p : Int}, Chain l p L q → 0 ≤ p → p ≤ l.length → p + 8 * L.length ≤ q ∧ q ≤ l.length ∧ ∀ r ∈ L, Byt r ∧ r.length ≤ 1048576 := by
  induction L with
  | nil => intro p h h0 h1; obtain rfl : p = q := h; exact ⟨by simp, h1, fun r hr => by cases hr⟩
  | cons r L ih =>
    intro p h h0 h1
    obtain ⟨h2, rfl, h4⟩ := h
    obtain ⟨g0, g1, g2, g3, g4, g5⟩ := next_good hY h2
    obtain ⟨k1, k2, k3⟩ := ih h4 (by omega) g2
    refine ⟨by rw [List.length_cons]; omega, k2, fun s hs => ?_⟩
    rcases List.mem_cons.1 hs with rfl | hs
    · exact ⟨g4, g5⟩
    · exact k3 s hs
/-- Written anew, a chain is what stood there. -/
theorem Chain.again {l : List Int} (hY : Byt l) {L : List (List Int)} {q : Int} : ∀ {p : Int}, Chain l p L q → 0 ≤ p → p ≤ l.length → l.take p.toNat ++ (L.map recB).flatten = l.take q.toNat := by
  induction L with
  | nil => intro p h h0 h1; obtain rfl : p = q := h; simp
  | cons r L ih =>
    intro p h h0 h1
    obtain ⟨h2, rfl, h4⟩ := h
    obtain ⟨g0, g1, g2, g3, g4, g5⟩ := next_good hY h2
    obtain ⟨k, rfl⟩ := Int.eq_ofNat_of_zero_le h0
    have ha := rec_.again hY h2
    rw [List.map_cons, List.flatten_cons, ← List.append_assoc, ha, Int.toNat_natCast, take_piece, ← ih h4 (by omega) g2]
    congr 2
    omega
/-- A record that is written stands there. -/
theorem next_written (pre s post : List Int) (hs : Byt s) (hl : s.length ≤ 1048576) : nextE (pre ++ (recB s ++ post)) pre.length = 0 ∧ nextR (pre ++ (recB s ++ post)) pre.length = s ∧ nextN (pre ++ (recB s ++ post)) pre.length = ((pre.length + (8 + s.length) : Nat) : Int) := by
  have hd : (pre ++ (recB s ++ post)).drop pre.length = headB s ++ (sumB s ++ (s ++ post)) := by
    rw [List.drop_left]; unfold recB; simp [List.append_assoc]
  have hd4 : (pre ++ (recB s ++ post)).drop (pre.length + 4) = sumB s ++ (s ++ post) := by
    rw [← List.drop_drop, hd]
    exact List.drop_left' (headB_length s)
  have hd8 : (pre ++ (recB s ++ post)).drop (pre.length + 8) = s ++ post := by
    rw [show pre.length + 8 = (pre.length + 4) + 4 by omega, ← List.drop_drop, hd4]
    exact List.drop_left' (sumB_length s)
  have hn : num4 (pre ++ (recB s ++ post)) pre.length = s.length := by
    unfold num4
    rw [hd, List.take_left' (headB_length s)]
    exact four_back _ (by omega) (by omega)
  have hn4 : num4 (pre ++ (recB s ++ post)) (pre.length + 4) = (ofC (headB s ++ s) : Nat) := by
    unfold num4
    rw [hd4, List.take_left' (sumB_length s)]
    exact four_back _ (by omega) (by have := moreC_lt (c := 0) (by decide) ((beB_byt (s.length : Int) 4).append hs); unfold ofC headB; omega)
  have hp : piece (pre ++ (recB s ++ post)) pre.length 4 = headB s := by unfold piece; rw [hd, List.take_left' (headB_length s)]
  have hp8 : piece (pre ++ (recB s ++ post)) (pre.length + 8) s.length = s := by unfold piece; rw [hd8, List.take_left' rfl]
  have hlen : (pre ++ (recB s ++ post)).length = pre.length + (8 + s.length) + post.length := by
    rw [List.length_append, List.length_append, recB_length]; omega
  have hE : nextE (pre ++ (recB s ++ post)) pre.length = 0 := by
    unfold nextE
    rw [Int.toNat_natCast, hn, hn4, Int.toNat_natCast, hp, hp8, hlen]
    rw [if_neg (by omega), if_neg (by omega), if_neg (by omega), if_neg (by omega), if_neg (by simp)]
  refine ⟨hE, ?_, ?_⟩
  · unfold nextR; rw [if_pos hE, Int.toNat_natCast, hn, Int.toNat_natCast, hp8]
  · unfold nextN; rw [if_pos hE, Int.toNat_natCast, hn]; omega
/-- One that is cut off is none. -/
theorem next_cut (pre s post : List Int) (k : Nat) (hs : Byt s) (hl : s.length ≤ 1048576) (hk : k < 8 + s.length) : nextE (pre ++ ((recB s ++ post).take k)) pre.length ≠ 0 := by
  intro h
  have hlen : (pre ++ ((recB s ++ post).take k)).length = pre.length + k := by
    rw [List.length_append, List.length_take, List.length_append, recB_length]; omega
  by_cases h8 : k < 8
  · unfold nextE at h
    rw [hlen, if_neg (by omega), if_pos (by omega)] at h
    omega
  · have hn : num4 (pre ++ ((recB s ++ post).take k)) pre.length = s.length := by
      unfold num4
      have e4 : (pre ++ (recB s ++ post).take k).drop pre.length = (recB s ++ post).take k := List.drop_left
      have e5 : (recB s ++ post).take 4 = headB s := by unfold recB; rw [List.append_assoc, List.take_left' (headB_length s)]
      rw [e4, List.take_take, Nat.min_eq_left (by omega), e5]
      exact four_back _ (by omega) (by omega)
    unfold nextE at h
    rw [hlen, Int.toNat_natCast, hn, if_neg (by omega), if_neg (by omega), if_neg (by omega), if_pos (by omega)] at h
    omega
/-- So many bytes do the first j records fill. -/
def upto (L : List (List Int)) (j : Nat) : List Int := ((L.take j).map recB).flatten
theorem upto_zero (L : List (List Int)) : upto L 0 = [] := rfl
theorem upto_succ {L : List (List Int)} {j : Nat} {s : List Int} (h : L[j]? = some s) : upto L (j + 1) = upto L j ++ recB s := by
  obtain ⟨hj, rfl⟩ := List.getElem?_eq_some_iff.1 h
  unfold upto
  rw [List.take_succ_eq_append_getElem hj, List.map_append, List.flatten_append]
  simp
theorem upto_all (L : List (List Int)) : upto L L.length = (L.map recB).flatten := by unfold upto; rw [List.take_length]
theorem upto_more (L : List (List Int)) (j : Nat) : ∃ post, upto L L.length = upto L j ++ post := by
  refine ⟨((L.drop j).map recB).flatten, ?_⟩
  rw [upto_all]
  unfold upto
  rw [← List.flatten_append, ← List.map_append, List.take_append_drop]
/-- Records that are cut off anywhere are scanned up to the last one that is whole. -/
theorem scanned_cut (L : List (List Int)) (hL : ∀ s ∈ L, Byt s ∧ s.length ≤ 1048576) (c n : Nat) (hn : n ≤ L.length) (hc : (upto L n).length ≤ c) (hm : n < L.length → c < (upto L (n + 1)).length) :
    Scanned ((upto L L.length).take c) 0 (L.take n) ((upto L n).length : Int) := by
  have hch : ∀ j, j ≤ n → Chain ((upto L L.length).take c) 0 (L.take j) ((upto L j).length : Int) := by
    intro j
    induction j with
    | zero => intro _; exact rfl
    | succ j ih =>
      intro hj
      have hjl : j < L.length := by omega
      have hs : L[j]? = some L[j] := List.getElem?_eq_getElem hjl
      have hb := hL L[j] (List.getElem_mem hjl)
      obtain ⟨post, hp⟩ := upto_more L (j + 1)
      have hlen : (upto L (j + 1)).length ≤ c := by
        have : ∀ i, j + 1 + i ≤ L.length → (upto L (j + 1)).length ≤ (upto L (j + 1 + i)).length := by
          intro i
          induction i with
          | zero => intro _; exact Nat.le_refl _
          | succ i ihi =>
            intro hi
            have := ihi (by omega)
            have h2 := upto_succ (L := L) (j := j + 1 + i) (List.getElem?_eq_getElem (by omega))
            rw [show j + 1 + (i + 1) = j + 1 + i + 1 by omega, h2, List.length_append]
            omega
        have h3 := this (n - (j + 1)) (by omega)
        rw [show j + 1 + (n - (j + 1)) = n by omega] at h3
        omega
      have e : (upto L L.length).take c = upto L j ++ (recB L[j] ++ post.take (c - (upto L (j + 1)).length)) := by
        rw [hp, List.take_append, List.take_of_length_le hlen, upto_succ hs, List.append_assoc]
      obtain ⟨g1, g2, g3⟩ := next_written (upto L j) L[j] (post.take (c - (upto L (j + 1)).length)) hb.1 hb.2
      rw [← e] at g1 g2 g3
      have := (ih (by omega)).snoc g1 g2
      rw [g3] at this
      rw [List.take_succ_eq_append_getElem hjl, upto_succ hs, List.length_append, recB_length]
      exact this
  refine ⟨hch n (Nat.le_refl _), ?_⟩
  by_cases hlt : n < L.length
  · have hs : L[n]? = some L[n] := List.getElem?_eq_getElem hlt
    have hb := hL L[n] (List.getElem_mem hlt)
    obtain ⟨post, hp⟩ := upto_more L (n + 1)
    have h2 := hm hlt
    rw [upto_succ hs, List.length_append, recB_length] at h2
    have e : (upto L L.length).take c = upto L n ++ (recB L[n] ++ post).take (c - (upto L n).length) := by
      rw [hp, upto_succ hs, List.append_assoc, List.take_append, List.take_of_length_le hc]
    rw [e]
    exact next_cut _ _ _ _ hb.1 hb.2 (by omega)
  · obtain rfl : n = L.length := by omega
    rw [List.take_of_length_le hc]
    unfold nextE
    rw [if_neg (by omega), if_pos (by omega)]
    decide
end Go.Proofs.Ytcjaffdjhbhhaaa.rec_
