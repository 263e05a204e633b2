/- Plain facts on texts made of bytes: which are the same, and their beginnings. It speaks of no program. -/
import Derived.Test.YtodpaeaeigjmdaaDoorVar
import Derived.Laws.BytesArg
import Derived.Laws.Strings
namespace Go.Proofs.YtodpaeaeigjmdaaDoor.nums

theorem u8_of (x : Int) (h0 : 0 ≤ x) (h1 : x ≤ 255) : ((UInt8.ofNat x.toNat).toNat : Int) = x := by
  rw [UInt8.toNat_ofNat']
  omega
theorem str_inj {l m : List Int} (hl : Byt l) (hm : Byt m) (h : strOfNums l = strOfNums m) : l = m := by
  have h2 : l.map (fun n => UInt8.ofNat n.toNat) = m.map (fun n => UInt8.ofNat n.toNat) := by
    rw [← strOfNums_data, ← strOfNums_data, h]
  have key : ∀ l : List Int, Byt l → (l.map (fun n => UInt8.ofNat n.toNat)).map (fun u => (u.toNat : Int)) = l := by
    intro l hl
    rw [List.map_map]
    exact (List.map_congr_left (fun x hx => u8_of x (hl x hx).1 (hl x hx).2)).trans (List.map_id l)
  rw [← key l hl, ← key m hm, h2]
theorem str_extract (l : List Int) (n : Nat) : (strOfNums l).extract 0 n = strOfNums (l.take n) := by
  apply ByteArray.ext
  simp [strOfNums]
theorem str_ne {a b : Int} (ha : 0 ≤ a) (ha1 : a ≤ 18446744073709551615) (hb : 0 ≤ b) (hb1 : b ≤ 18446744073709551615) (hab : a ≠ b) (n : Nat) (hn : n = min (strOfNums (varB a)).size (strOfNums (varB b)).size) :
    (strOfNums (varB a)).extract 0 n ≠ (strOfNums (varB b)).extract 0 n := by
  rw [strOfNums_size, strOfNums_size] at hn
  rw [str_extract, str_extract]
  intro h
  refine hab (varN_apart 9 a b n ha hb (by rw [room_nine]; omega) (by rw [room_nine]; omega) hn ?_)
  exact str_inj ((varB_byt ha).take n) ((varB_byt hb).take n) h
theorem str_beq_ne {P Q : ByteArray} (h : P ≠ Q) : (P.toList == Q.toList) = false := by
  rw [beq_eq_false_iff_ne]
  intro e
  rw [ByteArray.toList_eq, ByteArray.toList_eq] at e
  exact h (ByteArray.ext (by simpa using congrArg List.toArray e))
end Go.Proofs.YtodpaeaeigjmdaaDoor.nums
