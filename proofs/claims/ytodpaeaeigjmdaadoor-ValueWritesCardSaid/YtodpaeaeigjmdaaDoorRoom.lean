/- What bits.withRoom does with any slice of bytes: a new slice of the same bytes with so much room behind. Condition: the bytes and the room together are at most 2^47. -/
import Derived.Test.YtodpaeaeigjmdaaDoorProg
import Derived.Test.YtodpaeaeigjmdaaDoorKit
import Derived.Test.YtodpaeaeigjmdaaDoorInfo
import Derived.Outline
namespace Go.Proofs.YtodpaeaeigjmdaaDoor.bytes
set_option linter.unusedVariables false
open Go.RowKit Go.Proofs.YtodpaeaeigjmdaaDoor.kit

set_option maxHeartbeats 400000 in
theorem withRoom_any (A : Option Addr) (n c : Nat) (l : List Int) (r : Nat) (w : World) (hR : Rd w w.heap.size A n l) (hb : n + r ≤ 140737488355328) :
    Calls Tryd.prog 74 #[.slice A n c, .int .i64 r] w fun e w' => e = .returned (.slice (some ⟨w.heap.size, 0, none⟩) n (n + r)) ∧ Own 5 w' w.heap.size (.slice (some ⟨w.heap.size, 0, none⟩) n (n + r)) l ∧ Below w.heap.size w w' := by
  go_enter Tryd.func74, Tryd.ntmps74
  go_wp2_with (at_make; refine wpList_make_bytes _ rfl _ _ 22 rfl 5 Tryd.underlying22 info5 .i64 .i64 _ _ n (n + r) rfl rfl ?cL ?cC ?c1 hb ?_)
  case cL => rfl
  case cC => simp
  case c1 => omega
  intro w1 HG HB HS
  go_wp2_with (with_reducible refine wpList_copy_rd rfl (.tmp 13) (.tmp 14) 22 22 rfl 5 Tryd.underlying22 info5 n (n + r) n c A w.heap.size 0 rfl rfl _ 5 HG w.heap.size l (hR.below HB) (Nat.le_refl _) ?f1 ?_)
  case f1 => rw [zeros_length]; omega
  intro w2 HG2 HB2 HS2
  go_wp2
  go_ret
  obtain ⟨e1, e2⟩ := splice_zeros n r l hR.len
  exact ⟨rfl, own_of_block (Nat.le_refl _) HG2 hR.len (by omega) hb e2 e1, HB.trans HB2⟩
theorem withRoom_int (A : Option Addr) (n c : Nat) (l : List Int) (r : Int) (w : World) (hR : Rd w w.heap.size A n l) (h0 : 0 ≤ r) (hb : n + r.toNat ≤ 140737488355328) :
    Calls Tryd.prog 74 #[.slice A n c, .int .i64 r] w (RetL 5 w n l) := by
  obtain ⟨k, rfl⟩ := Int.eq_ofNat_of_zero_le h0
  refine (withRoom_any A n c l k w hR (by simpa using hb)).mono ?_
  rintro e w' ⟨rfl, hO, hB⟩
  exact ⟨_, _, rfl, hR.len, hO, hB⟩
end Go.Proofs.YtodpaeaeigjmdaaDoor.bytes
