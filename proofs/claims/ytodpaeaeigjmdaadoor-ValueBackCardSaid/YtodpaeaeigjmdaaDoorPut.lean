/- What bits.Put does with any slice of bytes, any number and any count: the document's bytes behind a copy, or the error. Condition: the slice is at most 2^40 long. -/
import Derived.Test.YtodpaeaeigjmdaaDoorProg
import Derived.Test.YtodpaeaeigjmdaaDoorRoom
import Derived.Test.YtodpaeaeigjmdaaDoorNums
import Derived.Outline
namespace Go.Proofs.YtodpaeaeigjmdaaDoor.bytes
set_option linter.unusedVariables false
open Go.RowKit Go.Proofs.YtodpaeaeigjmdaaDoor.kit Go.Proofs.YtodpaeaeigjmdaaDoor.nums

theorem put_few (s : Value) (v k : Int) (w : World) (h : k < 1 ∨ 8 < k) :
    Calls Tryd.prog 57 #[s, .int .u64 v, .int .i64 k] w fun e w' => e = .returned (.tuple #[.slice none 0 0, .int .i64 1]) ∧ w = w' := by
  by_cases hk : k < 1
  · go_enter Tryd.func57, Tryd.ntmps57
    go_wp2_with fail
    go_ret2
    exact ⟨rfl, rfl⟩
  · have hk2 : 8 < k := by omega
    go_enter Tryd.func57, Tryd.ntmps57
    go_wp2_with fail
    go_ret2
    exact ⟨rfl, rfl⟩

theorem put_great (s : Value) (v : Int) (k : Nat) (w : World) (h0 : 0 ≤ v) (h1 : v ≤ 18446744073709551615) (hk0 : 1 ≤ k) (hk1 : k ≤ 8) (hv : (v / 2 ^ (8 * k) != 0) = true) :
    Calls Tryd.prog 57 #[s, .int .u64 v, .int .i64 k] w fun e w' => e = .returned (.tuple #[.slice none 0 0, .int .i64 5]) ∧ w = w' := by
  go_enter Tryd.func57, Tryd.ntmps57
  go_wp2_with fail
  go_ret2
  exact ⟨rfl, rfl⟩

set_option maxHeartbeats 400000 in
theorem put_ok (A : Option Addr) (n c : Nat) (l : List Int) (v : Int) (k : Nat) (w : World) (hR : Rd w w.heap.size A n l) (hb : n ≤ 1099511627776) (h0 : 0 ≤ v) (h1 : v ≤ 18446744073709551615) (hk0 : 1 ≤ k) (hk1 : k ≤ 8) (hv : (v / 2 ^ (8 * k) != 0) = false) :
    Calls Tryd.prog 57 #[.slice A n c, .int .u64 v, .int .i64 k] w (RetS 5 w (n + k) (l ++ beB v k)) := by
  go_enter Tryd.func57, Tryd.ntmps57
  go_wp2_with (go_at_call 74; refine (withRoom_any A n c l k _ hR (by omega)).mono ?_; rintro e w1 ⟨rfl, hO, hB⟩)
  clear hv
  go_loopw [8, 9] (fun s i wr => ∃ (m j : Nat) (A' : Option Addr) (c' : Nat), m + j = k ∧ i = .int .i64 ((m : Int) - 1) ∧ s = .slice A' (n + j) c' ∧ Own 5 wr w.heap.size (.slice A' (n + j) c') (l ++ (beB v k).take j) ∧ Below w.heap.size w wr) (fun _ i _ => (intOf i + 1).toNat)
  case atStart => exact ⟨k, 0, _, _, rfl, rfl, rfl, by simpa using hO, hB⟩
  case round =>
    obtain ⟨m, j, A', c', hmj, rfl, rfl, hO', hB'⟩ := hrel
    have hsz := hB'.size
    rcases m with _ | m
    · go_wp2_with fail
      go_ret2
      obtain rfl : j = k := by omega
      rw [beB_all] at hO'
      exact ⟨A', c', rfl, by simp [hR.len, beB_length], hO', hB'⟩
    · rw [show (((m + 1 : Nat) : Int) - 1) = (m : Int) by omega]
      go_wp2_with (at_builtin; with_reducible refine wpList_append_rd rfl (.tmp 30) (.tmp 36) 22 rfl w.heap.size 5 Tryd.underlying22 info5 A' (n + j) c' _ ?hn rfl (hO'.alloc _) _ _ 1 1 [_] rfl (Rd.one _ _ _) ?hb2 ?hbase ?_)
      case hn => simp [hR.len, beB_length]; omega
      case hb2 => omega
      case hbase => simp; omega
      intro A2 c2 w2 hO2 hB2 _
      go_wp2_with fail
      go_roundw
      case rel => exact ⟨m, j + 1, A2, c2, by omega, rfl, rfl, by rw [beB_take v k m j (by omega)]; exact hO2, (hB'.alloc hsz _).trans hB2⟩
      case measure => simp [intOf]
end Go.Proofs.YtodpaeaeigjmdaaDoor.bytes
