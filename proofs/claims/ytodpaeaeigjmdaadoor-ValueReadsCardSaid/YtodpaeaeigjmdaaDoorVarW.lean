/- What bits.Var and bits.Text, and the document's, write behind any slice of bytes. Condition: the slices are at most 2^40 long. -/
import Derived.Test.YtodpaeaeigjmdaaDoorProg
import Derived.Test.YtodpaeaeigjmdaaDoorRoom
import Derived.Test.YtodpaeaeigjmdaaDoorVar
import Derived.Outline
namespace Go.Proofs.YtodpaeaeigjmdaaDoor.bytes
open Go.RowKit Go.Proofs.YtodpaeaeigjmdaaDoor.kit Go.Proofs.YtodpaeaeigjmdaaDoor.nums
set_option linter.unusedVariables false

set_option maxHeartbeats 400000 in
theorem appendVar_any (A : Option Addr) (n c : Nat) (l : List Int) (u : Int) (w : World) (base : Nat) (hO : Own 5 w base (.slice A n c) l) (hn : l.length = n) (hb : n ≤ 4398046511104) (hbase : base ≤ w.heap.size) (h0 : 0 ≤ u) (h1 : u ≤ 18446744073709551615) :
    Calls Tryd.prog 75 #[.slice A n c, .int .u64 u] w (RetO 5 w base (n + (varB u).length) (l ++ varB u)) := by
  go_enter Tryd.func75, Tryd.ntmps75
  go_wp2_with fail
  go_loopw [0, 1] (fun s i wr => ∃ (k : Nat) (x : Int) (m : Nat) (l' : List Int) (A' : Option Addr) (c' : Nat), i = .int .u64 x ∧ s = .slice A' m c' ∧ 0 ≤ x ∧ x < room k ∧ k ≤ 9 ∧ m + k = n + 9 ∧ l'.length = m ∧ Own 5 wr base (.slice A' m c') l' ∧ Below base w wr ∧ Hid (l ++ varB u = l' ++ varN k x)) (fun _ i _ => (intOf i).toNat)
  case atStart => exact ⟨9, u, n, l, A, c, rfl, rfl, h0, by rw [room_nine]; omega, by omega, rfl, hn, hO, Below.refl _ _, rfl⟩
  case round =>
    obtain ⟨k, x, m, l', A', c', rfl, rfl, x0, x1, hk, hm, hl, hO', hB', HE⟩ := hrel
    have hsz := hB'.size
    have HL := Lib.hid hl
    have x2 : x ≤ 18446744073709551615 := by
      have h3 : room k ≤ room 9 := by
        have : ∀ j : Fin 10, room j.1 ≤ room 9 := by decide
        exact this ⟨k, by omega⟩
      rw [room_nine] at h3
      omega
    by_cases hx : x < 128
    · have he : varN k x = [x] := varN_last x0 hx
      have HE2 : Hid (l ++ varB u = l' ++ [x]) := by have := HE.out; rw [he] at this; exact this
      have HK := Lib.hid hm
      clear he HE hl hm x1
      go_wp2_with (at_builtin; with_reducible refine wpList_append_rd rfl (.tmp 15) (.tmp 18) 22 rfl base 5 Tryd.underlying22 info5 A' m c' l' HL.out rfl (hO'.alloc _) _ _ 1 1 [_] rfl (Rd.one _ _ _) ?hb2 ?hbase ?_)
      case hb2 => have := HK.out; omega
      case hbase => first | (simp; omega) | omega
      intro A2 c2 w2 hO2 hB2 _
      go_wp2_with fail
      go_ret
      rw [← HE2.out] at hO2
      have hlen : n + (varB u).length = m + 1 := by
        have := congrArg List.length HE2.out
        simp only [List.length_append, List.length_singleton, HL.out, hn] at this
        exact this
      rw [hlen]
      refine ⟨A2, c2, rfl, by rw [HE2.out, List.length_append, HL.out]; rfl, hO2, (hB'.alloc (by omega) _).trans hB2⟩
    · obtain ⟨k', rfl⟩ : ∃ k', k = k' + 1 := by
        cases k with
        | zero => rw [room_zero] at x1; omega
        | succ k' => exact ⟨k', rfl⟩
      have HX := Lib.hid (room_div x1)
      have HE2 : Hid (l ++ varB u = l' ++ ((x % 128 + 128) :: varN k' (x / 128))) := by have := HE.out; rw [varN_ge hx] at this; exact this
      have ho := or128 x
      have HK := Lib.hid hm
      clear HE hl hm x1
      go_wp2_with (at_builtin; with_reducible refine wpList_append_rd rfl (.tmp 7) (.tmp 11) 22 rfl base 5 Tryd.underlying22 info5 A' m c' l' HL.out rfl (hO'.alloc _) _ _ 1 1 [_] rfl (Rd.one _ _ _) ?hb2 ?hbase ?_)
      case hb2 => have := HK.out; omega
      case hbase => first | (simp; omega) | omega
      intro A2 c2 w2 hO2 hB2 _
      go_wp2_with fail
      go_roundw
      case rel => exact ⟨k', x / 128, m + 1, l' ++ [x % 128 + 128], A2, c2, rfl, rfl, by omega, HX.out, by omega, by have := HK.out; omega, by rw [List.length_append, HL.out]; rfl, hO2, (hB'.alloc (by omega) _).trans hB2, by rw [List.append_assoc]; exact HE2⟩
      case measure => simp [intOf]; omega

theorem var_any (A : Option Addr) (n c : Nat) (l : List Int) (u : Int) (w : World) (hR : Rd w w.heap.size A n l) (hb : n ≤ 1099511627776) (h0 : 0 ≤ u) (h1 : u ≤ 18446744073709551615) :
    Calls Tryd.prog 59 #[.slice A n c, .int .u64 u] w (RetL 5 w (n + (varB u).length) (l ++ varB u)) := by
  go_enter Tryd.func59, Tryd.ntmps59
  go_wp2_with fail
  refine (withRoom_int A n c l 10 w hR (by omega) (by simp; omega)).mono ?_
  rintro e w1 ⟨A1, c1, rfl, hl, hO, hB⟩
  go_wp2_with fail
  refine (appendVar_any A1 n c1 l u w1 w.heap.size hO hl (by omega) hB.size h0 h1).mono ?_
  rintro e w2 ⟨A2, c2, rfl, hl2, hO2, hB2⟩
  go_wp2_with fail
  go_ret
  exact ⟨A2, c2, rfl, hl2, hO2, hB.trans hB2⟩

theorem text_any (A : Option Addr) (n c : Nat) (l : List Int) (S : Option Addr) (m cs : Nat) (s : List Int) (w : World) (hR : Rd w w.heap.size A n l) (hS : Rd w w.heap.size S m s) (hb : n ≤ 1099511627776) (hm : m ≤ 1099511627776) :
    Calls Tryd.prog 61 #[.slice A n c, .slice S m cs] w (RetL 5 w (n + (varB m).length + m) (l ++ (varB m ++ s))) := by
  have hv := (varB_length m).2
  have hsl := hS.len
  go_enter Tryd.func61, Tryd.ntmps61
  go_wp2_with fail
  refine (withRoom_int A n c l _ w hR (by omega) (by omega)).mono ?_
  rintro e w1 ⟨A1, c1, rfl, hl, hO, hB⟩
  go_wp2_with fail
  refine (appendVar_any A1 n c1 l m w1 w.heap.size hO hl (by omega) hB.size (by omega) (by omega)).mono ?_
  rintro e w2 ⟨A2, c2, rfl, hl2, hO2, hB2⟩
  have hsz := (hB.trans hB2).size
  have hS2 := hS.on (hB.trans hB2) (Nat.le_refl _)
  have HL := Lib.hid hl2
  clear hl2 hsl hl
  go_wp2_with (at_builtin; with_reducible refine wpList_append_rd rfl (.tmp 15) (.tmp 16) 22 rfl w.heap.size 5 Tryd.underlying22 info5 A2 (n + (varB m).length) c2 _ HL.out rfl hO2 _ S m cs s rfl hS2 ?hb2 hsz ?_)
  case hb2 => omega
  intro A3 c3 w3 hO3 hB3 _
  go_wp2_with fail
  go_ret
  exact ⟨A3, c3, rfl, by rw [← List.append_assoc, List.length_append, HL.out, hS.len], by first | exact hO3 | (rw [← List.append_assoc]; exact hO3), (hB.trans hB2).trans hB3⟩
end Go.Proofs.YtodpaeaeigjmdaaDoor.bytes
