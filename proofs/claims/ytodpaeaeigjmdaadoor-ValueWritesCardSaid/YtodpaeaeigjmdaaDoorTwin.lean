/- What the statements' Twin, Kept and Spoil do: the same bytes with spare room, whether it is as it was, and all written over. Condition: the slices are at most 2^40 long. -/
import Derived.Test.YtodpaeaeigjmdaaDoorProg
import Derived.Test.YtodpaeaeigjmdaaDoorInfo
import Derived.Outline
namespace Go.Proofs.YtodpaeaeigjmdaaDoor.bytes
open Go.RowKit Go.Proofs.YtodpaeaeigjmdaaDoor.kit
set_option linter.unusedVariables false

/-- Block g is a twin of the bytes l: they and three cells 0xe5. -/
def IsTwin (w : World) (g : Nat) (l : List Int) : Prop := Blk 5 w g (u8s (l ++ [229, 229, 229]))
theorem IsTwin.below {w w' : World} {g B : Nat} {l : List Int} (h : IsTwin w g l) (hb : Below B w w') (hg : g < B) : IsTwin w' g l := Blk.below h hb hg
theorem IsTwin.lt {w : World} {g : Nat} {l : List Int} (h : IsTwin w g l) : g < w.heap.size := Blk.lt h
theorem IsTwin.rd {w : World} {g n : Nat} {l : List Int} (h : IsTwin w g l) (hn : l.length = n) {B : Nat} (hB : g < B) : Rd w B (some ⟨g, 0, none⟩) n l :=
  Blk.rd h (by rw [u8s_append, ← hn, ← u8s_length]; exact List.take_left) hn hB

/-- The cells of a twin that is j cells on its way. -/
def tw (l : List Int) (j : Nat) : List Value := u8s l ++ (u8s (List.replicate j 229) ++ zeros (3 - j))
theorem tw_zero (l : List Int) (n : Nat) (h : l.length = n) : splice (zeros (n + 3)) 0 (u8s l) = tw l 0 := by
  unfold splice tw
  rw [u8s_length, h]
  simp [zeros, u8s]
theorem tw_three (l : List Int) : tw l 3 = u8s (l ++ [229, 229, 229]) := by simp [tw, u8s, zeros]
theorem tw_set (l : List Int) (n j : Nat) (h : l.length = n) (hj : j < 3) : (tw l j).set (n + j) (.int .u8 229) = tw l (j + 1) := by
  have h2 : n + j - (u8s l).length = j := by rw [u8s_length, h]; omega
  unfold tw
  rw [List.set_append_right _ _ (by rw [u8s_length]; omega), h2]
  have h3 : ∀ j : Fin 3, (u8s (List.replicate j.1 229) ++ zeros (3 - j.1)).set j.1 (.int .u8 229) = u8s (List.replicate (j.1 + 1) 229) ++ zeros (3 - (j.1 + 1)) := by
    intro j
    match j with
    | 0 => rfl
    | 1 => rfl
    | 2 => rfl
  rw [h3 ⟨j, hj⟩]
theorem tw_get (l : List Int) (n j : Nat) (h : l.length = n) (hj : j < 3) : (tw l j)[n + j]? = some (.int .u8 0) := by
  have h2 : n + j - (u8s l).length = j := by rw [u8s_length, h]; omega
  unfold tw
  rw [List.getElem?_append_right (by rw [u8s_length]; omega), h2]
  have h3 : ∀ j : Fin 3, (u8s (List.replicate j.1 229) ++ zeros (3 - j.1))[j.1]? = some (.int .u8 0) := by
    intro j
    match j with
    | 0 => rfl
    | 1 => rfl
    | 2 => rfl
  exact h3 ⟨j, hj⟩

set_option maxHeartbeats 400000 in
theorem twin_any (A : Option Addr) (n c : Nat) (l : List Int) (w : World) (hR : Rd w w.heap.size A n l) (hb : n ≤ 1099511627776) :
    Calls Tryd.prog 10 #[.slice A n c] w fun e w' => e = .returned (.slice (some ⟨w.heap.size, 0, none⟩) n (n + 3)) ∧ IsTwin w' w.heap.size l ∧ Below w.heap.size w w' := by
  go_enter Tryd.func10, Tryd.ntmps10
  go_wp2_with (at_make; refine wpList_make_bytes _ rfl _ _ 22 rfl 5 Tryd.underlying22 info5 .i64 .i64 _ _ (n + 3) (n + 3) rfl rfl ?cL ?cC ?c1 ?c2 ?_)
  case cL => simp
  case cC => simp
  case c1 => omega
  case c2 => omega
  intro w1 HG HB HS
  go_wp2_with (with_reducible refine wpList_copy_rd rfl (.tmp 9) (.tmp 10) 22 22 rfl 5 Tryd.underlying22 info5 (n + 3) (n + 3) n c A w.heap.size 0 rfl rfl _ 5 HG w.heap.size l (hR.below HB) ?f0 ?f1 ?_)
  case f0 => omega
  case f1 => rw [zeros_length]; omega
  intro w2 HG2 HB2 HS2
  rw [tw_zero l n hR.len] at HG2
  have HBB := HB.trans HB2
  have HN := Lib.hid hR.len
  clear HG HB HB2 HS HS2 hR
  go_wp2_with fail
  go_loopw [4] (fun i wr => ∃ j : Nat, j ≤ 3 ∧ i = .int .i64 ((n : Int) + j) ∧ Blk 5 wr w.heap.size (tw l j) ∧ Below w.heap.size w wr) (fun i _ => (n + 3) - (intOf i).toNat)
  case atStart => exact ⟨0, by omega, by simp, HG2, HBB⟩
  case round =>
    obtain ⟨j, hj, rfl, HG', hB'⟩ := hrel
    by_cases h3 : j < 3
    · have hcell : wr.cell? ⟨w.heap.size, n + j, none⟩ = some (.int .u8 0) := by rw [HG'.cell, tw_get l n j HN.out h3]
      have hfr := HG'.frozen (n + j)
      have HS := HG'.set_ (n + j) (.int .u8 229)
      rw [tw_set l n j HN.out h3] at HS
      go_wp2_with fail
      go_roundw
      case rel => exact ⟨j + 1, by omega, by go_num, HS, hB'.setCell (by simp) _⟩
      case measure => simp [intOf]; omega
    · obtain rfl : j = 3 := by omega
      rw [tw_three] at HG'
      go_wp2_with fail
      go_ret
      exact ⟨rfl, HG', hB'⟩

theorem tw_229 (l : List Int) (n j : Nat) (h : l.length = n) (hj : j < 3) : (u8s (l ++ [229, 229, 229]))[n + j]? = some (.int .u8 229) := by
  rw [u8s_append, List.getElem?_append_right (by rw [u8s_length]; omega), u8s_length, h, Nat.add_sub_cancel_left]
  have h3 : ∀ j : Fin 3, (u8s [229, 229, 229])[j.1]? = some (.int .u8 229) := by
    intro j
    match j with
    | 0 => rfl
    | 1 => rfl
    | 2 => rfl
  exact h3 ⟨j, hj⟩

set_option maxHeartbeats 400000 in
theorem kept_any (g : Nat) (A : Option Addr) (n c : Nat) (l : List Int) (w : World) (B : Nat) (hT : IsTwin w g l) (hR : Rd w B A n l) (hb : n ≤ 1099511627776) :
    Calls Tryd.prog 15 #[.slice (some ⟨g, 0, none⟩) n (n + 3), .slice A n c] w fun e w' => e = .returned (.bool true) ∧ w = w' := by
  have hcv1 := run_string_rd (P := Tryd.prog) w 22 5 9 Tryd.underlying22 Tryd.underlying5 Tryd.underlying9 w.heap.size (some ⟨g, 0, none⟩) n (n + 3) l (hT.rd hR.len hT.lt)
  have hcv2 := run_string_rd (P := Tryd.prog) w 22 5 9 Tryd.underlying22 Tryd.underlying5 Tryd.underlying9 B A n c l hR
  have HN := Lib.hid hR.len
  generalize strOfNums l = S at *
  clear hR
  go_enter Tryd.func15, Tryd.ntmps15
  go_wp2_with fail
  clear hcv1 hcv2
  go_loop [6] (fun i => ∃ j : Nat, j ≤ 3 ∧ i = .int .i64 ((n : Int) + j)) (fun i => (n + 3) - (intOf i).toNat)
  case atStart => exact ⟨0, by omega, by simp⟩
  case round =>
    obtain ⟨j, hj, rfl⟩ := hrel
    by_cases h3 : j < 3
    · have hcell : w.cell? ⟨g, n + j, none⟩ = some (.int .u8 229) := by rw [Blk.cell hT, tw_229 l n j HN.out h3]
      go_wp2_with fail
      go_round
      case rel => exact ⟨j + 1, by omega, by go_num⟩
      case measure => simp [intOf]; omega
    · obtain rfl : j = 3 := by omega
      go_wp2_with fail
      go_ret
      exact ⟨rfl, rfl⟩

set_option maxHeartbeats 400000 in
theorem spoil_any (A : Option Addr) (n c : Nat) (l : List Int) (w : World) (base : Nat) (hO : Own 5 w base (.slice A n c) l) :
    Calls Tryd.prog 20 #[.slice A n c] w fun e w' => e = .returned (.tuple #[]) ∧ w.grownBy w' (Value.ownBlock (.slice A n c)) := by
  rcases hO.2 with ⟨hv, hn⟩ | ⟨g, cap, cur, hv, hb, hg, hnc, hcm, hcs, htake⟩
  · simp only [Value.slice.injEq] at hv
    obtain ⟨rfl, rfl, rfl⟩ := hv
    go_enter Tryd.func20, Tryd.ntmps20
    go_wp2_with fail
    go_loop [3] (fun i => i = .int .i64 0) (fun _ => 0)
    case atStart => rfl
    case round =>
      subst hrel
      go_wp2_with fail
      go_end0
      exact ⟨rfl, World.grownBy.refl _ _⟩
  · simp only [Value.slice.injEq] at hv
    obtain ⟨rfl, -, rfl⟩ := hv
    have hB : Blk 5 w g cur.toList := by unfold Blk; simpa using hg
    have hlen : cur.toList.length = c := by simpa using hcs
    have hc63 : c ≤ 9223372036854775807 := by unfold maxLen at hcm; omega
    clear hg hcs htake hnc hcm hO
    go_enter Tryd.func20, Tryd.ntmps20
    go_wp2_with fail
    generalize cur.toList = cs at *
    go_loopw [3] (fun i wr => ∃ (j : Nat) (ds : List Value), j ≤ c ∧ i = .int .i64 j ∧ Blk 5 wr g ds ∧ Hid (ds.length = c) ∧ w.grownBy wr (some g)) (fun i _ => c - (intOf i).toNat)
    case atStart => exact ⟨0, cs, by omega, rfl, hB, hlen, World.grownBy.refl _ _⟩
    case round =>
      obtain ⟨j, ds, hj, rfl, hD, HL, hG⟩ := hrel
      by_cases hlt : j < c
      · obtain ⟨x, hx⟩ : ∃ x, ds[j]? = some x := ⟨_, List.getElem?_eq_getElem (by rw [HL.out]; exact hlt)⟩
        have hcell : wr.cell? ⟨g, j, none⟩ = some x := by rw [hD.cell, hx]
        have hfr := hD.frozen j
        have HS := Lib.hid (hD.set_ j (.int .u8 90))
        clear hx
        go_wp2_with fail
        go_roundw
        case rel => exact ⟨j + 1, ds.set j (.int .u8 90), by omega, by go_num, HS.out, by show _ = _; rw [List.length_set]; exact HL.out, ⟨hG.os, hG.tape, hG.output, by simpa [World.setCell] using hG.size, fun k hk hne => by rw [Below.heap_setCell _ _ _ _ (by simpa using hne)]; exact hG.block k hk hne⟩⟩
        case measure => simp [intOf]; omega
      · obtain rfl : j = c := by omega
        go_wp2_with fail
        go_end0
        exact ⟨rfl, hG⟩
end Go.Proofs.YtodpaeaeigjmdaaDoor.bytes
