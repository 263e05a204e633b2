/- What the statements' helpers on lists of byte slices do: Place, Sum, Joined, Twins, AllKept. Conditions: lengths are at most 2^40. -/
import Derived.Test.YtgejdnkfbleakaaProg
import Derived.Test.YtgejdnkfbleakaaKitV
import Derived.Test.YtgejdnkfbleakaaInfo
import Derived.Test.YtgejdnkfbleakaaTwin
import Derived.Outline
import Derived.Deep.RegionWith
import Derived.Deep.RegionHeld3
namespace Go.Proofs.Ytgejdnkfbleakaa.law0
open Go.RowKit Go.Proofs.Ytgejdnkfbleakaa.kit Go.Proofs.Ytgejdnkfbleakaa.nums Go.Proofs.Ytgejdnkfbleakaa.bytes
set_option linter.unusedVariables false

theorem infoB : (Try.prog.info? 27).map (fun i => (i.zero, i.size, i.bytes)) = some (some (.slice none 0 0), 1, 24) := by kernel_rfl
/-- A number from 0 to n - 1. -/
def placeF (k n : Int) : Int := if n < 1 then 0 else k % n
theorem place_in (k n : Int) (h : 1 ≤ n) : 0 ≤ placeF k n ∧ placeF k n < n := by
  unfold placeF; rw [if_neg (by omega)]
  exact ⟨Int.emod_nonneg _ (by omega), Int.emod_lt_of_pos _ (by omega)⟩
theorem place_any (k n : Int) (w : World) (h0 : -9223372036854775808 ≤ k) (h1 : k ≤ 9223372036854775807) (hn : n ≤ 9223372036854775807) :
    Calls Try.prog 18 #[.int .i64 k, .int .i64 n] w fun e w' => e = .returned (.int .i64 (placeF k n)) ∧ w = w' := by
  by_cases h : n < 1
  · have HP := Lib.hid (show placeF k n = 0 from if_pos h)
    go_enter Try.func18, Try.ntmps18
    go_wp2_with fail
    go_ret
    exact ⟨by rw [HP.out]; rfl, rfl⟩
  · have hz : ¬ n = 0 := by omega
    have HP := Lib.hid (show placeF k n = k % n from if_neg h)
    have e1 := Int.emod_nonneg k hz
    have e2 := Int.emod_lt_of_pos k (show 0 < n by omega)
    have ht : k.tmod n = k % n ∨ k.tmod n = k % n - n ∧ k % n ≠ 0 := by
      rw [Int.tmod_eq_emod]
      split
      · left; simp
      · rename_i hd
        right
        rw [show ((n.natAbs : Nat) : Int) = n by omega]
        exact ⟨rfl, fun h => hd (.inr (Int.dvd_of_emod_eq_zero h))⟩
    have ht2 : (0 ≤ k.tmod n ∧ placeF k n = k.tmod n) ∨ (k.tmod n < 0 ∧ -n < k.tmod n ∧ placeF k n = k.tmod n + n) := by
      rw [HP.out]
      generalize k % n = r at *
      generalize k.tmod n = q at *
      omega
    clear ht e1 e2 HP
    generalize hq : k.tmod n = q at *
    rcases ht2 with ⟨h2, h3⟩ | ⟨h2, h4, h3⟩
    · have HP := Lib.hid h3
      clear h3
      go_enter Try.func18, Try.ntmps18
      go_wp2_with fail
      go_ret
      exact ⟨by rw [HP.out]; rfl, rfl⟩
    · have HP := Lib.hid h3
      clear h3
      go_enter Try.func18, Try.ntmps18
      go_wp2_with fail
      go_ret
      exact ⟨by rw [HP.out]; rfl, rfl⟩

/-- What Sum ends in: a number that is at most 'most' only where all lists together are just as many. -/
def SumR (L : List (List Int)) (most : Nat) (w : World) (e : Ending) (w' : World) : Prop := ∃ r : Nat, e = .returned (.int .i64 r) ∧ (r ≤ most → L.flatten.length = r) ∧ w = w'
set_option maxHeartbeats 400000 in
/-- Sum: at most 'most' only where all lists together are. -/
theorem sum_any (A : Option Addr) (n c : Nat) (L : List (List Int)) (most : Nat) (w : World) (B : Nat) (hR : RdS w B A n L) (hb : n ≤ 140737488355328) (hm : most ≤ 1099511627776) :
    Calls Try.prog 9 #[.slice A n c, .int .i64 most] w (SumR L most w) := by
  have HL := Lib.hid hR.len
  have HC := Lib.hid (show ∀ j, j < n → _ from fun j hj => hR.at_ hj)
  clear hR
  go_enter Try.func9, Try.ntmps9
  go_wp2_with fail
  go_loop [5, 6] (fun s i => ∃ (j r : Nat), j ≤ n ∧ i = .int .i64 j ∧ s = .int .i64 r ∧ r ≤ most + most ∧ Hid ((L.take j).flatten.length = r)) (fun _ i => n - (intOf i).toNat)
  case atStart => exact ⟨0, 0, by omega, rfl, rfl, by omega, rfl⟩
  case round =>
    obtain ⟨j, r, hj, rfl, rfl, hr, HR⟩ := hrel
    by_cases hrm : r ≤ most
    · by_cases hlt : j < n
      · obtain ⟨b, o, Aj, cj, l, rfl, hLj, hx, hl1, hl2, hRj⟩ := HC.out j hlt
        have HN : Hid ((L.take (j + 1)).flatten.length = r + l.length) := by show _ = _; rw [flat_take hLj, List.length_append, HR.out]
        have HG := Lib.hid (flat_le L (j + 1))
        unfold maxLen at hl2
        clear hRj hLj
        by_cases hlm : l.length ≤ most
        · generalize l.length = k at *
          go_wp2_with fail
          go_round
          case rel => exact ⟨j + 1, r + k, by omega, by go_num, by go_num, by omega, HN⟩
          case measure => simp [intOf]; omega
        · generalize l.length = k at *
          go_wp2_with fail
          go_ret
          exact ⟨most + 1, by first | rfl | simp, fun h => absurd h (by omega), rfl⟩
      · obtain rfl : j = n := by omega
        have HV : Hid (L.flatten.length = r) := by
          show _ = _
          rw [← HR.out, List.take_of_length_le (by rw [HL.out]; exact Nat.le_refl _)]
        go_wp2_with fail
        go_ret
        exact ⟨r, rfl, fun _ => HV.out, rfl⟩
    · go_wp2_with fail
      all_goals go_ret
      all_goals exact ⟨r, rfl, fun h => absurd h hrm, rfl⟩

set_option maxHeartbeats 400000 in
/-- Joined: all bytes, one list behind the other, in a slice of its own. -/
theorem joined_any (A : Option Addr) (n c : Nat) (L : List (List Int)) (w : World) (hR : RdS w w.heap.size A n L) (hb : n ≤ 1099511627776) (ht : L.flatten.length ≤ 1099511627776) :
    Calls Try.prog 11 #[.slice A n c] w (RetL 5 w L.flatten.length L.flatten) := by
  have HL := Lib.hid hR.len
  have HR := Lib.hid hR
  clear hR
  go_enter Try.func11, Try.ntmps11
  go_wp2_with fail
  go_loopw [3, 4] (fun s i wr => ∃ (j k : Nat) (A' : Option Addr) (c' : Nat), j ≤ n ∧ i = .int .i64 j ∧ s = .slice A' k c' ∧ Hid ((L.take j).flatten.length = k) ∧ Own 5 wr w.heap.size (.slice A' k c') (L.take j).flatten ∧ Below w.heap.size w wr) (fun _ i _ => n - (intOf i).toNat)
  case atStart => exact ⟨0, 0, none, 0, by omega, rfl, rfl, rfl, Own.nil _ _ _, Below.refl _ _⟩
  case round =>
    obtain ⟨j, k, A', c', hj, rfl, rfl, HK, hO, hB⟩ := hrel
    by_cases hlt : j < n
    · have hRw := HR.out.on hB hB.size
      obtain ⟨b, o, Aj, cj, l, rfl, hLj, hx, hl1, hl2, hRj⟩ := hRw.at_ hlt
      have hfl := flat_le L (j + 1)
      have hft := flat_take hLj
      have hkl : k + l.length ≤ 1099511627776 := by
        rw [hft, List.length_append, HK.out] at hfl; omega
      have HK2 : Hid ((L.take (j + 1)).flatten.length = k + l.length) := by show _ = _; rw [hft, List.length_append, HK.out]
      have HF := Lib.hid hft
      clear hfl hft hLj hRw
      go_wp2_with (at_builtin; with_reducible refine wpList_append_rd rfl (.tmp 11) (.tmp 15) 27 rfl w.heap.size 5 Try.underlying27 info5 A' k c' _ HK.out rfl hO _ Aj l.length cj l rfl hRj ?h2 hB.size ?_)
      case h2 => omega
      intro A3 c3 w3 hO3 hB3 hG3
      rw [← HF.out] at hO3
      have hB4 := hB.trans hB3
      clear hO hB hB3 hG3 hx hRj
      go_wp2_with fail
      go_roundw
      case rel => exact ⟨j + 1, k + l.length, A3, c3, by omega, by go_num, by go_num, HK2, hO3, hB4⟩
      case measure => simp [intOf]; omega
    · obtain rfl : j = n := by omega
      have HV : L.take j = L := List.take_of_length_le (by rw [HL.out]; exact Nat.le_refl _)
      rw [HV] at hO HK
      go_wp2_with fail
      go_ret
      exact ⟨A', c', by rw [HK.out]; rfl, rfl, by rw [HK.out]; exact hO, hB⟩

/-- Each of the slices xs is a twin of its list, in a block from base on. -/
def TwinsOf (w : World) (base : Nat) (xs : List Value) (L : List (List Int)) : Prop :=
  ∀ (j : Nat) (x : Value) (l : List Int), xs[j]? = some x → L[j]? = some l → ∃ g, x = .slice (some ⟨g, 0, none⟩) l.length (l.length + 3) ∧ IsTwin w g l ∧ base ≤ g
theorem TwinsOf.below {w w' : World} {base : Nat} {xs : List Value} {L : List (List Int)} (h : TwinsOf w base xs L) (hb : Below w.heap.size w w') : TwinsOf w' base xs L := fun j x l hx hl => by
  obtain ⟨g, e, hT, hg⟩ := h j x l hx hl
  exact ⟨g, e, hT.below hb hT.lt, hg⟩
theorem twin_grown {w w' : World} {v : Value} {ys : List Value} {b2 g : Nat} {l : List Int} (hT : IsTwin w g l) (hO : OwnV 27 w b2 v ys) (hG : w.grownBy w' v.ownBlock) : IsTwin w' g l := by
  have hne : some g ≠ v.ownBlock := by
    intro he
    rcases hO.2 with ⟨hv, _⟩ | ⟨g2, cap, cur, hv, _, hh, _⟩
    · rw [hv] at he; simp [Value.ownBlock] at he
    · rw [hv] at he
      have e2 : g = g2 := by simpa [Value.ownBlock] using he
      subst e2
      have h1 : w.heap[g]? = some (.cells (u8s (l ++ [229, 229, 229])).toArray 5 (0, 0)) := hT
      rw [hh] at h1
      simp at h1
  exact (hG.block g hT.lt hne).trans hT
theorem TwinsOf.grown {w w' : World} {base : Nat} {xs : List Value} {L : List (List Int)} {v : Value} {ys : List Value} {b2 : Nat} (h : TwinsOf w base xs L) (hO : OwnV 27 w b2 v ys) (hG : w.grownBy w' v.ownBlock) : TwinsOf w' base xs L := fun j x l hx hl => by
  obtain ⟨g, e, hT, hg⟩ := h j x l hx hl
  exact ⟨g, e, twin_grown hT hO hG, hg⟩
theorem TwinsOf.snoc {w : World} {base : Nat} {xs : List Value} {L : List (List Int)} {l : List Int} {g j : Nat} (h : TwinsOf w base xs L) (hj : xs.length = j) (hL : L[j]? = some l) (hT : IsTwin w g l) (hg : base ≤ g) :
    TwinsOf w base (xs ++ [.slice (some ⟨g, 0, none⟩) l.length (l.length + 3)]) L := fun i x m hx hm => by
  by_cases hi : i < xs.length
  · rw [List.getElem?_append_left hi] at hx
    exact h i x m hx hm
  · have hi2 : i < (xs ++ [Value.slice (some ⟨g, 0, none⟩) l.length (l.length + 3)]).length := (List.getElem?_eq_some_iff.1 hx).1
    simp at hi2
    obtain rfl : i = j := by omega
    rw [List.getElem?_append_right (by omega), hj, Nat.sub_self] at hx
    simp at hx
    rw [hL] at hm
    obtain rfl := Option.some.inj hm
    exact ⟨g, hx.symm, hT, hg⟩

/-- What Twins ends in. -/
def RetTw (W : World) (L : List (List Int)) (e : Ending) (w' : World) : Prop :=
  ∃ A n c xs, e = .returned (.slice A n c) ∧ xs.length = n ∧ L.length = n ∧ OwnV 27 w' W.heap.size (.slice A n c) xs ∧ TwinsOf w' W.heap.size xs L ∧ Below W.heap.size W w'

set_option maxHeartbeats 400000 in
theorem twins_any (A : Option Addr) (n c : Nat) (L : List (List Int)) (w : World) (hR : RdS w w.heap.size A n L) (hb : n ≤ 1099511627776) (ht : ∀ l ∈ L, l.length ≤ 1099511627776) :
    Calls Try.prog 10 #[.slice A n c] w (RetTw w L) := by
  have HL := Lib.hid hR.len
  have HR := Lib.hid hR
  clear hR
  go_enter Try.func10, Try.ntmps10
  go_wp2_with fail
  go_loopw [3, 4] (fun s i wr => ∃ (j : Nat) (A' : Option Addr) (c' : Nat) (xs : List Value), j ≤ n ∧ i = .int .i64 j ∧ s = .slice A' j c' ∧ Hid (xs.length = j) ∧ OwnV 27 wr w.heap.size (.slice A' j c') xs ∧ TwinsOf wr w.heap.size xs L ∧ Below w.heap.size w wr) (fun _ i _ => n - (intOf i).toNat)
  case atStart => exact ⟨0, none, 0, [], by omega, rfl, rfl, rfl, OwnV.nil _ _ _, fun j x l hx => by simp at hx, Below.refl _ _⟩
  case round =>
    obtain ⟨j, A', c', xs, hj, rfl, rfl, HX, hO, hT, hB⟩ := hrel
    by_cases hlt : j < n
    · have hRw := HR.out.on hB hB.size
      obtain ⟨b, o, Aj, cj, l, rfl, hLj, hx, hl1, hl2, hRj⟩ := hRw.at_ hlt
      have hll := ht l (List.mem_of_getElem? hLj)
      have C := Lib.hid (twin_any Aj l.length cj l wr hRj hll)
      have HLj := Lib.hid hLj
      have HKL := Lib.hid (rfl : l.length = l.length)
      clear hRj hLj hRw
      go_wp2_with fail
      refine C.out.mono ?_
      rintro e w2 ⟨rfl, hT2, hB2⟩
      clear C
      have hO2 := (hO.below hB2).alloc (.cells #[.slice (some ⟨wr.heap.size, 0, none⟩) l.length (l.length + 3)] 27)
      have hT3 := (hT.below hB2).below ((Below.refl _ _).alloc (Nat.le_refl _) (.cells #[.slice (some ⟨wr.heap.size, 0, none⟩) l.length (l.length + 3)] 27))
      have hT4 := hT2.below ((Below.refl _ _).alloc (Nat.le_refl _) (.cells #[.slice (some ⟨wr.heap.size, 0, none⟩) l.length (l.length + 3)] 27)) hT2.lt
      go_wp2_with (at_builtin; with_reducible refine wpList_append_v rfl (.tmp 11) (.tmp 17) 22 rfl w.heap.size 27 (.slice none 0 0) 24 Try.underlying22 infoB rfl A' j c' xs HX.out rfl hO2 _ _ 1 1 [_] rfl (RdV.one _ _ _) ?h1 ?h2 ?h3 ?h4 ?_)
      case h1 => intro u hu; rw [List.mem_singleton] at hu; subst hu; rfl
      case h2 => omega
      case h3 => unfold maxLen; omega
      case h4 => have := hB.size; have := hB2.size; simp; omega
      intro A3 c3 w3 hO3 hB3 hG3
      have hT5 := (hT3.grown hO2 hG3).snoc HX.out HLj.out (twin_grown hT4 hO2 hG3) hB.size
      have hB4 : Below w.heap.size w w3 := (hB.trans (hB2.mono hB.size)).trans (((Below.refl _ _).alloc (by have := hB.size; have := hB2.size; omega) _).trans hB3)
      have HX2 : Hid ((xs ++ [Value.slice (some ⟨wr.heap.size, 0, none⟩) l.length (l.length + 3)]).length = j + 1) := by show _ = _; rw [List.length_append, HX.out]; rfl
      clear hT4 hT3 hT2 hO2 hG3 hB3 hB2 hO hT hB hx
      go_wp2_with fail
      go_roundw
      case rel => exact ⟨j + 1, A3, c3, _, by omega, by go_num, by go_num, HX2, hO3, hT5, hB4⟩
      case measure => simp [intOf]; omega
    · obtain rfl : j = n := by omega
      go_wp2_with fail
      go_ret
      exact ⟨A', j, c', xs, rfl, HX.out, HL.out, hO, hT, hB⟩

set_option maxHeartbeats 400000 in
theorem allkept_any (X : Option Addr) (n cx : Nat) (xs : List Value) (A : Option Addr) (c : Nat) (L : List (List Int)) (w : World) (base : Nat) (hO : OwnV 27 w base (.slice X n cx) xs) (hn : xs.length = n) (hT : TwinsOf w base xs L) (hR : RdS w w.heap.size A n L) (hb : n ≤ 1099511627776) (ht : ∀ l ∈ L, l.length ≤ 1099511627776) :
    Calls Try.prog 16 #[.slice X n cx, .slice A n c] w fun e w' => e = .returned (.bool true) ∧ Below w.heap.size w w' := by
  obtain ⟨X', c', hv, hc1, hc2, hV⟩ := hO.slice
  rw [hn] at hv hc1 hV
  simp only [Value.slice.injEq] at hv
  obtain ⟨rfl, -, rfl⟩ := hv
  have HV := Lib.hid hV
  have HR := Lib.hid hR
  clear hO hV hR hn
  go_enter Try.func16, Try.ntmps16
  go_wp2_with fail
  go_loopw [5] (fun i wr => ∃ j : Nat, j ≤ n ∧ i = .int .i64 j ∧ Below w.heap.size w wr) (fun i _ => n - (intOf i).toNat)
  case atStart => exact ⟨0, by omega, rfl, Below.refl _ _⟩
  case round =>
    obtain ⟨j, hj, rfl, hB⟩ := hrel
    by_cases hlt : j < n
    · obtain ⟨b, o, Aj, cj, l, rfl, hLj, hx, hl1, hl2, hRj⟩ := (HR.out.below hB).at_ hlt
      obtain ⟨b2, o2, u, rfl, hu, hcell⟩ := (HV.out.below hB).at_ hlt
      obtain ⟨g, rfl, hTg, hg⟩ := hT j u l hu hLj
      have C := Lib.hid (fun (w' : World) (h : Below wr.heap.size wr w') => kept_any g Aj l.length cj l w' w.heap.size ((hTg.below hB hTg.lt).below h (by have := hTg.lt; have := hB.size; omega)) (hRj.below (h.mono hB.size)) (ht l (List.mem_of_getElem? hLj)))
      have q0 : Below wr.heap.size wr wr.drew ∧ wr.drew.cell? ⟨b, o + j, none⟩ = some (.slice Aj l.length cj) ∧ wr.drew.cell? ⟨b2, o2 + j, none⟩ = some (.slice (some ⟨g, 0, none⟩) l.length (l.length + 3)) := ⟨(Below.refl _ _).drew, hx, hcell⟩
      clear hTg hRj hLj hu hx hcell
      go_wp2_with fail
      refine wp_region_held_drew (S := fun w' => Below wr.heap.size wr w' ∧ w'.cell? ⟨b, o + j, none⟩ = some (.slice Aj l.length cj) ∧ w'.cell? ⟨b2, o2 + j, none⟩ = some (.slice (some ⟨g, 0, none⟩) l.length (l.length + 3))) (by kernel_rfl) ?s_0 (fun hHeld => ?_)
      case s_0 => exact q0
      refine wpAnyH_take (i := 0) (oi := { dst := some 12, op := Go.Op.move (Go.Operand.tmp 0), type := 22, pos := "law.go:48", after := #[], guard := none }) (v := ?v_0) rfl (by kernel_rfl) (by kernel_rfl) (by kernel_rfl) (fun _ _ _ h => h) (Or.inl ⟨by rfl, ?y_0⟩) (by assumption) ?_
      case y_0 => (intro wq hSw; (try dsimp only at hSw); go_simp; first | done | with_reducible rfl)
      try simp only [Act.put, List.setIfInBounds_toArray, List.set_cons_zero, List.set_cons_succ]
      refine wpAnyH_take (i := 1) (oi := { dst := some 13, op := Go.Op.move (Go.Operand.tmp 5), type := 3, pos := "law.go:48", after := #[], guard := none }) (v := ?v_1) rfl (by kernel_rfl) (by kernel_rfl) (by kernel_rfl) (fun _ _ _ h => h) (Or.inl ⟨by rfl, ?y_1⟩) (by assumption) ?_
      case y_1 => (intro wq hSw; (try dsimp only at hSw); go_simp; first | done | with_reducible rfl)
      try simp only [Act.put, List.setIfInBounds_toArray, List.set_cons_zero, List.set_cons_succ]
      refine wpAnyH_take (i := 2) (oi := { dst := some 14, op := Go.Op.indexAddr 22 (Go.Operand.tmp 12) (Go.Operand.tmp 13), type := 0, pos := "law.go:48", after := #[{ on := 0, ground := Go.Ground.data }, { on := 1, ground := Go.Ground.data }], guard := none }) (v := ?v_2) rfl (by kernel_rfl) (by kernel_rfl) (by kernel_rfl) (fun _ _ _ h => h) (Or.inl ⟨by rfl, ?y_2⟩) (by assumption) ?_
      case y_2 => (intro wq hSw; (try dsimp only at hSw); go_simp; first | done | with_reducible rfl)
      try simp only [Act.put, List.setIfInBounds_toArray, List.set_cons_zero, List.set_cons_succ]
      refine wpAnyH_take (i := 3) (oi := { dst := some 15, op := Go.Op.load 27 (Go.Operand.tmp 14), type := 27, pos := "law.go:48", after := #[{ on := 2, ground := Go.Ground.data }], guard := none }) (v := ?v_3) rfl (by kernel_rfl) (by kernel_rfl) (by kernel_rfl) (fun _ _ _ h => h) (Or.inl ⟨by rfl, ?y_3⟩) (by assumption) ?_
      case y_3 => (intro wq hSw; (try dsimp only at hSw); go_simp; first | done | with_reducible rfl)
      try simp only [Act.put, List.setIfInBounds_toArray, List.set_cons_zero, List.set_cons_succ]
      refine wpAnyH_take (i := 4) (oi := { dst := some 16, op := Go.Op.move (Go.Operand.tmp 1), type := 22, pos := "law.go:48", after := #[], guard := none }) (v := ?v_4) rfl (by kernel_rfl) (by kernel_rfl) (by kernel_rfl) (fun _ _ _ h => h) (Or.inl ⟨by rfl, ?y_4⟩) (by assumption) ?_
      case y_4 => (intro wq hSw; (try dsimp only at hSw); go_simp; first | done | with_reducible rfl)
      try simp only [Act.put, List.setIfInBounds_toArray, List.set_cons_zero, List.set_cons_succ]
      refine wpAnyH_take (i := 5) (oi := { dst := some 17, op := Go.Op.move (Go.Operand.tmp 5), type := 3, pos := "law.go:48", after := #[], guard := none }) (v := ?v_5) rfl (by kernel_rfl) (by kernel_rfl) (by kernel_rfl) (fun _ _ _ h => h) (Or.inl ⟨by rfl, ?y_5⟩) (by assumption) ?_
      case y_5 => (intro wq hSw; (try dsimp only at hSw); go_simp; first | done | with_reducible rfl)
      try simp only [Act.put, List.setIfInBounds_toArray, List.set_cons_zero, List.set_cons_succ]
      refine wpAnyH_take (i := 6) (oi := { dst := some 18, op := Go.Op.indexAddr 22 (Go.Operand.tmp 16) (Go.Operand.tmp 17), type := 0, pos := "law.go:48", after := #[{ on := 4, ground := Go.Ground.data }, { on := 5, ground := Go.Ground.data }], guard := none }) (v := ?v_6) rfl (by kernel_rfl) (by kernel_rfl) (by kernel_rfl) (fun _ _ _ h => h) (Or.inl ⟨by rfl, ?y_6⟩) (by assumption) ?_
      case y_6 => (intro wq hSw; (try dsimp only at hSw); go_simp; first | done | with_reducible rfl)
      try simp only [Act.put, List.setIfInBounds_toArray, List.set_cons_zero, List.set_cons_succ]
      refine wpAnyH_take (i := 7) (oi := { dst := some 19, op := Go.Op.load 27 (Go.Operand.tmp 18), type := 27, pos := "law.go:48", after := #[{ on := 6, ground := Go.Ground.data }], guard := none }) (v := ?v_7) rfl (by kernel_rfl) (by kernel_rfl) (by kernel_rfl) (fun _ _ _ h => h) (Or.inl ⟨by rfl, ?y_7⟩) (by assumption) ?_
      case y_7 => (intro wq hSw; (try dsimp only at hSw); go_simp; first | done | with_reducible rfl)
      try simp only [Act.put, List.setIfInBounds_toArray, List.set_cons_zero, List.set_cons_succ]
      refine wpAnyH_ready (rs := [8]) (by kernel_rfl) (by simp) ?_
      refine AllReadyH.cons (o := { dst := some 20, op := Go.Op.call { callee := Go.Callee.value (Go.Operand.func 22), args := #[Go.Operand.tmp 15, Go.Operand.tmp 19], argTypes := #[27, 27] }, type := 4, pos := "law.go:48", after := #[{ on := 3, ground := Go.Ground.data }, { on := 7, ground := Go.Ground.data }], guard := none }) rfl (fun KQ hKQ => ?_) AllReadyH.nil
      go_simp
      refine (C.out _ ?d_8).mono ?_
      case d_8 => exact q0.1
      rintro e y1 ⟨rfl, rfl⟩
      go_wp2_with fail
      refine hKQ.out _ _ ?s_8 (fun hHeld8 => ?_)
      case s_8 => exact q0
      clear hKQ KQ
      try simp only [Act.put, List.setIfInBounds_toArray, List.set_cons_zero, List.set_cons_succ]
      refine wpAnyH_take (i := 9) (oi := { dst := some 21, op := Go.Op.unOp Go.UnOp.not 4 (Go.Operand.tmp 20), type := 4, pos := "law.go:48", after := #[{ on := 8, ground := Go.Ground.data }], guard := none }) (v := ?v_9) rfl (by kernel_rfl) (by kernel_rfl) (by kernel_rfl) (fun _ _ _ h => h) (Or.inl ⟨by rfl, ?y_9⟩) (by assumption) ?_
      case y_9 => (intro wq hSw; (try dsimp only at hSw); go_simp; first | done | with_reducible rfl)
      try simp only [Act.put, List.setIfInBounds_toArray, List.set_cons_zero, List.set_cons_succ]
      refine wpAnyH_done (by kernel_rfl) ?_ _
      go_wp2_with fail
      go_roundw
      case rel => exact ⟨j + 1, by omega, by go_num, hB.trans (q0.1.mono hB.size)⟩
      case measure => simp [intOf]; omega
    · obtain rfl : j = n := by omega
      go_wp2_with fail
      go_ret
      exact ⟨rfl, hB⟩

/-- Each of the values xs is a slice that reads as its list. -/
def SlsOf (w : World) (B : Nat) (xs : List Value) (L : List (List Int)) : Prop := ∀ (j : Nat) (x : Value) (l : List Int), xs[j]? = some x → L[j]? = some l → Sl w B x l
theorem SlsOf.snoc {w : World} {B j : Nat} {xs : List Value} {L : List (List Int)} {x : Value} {l : List Int} (h : SlsOf w B xs L) (hj : xs.length = j) (hL : L.length = j) (hx : Sl w B x l) : SlsOf w B (xs ++ [x]) (L ++ [l]) := fun i y m hy hm => by
  by_cases hi : i < j
  · rw [List.getElem?_append_left (by omega)] at hy hm
    exact h i y m hy hm
  · have hi2 : i < (xs ++ [x]).length := (List.getElem?_eq_some_iff.1 hy).1
    simp at hi2
    obtain rfl : i = j := by omega
    rw [List.getElem?_append_right (by omega), hj, Nat.sub_self] at hy
    rw [List.getElem?_append_right (by omega), hL, Nat.sub_self] at hm
    simp at hy hm
    subst hy; subst hm
    exact hx
theorem SlsOf.one {w : World} {B : Nat} {x : Value} {l : List Int} (hx : Sl w B x l) : SlsOf w B [x] [l] := fun i y m hy hm => by
  match i with
  | 0 => simp at hy hm; subst hy; subst hm; exact hx
  | i + 1 => simp at hy

/-- What Cut ends in: pieces whose bytes, one behind the other, are those of l; at most k + 1 of them. -/
def RetCut (W : World) (k : Nat) (l : List Int) (e : Ending) (w' : World) : Prop :=
  ∃ A n c L, e = .returned (.slice A n c) ∧ n ≤ k + 1 ∧ n ≤ c ∧ RdS w' w'.heap.size A n L ∧ L.flatten = l ∧ Below W.heap.size W w'
theorem retCut_of {W w' : World} {k n : Nat} {l : List Int} {A : Option Addr} {c : Nat} {xs : List Value} {L : List (List Int)} (hO : OwnV 27 w' W.heap.size (.slice A n c) xs) (hx : xs.length = n) (hL : L.length = n) (hS : SlsOf W W.heap.size xs L) (hB : Below W.heap.size W w') (hf : L.flatten = l) (hn : n ≤ k + 1) :
    RetCut W k l (.returned (.slice A n c)) w' := by
  obtain ⟨X', c', hv, hc1, hc2, hV⟩ := hO.slice
  rw [hx] at hv hc1 hV
  simp only [Value.slice.injEq] at hv
  obtain ⟨rfl, -, rfl⟩ := hv
  exact ⟨_, n, _, L, rfl, hn, hc1, ⟨xs, hV, hL, fun j x l hx hl => ((hS j x l hx hl).below hB).more hB.size⟩, hf, hB⟩

set_option maxHeartbeats 400000 in
theorem cut_any (A : Option Addr) (n c : Nat) (l : List Int) (S : Option Addr) (k cs : Nat) (zs : List Int) (w : World) (hR : Rd w w.heap.size A n l) (hnc : n ≤ c) (hcm : c ≤ maxLen) (hZ : RdV w w.heap.size S k (zs.map (Value.int .i64))) (hz : ∀ z ∈ zs, -9223372036854775808 ≤ z ∧ z ≤ 9223372036854775807) (hn : n ≤ 1099511627776) (hk : k ≤ 1099511627776) :
    Calls Try.prog 17 #[.slice A n c, .slice S k cs] w (RetCut w k l) := by
  have HN := Lib.hid hR.len
  have HZ := Lib.hid hZ
  have HI := Lib.hid hz
  clear hZ hz
  go_enter Try.func17, Try.ntmps17
  go_wp2_with fail
  go_loopw [0, 5, 6] (fun bb s i wr => ∃ (j q m : Nat) (A' : Option Addr) (c' : Nat) (Ab : Option Addr) (cb : Nat) (xs : List Value) (L : List (List Int)), j ≤ k ∧ i = .int .i64 j ∧ s = .slice A' q c' ∧ bb = .slice Ab m cb ∧ q ≤ j ∧ m ≤ n ∧ m ≤ cb ∧ cb ≤ 9223372036854775807 ∧ Hid (xs.length = q) ∧ Hid (L.length = q) ∧ OwnV 27 wr w.heap.size (.slice A' q c') xs ∧ SlsOf w w.heap.size xs L ∧ Hid (L.flatten ++ l.drop (n - m) = l) ∧ Hid (Rd w w.heap.size Ab m (l.drop (n - m))) ∧ Below w.heap.size w wr) (fun _ _ i _ => k - (intOf i).toNat)
  case atStart => exact ⟨0, 0, n, none, 0, A, c, [], [], by omega, rfl, rfl, rfl, by omega, by omega, hnc, hcm, rfl, rfl, OwnV.nil _ _ _, fun j x l hx => by simp at hx, by show _ = _; simp, by show Rd _ _ _ _ _; rw [Nat.sub_self]; exact hR, Below.refl _ _⟩
  case round =>
    obtain ⟨j, q, m, A', c', Ab, cb, xs, L, hj, rfl, rfl, rfl, hq, hmn, hmc, hc63, HX, HL, hO, hS, HF, HB, hB⟩ := hrel
    by_cases hlt : j < k ∧ 0 < m
    · obtain ⟨hjk, hm0⟩ := hlt
      obtain ⟨b, o, u, rfl, hu, hcell0⟩ := HZ.out.at_ hjk
      obtain ⟨z, hzm, rfl⟩ : ∃ z, z ∈ zs ∧ u = .int .i64 z := by
        have h1 := List.mem_of_getElem? hu
        obtain ⟨z, h2, h3⟩ := List.mem_map.1 h1
        exact ⟨z, h2, h3.symm⟩
      have hzz := HI.out z hzm
      have hcell : wr.cell? ⟨b, o + j, none⟩ = some (.int .i64 z) := by
        rw [hB.cell (p := ⟨b, o + j, none⟩) (by obtain ⟨b', o', e, hb', _⟩ := HZ.out.2 (by omega); simp at e; obtain ⟨rfl, rfl⟩ := e; exact hb')]; exact hcell0
      obtain ⟨bb, ob, rfl, hbb, _⟩ := HB.out.2 hm0
      have hp := place_in z m (by omega)
      obtain ⟨r, hr⟩ : ∃ r : Nat, placeF z m = r := ⟨(placeF z m).toNat, by omega⟩
      have C := Lib.hid (place_any z m wr hzz.1 hzz.2 (by omega))
      rw [hr] at hp C
      clear hr hzz hzm hu hcell0 hR
      go_wp2_with fail
      refine C.out.mono ?_
      rintro e w2 ⟨rfl, rfl⟩
      clear C
      have hO2 := hO.alloc (.cells #[.slice (some ⟨bb, ob, none⟩) (r + 1) cb] 27)
      go_wp2_with (at_builtin; with_reducible refine wpList_append_v rfl (.tmp 27) (.tmp 31) 22 rfl w.heap.size 27 (.slice none 0 0) 24 Try.underlying22 infoB rfl A' q c' xs HX.out rfl hO2 _ _ 1 1 [_] rfl (RdV.one _ _ _) ?h1 ?h2 ?h3 ?h4 ?_)
      case h1 => intro u hu; rw [List.mem_singleton] at hu; subst hu; rfl
      case h2 => omega
      case h3 => unfold maxLen; omega
      case h4 => have := hB.size; simp; omega
      intro A3 c3 w3 hO3 hB3 _
      have hB4 : Below w.heap.size w w3 := hB.trans (((Below.refl _ _).alloc hB.size _).trans hB3)
      have hHB := HB.out
      have hdl : (l.drop (n - m)).length = m := by rw [List.length_drop, HN.out]; omega
      have hcut1 := hHB.cut (p := 0) (q := r + 1) (by omega) (by omega)
      have hcut2 := hHB.cut (p := r + 1) (q := m) (by omega) (by omega)
      rw [Nat.sub_zero, List.drop_zero] at hcut1
      rw [List.take_of_length_le (by rw [List.length_drop, hdl]; exact Nat.le_refl _), List.drop_drop, show n - m + (r + 1) = n - (m - (r + 1)) by omega] at hcut2
      have hlt1 : ((l.drop (n - m)).take (r + 1)).length = r + 1 := by rw [List.length_take, hdl]; omega
      have hS2 := hS.snoc HX.out HL.out (l := (l.drop (n - m)).take (r + 1)) (x := .slice (some ⟨bb, ob, none⟩) (r + 1) cb) ⟨some ⟨bb, ob, none⟩, cb, by rw [hlt1], by rw [hlt1]; omega, by unfold maxLen; omega, by rw [hlt1]; exact hcut1⟩
      have HF2 : Hid ((L ++ [(l.drop (n - m)).take (r + 1)]).flatten ++ l.drop (n - (m - (r + 1))) = l) := by
        show _ = _
        rw [List.flatten_append, List.append_assoc, show n - (m - (r + 1)) = n - m + (r + 1) by omega, ← List.drop_drop]
        simp only [List.flatten_cons, List.flatten_nil, List.append_nil, List.take_append_drop]
        exact HF.out
      have HX2 : Hid ((xs ++ [Value.slice (some ⟨bb, ob, none⟩) (r + 1) cb]).length = q + 1) := by show _ = _; rw [List.length_append, HX.out]; rfl
      have HL2 : Hid ((L ++ [(l.drop (n - m)).take (r + 1)]).length = q + 1) := by show _ = _; rw [List.length_append, HL.out]; rfl
      have HC2 : Hid (Rd w w.heap.size (if cb = r + 1 then some ⟨bb, ob, none⟩ else some ⟨bb, ob + (r + 1), none⟩) (m - (r + 1)) (l.drop (n - (m - (r + 1))))) := by
        show Rd _ _ _ _ _
        by_cases hcb : cb = r + 1
        · rw [if_pos hcb, show m - (r + 1) = 0 by omega, Nat.sub_zero, List.drop_of_length_le (by rw [HN.out]; exact Nat.le_refl _)]
          exact Rd.nil _ _ _
        · rw [if_neg hcb]; exact hcut2
      clear hS HF hHB hdl hcut1 hcut2 hlt1 hB3 hO2 hO HB hcell
      go_wp2_with fail
      go_roundw
      case rel => exact ⟨j + 1, q + 1, m - (r + 1), A3, c3, _, cb - (r + 1), _, _, by omega, by go_num, rfl, rfl, by omega, by omega, by omega, by omega, HX2, HL2, hO3, hS2, HF2, HC2, hB4⟩
      case measure => simp [intOf]; omega
    · have hm2 : j = k ∨ m = 0 := by omega
      by_cases hm0 : m = 0
      · subst hm0
        have hF2 : L.flatten = l := by
          have := HF.out
          rwa [Nat.sub_zero, List.drop_of_length_le (by rw [HN.out]; exact Nat.le_refl _), List.append_nil] at this
        have HE := Lib.hid (retCut_of (k := k) hO HX.out HL.out hS hB hF2 (by omega))
        by_cases hjk : j < k
        · go_wp2_with fail
          go_ret
          exact HE.out
        · obtain rfl : j = k := by omega
          go_wp2_with fail
          go_ret
          exact HE.out
      · obtain rfl : j = k := by omega
        have hO2 := hO.alloc (.cells #[.slice Ab m cb] 27)
        go_wp2_with (at_builtin; with_reducible refine wpList_append_v rfl (.tmp 39) (.tmp 41) 22 rfl w.heap.size 27 (.slice none 0 0) 24 Try.underlying22 infoB rfl A' q c' xs HX.out rfl hO2 _ _ 1 1 [_] rfl (RdV.one _ _ _) ?h1 ?h2 ?h3 ?h4 ?_)
        case h1 => first | rfl | (intro u hu; rw [List.mem_singleton] at hu; subst hu; rfl)
        case h2 => omega
        case h3 => unfold maxLen; omega
        case h4 => have := hB.size; simp; omega
        intro A3 c3 w3 hO3 hB3 _
        have hB4 : Below w.heap.size w w3 := hB.trans (((Below.refl _ _).alloc hB.size _).trans hB3)
        have hdl : (l.drop (n - m)).length = m := by rw [List.length_drop, HN.out]; omega
        have hS2 := hS.snoc HX.out HL.out (l := l.drop (n - m)) (x := .slice Ab m cb) ⟨Ab, cb, by rw [hdl], by rw [hdl]; exact hmc, by unfold maxLen; omega, by rw [hdl]; exact HB.out⟩
        have HE := Lib.hid (retCut_of (k := j) (n := q + 1) (l := l) hO3 (by rw [List.length_append, HX.out]; rfl) (L := L ++ [l.drop (n - m)]) (by rw [List.length_append, HL.out]; rfl) hS2 hB4 (by
          rw [List.flatten_append]; simp only [List.flatten_cons, List.flatten_nil, List.append_nil]; exact HF.out) (by omega))
        clear hO hO2 hS hB3 hO3
        go_wp2_with fail
        go_ret
        exact HE.out
end Go.Proofs.Ytgejdnkfbleakaa.law0
