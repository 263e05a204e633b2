/- What the statements' helpers on lists of byte slices do: Place, Sum, Joined, Twins, AllKept. Conditions: lengths are at most 2^40. -/
import Derived.Test.YtafdgibkhefplaaProg
import Derived.Test.YtafdgibkhefplaaJoin1
import Derived.Outline
import Derived.Deep.RegionWith
import Derived.Deep.RegionHeld3
namespace Go.Proofs.Ytafdgibkhefplaa.law0
open Go.RowKit Go.Proofs.Ytafdgibkhefplaa.kit Go.Proofs.Ytafdgibkhefplaa.nums Go.Proofs.Ytafdgibkhefplaa.bytes
set_option linter.unusedVariables false

theorem infoB : (Try.prog.info? 35).map (fun i => (i.zero, i.size, i.bytes)) = some (some (.slice none 0 0), 1, 24) := by kernel_rfl
/-- A number from 0 to n - 1. -/
def placeF (k n : Int) : Int := if n < 1 then 0 else k % n
theorem place_in (k n : Int) (h : 1 ≤ n) : 0 ≤ placeF k n ∧ placeF k n < n := by
  unfold placeF; rw [if_neg (by omega)]
  exact ⟨Int.emod_nonneg _ (by omega), Int.emod_lt_of_pos _ (by omega)⟩
theorem place_any (k n : Int) (w : World) (h0 : -9223372036854775808 ≤ k) (h1 : k ≤ 9223372036854775807) (hn : n ≤ 9223372036854775807) :
    Calls Try.prog 18 #[.int .i64 k, .int .i64 n] w fun e w' => e = .returned (.int .i64 (placeF k n)) ∧ w = w' := by
  by_cases h : n < 1
  · have HP := Lib.hid (show placeF k n = 0 from if_pos h)
    go_enter Try.func18, Try.ntmps18
    go_wp2_with fail
    go_ret
    exact ⟨by rw [HP.out]; rfl, rfl⟩
  · have hz : ¬ n = 0 := by omega
    have HP := Lib.hid (show placeF k n = k % n from if_neg h)
    have e1 := Int.emod_nonneg k hz
    have e2 := Int.emod_lt_of_pos k (show 0 < n by omega)
    have ht : k.tmod n = k % n ∨ k.tmod n = k % n - n ∧ k % n ≠ 0 := by
      rw [Int.tmod_eq_emod]
      split
      · left; simp
      · rename_i hd
        right
        rw [show ((n.natAbs : Nat) : Int) = n by omega]
        exact ⟨rfl, fun h => hd (.inr (Int.dvd_of_emod_eq_zero h))⟩
    have ht2 : (0 ≤ k.tmod n ∧ placeF k n = k.tmod n) ∨ (k.tmod n < 0 ∧ -n < k.tmod n ∧ placeF k n = k.tmod n + n) := by
      rw [HP.out]
      generalize k % n = r at *
      generalize k.tmod n = q at *
      omega
    clear ht e1 e2 HP
    generalize hq : k.tmod n = q at *
    rcases ht2 with ⟨h2, h3⟩ | ⟨h2, h4, h3⟩
    · have HP := Lib.hid h3
      clear h3
      go_enter Try.func18, Try.ntmps18
      go_wp2_with fail
      go_ret
      exact ⟨by rw [HP.out]; rfl, rfl⟩
    · have HP := Lib.hid h3
      clear h3
      go_enter Try.func18, Try.ntmps18
      go_wp2_with fail
      go_ret
      exact ⟨by rw [HP.out]; rfl, rfl⟩

/-- What Sum ends in: a number that is at most 'most' only where all lists together are just as many. -/
def SumR (L : List (List Int)) (most : Nat) (w : World) (e : Ending) (w' : World) : Prop := ∃ r : Nat, e = .returned (.int .i64 r) ∧ (r ≤ most → L.flatten.length = r) ∧ w = w'
set_option maxHeartbeats 400000 in
/-- Sum: at most 'most' only where all lists together are. -/
theorem sum_any (A : Option Addr) (n c : Nat) (L : List (List Int)) (most : Nat) (w : World) (B : Nat) (hR : RdS w B A n L) (hb : n ≤ 140737488355328) (hm : most ≤ 1099511627776) :
    Calls Try.prog 26 #[.slice A n c, .int .i64 most] w (SumR L most w) := by
  have HL := Lib.hid hR.len
  have HC := Lib.hid (show ∀ j, j < n → _ from fun j hj => hR.at_ hj)
  clear hR
  go_enter Try.func26, Try.ntmps26
  go_wp2_with fail
  go_loop [5, 6] (fun s i => ∃ (j r : Nat), j ≤ n ∧ i = .int .i64 j ∧ s = .int .i64 r ∧ r ≤ most + most ∧ Hid ((L.take j).flatten.length = r)) (fun _ i => n - (intOf i).toNat)
  case atStart => exact ⟨0, 0, by omega, rfl, rfl, by omega, rfl⟩
  case round =>
    obtain ⟨j, r, hj, rfl, rfl, hr, HR⟩ := hrel
    by_cases hrm : r ≤ most
    · by_cases hlt : j < n
      · obtain ⟨b, o, Aj, cj, l, rfl, hLj, hx, hl1, hl2, hRj⟩ := HC.out j hlt
        have HN : Hid ((L.take (j + 1)).flatten.length = r + l.length) := by show _ = _; rw [flat_take hLj, List.length_append, HR.out]
        have HG := Lib.hid (flat_le L (j + 1))
        unfold maxLen at hl2
        clear hRj hLj
        by_cases hlm : l.length ≤ most
        · generalize l.length = k at *
          go_wp2_with fail
          go_round
          case rel => exact ⟨j + 1, r + k, by omega, by go_num, by go_num, by omega, HN⟩
          case measure => simp [intOf]; omega
        · generalize l.length = k at *
          go_wp2_with fail
          go_ret
          exact ⟨most + 1, by first | rfl | simp, fun h => absurd h (by omega), rfl⟩
      · obtain rfl : j = n := by omega
        have HV : Hid (L.flatten.length = r) := by
          show _ = _
          rw [← HR.out, List.take_of_length_le (by rw [HL.out]; exact Nat.le_refl _)]
        go_wp2_with fail
        go_ret
        exact ⟨r, rfl, fun _ => HV.out, rfl⟩
    · go_wp2_with fail
      all_goals go_ret
      all_goals exact ⟨r, rfl, fun h => absurd h hrm, rfl⟩

/-- Each of the slices xs is a twin of its list, in a block from base on. -/
def TwinsOf (w : World) (base : Nat) (xs : List Value) (L : List (List Int)) : Prop :=
  ∀ (j : Nat) (x : Value) (l : List Int), xs[j]? = some x → L[j]? = some l → ∃ g, x = .slice (some ⟨g, 0, none⟩) l.length (l.length + 3) ∧ IsTwin w g l ∧ base ≤ g
theorem TwinsOf.below {w w' : World} {base : Nat} {xs : List Value} {L : List (List Int)} (h : TwinsOf w base xs L) (hb : Below w.heap.size w w') : TwinsOf w' base xs L := fun j x l hx hl => by
  obtain ⟨g, e, hT, hg⟩ := h j x l hx hl
  exact ⟨g, e, hT.below hb hT.lt, hg⟩
theorem twin_grown {w w' : World} {v : Value} {ys : List Value} {b2 g : Nat} {l : List Int} (hT : IsTwin w g l) (hO : OwnV 35 w b2 v ys) (hG : w.grownBy w' v.ownBlock) : IsTwin w' g l := by
  have hne : some g ≠ v.ownBlock := by
    intro he
    rcases hO.2 with ⟨hv, _⟩ | ⟨g2, cap, cur, hv, _, hh, _⟩
    · rw [hv] at he; simp [Value.ownBlock] at he
    · rw [hv] at he
      have e2 : g = g2 := by simpa [Value.ownBlock] using he
      subst e2
      have h1 : w.heap[g]? = some (.cells (u8s (l ++ [229, 229, 229])).toArray 5 (0, 0)) := hT
      rw [hh] at h1
      simp at h1
  exact (hG.block g hT.lt hne).trans hT
theorem TwinsOf.grown {w w' : World} {base : Nat} {xs : List Value} {L : List (List Int)} {v : Value} {ys : List Value} {b2 : Nat} (h : TwinsOf w base xs L) (hO : OwnV 35 w b2 v ys) (hG : w.grownBy w' v.ownBlock) : TwinsOf w' base xs L := fun j x l hx hl => by
  obtain ⟨g, e, hT, hg⟩ := h j x l hx hl
  exact ⟨g, e, twin_grown hT hO hG, hg⟩
theorem TwinsOf.snoc {w : World} {base : Nat} {xs : List Value} {L : List (List Int)} {l : List Int} {g j : Nat} (h : TwinsOf w base xs L) (hj : xs.length = j) (hL : L[j]? = some l) (hT : IsTwin w g l) (hg : base ≤ g) :
    TwinsOf w base (xs ++ [.slice (some ⟨g, 0, none⟩) l.length (l.length + 3)]) L := fun i x m hx hm => by
  by_cases hi : i < xs.length
  · rw [List.getElem?_append_left hi] at hx
    exact h i x m hx hm
  · have hi2 : i < (xs ++ [Value.slice (some ⟨g, 0, none⟩) l.length (l.length + 3)]).length := (List.getElem?_eq_some_iff.1 hx).1
    simp at hi2
    obtain rfl : i = j := by omega
    rw [List.getElem?_append_right (by omega), hj, Nat.sub_self] at hx
    simp at hx
    rw [hL] at hm
    obtain rfl := Option.some.inj hm
    exact ⟨g, hx.symm, hT, hg⟩

/-- What Twins ends in. -/
def RetTw (W : World) (L : List (List Int)) (e : Ending) (w' : World) : Prop :=
  ∃ A n c xs, e = .returned (.slice A n c) ∧ xs.length = n ∧ L.length = n ∧ OwnV 35 w' W.heap.size (.slice A n c) xs ∧ TwinsOf w' W.heap.size xs L ∧ Below W.heap.size W w'

set_option maxHeartbeats 400000 in
theorem twins_any (A : Option Addr) (n c : Nat) (L : List (List Int)) (w : World) (hR : RdS w w.heap.size A n L) (hb : n ≤ 1099511627776) (ht : ∀ l ∈ L, l.length ≤ 1099511627776) :
    Calls Try.prog 42 #[.slice A n c] w (RetTw w L) := by
  have HL := Lib.hid hR.len
  have HR := Lib.hid hR
  clear hR
  go_enter Try.func42, Try.ntmps42
  go_wp2_with fail
  go_loopw [3, 4] (fun s i wr => ∃ (j : Nat) (A' : Option Addr) (c' : Nat) (xs : List Value), j ≤ n ∧ i = .int .i64 j ∧ s = .slice A' j c' ∧ Hid (xs.length = j) ∧ OwnV 35 wr w.heap.size (.slice A' j c') xs ∧ TwinsOf wr w.heap.size xs L ∧ Below w.heap.size w wr) (fun _ i _ => n - (intOf i).toNat)
  case atStart => exact ⟨0, none, 0, [], by omega, rfl, rfl, rfl, OwnV.nil _ _ _, fun j x l hx => by simp at hx, Below.refl _ _⟩
  case round =>
    obtain ⟨j, A', c', xs, hj, rfl, rfl, HX, hO, hT, hB⟩ := hrel
    by_cases hlt : j < n
    · have hRw := HR.out.on hB hB.size
      obtain ⟨b, o, Aj, cj, l, rfl, hLj, hx, hl1, hl2, hRj⟩ := hRw.at_ hlt
      have hll := ht l (List.mem_of_getElem? hLj)
      have C := Lib.hid (twin_any Aj l.length cj l wr hRj hll)
      have HLj := Lib.hid hLj
      have HKL := Lib.hid (rfl : l.length = l.length)
      clear hRj hLj hRw
      go_wp2_with fail
      refine C.out.mono ?_
      rintro e w2 ⟨rfl, hT2, hB2⟩
      clear C
      have hO2 := (hO.below hB2).alloc (.cells #[.slice (some ⟨wr.heap.size, 0, none⟩) l.length (l.length + 3)] 35)
      have hT3 := (hT.below hB2).below ((Below.refl _ _).alloc (Nat.le_refl _) (.cells #[.slice (some ⟨wr.heap.size, 0, none⟩) l.length (l.length + 3)] 35))
      have hT4 := hT2.below ((Below.refl _ _).alloc (Nat.le_refl _) (.cells #[.slice (some ⟨wr.heap.size, 0, none⟩) l.length (l.length + 3)] 35)) hT2.lt
      go_wp2_with (at_builtin; with_reducible refine wpList_append_v rfl (.tmp 11) (.tmp 17) 36 rfl w.heap.size 35 (.slice none 0 0) 24 Try.underlying36 infoB rfl A' j c' xs HX.out rfl hO2 _ _ 1 1 [_] rfl (RdV.one _ _ _) ?h1 ?h2 ?h3 ?h4 ?_)
      case h1 => intro u hu; rw [List.mem_singleton] at hu; subst hu; rfl
      case h2 => omega
      case h3 => unfold maxLen; omega
      case h4 => have := hB.size; have := hB2.size; simp; omega
      intro A3 c3 w3 hO3 hB3 hG3
      have hT5 := (hT3.grown hO2 hG3).snoc HX.out HLj.out (twin_grown hT4 hO2 hG3) hB.size
      have hB4 : Below w.heap.size w w3 := (hB.trans (hB2.mono hB.size)).trans (((Below.refl _ _).alloc (by have := hB.size; have := hB2.size; omega) _).trans hB3)
      have HX2 : Hid ((xs ++ [Value.slice (some ⟨wr.heap.size, 0, none⟩) l.length (l.length + 3)]).length = j + 1) := by show _ = _; rw [List.length_append, HX.out]; rfl
      clear hT4 hT3 hT2 hO2 hG3 hB3 hB2 hO hT hB hx
      go_wp2_with fail
      go_roundw
      case rel => exact ⟨j + 1, A3, c3, _, by omega, by go_num, by go_num, HX2, hO3, hT5, hB4⟩
      case measure => simp [intOf]; omega
    · obtain rfl : j = n := by omega
      go_wp2_with fail
      go_ret
      exact ⟨A', j, c', xs, rfl, HX.out, HL.out, hO, hT, hB⟩

set_option maxHeartbeats 400000 in
theorem allkept_any (X : Option Addr) (n cx : Nat) (xs : List Value) (A : Option Addr) (c : Nat) (L : List (List Int)) (w : World) (base : Nat) (hO : OwnV 35 w base (.slice X n cx) xs) (hn : xs.length = n) (hT : TwinsOf w base xs L) (hR : RdS w w.heap.size A n L) (hb : n ≤ 1099511627776) (ht : ∀ l ∈ L, l.length ≤ 1099511627776) :
    Calls Try.prog 44 #[.slice X n cx, .slice A n c] w fun e w' => e = .returned (.bool true) ∧ Below w.heap.size w w' := by
  obtain ⟨X', c', hv, hc1, hc2, hV⟩ := hO.slice
  rw [hn] at hv hc1 hV
  simp only [Value.slice.injEq] at hv
  obtain ⟨rfl, -, rfl⟩ := hv
  have HV := Lib.hid hV
  have HR := Lib.hid hR
  clear hO hV hR hn
  go_enter Try.func44, Try.ntmps44
  go_wp2_with fail
  go_loopw [5] (fun i wr => ∃ j : Nat, j ≤ n ∧ i = .int .i64 j ∧ Below w.heap.size w wr) (fun i _ => n - (intOf i).toNat)
  case atStart => exact ⟨0, by omega, rfl, Below.refl _ _⟩
  case round =>
    obtain ⟨j, hj, rfl, hB⟩ := hrel
    by_cases hlt : j < n
    · obtain ⟨b, o, Aj, cj, l, rfl, hLj, hx, hl1, hl2, hRj⟩ := (HR.out.below hB).at_ hlt
      obtain ⟨b2, o2, u, rfl, hu, hcell⟩ := (HV.out.below hB).at_ hlt
      obtain ⟨g, rfl, hTg, hg⟩ := hT j u l hu hLj
      have C := Lib.hid (fun (w' : World) (h : Below wr.heap.size wr w') => kept_any g Aj l.length cj l w' w.heap.size ((hTg.below hB hTg.lt).below h (by have := hTg.lt; have := hB.size; omega)) (hRj.below (h.mono hB.size)) (ht l (List.mem_of_getElem? hLj)))
      have q0 : Below wr.heap.size wr wr.drew ∧ wr.drew.cell? ⟨b, o + j, none⟩ = some (.slice Aj l.length cj) ∧ wr.drew.cell? ⟨b2, o2 + j, none⟩ = some (.slice (some ⟨g, 0, none⟩) l.length (l.length + 3)) := ⟨(Below.refl _ _).drew, hx, hcell⟩
      clear hTg hRj hLj hu hx hcell
      go_wp2_with fail
      refine wp_region_held_drew (S := fun w' => Below wr.heap.size wr w' ∧ w'.cell? ⟨b, o + j, none⟩ = some (.slice Aj l.length cj) ∧ w'.cell? ⟨b2, o2 + j, none⟩ = some (.slice (some ⟨g, 0, none⟩) l.length (l.length + 3))) (by kernel_rfl) ?s_0 (fun hHeld => ?_)
      case s_0 => exact q0
      refine wpAnyH_take (i := 0) (oi := { dst := some 12, op := Go.Op.move (Go.Operand.tmp 0), type := 36, pos := "law.go:48", after := #[], guard := none }) (v := ?v_0_1) rfl (by kernel_rfl) (by kernel_rfl) (by kernel_rfl) (fun _ _ _ h => h) (Or.inl ⟨by rfl, ?y_0_1⟩) (by assumption) ?_
      case y_0_1 => (intro wq hSw; (try dsimp only at hSw); go_simp; first | done | with_reducible rfl)
      try simp only [Act.put, List.setIfInBounds_toArray, List.set_cons_zero, List.set_cons_succ]
      refine wpAnyH_take (i := 1) (oi := { dst := some 13, op := Go.Op.move (Go.Operand.tmp 5), type := 3, pos := "law.go:48", after := #[], guard := none }) (v := ?v_1_1) rfl (by kernel_rfl) (by kernel_rfl) (by kernel_rfl) (fun _ _ _ h => h) (Or.inl ⟨by rfl, ?y_1_1⟩) (by assumption) ?_
      case y_1_1 => (intro wq hSw; (try dsimp only at hSw); go_simp; first | done | with_reducible rfl)
      try simp only [Act.put, List.setIfInBounds_toArray, List.set_cons_zero, List.set_cons_succ]
      refine wpAnyH_take (i := 2) (oi := { dst := some 14, op := Go.Op.indexAddr 36 (Go.Operand.tmp 12) (Go.Operand.tmp 13), type := 0, pos := "law.go:48", after := #[{ on := 0, ground := Go.Ground.data }, { on := 1, ground := Go.Ground.data }], guard := none }) (v := ?v_2_1) rfl (by kernel_rfl) (by kernel_rfl) (by kernel_rfl) (fun _ _ _ h => h) (Or.inl ⟨by rfl, ?y_2_1⟩) (by assumption) ?_
      case y_2_1 => (intro wq hSw; (try dsimp only at hSw); go_simp; first | done | with_reducible rfl)
      try simp only [Act.put, List.setIfInBounds_toArray, List.set_cons_zero, List.set_cons_succ]
      refine wpAnyH_take (i := 3) (oi := { dst := some 15, op := Go.Op.load 35 (Go.Operand.tmp 14), type := 35, pos := "law.go:48", after := #[{ on := 2, ground := Go.Ground.data }], guard := none }) (v := ?v_3_1) rfl (by kernel_rfl) (by kernel_rfl) (by kernel_rfl) (fun _ _ _ h => h) (Or.inl ⟨by rfl, ?y_3_1⟩) (by assumption) ?_
      case y_3_1 => (intro wq hSw; (try dsimp only at hSw); go_simp; first | done | with_reducible rfl)
      try simp only [Act.put, List.setIfInBounds_toArray, List.set_cons_zero, List.set_cons_succ]
      refine wpAnyH_take (i := 4) (oi := { dst := some 16, op := Go.Op.move (Go.Operand.tmp 1), type := 36, pos := "law.go:48", after := #[], guard := none }) (v := ?v_4_1) rfl (by kernel_rfl) (by kernel_rfl) (by kernel_rfl) (fun _ _ _ h => h) (Or.inl ⟨by rfl, ?y_4_1⟩) (by assumption) ?_
      case y_4_1 => (intro wq hSw; (try dsimp only at hSw); go_simp; first | done | with_reducible rfl)
      try simp only [Act.put, List.setIfInBounds_toArray, List.set_cons_zero, List.set_cons_succ]
      refine wpAnyH_take (i := 5) (oi := { dst := some 17, op := Go.Op.move (Go.Operand.tmp 5), type := 3, pos := "law.go:48", after := #[], guard := none }) (v := ?v_5_1) rfl (by kernel_rfl) (by kernel_rfl) (by kernel_rfl) (fun _ _ _ h => h) (Or.inl ⟨by rfl, ?y_5_1⟩) (by assumption) ?_
      case y_5_1 => (intro wq hSw; (try dsimp only at hSw); go_simp; first | done | with_reducible rfl)
      try simp only [Act.put, List.setIfInBounds_toArray, List.set_cons_zero, List.set_cons_succ]
      refine wpAnyH_take (i := 6) (oi := { dst := some 18, op := Go.Op.indexAddr 36 (Go.Operand.tmp 16) (Go.Operand.tmp 17), type := 0, pos := "law.go:48", after := #[{ on := 4, ground := Go.Ground.data }, { on := 5, ground := Go.Ground.data }], guard := none }) (v := ?v_6_1) rfl (by kernel_rfl) (by kernel_rfl) (by kernel_rfl) (fun _ _ _ h => h) (Or.inl ⟨by rfl, ?y_6_1⟩) (by assumption) ?_
      case y_6_1 => (intro wq hSw; (try dsimp only at hSw); go_simp; first | done | with_reducible rfl)
      try simp only [Act.put, List.setIfInBounds_toArray, List.set_cons_zero, List.set_cons_succ]
      refine wpAnyH_take (i := 7) (oi := { dst := some 19, op := Go.Op.load 35 (Go.Operand.tmp 18), type := 35, pos := "law.go:48", after := #[{ on := 6, ground := Go.Ground.data }], guard := none }) (v := ?v_7_1) rfl (by kernel_rfl) (by kernel_rfl) (by kernel_rfl) (fun _ _ _ h => h) (Or.inl ⟨by rfl, ?y_7_1⟩) (by assumption) ?_
      case y_7_1 => (intro wq hSw; (try dsimp only at hSw); go_simp; first | done | with_reducible rfl)
      try simp only [Act.put, List.setIfInBounds_toArray, List.set_cons_zero, List.set_cons_succ]
      refine wpAnyH_ready (rs := [8]) (by kernel_rfl) (by simp) ?_
      refine AllReadyH.cons (o := { dst := some 20, op := Go.Op.call { callee := Go.Callee.value (Go.Operand.func 39), args := #[Go.Operand.tmp 15, Go.Operand.tmp 19], argTypes := #[35, 35] }, type := 4, pos := "law.go:48", after := #[{ on := 3, ground := Go.Ground.data }, { on := 7, ground := Go.Ground.data }], guard := none }) rfl (fun KQ hKQ => ?_) AllReadyH.nil
      go_simp
      refine (C.out _ ?d_8).mono ?_
      case d_8 => exact q0.1
      rintro e y1 ⟨rfl, rfl⟩
      go_wp2_with fail
      refine hKQ.out _ _ ?s_8 (fun hHeld8 => ?_)
      case s_8 => exact q0
      clear hKQ KQ
      try simp only [Act.put, List.setIfInBounds_toArray, List.set_cons_zero, List.set_cons_succ]
      refine wpAnyH_take (i := 9) (oi := { dst := some 21, op := Go.Op.unOp Go.UnOp.not 4 (Go.Operand.tmp 20), type := 4, pos := "law.go:48", after := #[{ on := 8, ground := Go.Ground.data }], guard := none }) (v := ?v_9_1) rfl (by kernel_rfl) (by kernel_rfl) (by kernel_rfl) (fun _ _ _ h => h) (Or.inl ⟨by rfl, ?y_9_1⟩) (by assumption) ?_
      case y_9_1 => (intro wq hSw; (try dsimp only at hSw); go_simp; first | done | with_reducible rfl)
      try simp only [Act.put, List.setIfInBounds_toArray, List.set_cons_zero, List.set_cons_succ]
      refine wpAnyH_done (by kernel_rfl) ?_ _
      go_wp2_with fail
      go_roundw
      case rel => exact ⟨j + 1, by omega, by go_num, hB.trans (q0.1.mono hB.size)⟩
      case measure => simp [intOf]; omega
    · obtain rfl : j = n := by omega
      go_wp2_with fail
      go_ret
      exact ⟨rfl, hB⟩

/-- Each of the values xs is a slice that reads as its list. -/
def SlsOf (w : World) (B : Nat) (xs : List Value) (L : List (List Int)) : Prop := ∀ (j : Nat) (x : Value) (l : List Int), xs[j]? = some x → L[j]? = some l → Sl w B x l
theorem SlsOf.snoc {w : World} {B j : Nat} {xs : List Value} {L : List (List Int)} {x : Value} {l : List Int} (h : SlsOf w B xs L) (hj : xs.length = j) (hL : L.length = j) (hx : Sl w B x l) : SlsOf w B (xs ++ [x]) (L ++ [l]) := fun i y m hy hm => by
  by_cases hi : i < j
  · rw [List.getElem?_append_left (by omega)] at hy hm
    exact h i y m hy hm
  · have hi2 : i < (xs ++ [x]).length := (List.getElem?_eq_some_iff.1 hy).1
    simp at hi2
    obtain rfl : i = j := by omega
    rw [List.getElem?_append_right (by omega), hj, Nat.sub_self] at hy
    rw [List.getElem?_append_right (by omega), hL, Nat.sub_self] at hm
    simp at hy hm
    subst hy; subst hm
    exact hx
theorem SlsOf.one {w : World} {B : Nat} {x : Value} {l : List Int} (hx : Sl w B x l) : SlsOf w B [x] [l] := fun i y m hy hm => by
  match i with
  | 0 => simp at hy hm; subst hy; subst hm; exact hx
  | i + 1 => simp at hy

/-- What Cut ends in: pieces whose bytes, one behind the other, are those of l; at most k + 1 of them. -/
def RetCut (W : World) (k : Nat) (l : List Int) (e : Ending) (w' : World) : Prop :=
  ∃ A n c L, e = .returned (.slice A n c) ∧ n ≤ k + 1 ∧ n ≤ c ∧ RdS w' w'.heap.size A n L ∧ L.flatten = l ∧ Below W.heap.size W w'
theorem retCut_of {W w' : World} {k n : Nat} {l : List Int} {A : Option Addr} {c : Nat} {xs : List Value} {L : List (List Int)} (hO : OwnV 35 w' W.heap.size (.slice A n c) xs) (hx : xs.length = n) (hL : L.length = n) (hS : SlsOf W W.heap.size xs L) (hB : Below W.heap.size W w') (hf : L.flatten = l) (hn : n ≤ k + 1) :
    RetCut W k l (.returned (.slice A n c)) w' := by
  obtain ⟨X', c', hv, hc1, hc2, hV⟩ := hO.slice
  rw [hx] at hv hc1 hV
  simp only [Value.slice.injEq] at hv
  obtain ⟨rfl, -, rfl⟩ := hv
  exact ⟨_, n, _, L, rfl, hn, hc1, ⟨xs, hV, hL, fun j x l hx hl => ((hS j x l hx hl).below hB).more hB.size⟩, hf, hB⟩

end Go.Proofs.Ytafdgibkhefplaa.law0
