/- BitsWrites answers true: numbers and texts are written behind bytes as the document has it, and nothing that was there is written. No condition. -/
import Derived.Test.YtdadhpghdblgnaaBegun
import Derived.Test.YtdadhpghdblgnaaVarW
import Derived.Test.YtdadhpghdblgnaaRefW
import Derived.Test.YtdadhpghdblgnaaTwin
import Derived.Deep.Cut
import Derived.Deep.DeepCutAuto
import Derived.Deep.RegionWith
import Derived.Deep.RegionHeld3
namespace Go.Proofs.Ytdadhpghdblgnaa.writes
open Go.RowKit Go.Proofs.Ytdadhpghdblgnaa.kit Go.Proofs.Ytdadhpghdblgnaa.nums Go.Proofs.Ytdadhpghdblgnaa.bytes
set_option linter.unusedVariables false

/-- What Put answers: the error, the bytes. -/
def putE (v k : Int) : Int := if k < 1 ∨ 8 < k then 1 else if v / 2 ^ (8 * k.toNat) = 0 then 0 else 5
def putL (l : List Int) (v k : Int) : List Int := if putE v k = 0 then l ++ beB v k.toNat else []
/-- What Put ends in. -/
def RetQ (W : World) (l : List Int) (v k : Int) (e : Ending) (w' : World) : Prop :=
  ∃ A n c, e = .returned (.tuple #[.slice A n c, .int .i64 (putE v k)]) ∧ (putL l v k).length = n ∧ Own 5 w' W.heap.size (.slice A n c) (putL l v k) ∧ Below W.heap.size W w'
theorem RetQ.err {W W' : World} {l : List Int} {v k e : Int} (h : putE v k = e) (he : e ≠ 0) (hB : Below W.heap.size W W') : RetQ W l v k (.returned (.tuple #[.slice none 0 0, .int .i64 e])) W' := by
  have h2 : putL l v k = [] := by unfold putL; rw [h, if_neg he]
  exact ⟨none, 0, 0, by rw [h], by rw [h2]; rfl, by rw [h2]; exact Own.nil _ _ _, hB⟩
theorem RetQ.ok {W W' : World} {l : List Int} {v : Int} {k n : Nat} {e : Ending} (h : putE v k = 0) (hS : RetS 5 W n (l ++ beB v k) e W') : RetQ W l v k e W' := by
  have h2 : putL l v k = l ++ beB v k := by unfold putL; rw [h, if_pos rfl]; simp
  obtain ⟨A, c, rfl, hl, hO, hB⟩ := hS
  exact ⟨A, n, c, by rw [h], by rw [h2]; exact hl, by rw [h2]; exact hO, hB⟩
theorem put_q (A : Option Addr) (n c : Nat) (l : List Int) (v k : Int) (w : World) (hR : Rd w w.heap.size A n l) (hb : n ≤ 1099511627776) (h0 : 0 ≤ v) (h1 : v ≤ 18446744073709551615) :
    Calls Try.prog 12 #[.slice A n c, .int .u64 v, .int .i64 k] w (RetQ w l v k) := by
  by_cases hk : k < 1 ∨ 8 < k
  · refine (put_few (.slice A n c) v k w hk).mono ?_
    rintro e w' ⟨rfl, rfl⟩
    exact RetQ.err (if_pos hk) (by decide) (Below.refl _ _)
  · obtain ⟨m, rfl⟩ := Int.eq_ofNat_of_zero_le (show 0 ≤ k by omega)
    by_cases hv : v / 2 ^ (8 * m) = 0
    · refine (put_ok A n c l v m w hR hb h0 h1 (by omega) (by omega) (by rw [hv]; rfl)).mono fun e w' h => ?_
      exact RetQ.ok (by unfold putE; rw [if_neg hk, Int.toNat_natCast, if_pos hv]) h
    · refine (put_great (.slice A n c) v m w h0 h1 (by omega) (by omega) (bne_iff_ne.2 hv)).mono ?_
      rintro e w' ⟨rfl, rfl⟩
      exact RetQ.err (by unfold putE; rw [if_neg hk, Int.toNat_natCast, if_neg hv]) (by decide) (Below.refl _ _)
theorem rput_q (A : Option Addr) (n c : Nat) (l : List Int) (v k : Int) (w : World) (hR : Rd w w.heap.size A n l) (hb : n ≤ 1099511627776) (h0 : 0 ≤ v) (h1 : v ≤ 18446744073709551615) :
    Calls Try.prog 13 #[.slice A n c, .int .u64 v, .int .i64 k] w (RetQ w l v k) := by
  by_cases hk : k < 1 ∨ 8 < k
  · refine (rput_few (.slice A n c) v k w hk).mono ?_
    rintro e w' ⟨rfl, rfl⟩
    exact RetQ.err (if_pos hk) (by decide) (Below.refl _ _)
  · obtain ⟨m, rfl⟩ := Int.eq_ofNat_of_zero_le (show 0 ≤ k by omega)
    refine (rput_any A n c l v m w hR hb h0 h1 (by omega) (by omega)).mono fun e w' h => ?_
    rcases h with ⟨hv, h⟩ | ⟨hv, rfl, hB⟩
    · exact RetQ.ok (by unfold putE; rw [if_neg hk, Int.toNat_natCast, if_pos hv]) h
    · exact RetQ.err (by unfold putE; rw [if_neg hk, Int.toNat_natCast, if_neg hv]) (by decide) hB

theorem own_rd {l : List Int} {A : Option Addr} {n c base : Nat} {w : World} (hO : Own 5 w base (.slice A n c) l) (hn : l.length = n) : Rd w w.heap.size A n l := by
  obtain ⟨A', c', hv, hc, _, hR⟩ := hO.slice
  simp only [Value.slice.injEq] at hv
  obtain ⟨rfl, rfl, rfl⟩ := hv
  exact hR
/-- The text of a slice of the call's own, in every later world. -/
theorem text_later {l : List Int} {A : Option Addr} {n c base : Nat} {w : World} (hO : Own 5 w base (.slice A n c) l) (hn : l.length = n) :
    ∀ wx, Below w.heap.size w wx → (convert 22 9 (.slice A n c)).run Try.prog wx = .ok (.string (strOfNums l)) wx := fun wx hx =>
  run_string_rd wx 22 5 9 Try.underlying22 Try.underlying5 Try.underlying9 w.heap.size A _ c l ((own_rd hO hn).below hx)
/-- A call that hands back a new slice, its text known in every later world. -/
def PostL (T : ByteArray) (W : World) (e : Ending) (w' : World) : Prop :=
  ∃ A n c, e = .returned (.slice A n c) ∧ Below W.heap.size W w' ∧ Below w'.heap.size w' w' ∧ (∀ wx, Below w'.heap.size w' wx → (convert 22 9 (.slice A n c)).run Try.prog wx = .ok (.string T) wx)
theorem postL_of {W w' : World} {n : Nat} {l : List Int} {e : Ending} (h : RetL 5 W n l e w') : PostL (strOfNums l) W e w' := by
  obtain ⟨A, c, rfl, hl, hO, hB⟩ := h
  exact ⟨A, n, c, rfl, hB, Below.refl _ _, text_later hO hl⟩

theorem own_kept {l : List Int} {v : Value} {base : Nat} {w w' : World} {row : Option Nat} (h : Own 5 w base v l) (hG : w.grownBy w' row) (hne : ∀ k, v.ownBlock = some k → ¬ some k = row) : Own 5 w' base v l := by
  refine World.ownsRow.kept h hG ?_
  rcases e : v.ownBlock with _ | k
  · exact .inl rfl
  · exact .inr (hne k e)

set_option maxRecDepth 100000 in
set_option maxHeartbeats 2000000 in
theorem walk_small (A : Option Addr) (n c : Nat) (l : List Int) (S : Option Addr) (m cs : Nat) (s : List Int) (v k : Int) (w : World) (hR : Rd w w.heap.size A n l) (hS : Rd w w.heap.size S m s)
    (hn : n ≤ 65536) (hm : m ≤ 65536) (v0 : 0 ≤ v) (v1 : v ≤ 18446744073709551615) :
    Calls Try.prog 3 #[.slice A n c, .slice S m cs, .int .u64 v, .int .i64 k] w fun e w' => e = .returned (.bool true) ∧ Below w.heap.size w w' := by
  go_enter Try.func3, Try.ntmps3
  go_wp2_with fail
  refine (begun_any _).mono ?_
  rintro e w1 ⟨rfl, hB1⟩
  have hR1 := hR.on hB1 hB1.size
  go_wp2_with fail
  refine (twin_any A n c l w1 hR1 (by omega)).mono ?_
  rintro e w2 ⟨rfl, hT, hB2⟩
  have hBB := hB1.trans (hB2.mono hB1.size)
  have hS2 := hS.on hBB hBB.size
  go_wp2_with fail
  refine (twin_any S m cs s w2 hS2 (by omega)).mono ?_
  rintro e w3 ⟨rfl, hU, hB3⟩
  have hT3 := hT.below hB3 hT.lt
  have hBB3 := hBB.trans (hB3.mono hBB.size)
  have hg : w.heap.size ≤ w1.heap.size := hB1.size
  have hgu : w.heap.size ≤ w2.heap.size := hBB.size
  generalize w1.heap.size = g at *
  generalize w2.heap.size = gu at *
  clear hB1 hB2 hR1 hB3 hBB hS2 hT
  go_wp2_with fail
  go_loopw [11] (fun i wr => ∃ j : Nat, j ≤ 2 ∧ i = .int .i64 j ∧ IsTwin wr g l ∧ IsTwin wr gu s ∧ Below w.heap.size w wr) (fun i _ => 2 - (intOf i).toNat)
  case atStart => exact ⟨0, by omega, rfl, hT3, hU, hBB3⟩
  case round =>
    obtain ⟨j, hj, rfl, hT', hU', hB'⟩ := hrel
    by_cases hlt : j < 2
    · have hRw := hR.on hB' hB'.size
      have hSw := hS.on hB' hB'.size
      have C1 := Lib.hid (put_q (some ⟨g, 0, none⟩) n (n + 3) l v k wr (hT'.rd hRw.len hT'.lt) (by omega) v0 v1)
      go_wp2_with fail
      refine C1.out.mono ?_
      rintro e x1 ⟨A1, n1, c1, rfl, hl1, hO1, hX1⟩
      clear C1
      have C2 := Lib.hid (rput_q A n c l v k x1 (hRw.on hX1 hX1.size) (by omega) v0 v1)
      go_wp2_with fail
      refine C2.out.mono ?_
      rintro e x2 ⟨A2, n2, c2, rfl, hl2, hO2, hX2⟩
      clear C2
      have hX12 := hX1.trans (hX2.mono hX1.size)
      have hTx2 := hT'.below hX12 hT'.lt
      have hUx2 := hU'.below hX12 hU'.lt
      have C3 := Lib.hid (var_any (some ⟨g, 0, none⟩) n (n + 3) l v x2 (hTx2.rd hRw.len hTx2.lt) (by omega) v0 v1)
      go_wp2_with fail
      refine C3.out.mono ?_
      rintro e x3 ⟨A3, c3, rfl, hl3, hO3, hX3⟩
      clear C3
      have hTx3 := hTx2.below hX3 hTx2.lt
      have hUx3 := hUx2.below hX3 hUx2.lt
      have C4 := Lib.hid (text_any (some ⟨g, 0, none⟩) n (n + 3) l (some ⟨gu, 0, none⟩) m (m + 3) s x3 (hTx3.rd hRw.len hTx3.lt) (hUx3.rd hSw.len hUx3.lt) (by omega) (by omega))
      go_wp2_with fail
      refine C4.out.mono ?_
      rintro e x4 ⟨A4, c4, rfl, hl4, hO4, hX4⟩
      clear C4
      have hX34 := hX3.trans (hX4.mono hX3.size)
      have hX14 := hX12.trans (hX34.mono hX12.size)
      have hO1' := (hO1.below hX2).below hX34
      have hO2' := hO2.below hX34
      have hO3' := hO3.below hX4
      have hR4 := hRw.on hX14 hX14.size
      have hS4 := hSw.on hX14 hX14.size
      have hT4 := hTx3.below hX4 hTx3.lt
      have hU4 := hUx3.below hX4 hUx3.lt
      have hv1 := text_later hO1' hl1
      have hv2 := text_later hO2' hl2
      have hv3 := text_later hO3' hl3
      have hv4 := text_later hO4 hl4
      have D1 := Lib.hid fun W (hW : Below x4.heap.size x4 W) => (rvar_any A n c l v W (hR4.on hW hW.size) (by omega) v0 v1).mono fun _ _ h => postL_of h
      have D2 := Lib.hid fun W (hW : Below x4.heap.size x4 W) => (rtext_any A n c l S m cs s W (hR4.on hW hW.size) (hS4.on hW hW.size) (by omega) (by omega)).mono fun _ _ h => postL_of h
      have D3 := Lib.hid fun W (hW : Below x4.heap.size x4 W) => kept_any g A n c l W _ (hT4.below hW hT4.lt) (hR4.on hW hW.size) (by omega)
      have D4 := Lib.hid fun W (hW : Below x4.heap.size x4 W) => kept_any gu S m cs s W _ (hU4.below hW hU4.lt) (hS4.on hW hW.size) (by omega)
      have q0 : Below x4.heap.size x4 x4.drew := (Below.refl _ _).drew
      generalize strOfNums (putL l v k) = T1 at *
      generalize strOfNums (l ++ varB v) = T3 at *
      generalize strOfNums (l ++ (varB m ++ s)) = T4 at *
      generalize putE v k = pe at *
      generalize n + (varB v).length = n3 at *
      generalize n + (varB m).length + m = n4 at *
      go_upto_region 12 with (fail)
      go_cut [95] (fun b wx => b = .bool false ∧ Below x4.heap.size x4 wx)
      case first =>
        refine wp_region_held_drew (S := fun w' => Below x4.heap.size x4 w') (by kernel_rfl) ?s_0 (fun hHeld => ?_)
        case s_0 => exact q0
        refine wpAnyH_take (i := 0) (oi := { dst := some 56, op := Go.Op.move (Go.Operand.tmp 13), type := 26, pos := "law.go:31", after := #[], guard := none }) (v := ?v_0) rfl (by kernel_rfl) (by kernel_rfl) (by kernel_rfl) (fun _ _ _ h => h) (Or.inl ⟨by rfl, ?y_0⟩) (by assumption) ?_
        case y_0 => (intro wq hSw; (try dsimp only at hSw); go_simp; first | done | with_reducible rfl)
        try simp only [Act.put, List.setIfInBounds_toArray, List.set_cons_zero, List.set_cons_succ]
        refine wpAnyH_take (i := 1) (oi := { dst := some 57, op := Go.Op.move (Go.Operand.tmp 15), type := 26, pos := "law.go:31", after := #[], guard := none }) (v := ?v_1) rfl (by kernel_rfl) (by kernel_rfl) (by kernel_rfl) (fun _ _ _ h => h) (Or.inl ⟨by rfl, ?y_1⟩) (by assumption) ?_
        case y_1 => (intro wq hSw; (try dsimp only at hSw); go_simp; first | done | with_reducible rfl)
        try simp only [Act.put, List.setIfInBounds_toArray, List.set_cons_zero, List.set_cons_succ]
        refine wpAnyH_take (i := 2) (oi := { dst := some 58, op := Go.Op.binOp Go.BinOp.neq 26 (Go.Operand.tmp 56) (Go.Operand.tmp 57) 26, type := 4, pos := "law.go:31", after := #[{ on := 0, ground := Go.Ground.data }, { on := 1, ground := Go.Ground.data }], guard := none }) (v := ?v_2) rfl (by kernel_rfl) (by kernel_rfl) (by kernel_rfl) (fun _ _ _ h => h) (Or.inl ⟨by rfl, ?y_2⟩) (by assumption) ?_
        case y_2 => (intro wq hSw; (try dsimp only at hSw); go_simp; first | done | with_reducible rfl)
        try simp only [Act.put, List.setIfInBounds_toArray, List.set_cons_zero, List.set_cons_succ]
        refine wpAnyH_take (i := 3) (oi := { dst := some 59, op := Go.Op.move (Go.Operand.tmp 58), type := 4, pos := "law.go:31", after := #[{ on := 2, ground := Go.Ground.data }], guard := none }) (v := ?v_3) rfl (by kernel_rfl) (by kernel_rfl) (by kernel_rfl) (fun _ _ _ h => h) (Or.inl ⟨by rfl, ?y_3⟩) (by assumption) ?_
        case y_3 => (intro wq hSw; (try dsimp only at hSw); go_simp; first | done | with_reducible rfl)
        try simp only [Act.put, List.setIfInBounds_toArray, List.set_cons_zero, List.set_cons_succ]
        refine wpAnyH_take (i := 4) (oi := { dst := some 60, op := Go.Op.move (Go.Operand.tmp 12), type := 22, pos := "law.go:31", after := #[{ on := 3, ground := Go.Ground.guard }], guard := some (3, false) }) (v := ?v_4) rfl (by kernel_rfl) (by kernel_rfl) (by kernel_rfl) (fun _ _ _ h => h) (Or.inl ⟨by rfl, ?y_4⟩) (by assumption) ?_
        case y_4 => (intro wq hSw; (try dsimp only at hSw); go_simp; first | done | with_reducible rfl)
        try simp only [Act.put, List.setIfInBounds_toArray, List.set_cons_zero, List.set_cons_succ]
        refine wpAnyH_take (i := 5) (oi := { dst := some 61, op := Go.Op.convert 22 9 (Go.Operand.tmp 60), type := 9, pos := "law.go:31", after := #[{ on := 4, ground := Go.Ground.data }, { on := 3, ground := Go.Ground.guard }], guard := some (3, false) }) (v := ?v_5) rfl (by kernel_rfl) (by kernel_rfl) (by kernel_rfl) (fun _ _ _ h => h) (Or.inl ⟨by rfl, ?y_5⟩) (by assumption) ?_
        case y_5 => (intro wq hSw; (try dsimp only at hSw); go_simp; first | done | with_reducible rfl)
        try simp only [Act.put, List.setIfInBounds_toArray, List.set_cons_zero, List.set_cons_succ]
        refine wpAnyH_take (i := 6) (oi := { dst := some 62, op := Go.Op.move (Go.Operand.tmp 14), type := 22, pos := "law.go:31", after := #[{ on := 3, ground := Go.Ground.guard }], guard := some (3, false) }) (v := ?v_6) rfl (by kernel_rfl) (by kernel_rfl) (by kernel_rfl) (fun _ _ _ h => h) (Or.inl ⟨by rfl, ?y_6⟩) (by assumption) ?_
        case y_6 => (intro wq hSw; (try dsimp only at hSw); go_simp; first | done | with_reducible rfl)
        try simp only [Act.put, List.setIfInBounds_toArray, List.set_cons_zero, List.set_cons_succ]
        refine wpAnyH_take (i := 7) (oi := { dst := some 63, op := Go.Op.convert 22 9 (Go.Operand.tmp 62), type := 9, pos := "law.go:31", after := #[{ on := 6, ground := Go.Ground.data }, { on := 3, ground := Go.Ground.guard }], guard := some (3, false) }) (v := ?v_7) rfl (by kernel_rfl) (by kernel_rfl) (by kernel_rfl) (fun _ _ _ h => h) (Or.inl ⟨by rfl, ?y_7⟩) (by assumption) ?_
        case y_7 => (intro wq hSw; (try dsimp only at hSw); go_simp; first | done | with_reducible rfl)
        try simp only [Act.put, List.setIfInBounds_toArray, List.set_cons_zero, List.set_cons_succ]
        refine wpAnyH_take (i := 8) (oi := { dst := some 64, op := Go.Op.binOp Go.BinOp.neq 9 (Go.Operand.tmp 61) (Go.Operand.tmp 63) 9, type := 4, pos := "law.go:31", after := #[{ on := 5, ground := Go.Ground.data }, { on := 7, ground := Go.Ground.data }, { on := 3, ground := Go.Ground.guard }], guard := some (3, false) }) (v := ?v_8) rfl (by kernel_rfl) (by kernel_rfl) (by kernel_rfl) (fun _ _ _ h => h) (Or.inl ⟨by rfl, ?y_8⟩) (by assumption) ?_
        case y_8 => (intro wq hSw; (try dsimp only at hSw); go_simp; first | done | with_reducible rfl)
        try simp only [Act.put, List.setIfInBounds_toArray, List.set_cons_zero, List.set_cons_succ]
        refine wpAnyH_take (i := 9) (oi := { dst := some 65, op := Go.Op.pick (Go.Operand.tmp 59) (Go.Operand.const (Go.Value.bool true)) (Go.Operand.tmp 64), type := 4, pos := "law.go:31", after := #[{ on := 3, ground := Go.Ground.data }, { on := 8, ground := Go.Ground.data }], guard := none }) (v := ?v_9) rfl (by kernel_rfl) (by kernel_rfl) (by kernel_rfl) (fun _ _ _ h => h) (Or.inl ⟨by rfl, ?y_9⟩) (by assumption) ?_
        case y_9 => (intro wq hSw; (try dsimp only at hSw); go_simp; first | done | with_reducible rfl)
        try simp only [Act.put, List.setIfInBounds_toArray, List.set_cons_zero, List.set_cons_succ]
        refine wpAnyH_take (i := 10) (oi := { dst := some 66, op := Go.Op.move (Go.Operand.tmp 65), type := 4, pos := "law.go:31", after := #[{ on := 9, ground := Go.Ground.data }, { on := 3, ground := Go.Ground.chain }], guard := none }) (v := ?v_10) rfl (by kernel_rfl) (by kernel_rfl) (by kernel_rfl) (fun _ _ _ h => h) (Or.inl ⟨by rfl, ?y_10⟩) (by assumption) ?_
        case y_10 => (intro wq hSw; (try dsimp only at hSw); go_simp; first | done | with_reducible rfl)
        try simp only [Act.put, List.setIfInBounds_toArray, List.set_cons_zero, List.set_cons_succ]
        refine wpAnyH_take (i := 11) (oi := { dst := some 67, op := Go.Op.move (Go.Operand.tmp 16), type := 22, pos := "law.go:31", after := #[{ on := 10, ground := Go.Ground.guard }], guard := some (10, false) }) (v := ?v_11) rfl (by kernel_rfl) (by kernel_rfl) (by kernel_rfl) (fun _ _ _ h => h) (Or.inl ⟨by rfl, ?y_11⟩) (by assumption) ?_
        case y_11 => (intro wq hSw; (try dsimp only at hSw); go_simp; first | done | with_reducible rfl)
        try simp only [Act.put, List.setIfInBounds_toArray, List.set_cons_zero, List.set_cons_succ]
        refine wpAnyH_take (i := 12) (oi := { dst := some 68, op := Go.Op.convert 22 9 (Go.Operand.tmp 67), type := 9, pos := "law.go:31", after := #[{ on := 11, ground := Go.Ground.data }, { on := 10, ground := Go.Ground.guard }], guard := some (10, false) }) (v := ?v_12) rfl (by kernel_rfl) (by kernel_rfl) (by kernel_rfl) (fun _ _ _ h => h) (Or.inl ⟨by rfl, ?y_12⟩) (by assumption) ?_
        case y_12 => (intro wq hSw; (try dsimp only at hSw); go_simp; first | done | with_reducible rfl)
        try simp only [Act.put, List.setIfInBounds_toArray, List.set_cons_zero, List.set_cons_succ]
        refine wpAnyH_take (i := 13) (oi := { dst := some 69, op := Go.Op.move (Go.Operand.tmp 0), type := 22, pos := "law.go:31", after := #[{ on := 10, ground := Go.Ground.guard }], guard := some (10, false) }) (v := ?v_13) rfl (by kernel_rfl) (by kernel_rfl) (by kernel_rfl) (fun _ _ _ h => h) (Or.inl ⟨by rfl, ?y_13⟩) (by assumption) ?_
        case y_13 => (intro wq hSw; (try dsimp only at hSw); go_simp; first | done | with_reducible rfl)
        try simp only [Act.put, List.setIfInBounds_toArray, List.set_cons_zero, List.set_cons_succ]
        refine wpAnyH_take (i := 14) (oi := { dst := some 70, op := Go.Op.move (Go.Operand.tmp 2), type := 23, pos := "law.go:31", after := #[{ on := 10, ground := Go.Ground.guard }], guard := some (10, false) }) (v := ?v_14) rfl (by kernel_rfl) (by kernel_rfl) (by kernel_rfl) (fun _ _ _ h => h) (Or.inl ⟨by rfl, ?y_14⟩) (by assumption) ?_
        case y_14 => (intro wq hSw; (try dsimp only at hSw); go_simp; first | done | with_reducible rfl)
        try simp only [Act.put, List.setIfInBounds_toArray, List.set_cons_zero, List.set_cons_succ]
        refine wpAnyH_ready (rs := [15]) (by kernel_rfl) (by simp) ?_
        refine AllReadyH.cons (o := { dst := some 71, op := Go.Op.call { callee := Go.Callee.value (Go.Operand.func 16), args := #[Go.Operand.tmp 69, Go.Operand.tmp 70], argTypes := #[22, 23] }, type := 22, pos := "law.go:31", after := #[{ on := 13, ground := Go.Ground.data }, { on := 14, ground := Go.Ground.data }, { on := 10, ground := Go.Ground.chain }, { on := 10, ground := Go.Ground.guard }], guard := some (10, false) }) rfl (fun KQ hKQ => ?_) AllReadyH.nil
        go_simp
        refine (D1.out _ ?d_15).mono ?_
        case d_15 => exact q0
        rintro e y1 ⟨B1, b1, d1, rfl, hY1, hr1, hy1⟩
        have q1 := q0.trans hY1
        go_wp2_with fail
        refine hKQ.out _ _ ?s_15 (fun hHeld15 => ?_)
        case s_15 => exact q1
        clear hKQ KQ
        try simp only [Act.put, List.setIfInBounds_toArray, List.set_cons_zero, List.set_cons_succ]
        refine wpAnyH_ready (rs := [16]) (by kernel_rfl) (by simp) ?_
        refine AllReadyH.cons (o := { dst := some 72, op := Go.Op.convert 22 9 (Go.Operand.tmp 71), type := 9, pos := "law.go:31", after := #[{ on := 15, ground := Go.Ground.data }, { on := 10, ground := Go.Ground.guard }], guard := some (10, false) }) rfl (fun KQ hKQ => ?_) AllReadyH.nil
        go_simp
        refine hKQ.out _ _ ?s_16 (fun hHeld16 => ?_)
        case s_16 => exact q1
        clear hKQ KQ
        try simp only [Act.put, List.setIfInBounds_toArray, List.set_cons_zero, List.set_cons_succ]
        refine wpAnyH_take (i := 17) (oi := { dst := some 73, op := Go.Op.binOp Go.BinOp.neq 9 (Go.Operand.tmp 68) (Go.Operand.tmp 72) 9, type := 4, pos := "law.go:31", after := #[{ on := 12, ground := Go.Ground.data }, { on := 16, ground := Go.Ground.data }, { on := 10, ground := Go.Ground.guard }], guard := some (10, false) }) (v := ?v_17) rfl (by kernel_rfl) (by kernel_rfl) (by kernel_rfl) (fun _ _ _ h => h) (Or.inl ⟨by rfl, ?y_17⟩) (by assumption) ?_
        case y_17 => (intro wq hSw; (try dsimp only at hSw); go_simp; first | done | with_reducible rfl)
        try simp only [Act.put, List.setIfInBounds_toArray, List.set_cons_zero, List.set_cons_succ]
        refine wpAnyH_take (i := 18) (oi := { dst := some 74, op := Go.Op.pick (Go.Operand.tmp 66) (Go.Operand.const (Go.Value.bool true)) (Go.Operand.tmp 73), type := 4, pos := "law.go:31", after := #[{ on := 10, ground := Go.Ground.data }, { on := 17, ground := Go.Ground.data }], guard := none }) (v := ?v_18) rfl (by kernel_rfl) (by kernel_rfl) (by kernel_rfl) (fun _ _ _ h => h) (Or.inl ⟨by rfl, ?y_18⟩) (by assumption) ?_
        case y_18 => (intro wq hSw; (try dsimp only at hSw); go_simp; first | done | with_reducible rfl)
        try simp only [Act.put, List.setIfInBounds_toArray, List.set_cons_zero, List.set_cons_succ]
        refine wpAnyH_take (i := 19) (oi := { dst := some 75, op := Go.Op.move (Go.Operand.tmp 74), type := 4, pos := "law.go:31", after := #[{ on := 18, ground := Go.Ground.data }, { on := 15, ground := Go.Ground.chain }], guard := none }) (v := ?v_19) rfl (by kernel_rfl) (by kernel_rfl) (by kernel_rfl) (fun _ _ _ h => h) (Or.inl ⟨by rfl, ?y_19⟩) (by assumption) ?_
        case y_19 => (intro wq hSw; (try dsimp only at hSw); go_simp; first | done | with_reducible rfl)
        try simp only [Act.put, List.setIfInBounds_toArray, List.set_cons_zero, List.set_cons_succ]
        refine wpAnyH_take (i := 20) (oi := { dst := some 76, op := Go.Op.move (Go.Operand.tmp 17), type := 22, pos := "law.go:31", after := #[{ on := 19, ground := Go.Ground.guard }], guard := some (19, false) }) (v := ?v_20) rfl (by kernel_rfl) (by kernel_rfl) (by kernel_rfl) (fun _ _ _ h => h) (Or.inl ⟨by rfl, ?y_20⟩) (by assumption) ?_
        case y_20 => (intro wq hSw; (try dsimp only at hSw); go_simp; first | done | with_reducible rfl)
        try simp only [Act.put, List.setIfInBounds_toArray, List.set_cons_zero, List.set_cons_succ]
        refine wpAnyH_take (i := 21) (oi := { dst := some 77, op := Go.Op.convert 22 9 (Go.Operand.tmp 76), type := 9, pos := "law.go:31", after := #[{ on := 20, ground := Go.Ground.data }, { on := 19, ground := Go.Ground.guard }], guard := some (19, false) }) (v := ?v_21) rfl (by kernel_rfl) (by kernel_rfl) (by kernel_rfl) (fun _ _ _ h => h) (Or.inl ⟨by rfl, ?y_21⟩) (by assumption) ?_
        case y_21 => (intro wq hSw; (try dsimp only at hSw); go_simp; first | done | with_reducible rfl)
        try simp only [Act.put, List.setIfInBounds_toArray, List.set_cons_zero, List.set_cons_succ]
        refine wpAnyH_take (i := 22) (oi := { dst := some 78, op := Go.Op.move (Go.Operand.tmp 0), type := 22, pos := "law.go:31", after := #[{ on := 19, ground := Go.Ground.guard }], guard := some (19, false) }) (v := ?v_22) rfl (by kernel_rfl) (by kernel_rfl) (by kernel_rfl) (fun _ _ _ h => h) (Or.inl ⟨by rfl, ?y_22⟩) (by assumption) ?_
        case y_22 => (intro wq hSw; (try dsimp only at hSw); go_simp; first | done | with_reducible rfl)
        try simp only [Act.put, List.setIfInBounds_toArray, List.set_cons_zero, List.set_cons_succ]
        refine wpAnyH_take (i := 23) (oi := { dst := some 79, op := Go.Op.move (Go.Operand.tmp 1), type := 22, pos := "law.go:31", after := #[{ on := 19, ground := Go.Ground.guard }], guard := some (19, false) }) (v := ?v_23) rfl (by kernel_rfl) (by kernel_rfl) (by kernel_rfl) (fun _ _ _ h => h) (Or.inl ⟨by rfl, ?y_23⟩) (by assumption) ?_
        case y_23 => (intro wq hSw; (try dsimp only at hSw); go_simp; first | done | with_reducible rfl)
        try simp only [Act.put, List.setIfInBounds_toArray, List.set_cons_zero, List.set_cons_succ]
        refine wpAnyH_ready (rs := [24]) (by kernel_rfl) (by simp) ?_
        refine AllReadyH.cons (o := { dst := some 80, op := Go.Op.call { callee := Go.Callee.value (Go.Operand.func 17), args := #[Go.Operand.tmp 78, Go.Operand.tmp 79], argTypes := #[22, 22] }, type := 22, pos := "law.go:31", after := #[{ on := 22, ground := Go.Ground.data }, { on := 23, ground := Go.Ground.data }, { on := 19, ground := Go.Ground.chain }, { on := 19, ground := Go.Ground.guard }], guard := some (19, false) }) rfl (fun KQ hKQ => ?_) AllReadyH.nil
        go_simp
        refine (D2.out _ ?d_24).mono ?_
        case d_24 => exact q1
        rintro e y2 ⟨B2, b2, d2, rfl, hY2, hr2, hy2⟩
        have q2 := q1.trans (hY2.mono q1.size)
        go_wp2_with fail
        refine hKQ.out _ _ ?s_24 (fun hHeld24 => ?_)
        case s_24 => exact q2
        clear hKQ KQ
        try simp only [Act.put, List.setIfInBounds_toArray, List.set_cons_zero, List.set_cons_succ]
        refine wpAnyH_ready (rs := [25]) (by kernel_rfl) (by simp) ?_
        refine AllReadyH.cons (o := { dst := some 81, op := Go.Op.convert 22 9 (Go.Operand.tmp 80), type := 9, pos := "law.go:31", after := #[{ on := 24, ground := Go.Ground.data }, { on := 19, ground := Go.Ground.guard }], guard := some (19, false) }) rfl (fun KQ hKQ => ?_) AllReadyH.nil
        go_simp
        refine hKQ.out _ _ ?s_25 (fun hHeld25 => ?_)
        case s_25 => exact q2
        clear hKQ KQ
        try simp only [Act.put, List.setIfInBounds_toArray, List.set_cons_zero, List.set_cons_succ]
        refine wpAnyH_take (i := 26) (oi := { dst := some 82, op := Go.Op.binOp Go.BinOp.neq 9 (Go.Operand.tmp 77) (Go.Operand.tmp 81) 9, type := 4, pos := "law.go:31", after := #[{ on := 21, ground := Go.Ground.data }, { on := 25, ground := Go.Ground.data }, { on := 19, ground := Go.Ground.guard }], guard := some (19, false) }) (v := ?v_26) rfl (by kernel_rfl) (by kernel_rfl) (by kernel_rfl) (fun _ _ _ h => h) (Or.inl ⟨by rfl, ?y_26⟩) (by assumption) ?_
        case y_26 => (intro wq hSw; (try dsimp only at hSw); go_simp; first | done | with_reducible rfl)
        try simp only [Act.put, List.setIfInBounds_toArray, List.set_cons_zero, List.set_cons_succ]
        refine wpAnyH_take (i := 27) (oi := { dst := some 83, op := Go.Op.pick (Go.Operand.tmp 75) (Go.Operand.const (Go.Value.bool true)) (Go.Operand.tmp 82), type := 4, pos := "law.go:31", after := #[{ on := 19, ground := Go.Ground.data }, { on := 26, ground := Go.Ground.data }], guard := none }) (v := ?v_27) rfl (by kernel_rfl) (by kernel_rfl) (by kernel_rfl) (fun _ _ _ h => h) (Or.inl ⟨by rfl, ?y_27⟩) (by assumption) ?_
        case y_27 => (intro wq hSw; (try dsimp only at hSw); go_simp; first | done | with_reducible rfl)
        try simp only [Act.put, List.setIfInBounds_toArray, List.set_cons_zero, List.set_cons_succ]
        refine wpAnyH_take (i := 28) (oi := { dst := some 84, op := Go.Op.move (Go.Operand.tmp 83), type := 4, pos := "law.go:31", after := #[{ on := 27, ground := Go.Ground.data }, { on := 24, ground := Go.Ground.chain }], guard := none }) (v := ?v_28) rfl (by kernel_rfl) (by kernel_rfl) (by kernel_rfl) (fun _ _ _ h => h) (Or.inl ⟨by rfl, ?y_28⟩) (by assumption) ?_
        case y_28 => (intro wq hSw; (try dsimp only at hSw); go_simp; first | done | with_reducible rfl)
        try simp only [Act.put, List.setIfInBounds_toArray, List.set_cons_zero, List.set_cons_succ]
        refine wpAnyH_take (i := 29) (oi := { dst := some 85, op := Go.Op.move (Go.Operand.tmp 9), type := 22, pos := "law.go:31", after := #[{ on := 28, ground := Go.Ground.guard }], guard := some (28, false) }) (v := ?v_29) rfl (by kernel_rfl) (by kernel_rfl) (by kernel_rfl) (fun _ _ _ h => h) (Or.inl ⟨by rfl, ?y_29⟩) (by assumption) ?_
        case y_29 => (intro wq hSw; (try dsimp only at hSw); go_simp; first | done | with_reducible rfl)
        try simp only [Act.put, List.setIfInBounds_toArray, List.set_cons_zero, List.set_cons_succ]
        refine wpAnyH_take (i := 30) (oi := { dst := some 86, op := Go.Op.move (Go.Operand.tmp 0), type := 22, pos := "law.go:31", after := #[{ on := 28, ground := Go.Ground.guard }], guard := some (28, false) }) (v := ?v_30) rfl (by kernel_rfl) (by kernel_rfl) (by kernel_rfl) (fun _ _ _ h => h) (Or.inl ⟨by rfl, ?y_30⟩) (by assumption) ?_
        case y_30 => (intro wq hSw; (try dsimp only at hSw); go_simp; first | done | with_reducible rfl)
        try simp only [Act.put, List.setIfInBounds_toArray, List.set_cons_zero, List.set_cons_succ]
        refine wpAnyH_ready (rs := [31]) (by kernel_rfl) (by simp) ?_
        refine AllReadyH.cons (o := { dst := some 87, op := Go.Op.call { callee := Go.Callee.value (Go.Operand.func 18), args := #[Go.Operand.tmp 85, Go.Operand.tmp 86], argTypes := #[22, 22] }, type := 4, pos := "law.go:31", after := #[{ on := 29, ground := Go.Ground.data }, { on := 30, ground := Go.Ground.data }, { on := 28, ground := Go.Ground.chain }, { on := 28, ground := Go.Ground.guard }], guard := some (28, false) }) rfl (fun KQ hKQ => ?_) AllReadyH.nil
        go_simp
        refine (D3.out _ ?d_31).mono ?_
        case d_31 => exact q2
        rintro e y3 ⟨rfl, rfl⟩
        go_wp2_with fail
        refine hKQ.out _ _ ?s_31 (fun hHeld31 => ?_)
        case s_31 => exact q2
        clear hKQ KQ
        try simp only [Act.put, List.setIfInBounds_toArray, List.set_cons_zero, List.set_cons_succ]
        refine wpAnyH_take (i := 32) (oi := { dst := some 88, op := Go.Op.unOp Go.UnOp.not 4 (Go.Operand.tmp 87), type := 4, pos := "law.go:31", after := #[{ on := 31, ground := Go.Ground.data }, { on := 28, ground := Go.Ground.guard }], guard := some (28, false) }) (v := ?v_32) rfl (by kernel_rfl) (by kernel_rfl) (by kernel_rfl) (fun _ _ _ h => h) (Or.inl ⟨by rfl, ?y_32⟩) (by assumption) ?_
        case y_32 => (intro wq hSw; (try dsimp only at hSw); go_simp; first | done | with_reducible rfl)
        try simp only [Act.put, List.setIfInBounds_toArray, List.set_cons_zero, List.set_cons_succ]
        refine wpAnyH_take (i := 33) (oi := { dst := some 89, op := Go.Op.pick (Go.Operand.tmp 84) (Go.Operand.const (Go.Value.bool true)) (Go.Operand.tmp 88), type := 4, pos := "law.go:31", after := #[{ on := 28, ground := Go.Ground.data }, { on := 32, ground := Go.Ground.data }], guard := none }) (v := ?v_33) rfl (by kernel_rfl) (by kernel_rfl) (by kernel_rfl) (fun _ _ _ h => h) (Or.inl ⟨by rfl, ?y_33⟩) (by assumption) ?_
        case y_33 => (intro wq hSw; (try dsimp only at hSw); go_simp; first | done | with_reducible rfl)
        try simp only [Act.put, List.setIfInBounds_toArray, List.set_cons_zero, List.set_cons_succ]
        refine wpAnyH_take (i := 34) (oi := { dst := some 90, op := Go.Op.move (Go.Operand.tmp 89), type := 4, pos := "law.go:31", after := #[{ on := 33, ground := Go.Ground.data }, { on := 31, ground := Go.Ground.chain }], guard := none }) (v := ?v_34) rfl (by kernel_rfl) (by kernel_rfl) (by kernel_rfl) (fun _ _ _ h => h) (Or.inl ⟨by rfl, ?y_34⟩) (by assumption) ?_
        case y_34 => (intro wq hSw; (try dsimp only at hSw); go_simp; first | done | with_reducible rfl)
        try simp only [Act.put, List.setIfInBounds_toArray, List.set_cons_zero, List.set_cons_succ]
        refine wpAnyH_take (i := 35) (oi := { dst := some 91, op := Go.Op.move (Go.Operand.tmp 10), type := 22, pos := "law.go:31", after := #[{ on := 34, ground := Go.Ground.guard }], guard := some (34, false) }) (v := ?v_35) rfl (by kernel_rfl) (by kernel_rfl) (by kernel_rfl) (fun _ _ _ h => h) (Or.inl ⟨by rfl, ?y_35⟩) (by assumption) ?_
        case y_35 => (intro wq hSw; (try dsimp only at hSw); go_simp; first | done | with_reducible rfl)
        try simp only [Act.put, List.setIfInBounds_toArray, List.set_cons_zero, List.set_cons_succ]
        refine wpAnyH_take (i := 36) (oi := { dst := some 92, op := Go.Op.move (Go.Operand.tmp 1), type := 22, pos := "law.go:31", after := #[{ on := 34, ground := Go.Ground.guard }], guard := some (34, false) }) (v := ?v_36) rfl (by kernel_rfl) (by kernel_rfl) (by kernel_rfl) (fun _ _ _ h => h) (Or.inl ⟨by rfl, ?y_36⟩) (by assumption) ?_
        case y_36 => (intro wq hSw; (try dsimp only at hSw); go_simp; first | done | with_reducible rfl)
        try simp only [Act.put, List.setIfInBounds_toArray, List.set_cons_zero, List.set_cons_succ]
        refine wpAnyH_ready (rs := [37]) (by kernel_rfl) (by simp) ?_
        refine AllReadyH.cons (o := { dst := some 93, op := Go.Op.call { callee := Go.Callee.value (Go.Operand.func 18), args := #[Go.Operand.tmp 91, Go.Operand.tmp 92], argTypes := #[22, 22] }, type := 4, pos := "law.go:31", after := #[{ on := 35, ground := Go.Ground.data }, { on := 36, ground := Go.Ground.data }, { on := 34, ground := Go.Ground.chain }, { on := 34, ground := Go.Ground.guard }], guard := some (34, false) }) rfl (fun KQ hKQ => ?_) AllReadyH.nil
        go_simp
        refine (D4.out _ ?d_37).mono ?_
        case d_37 => exact q2
        rintro e y3 ⟨rfl, rfl⟩
        go_wp2_with fail
        refine hKQ.out _ _ ?s_37 (fun hHeld37 => ?_)
        case s_37 => exact q2
        clear hKQ KQ
        try simp only [Act.put, List.setIfInBounds_toArray, List.set_cons_zero, List.set_cons_succ]
        refine wpAnyH_take (i := 38) (oi := { dst := some 94, op := Go.Op.unOp Go.UnOp.not 4 (Go.Operand.tmp 93), type := 4, pos := "law.go:31", after := #[{ on := 37, ground := Go.Ground.data }, { on := 34, ground := Go.Ground.guard }], guard := some (34, false) }) (v := ?v_38) rfl (by kernel_rfl) (by kernel_rfl) (by kernel_rfl) (fun _ _ _ h => h) (Or.inl ⟨by rfl, ?y_38⟩) (by assumption) ?_
        case y_38 => (intro wq hSw; (try dsimp only at hSw); go_simp; first | done | with_reducible rfl)
        try simp only [Act.put, List.setIfInBounds_toArray, List.set_cons_zero, List.set_cons_succ]
        refine wpAnyH_take (i := 39) (oi := { dst := some 95, op := Go.Op.pick (Go.Operand.tmp 90) (Go.Operand.const (Go.Value.bool true)) (Go.Operand.tmp 94), type := 4, pos := "law.go:31", after := #[{ on := 34, ground := Go.Ground.data }, { on := 38, ground := Go.Ground.data }], guard := none }) (v := ?v_39) rfl (by kernel_rfl) (by kernel_rfl) (by kernel_rfl) (fun _ _ _ h => h) (Or.inl ⟨by rfl, ?y_39⟩) (by assumption) ?_
        case y_39 => (intro wq hSw; (try dsimp only at hSw); go_simp; first | done | with_reducible rfl)
        try simp only [Act.put, List.setIfInBounds_toArray, List.set_cons_zero, List.set_cons_succ]
        refine wpAnyH_done (by kernel_rfl) ?_ _
        go_wp2_with fail
        go_meet
        exact ⟨rfl, q2⟩
      case rest =>
        obtain ⟨rfl, hX5⟩ := hcut
        clear D1 D2 D3 D4 hv1 hv2 hv3 hv4 q0 hR4 hS4
        have P1 := hO1'.below hX5
        have P3 := hO3'.below hX5
        have P4 := hO4.below hX5
        have E1 := Lib.hid (spoil_any A1 n1 c1 _ wc _ P1)
        go_wp2_with fail
        refine E1.out.mono ?_
        rintro e z1 ⟨rfl, hG1⟩
        have P3' := own_kept P3 hG1 (fun k hk e => by have := (hO1.lt k e.symm).2; have := (P3.lt k hk).1; have := hX2.size; omega)
        have P4' := own_kept P4 hG1 (fun k hk e => by have := (hO1.lt k e.symm).2; have := (P4.lt k hk).1; have := hX2.size; have := hX3.size; omega)
        have F1 : Below wr.heap.size wc z1 := (Below.refl _ _).grown hG1 (by have := hX14.size; have := hX5.size; omega) (fun k hk => (P1.lt k hk).1)
        have E3 := Lib.hid (spoil_any A3 n3 c3 _ z1 _ P3')
        clear E1 hG1
        go_wp2_with fail
        refine E3.out.mono ?_
        rintro e z2 ⟨rfl, hG2⟩
        have P4'' := own_kept P4' hG2 (fun k hk e => by have := (hO3.lt k e.symm).2; have := (P4.lt k hk).1; omega)
        have F2 : Below wr.heap.size z1 z2 := (Below.refl _ _).grown hG2 (by have := hX14.size; have := hX5.size; have := F1.size; omega) (fun k hk => by have := (P3.lt k hk).1; have := hX12.size; omega)
        have E4 := Lib.hid (spoil_any A4 n4 c4 _ z2 _ P4'')
        clear E3 hG2
        go_wp2_with fail
        refine E4.out.mono ?_
        rintro e z3 ⟨rfl, hG3⟩
        have F3 : Below wr.heap.size z2 z3 := (Below.refl _ _).grown hG3 (by have := hX14.size; have := hX5.size; have := F1.size; have := F2.size; omega) (fun k hk => by have := (P4.lt k hk).1; have := hX12.size; have := hX3.size; omega)
        have FF := (hX14.trans (hX5.mono hX14.size)).trans (F1.trans (F2.trans F3))
        have hT9 := hT'.below FF hT'.lt
        have hU9 := hU'.below FF hU'.lt
        have hB9 := hB'.trans (FF.mono hB'.size)
        clear E4 hG3 P1 P3 P4 P3' P4' P4'' F1 F2 F3 FF
        go_wp2_with fail
        go_roundw
        case rel => exact ⟨j + 1, by omega, by go_num, hT9, hU9, hB9⟩
        case measure => simp [intOf]; omega
    · obtain rfl : j = 2 := by omega
      go_wp2_with fail
      go_ret
      exact ⟨rfl, hB'⟩

theorem walk_great (A : Option Addr) (n c : Nat) (S : Option Addr) (m cs : Nat) (v k : Int) (w : World) (h : 65536 < n ∨ 65536 < m) (hn : n ≤ 9223372036854775807) (hm : m ≤ 9223372036854775807) :
    Calls Try.prog 3 #[.slice A n c, .slice S m cs, .int .u64 v, .int .i64 k] w fun e w' => e = .returned (.bool true) ∧ Below w.heap.size w w' := by
  by_cases hn2 : 65536 < n
  · go_enter Try.func3, Try.ntmps3
    go_wp2_with fail
    refine (begun_any _).mono ?_
    rintro e w1 ⟨rfl, hB1⟩
    go_wp2_with fail
    go_ret
    exact ⟨rfl, hB1⟩
  · have hm2 : 65536 < m := by omega
    go_enter Try.func3, Try.ntmps3
    go_wp2_with fail
    refine (begun_any _).mono ?_
    rintro e w1 ⟨rfl, hB1⟩
    go_wp2_with fail
    go_ret
    exact ⟨rfl, hB1⟩

theorem walk (A : Option Addr) (n c : Nat) (l : List Int) (S : Option Addr) (m cs : Nat) (s : List Int) (v k : Int) (w : World) (hR : Rd w w.heap.size A n l) (hYl : Byt l) (hcn : n ≤ c) (hmn : c ≤ maxLen) (hS : Rd w w.heap.size S m s) (hYs : Byt s) (hcs : m ≤ cs) (hms : cs ≤ maxLen) (w2 : (Lit.int .u64 v).wf = true) (w3 : (Lit.int .i64 k).wf = true) :
    Calls Try.prog 3 #[.slice A n c, .slice S m cs, .int .u64 v, .int .i64 k] w fun e w' => e = .returned (.bool true) ∧ Below w.heap.size w w' := by
  have b0 : 0 ≤ v ∧ v ≤ 18446744073709551615 := by simpa [Lit.wf, IntKind.min, IntKind.max, IntKind.signed, IntKind.bits] using w2
  unfold maxLen at hmn hms
  by_cases h : 65536 < n ∨ 65536 < m
  · exact walk_great A n c S m cs v k w h (by omega) (by omega)
  · exact walk_small A n c l S m cs s v k w hR hS (by omega) (by omega) b0.1 b0.2
end Go.Proofs.Ytdadhpghdblgnaa.writes
