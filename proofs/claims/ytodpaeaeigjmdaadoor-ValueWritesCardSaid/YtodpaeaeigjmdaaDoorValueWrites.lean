/- Which values may be, and how they are written and shown (ValueWrites): true of every input. -/
import Derived.Test.YtodpaeaeigjmdaaDoorValLaw
import Derived.Test.YtodpaeaeigjmdaaDoorVaEq
import Derived.Test.YtodpaeaeigjmdaaDoorTwin
import Derived.Test.YtodpaeaeigjmdaaDoorRef7p
import Derived.Test.YtodpaeaeigjmdaaDoorRef7s
namespace Go.Proofs.YtodpaeaeigjmdaaDoor.law7w
open Go Go.RowKit Go.Proofs.YtodpaeaeigjmdaaDoor.kit Go.Proofs.YtodpaeaeigjmdaaDoor.nums Go.Proofs.YtodpaeaeigjmdaaDoor.st Go.Proofs.YtodpaeaeigjmdaaDoor.va Go.Proofs.YtodpaeaeigjmdaaDoor.ref7 Go.Proofs.YtodpaeaeigjmdaaDoor.bytes Go.Proofs.YtodpaeaeigjmdaaDoor.law7 Go.Proofs.YtodpaeaeigjmdaaDoor.libw
set_option linter.unusedVariables false

theorem text_later {l : List Int} {A : Option Addr} {n c base : Nat} {w : World} (hO : Own 5 w base (.slice A n c) l) (hn : l.length = n) :
    ∀ wx, Below w.heap.size w wx → (convert 22 9 (.slice A n c)).run Tryd.prog wx = .ok (.string (strOfNums l)) wx := fun wx hx =>
  run_string_rd wx 22 5 9 Tryd.underlying22 Tryd.underlying5 Tryd.underlying9 w.heap.size A _ c l (((own_rd hO hn).1).below hx)
/-- A call that hands back a new slice, its text known in every later world. -/
def PostL (T : ByteArray) (W : World) (e : Ending) (w' : World) : Prop :=
  ∃ A n c, e = .returned (.slice A n c) ∧ Below W.heap.size W w' ∧ Below w'.heap.size w' w' ∧ (∀ wx, Below w'.heap.size w' wx → (convert 22 9 (.slice A n c)).run Tryd.prog wx = .ok (.string T) wx)
theorem postL_of {W w' : World} {n : Nat} {l : List Int} {e : Ending} (h : RetL 5 W n l e w') : PostL (strOfNums l) W e w' := by
  obtain ⟨A, c, rfl, hl, hO, hB⟩ := h
  exact ⟨A, n, c, rfl, hB, Below.refl _ _, text_later hO hl⟩

theorem own_kept {l : List Int} {v : Value} {base : Nat} {w w' : World} {row : Option Nat} (h : Own 5 w base v l) (hG : w.grownBy w' row) (hne : ∀ k, v.ownBlock = some k → ¬ some k = row) : Own 5 w' base v l := by
  refine World.ownsRow.kept h hG ?_
  rcases e : v.ownBlock with _ | k
  · exact .inl rfl
  · exact .inr (hne k e)

set_option maxRecDepth 100000 in
set_option maxHeartbeats 4000000 in
theorem writes_walk (A : Option Addr) (n c : Nat) (l : List Int) (a : VaL) (w : World) (hR : Rd w w.heap.size A n l) (hY : Byt l) (hnc : n ≤ c) (hcm : c ≤ maxLen) (ha : a.ok ∧ (a.s.length : Int) ≤ 9223372036854775807) (hw : LibW w) :
    Calls Tryd.prog 3 #[.slice A n c, vaV a] w fun e w' => e = .returned (.bool true) ∧ Below w.heap.size w w' := by
  have hcm1 := hcm
  unfold maxLen at hcm1
  have BG := Lib.hid (fun wq (h : Below w.heap.size w wq) => begun_any wq (hw.on h))
  have LT := Lib.hid (fun w => light_any a ha.2 w)
  have M1 := Lib.hid (fun w => val.may_any a ha.1 ha.2 w)
  have M2 := Lib.hid (fun (h : a.s.length ≤ 1000) w => ref7.may_any a (by omega) w)
  have S1 := Lib.hid (fun (h : a.s.length ≤ 1000) wq (hW : Below w.heap.size w wq) => val.show_any a ha.1 (by omega) wq (hw.on hW))
  have S2 := Lib.hid (fun (h : a.s.length ≤ 1000) w => ref7.show_any a ha.1 (by omega) w)
  have K := Lib.hid (fun (h : a.s.length ≤ 1000) (A : Option Addr) (c : Nat) (hb : n ≤ 1024) (w : World) (hR : Rd w w.heap.size A n l) (hc : n ≤ c) (hm : c ≤ maxLen) => val.key_any A n c l a w hR hc hm (by omega) (by omega) ha.1)
  have P := Lib.hid (fun (h : a.s.length ≤ 1000) (A : Option Addr) (c : Nat) (hb : n ≤ 1024) (w : World) (hR : Rd w w.heap.size A n l) (hc : n ≤ c) (hm : c ≤ maxLen) => val.plain_any A n c l a w hR hc hm (by omega) (by omega) ha.1)
  have D1 := Lib.hid (fun (h : a.s.length ≤ 1000) (hb : n ≤ 1024) (w : World) (hR : Rd w w.heap.size A n l) => (ref7.key_any A n c l a w hR (by omega) (by omega) ha.1).mono fun _ _ h => postL_of h)
  have D2 := Lib.hid (fun (h : a.s.length ≤ 1000) (hb : n ≤ 1024) (w : World) (hR : Rd w w.heap.size A n l) => (ref7.plain_any A n c l a w hR (by omega) (by omega) ha.1).mono fun _ _ h => postL_of h)
  obtain ⟨hka, hkl⟩ := keyF_byt a ha.1
  obtain ⟨hpa, hpl⟩ := plainF_byt a ha.1
  clear ha hka hpa hw
  generalize keyF a = X at *
  generalize plainF a = Z at *
  generalize showF a = sh at *
  generalize decide (mayP a) = ma at *
  obtain ⟨nx, hnx⟩ : ∃ nx, n + X.length = nx := ⟨_, rfl⟩
  obtain ⟨nz, hnz⟩ : ∃ nz, n + Z.length = nz := ⟨_, rfl⟩
  rw [hnx] at K
  rw [hnz] at P
  generalize l ++ X = X2 at *
  generalize l ++ Z = Z2 at *
  clear hkl hpl hnx hnz
  clear X Z
  obtain ⟨k, nn, s⟩ := a
  unfold vaV at *
  dsimp only at LT M1 M2 S1 S2 K P D1 D2 ⊢
  generalize strOfNums s = T at *
  generalize strOfNums sh = TS at *
  have hB0 : Hid (Below w.heap.size w (w.alloc (.cells #[.int .i64 k, .int .i64 nn, .string T] 24))) := (Below.refl _ _).alloc (Nat.le_refl _) _
  have k0 : Blk 24 (w.alloc (.cells #[.int .i64 k, .int .i64 nn, .string T] 24)) w.heap.size [.int .i64 k, .int .i64 nn, .string T] := heap_alloc_new w _
  have HR1 := Lib.hid (hR.on hB0.out hB0.out.size)
  go_enter Tryd.func3, Tryd.ntmps3
  go_upto_region 1 with (fail)
  generalize (w.alloc (.cells #[.int .i64 k, .int .i64 nn, .string T] 24)) = w1 at *
  go_wp2_with fail
  refine (BG.out _ hB0.out).mono ?_
  rintro e w2 ⟨rfl, hB2⟩
  have k2 := k0.below hB2 k0.lt
  obtain ⟨a0, a1, a2⟩ := box_cells k2 (Below.refl _ _)
  by_cases h1 : 1024 < n
  · go_wp2_with fail
    go_ret
    exact ⟨rfl, hB0.out.trans (hB2.mono hB0.out.size)⟩
  have hn : n ≤ 1024 := by omega
  go_wp2_with fail
  refine (LT.out _).mono ?_
  rintro e w3 ⟨rfl, hB3⟩
  have hB13 := hB2.trans (hB3.mono hB2.size)
  rcases Nat.lt_or_ge 1000 s.length with hs | hs
  · rw [decide_eq_false (show ¬ s.length ≤ 1000 by omega)]
    go_wp2_with fail
    go_ret
    exact ⟨rfl, hB0.out.trans (hB13.mono hB0.out.size)⟩
  rw [decide_eq_true hs]
  have k3 := k0.below hB13 k0.lt
  have hR3 := HR1.out.on hB13 hB13.size
  have TW := Lib.hid (twin_any A n c l w3 hR3 (by omega))
  clear a0 a1 a2 k2 hB2 hB3 LT BG
  go_wp2_with fail
  refine TW.out.mono ?_
  rintro e w4 ⟨rfl, hT, hB4⟩
  have hB14 := hB13.trans (hB4.mono hB13.size)
  have k4 := k3.below hB4 k3.lt
  obtain ⟨g, hg⟩ : ∃ g, w3.heap.size = g := ⟨_, rfl⟩
  rw [hg] at hT ⊢
  have hgl : w1.heap.size ≤ g := by rw [← hg]; exact hB13.size
  clear hB13 k3 hR3 hB4 TW hg
  go_wp2_with fail
  go_loopw [6] (fun iv wr => ∃ j : Nat, j ≤ 2 ∧ iv = .int .i64 j ∧ IsTwin wr g l ∧ Blk 24 wr w.heap.size [.int .i64 k, .int .i64 nn, .string T] ∧ Below w1.heap.size w1 wr) (fun iv _ => 2 - (intOf iv).toNat)
  case atStart => exact ⟨0, by omega, rfl, hT, k4, hB14⟩
  case round =>
    obtain ⟨j, hj, rfl, hTr, kr, hBr⟩ := hrel
    by_cases hlt : j < 2
    · have K1 := Lib.hid (fun w h => K.out hs (some ⟨g, 0, none⟩) (n + 3) hn w h (by omega) (by unfold maxLen; omega))
      have P1 := Lib.hid (fun w h => P.out hs (some ⟨g, 0, none⟩) (n + 3) hn w h (by omega) (by unfold maxLen; omega))
      have hTd : IsTwin wr.drew g l := hTr.drew
      have hln := hR.len
      have hSr : Hid (∀ wq, Below wr.drew.heap.size wr.drew wq → wq.cell? ⟨w.heap.size, 0, none⟩ = some (.int .i64 k) ∧ wq.cell? ⟨w.heap.size, 1, none⟩ = some (.int .i64 nn) ∧ wq.cell? ⟨w.heap.size, 2, none⟩ = some (.string T)) := fun wq hq => box_cells kr.drew hq
      go_upto_region 9 with (fail)
      refine wp_region_held_drew (S := fun wq => wq.cell? ⟨w.heap.size, 0, none⟩ = some (.int .i64 k) ∧ wq.cell? ⟨w.heap.size, 1, none⟩ = some (.int .i64 nn) ∧ wq.cell? ⟨w.heap.size, 2, none⟩ = some (.string T)) (by kernel_rfl) ?s_0 (fun hHeld => ?_)
      case s_0 => exact hSr.out _ (Below.refl _ _)
      refine wpAnyH_take (i := 0) (oi := { dst := some 25, op := Go.Op.move (Go.Operand.tmp 5), type := 22, pos := "law.go:30", after := #[], guard := none }) (v := ?v_0_1) rfl (by kernel_rfl) (by kernel_rfl) (by kernel_rfl) (fun _ _ _ h => h) (Or.inl ⟨by rfl, ?y_0_1⟩) (by assumption) ?_
      case y_0_1 => (intro wq hSw; (try dsimp only at hSw); go_simp; first | done | with_reducible rfl)
      try simp only [Act.put, List.setIfInBounds_toArray, List.set_cons_zero, List.set_cons_succ]
      refine wpAnyH_take (i := 1) (oi := { dst := some 26, op := Go.Op.load 24 (Go.Operand.tmp 3), type := 24, pos := "law.go:30", after := #[], guard := none }) (v := ?v_1_1) rfl (by kernel_rfl) (by kernel_rfl) (by kernel_rfl) (fun _ _ _ h => h) (Or.inl ⟨by rfl, ?y_1_1⟩) (by assumption) ?_
      case y_1_1 => (intro wq hSw; (try dsimp only at hSw); go_simp; first | done | with_reducible rfl)
      try simp only [Act.put, List.setIfInBounds_toArray, List.set_cons_zero, List.set_cons_succ]
      refine wpAnyH_take (i := 3) (oi := { dst := some 28, op := Go.Op.move (Go.Operand.tmp 5), type := 22, pos := "law.go:30", after := #[], guard := none }) (v := ?v_3_1) rfl (by kernel_rfl) (by kernel_rfl) (by kernel_rfl) (fun _ _ _ h => h) (Or.inl ⟨by rfl, ?y_3_1⟩) (by assumption) ?_
      case y_3_1 => (intro wq hSw; (try dsimp only at hSw); go_simp; first | done | with_reducible rfl)
      try simp only [Act.put, List.setIfInBounds_toArray, List.set_cons_zero, List.set_cons_succ]
      refine wpAnyH_take (i := 4) (oi := { dst := some 29, op := Go.Op.load 24 (Go.Operand.tmp 3), type := 24, pos := "law.go:30", after := #[], guard := none }) (v := ?v_4_1) rfl (by kernel_rfl) (by kernel_rfl) (by kernel_rfl) (fun _ _ _ h => h) (Or.inl ⟨by rfl, ?y_4_1⟩) (by assumption) ?_
      case y_4_1 => (intro wq hSw; (try dsimp only at hSw); go_simp; first | done | with_reducible rfl)
      try simp only [Act.put, List.setIfInBounds_toArray, List.set_cons_zero, List.set_cons_succ]
      refine wpAnyH_ready (rs := [2]) (by kernel_rfl) (by simp) ?_
      refine AllReadyH.cons (o := { dst := some 27, op := Go.Op.call { callee := Go.Callee.value (Go.Operand.func 11), args := #[Go.Operand.tmp 25, Go.Operand.tmp 26], argTypes := #[22, 24] }, type := 22, pos := "law.go:30", after := #[{ on := 0, ground := Go.Ground.data }, { on := 1, ground := Go.Ground.data }], guard := none }) rfl (fun KQ hKQ => ?_) AllReadyH.nil
      go_simp
      refine (K1.out _ (hTd.rd hln hTd.lt)).mono ?_
      rintro e y1 ⟨A1, c1, rfl, hl1, hO1, hY1⟩
      have q1 := hSr.out _ hY1
      go_wp2_with fail
      refine hKQ.out _ _ ?s_2 (fun hHeld2 => ?_)
      case s_2 => exact q1
      clear hKQ KQ
      try simp only [Act.put, List.setIfInBounds_toArray, List.set_cons_zero, List.set_cons_succ]
      refine wpAnyH_ready (rs := [5]) (by kernel_rfl) (by simp) ?_
      refine AllReadyH.cons (o := { dst := some 30, op := Go.Op.call { callee := Go.Callee.value (Go.Operand.func 12), args := #[Go.Operand.tmp 28, Go.Operand.tmp 29], argTypes := #[22, 24] }, type := 22, pos := "law.go:30", after := #[{ on := 3, ground := Go.Ground.data }, { on := 4, ground := Go.Ground.data }, { on := 2, ground := Go.Ground.chain }], guard := none }) rfl (fun KQ hKQ => ?_) AllReadyH.nil
      go_simp
      refine (P1.out _ ((hTd.below hY1 hTd.lt).rd hln (hTd.below hY1 hTd.lt).lt)).mono ?_
      rintro e y2 ⟨A2, c2, rfl, hl2, hO2, hY2⟩
      have hY12 := hY1.trans (hY2.mono hY1.size)
      have q2 := hSr.out _ hY12
      go_wp2_with fail
      refine hKQ.out _ _ ?s_5 (fun hHeld5 => ?_)
      case s_5 => exact q2
      clear hKQ KQ
      try simp only [Act.put, List.setIfInBounds_toArray, List.set_cons_zero, List.set_cons_succ]
      refine wpAnyH_take (i := 6) (oi := { dst := some 7, op := Go.Op.assign (Go.Operand.tmp 27), type := 22, pos := "law.go:30", after := #[{ on := 2, ground := Go.Ground.data }, { on := 5, ground := Go.Ground.chain }, { on := 0, ground := Go.Ground.phase }, { on := 1, ground := Go.Ground.phase }, { on := 2, ground := Go.Ground.phase }, { on := 3, ground := Go.Ground.textOnly Go.Departure.lateStores }, { on := 4, ground := Go.Ground.textOnly Go.Departure.lateStores }, { on := 5, ground := Go.Ground.textOnly Go.Departure.lateStoresUnsure }], guard := none }) (v := ?v_6_1) rfl (by kernel_rfl) (by kernel_rfl) (by kernel_rfl) (fun _ _ _ h => h) (Or.inl ⟨by rfl, ?y_6_1⟩) (by assumption) ?_
      case y_6_1 => (intro wq hSw; (try dsimp only at hSw); go_simp; first | done | with_reducible rfl)
      try simp only [Act.put, List.setIfInBounds_toArray, List.set_cons_zero, List.set_cons_succ]
      refine wpAnyH_take (i := 7) (oi := { dst := some 8, op := Go.Op.assign (Go.Operand.tmp 30), type := 22, pos := "law.go:30", after := #[{ on := 5, ground := Go.Ground.data }, { on := 6, ground := Go.Ground.chain }, { on := 0, ground := Go.Ground.phase }, { on := 1, ground := Go.Ground.phase }, { on := 2, ground := Go.Ground.phase }, { on := 3, ground := Go.Ground.phase }, { on := 4, ground := Go.Ground.phase }, { on := 5, ground := Go.Ground.phase }, { on := 6, ground := Go.Ground.phase }], guard := none }) (v := ?v_7_1) rfl (by kernel_rfl) (by kernel_rfl) (by kernel_rfl) (fun _ _ _ h => h) (Or.inl ⟨by rfl, ?y_7_1⟩) (by assumption) ?_
      case y_7_1 => (intro wq hSw; (try dsimp only at hSw); go_simp; first | done | with_reducible rfl)
      try simp only [Act.put, List.setIfInBounds_toArray, List.set_cons_zero, List.set_cons_succ]
      refine wpAnyH_done (by kernel_rfl) ?_ _
      have hBy : Below w1.heap.size w1 y2 := hBr.trans ((Below.refl _ _).drew.mono hBr.size |>.trans (hY12.mono hBr.size))
      have hTy : IsTwin y2 g l := hTd.below hY12 hTd.lt
      have ky : Blk 24 y2 w.heap.size [.int .i64 k, .int .i64 nn, .string T] := kr.drew.below hY12 kr.lt
      have hO1' : Own 5 y2 wr.heap.size (.slice A1 nx c1) X2 := hO1.below hY2
      have hx1lt : ∀ q, (Value.slice A1 nx c1).ownBlock = some q → q < y1.heap.size := fun q hq => (hO1.lt q hq).2
      have hv1 := text_later hO1' hl1
      have hv2 := text_later hO2 hl2
      have hy01 : wr.heap.size ≤ y1.heap.size := hY1.size
      have hy12 : y1.heap.size ≤ y2.heap.size := hY2.size
      have hgr : g < wr.heap.size := hTr.lt
      have hvr : w.heap.size < wr.heap.size := kr.lt
      clear hHeld q1 q2 hSr K1 P1 hTd hY1 hY2 hY12 hO1 hTr kr
      have hRy : ∀ W, Below y2.heap.size y2 W → Rd W W.heap.size A n l := fun W hW => by
        have h1 := hB0.out.trans ((hBy.trans (hW.mono hBy.size)).mono hB0.out.size)
        exact hR.on h1 h1.size
      have D1' := Lib.hid (fun W (hW : Below y2.heap.size y2 W) => D1.out hs hn W (hRy W hW))
      have D2' := Lib.hid (fun W (hW : Below y2.heap.size y2 W) => D2.out hs hn W (hRy W hW))
      have D3' := Lib.hid (fun W (hW : Below y2.heap.size y2 W) => kept_any g A n c l W W.heap.size (hTy.below hW hTy.lt) (hRy W hW) (by omega))
      have M2' := Lib.hid (fun w => M2.out hs w)
      have S1' := Lib.hid (fun wq (hW : Below y2.heap.size y2 wq) => S1.out hs wq (hB0.out.trans ((hBy.trans (hW.mono hBy.size)).mono hB0.out.size)))
      have S2' := Lib.hid (fun w => S2.out hs w)
      generalize strOfNums X2 = TX at *
      generalize strOfNums Z2 = TZ at *
      have hS2 : Hid (∀ wq, Below y2.heap.size y2 wq → (wq.cell? ⟨w.heap.size, 0, none⟩ = some (.int .i64 k) ∧ wq.cell? ⟨w.heap.size, 1, none⟩ = some (.int .i64 nn) ∧ wq.cell? ⟨w.heap.size, 2, none⟩ = some (.string T)) ∧ (convert 22 9 (.slice A1 nx c1)).run Tryd.prog wq = .ok (.string TX) wq ∧ (convert 22 9 (.slice A2 nz c2)).run Tryd.prog wq = .ok (.string TZ) wq) := fun wq hq => ⟨box_cells ky hq, hv1 wq hq, hv2 wq hq⟩
      have p0 : Below y2.heap.size y2 y2.drew := (Below.refl _ _).drew
      clear hv1 hv2 hRy
      go_upto_region 10 with (fail)
      go_cut [66] from 200 (fun b wx => b = .bool false ∧ Below y2.heap.size y2 wx)
      case first =>
        refine wp_region_held_drew (S := fun wq => (wq.cell? ⟨w.heap.size, 0, none⟩ = some (.int .i64 k) ∧ wq.cell? ⟨w.heap.size, 1, none⟩ = some (.int .i64 nn) ∧ wq.cell? ⟨w.heap.size, 2, none⟩ = some (.string T)) ∧ (convert 22 9 (.slice A1 nx c1)).run Tryd.prog wq = .ok (.string TX) wq ∧ (convert 22 9 (.slice A2 nz c2)).run Tryd.prog wq = .ok (.string TZ) wq) (by kernel_rfl) ?s_0 (fun hHeld => ?_)
        case s_0 => exact hS2.out _ p0
        refine wpAnyH_take (i := 0) (oi := { dst := some 31, op := Go.Op.move (Go.Operand.tmp 7), type := 22, pos := "law.go:31", after := #[], guard := none }) (v := ?v_0_2) rfl (by kernel_rfl) (by kernel_rfl) (by kernel_rfl) (fun _ _ _ h => h) (Or.inl ⟨by rfl, ?y_0_2⟩) (by assumption) ?_
        case y_0_2 => (intro wq hSw; (try dsimp only at hSw); go_simp; first | done | with_reducible rfl)
        try simp only [Act.put, List.setIfInBounds_toArray, List.set_cons_zero, List.set_cons_succ]
        refine wpAnyH_take (i := 1) (oi := { dst := some 32, op := Go.Op.convert 22 9 (Go.Operand.tmp 31), type := 9, pos := "law.go:31", after := #[{ on := 0, ground := Go.Ground.data }], guard := none }) (v := ?v_1_2) rfl (by kernel_rfl) (by kernel_rfl) (by kernel_rfl) (fun _ _ _ h => h) (Or.inl ⟨by rfl, ?y_1_2⟩) (by assumption) ?_
        case y_1_2 => (intro wq hSw; (try dsimp only at hSw); go_simp; first | done | with_reducible rfl)
        try simp only [Act.put, List.setIfInBounds_toArray, List.set_cons_zero, List.set_cons_succ]
        refine wpAnyH_take (i := 2) (oi := { dst := some 33, op := Go.Op.move (Go.Operand.tmp 0), type := 22, pos := "law.go:31", after := #[], guard := none }) (v := ?v_2_2) rfl (by kernel_rfl) (by kernel_rfl) (by kernel_rfl) (fun _ _ _ h => h) (Or.inl ⟨by rfl, ?y_2_2⟩) (by assumption) ?_
        case y_2_2 => (intro wq hSw; (try dsimp only at hSw); go_simp; first | done | with_reducible rfl)
        try simp only [Act.put, List.setIfInBounds_toArray, List.set_cons_zero, List.set_cons_succ]
        refine wpAnyH_take (i := 3) (oi := { dst := some 34, op := Go.Op.load 24 (Go.Operand.tmp 3), type := 24, pos := "law.go:31", after := #[], guard := none }) (v := ?v_3_2) rfl (by kernel_rfl) (by kernel_rfl) (by kernel_rfl) (fun _ _ _ h => h) (Or.inl ⟨by rfl, ?y_3_2⟩) (by assumption) ?_
        case y_3_2 => (intro wq hSw; (try dsimp only at hSw); go_simp; first | done | with_reducible rfl)
        try simp only [Act.put, List.setIfInBounds_toArray, List.set_cons_zero, List.set_cons_succ]
        refine wpAnyH_ready (rs := [4]) (by kernel_rfl) (by simp) ?_
        refine AllReadyH.cons (o := { dst := some 35, op := Go.Op.call { callee := Go.Callee.value (Go.Operand.func 13), args := #[Go.Operand.tmp 33, Go.Operand.tmp 34], argTypes := #[22, 24] }, type := 22, pos := "law.go:31", after := #[{ on := 2, ground := Go.Ground.data }, { on := 3, ground := Go.Ground.data }], guard := none }) rfl (fun KQ hKQ => ?_) AllReadyH.nil
        go_simp
        refine (D1'.out _ ?d_4).mono ?_
        case d_4 => exact p0
        rintro e z1 ⟨B1, b1, d1, rfl, hZ1, hr1, hz1⟩
        have p1 := p0.trans (hZ1.mono p0.size)
        have hz1' := hz1 _ hr1
        go_wp2_with fail
        refine hKQ.out _ _ ?s_4 (fun hHeld4 => ?_)
        case s_4 => exact hS2.out _ p1
        clear hKQ KQ
        try simp only [Act.put, List.setIfInBounds_toArray, List.set_cons_zero, List.set_cons_succ]
        refine wpAnyH_ready (rs := [5]) (by kernel_rfl) (by simp) ?_
        refine AllReadyH.cons (o := { dst := some 36, op := Go.Op.convert 22 9 (Go.Operand.tmp 35), type := 9, pos := "law.go:31", after := #[{ on := 4, ground := Go.Ground.data }], guard := none }) rfl (fun KQ hKQ => ?_) AllReadyH.nil
        go_simp
        refine hKQ.out _ _ ?s_5 (fun hHeld5 => ?_)
        case s_5 => exact hS2.out _ p1
        clear hKQ KQ
        try simp only [Act.put, List.setIfInBounds_toArray, List.set_cons_zero, List.set_cons_succ]
        refine wpAnyH_take (i := 6) (oi := { dst := some 37, op := Go.Op.binOp Go.BinOp.neq 9 (Go.Operand.tmp 32) (Go.Operand.tmp 36) 9, type := 4, pos := "law.go:31", after := #[{ on := 1, ground := Go.Ground.data }, { on := 5, ground := Go.Ground.data }], guard := none }) (v := ?v_6_2) rfl (by kernel_rfl) (by kernel_rfl) (by kernel_rfl) (fun _ _ _ h => h) (Or.inl ⟨by rfl, ?y_6_2⟩) (by assumption) ?_
        case y_6_2 => (intro wq hSw; (try dsimp only at hSw); go_simp; first | done | with_reducible rfl)
        try simp only [Act.put, List.setIfInBounds_toArray, List.set_cons_zero, List.set_cons_succ]
        refine wpAnyH_take (i := 7) (oi := { dst := some 38, op := Go.Op.move (Go.Operand.tmp 37), type := 4, pos := "law.go:31", after := #[{ on := 6, ground := Go.Ground.data }, { on := 4, ground := Go.Ground.chain }], guard := none }) (v := ?v_7_2) rfl (by kernel_rfl) (by kernel_rfl) (by kernel_rfl) (fun _ _ _ h => h) (Or.inl ⟨by rfl, ?y_7_2⟩) (by assumption) ?_
        case y_7_2 => (intro wq hSw; (try dsimp only at hSw); go_simp; first | done | with_reducible rfl)
        try simp only [Act.put, List.setIfInBounds_toArray, List.set_cons_zero, List.set_cons_succ]
        refine wpAnyH_take (i := 8) (oi := { dst := some 39, op := Go.Op.move (Go.Operand.tmp 8), type := 22, pos := "law.go:31", after := #[{ on := 7, ground := Go.Ground.guard }], guard := some (7, false) }) (v := ?v_8_2) rfl (by kernel_rfl) (by kernel_rfl) (by kernel_rfl) (fun _ _ _ h => h) (Or.inl ⟨by rfl, ?y_8_2⟩) (by assumption) ?_
        case y_8_2 => (intro wq hSw; (try dsimp only at hSw); go_simp; first | done | with_reducible rfl)
        try simp only [Act.put, List.setIfInBounds_toArray, List.set_cons_zero, List.set_cons_succ]
        refine wpAnyH_take (i := 9) (oi := { dst := some 40, op := Go.Op.convert 22 9 (Go.Operand.tmp 39), type := 9, pos := "law.go:31", after := #[{ on := 8, ground := Go.Ground.data }, { on := 7, ground := Go.Ground.guard }], guard := some (7, false) }) (v := ?v_9_2) rfl (by kernel_rfl) (by kernel_rfl) (by kernel_rfl) (fun _ _ _ h => h) (Or.inl ⟨by rfl, ?y_9_2⟩) (by assumption) ?_
        case y_9_2 => (intro wq hSw; (try dsimp only at hSw); go_simp; first | done | with_reducible rfl)
        try simp only [Act.put, List.setIfInBounds_toArray, List.set_cons_zero, List.set_cons_succ]
        refine wpAnyH_take (i := 10) (oi := { dst := some 41, op := Go.Op.move (Go.Operand.tmp 0), type := 22, pos := "law.go:31", after := #[{ on := 7, ground := Go.Ground.guard }], guard := some (7, false) }) (v := ?v_10_2) rfl (by kernel_rfl) (by kernel_rfl) (by kernel_rfl) (fun _ _ _ h => h) (Or.inl ⟨by rfl, ?y_10_2⟩) (by assumption) ?_
        case y_10_2 => (intro wq hSw; (try dsimp only at hSw); go_simp; first | done | with_reducible rfl)
        try simp only [Act.put, List.setIfInBounds_toArray, List.set_cons_zero, List.set_cons_succ]
        refine wpAnyH_take (i := 11) (oi := { dst := some 42, op := Go.Op.load 24 (Go.Operand.tmp 3), type := 24, pos := "law.go:31", after := #[{ on := 7, ground := Go.Ground.guard }], guard := some (7, false) }) (v := ?v_11_2) rfl (by kernel_rfl) (by kernel_rfl) (by kernel_rfl) (fun _ _ _ h => h) (Or.inl ⟨by rfl, ?y_11_2⟩) (by assumption) ?_
        case y_11_2 => (intro wq hSw; (try dsimp only at hSw); go_simp; first | done | with_reducible rfl)
        try simp only [Act.put, List.setIfInBounds_toArray, List.set_cons_zero, List.set_cons_succ]
        refine wpAnyH_ready (rs := [12]) (by kernel_rfl) (by simp) ?_
        refine AllReadyH.cons (o := { dst := some 43, op := Go.Op.call { callee := Go.Callee.value (Go.Operand.func 14), args := #[Go.Operand.tmp 41, Go.Operand.tmp 42], argTypes := #[22, 24] }, type := 22, pos := "law.go:31", after := #[{ on := 10, ground := Go.Ground.data }, { on := 11, ground := Go.Ground.data }, { on := 7, ground := Go.Ground.chain }, { on := 7, ground := Go.Ground.guard }], guard := some (7, false) }) rfl (fun KQ hKQ => ?_) AllReadyH.nil
        go_simp
        refine (D2'.out _ ?d_12).mono ?_
        case d_12 => exact p1
        rintro e z2 ⟨B2, b2, d2, rfl, hZ2, hr2, hz2⟩
        have p2 := p1.trans (hZ2.mono p1.size)
        have hz2' := hz2 _ hr2
        go_wp2_with fail
        refine hKQ.out _ _ ?s_12 (fun hHeld12 => ?_)
        case s_12 => exact hS2.out _ p2
        clear hKQ KQ
        try simp only [Act.put, List.setIfInBounds_toArray, List.set_cons_zero, List.set_cons_succ]
        refine wpAnyH_ready (rs := [13]) (by kernel_rfl) (by simp) ?_
        refine AllReadyH.cons (o := { dst := some 44, op := Go.Op.convert 22 9 (Go.Operand.tmp 43), type := 9, pos := "law.go:31", after := #[{ on := 12, ground := Go.Ground.data }, { on := 7, ground := Go.Ground.guard }], guard := some (7, false) }) rfl (fun KQ hKQ => ?_) AllReadyH.nil
        go_simp
        refine hKQ.out _ _ ?s_13 (fun hHeld13 => ?_)
        case s_13 => exact hS2.out _ p2
        clear hKQ KQ
        try simp only [Act.put, List.setIfInBounds_toArray, List.set_cons_zero, List.set_cons_succ]
        refine wpAnyH_take (i := 14) (oi := { dst := some 45, op := Go.Op.binOp Go.BinOp.neq 9 (Go.Operand.tmp 40) (Go.Operand.tmp 44) 9, type := 4, pos := "law.go:31", after := #[{ on := 9, ground := Go.Ground.data }, { on := 13, ground := Go.Ground.data }, { on := 7, ground := Go.Ground.guard }], guard := some (7, false) }) (v := ?v_14_2) rfl (by kernel_rfl) (by kernel_rfl) (by kernel_rfl) (fun _ _ _ h => h) (Or.inl ⟨by rfl, ?y_14_2⟩) (by assumption) ?_
        case y_14_2 => (intro wq hSw; (try dsimp only at hSw); go_simp; first | done | with_reducible rfl)
        try simp only [Act.put, List.setIfInBounds_toArray, List.set_cons_zero, List.set_cons_succ]
        refine wpAnyH_take (i := 15) (oi := { dst := some 46, op := Go.Op.pick (Go.Operand.tmp 38) (Go.Operand.const (Go.Value.bool true)) (Go.Operand.tmp 45), type := 4, pos := "law.go:31", after := #[{ on := 7, ground := Go.Ground.data }, { on := 14, ground := Go.Ground.data }], guard := none }) (v := ?v_15_2) rfl (by kernel_rfl) (by kernel_rfl) (by kernel_rfl) (fun _ _ _ h => h) (Or.inl ⟨by rfl, ?y_15_2⟩) (by assumption) ?_
        case y_15_2 => (intro wq hSw; (try dsimp only at hSw); go_simp; first | done | with_reducible rfl)
        try simp only [Act.put, List.setIfInBounds_toArray, List.set_cons_zero, List.set_cons_succ]
        refine wpAnyH_take (i := 16) (oi := { dst := some 47, op := Go.Op.move (Go.Operand.tmp 46), type := 4, pos := "law.go:31", after := #[{ on := 15, ground := Go.Ground.data }, { on := 12, ground := Go.Ground.chain }], guard := none }) (v := ?v_16_2) rfl (by kernel_rfl) (by kernel_rfl) (by kernel_rfl) (fun _ _ _ h => h) (Or.inl ⟨by rfl, ?y_16_2⟩) (by assumption) ?_
        case y_16_2 => (intro wq hSw; (try dsimp only at hSw); go_simp; first | done | with_reducible rfl)
        try simp only [Act.put, List.setIfInBounds_toArray, List.set_cons_zero, List.set_cons_succ]
        refine wpAnyH_take (i := 17) (oi := { dst := some 48, op := Go.Op.move (Go.Operand.tmp 5), type := 22, pos := "law.go:31", after := #[{ on := 16, ground := Go.Ground.guard }], guard := some (16, false) }) (v := ?v_17_2) rfl (by kernel_rfl) (by kernel_rfl) (by kernel_rfl) (fun _ _ _ h => h) (Or.inl ⟨by rfl, ?y_17_2⟩) (by assumption) ?_
        case y_17_2 => (intro wq hSw; (try dsimp only at hSw); go_simp; first | done | with_reducible rfl)
        try simp only [Act.put, List.setIfInBounds_toArray, List.set_cons_zero, List.set_cons_succ]
        refine wpAnyH_take (i := 18) (oi := { dst := some 49, op := Go.Op.move (Go.Operand.tmp 0), type := 22, pos := "law.go:31", after := #[{ on := 16, ground := Go.Ground.guard }], guard := some (16, false) }) (v := ?v_18_2) rfl (by kernel_rfl) (by kernel_rfl) (by kernel_rfl) (fun _ _ _ h => h) (Or.inl ⟨by rfl, ?y_18_2⟩) (by assumption) ?_
        case y_18_2 => (intro wq hSw; (try dsimp only at hSw); go_simp; first | done | with_reducible rfl)
        try simp only [Act.put, List.setIfInBounds_toArray, List.set_cons_zero, List.set_cons_succ]
        refine wpAnyH_ready (rs := [19]) (by kernel_rfl) (by simp) ?_
        refine AllReadyH.cons (o := { dst := some 50, op := Go.Op.call { callee := Go.Callee.value (Go.Operand.func 15), args := #[Go.Operand.tmp 48, Go.Operand.tmp 49], argTypes := #[22, 22] }, type := 4, pos := "law.go:31", after := #[{ on := 17, ground := Go.Ground.data }, { on := 18, ground := Go.Ground.data }, { on := 16, ground := Go.Ground.chain }, { on := 16, ground := Go.Ground.guard }], guard := some (16, false) }) rfl (fun KQ hKQ => ?_) AllReadyH.nil
        go_simp
        refine (D3'.out _ ?d_19).mono ?_
        case d_19 => exact p2
        rintro e z3 ⟨rfl, rfl⟩
        go_wp2_with fail
        refine hKQ.out _ _ ?s_19 (fun hHeld19 => ?_)
        case s_19 => exact hS2.out _ p2
        clear hKQ KQ
        try simp only [Act.put, List.setIfInBounds_toArray, List.set_cons_zero, List.set_cons_succ]
        refine wpAnyH_take (i := 20) (oi := { dst := some 51, op := Go.Op.unOp Go.UnOp.not 4 (Go.Operand.tmp 50), type := 4, pos := "law.go:31", after := #[{ on := 19, ground := Go.Ground.data }, { on := 16, ground := Go.Ground.guard }], guard := some (16, false) }) (v := ?v_20_2) rfl (by kernel_rfl) (by kernel_rfl) (by kernel_rfl) (fun _ _ _ h => h) (Or.inl ⟨by rfl, ?y_20_2⟩) (by assumption) ?_
        case y_20_2 => (intro wq hSw; (try dsimp only at hSw); go_simp; first | done | with_reducible rfl)
        try simp only [Act.put, List.setIfInBounds_toArray, List.set_cons_zero, List.set_cons_succ]
        refine wpAnyH_take (i := 21) (oi := { dst := some 52, op := Go.Op.pick (Go.Operand.tmp 47) (Go.Operand.const (Go.Value.bool true)) (Go.Operand.tmp 51), type := 4, pos := "law.go:31", after := #[{ on := 16, ground := Go.Ground.data }, { on := 20, ground := Go.Ground.data }], guard := none }) (v := ?v_21_2) rfl (by kernel_rfl) (by kernel_rfl) (by kernel_rfl) (fun _ _ _ h => h) (Or.inl ⟨by rfl, ?y_21_2⟩) (by assumption) ?_
        case y_21_2 => (intro wq hSw; (try dsimp only at hSw); go_simp; first | done | with_reducible rfl)
        try simp only [Act.put, List.setIfInBounds_toArray, List.set_cons_zero, List.set_cons_succ]
        refine wpAnyH_take (i := 22) (oi := { dst := some 53, op := Go.Op.move (Go.Operand.tmp 52), type := 4, pos := "law.go:31", after := #[{ on := 21, ground := Go.Ground.data }, { on := 19, ground := Go.Ground.chain }], guard := none }) (v := ?v_22_2) rfl (by kernel_rfl) (by kernel_rfl) (by kernel_rfl) (fun _ _ _ h => h) (Or.inl ⟨by rfl, ?y_22_2⟩) (by assumption) ?_
        case y_22_2 => (intro wq hSw; (try dsimp only at hSw); go_simp; first | done | with_reducible rfl)
        try simp only [Act.put, List.setIfInBounds_toArray, List.set_cons_zero, List.set_cons_succ]
        refine wpAnyH_take (i := 23) (oi := { dst := some 54, op := Go.Op.load 24 (Go.Operand.tmp 3), type := 24, pos := "law.go:31", after := #[{ on := 22, ground := Go.Ground.guard }], guard := some (22, false) }) (v := ?v_23_2) rfl (by kernel_rfl) (by kernel_rfl) (by kernel_rfl) (fun _ _ _ h => h) (Or.inl ⟨by rfl, ?y_23_2⟩) (by assumption) ?_
        case y_23_2 => (intro wq hSw; (try dsimp only at hSw); go_simp; first | done | with_reducible rfl)
        try simp only [Act.put, List.setIfInBounds_toArray, List.set_cons_zero, List.set_cons_succ]
        refine wpAnyH_take (i := 25) (oi := { dst := some 56, op := Go.Op.load 24 (Go.Operand.tmp 3), type := 24, pos := "law.go:31", after := #[{ on := 22, ground := Go.Ground.guard }], guard := some (22, false) }) (v := ?v_25_2) rfl (by kernel_rfl) (by kernel_rfl) (by kernel_rfl) (fun _ _ _ h => h) (Or.inl ⟨by rfl, ?y_25_2⟩) (by assumption) ?_
        case y_25_2 => (intro wq hSw; (try dsimp only at hSw); go_simp; first | done | with_reducible rfl)
        try simp only [Act.put, List.setIfInBounds_toArray, List.set_cons_zero, List.set_cons_succ]
        refine wpAnyH_ready (rs := [24]) (by kernel_rfl) (by simp) ?_
        refine AllReadyH.cons (o := { dst := some 55, op := Go.Op.call { callee := Go.Callee.value (Go.Operand.func 16), args := #[Go.Operand.tmp 54], argTypes := #[24] }, type := 4, pos := "law.go:31", after := #[{ on := 23, ground := Go.Ground.data }, { on := 22, ground := Go.Ground.chain }, { on := 22, ground := Go.Ground.guard }], guard := some (22, false) }) rfl (fun KQ hKQ => ?_) AllReadyH.nil
        go_simp
        refine (M1.out _).mono ?_
        rintro e u24 ⟨rfl, hU24⟩
        have p3 := p2.trans (hU24.mono p2.size)
        go_wp2_with fail
        refine hKQ.out _ _ ?s_24 (fun hHeld24 => ?_)
        case s_24 => exact hS2.out _ p3
        clear hKQ KQ
        try simp only [Act.put, List.setIfInBounds_toArray, List.set_cons_zero, List.set_cons_succ]
        refine wpAnyH_ready (rs := [26]) (by kernel_rfl) (by simp) ?_
        refine AllReadyH.cons (o := { dst := some 57, op := Go.Op.call { callee := Go.Callee.value (Go.Operand.func 17), args := #[Go.Operand.tmp 56], argTypes := #[24] }, type := 4, pos := "law.go:31", after := #[{ on := 25, ground := Go.Ground.data }, { on := 24, ground := Go.Ground.chain }, { on := 22, ground := Go.Ground.guard }], guard := some (22, false) }) rfl (fun KQ hKQ => ?_) AllReadyH.nil
        go_simp
        refine (M2'.out _).mono ?_
        rintro e u26 ⟨rfl, hU26⟩
        have p4 := p3.trans (hU26.mono p3.size)
        go_wp2_with fail
        refine hKQ.out _ _ ?s_26 (fun hHeld26 => ?_)
        case s_26 => exact hS2.out _ p4
        clear hKQ KQ
        try simp only [Act.put, List.setIfInBounds_toArray, List.set_cons_zero, List.set_cons_succ]
        refine wpAnyH_take (i := 27) (oi := { dst := some 58, op := Go.Op.binOp Go.BinOp.neq 4 (Go.Operand.tmp 55) (Go.Operand.tmp 57) 4, type := 4, pos := "law.go:31", after := #[{ on := 24, ground := Go.Ground.data }, { on := 26, ground := Go.Ground.data }, { on := 22, ground := Go.Ground.guard }], guard := some (22, false) }) (v := ?v_27_2) rfl (by kernel_rfl) (by kernel_rfl) (by kernel_rfl) (fun _ _ _ h => h) (Or.inl ⟨by rfl, ?y_27_2⟩) (by assumption) ?_
        case y_27_2 => (intro wq hSw; (try dsimp only at hSw); go_simp; first | done | with_reducible rfl)
        try simp only [Act.put, List.setIfInBounds_toArray, List.set_cons_zero, List.set_cons_succ]
        refine wpAnyH_take (i := 28) (oi := { dst := some 59, op := Go.Op.pick (Go.Operand.tmp 53) (Go.Operand.const (Go.Value.bool true)) (Go.Operand.tmp 58), type := 4, pos := "law.go:31", after := #[{ on := 22, ground := Go.Ground.data }, { on := 27, ground := Go.Ground.data }], guard := none }) (v := ?v_28_2) rfl (by kernel_rfl) (by kernel_rfl) (by kernel_rfl) (fun _ _ _ h => h) (Or.inl ⟨by rfl, ?y_28_2⟩) (by assumption) ?_
        case y_28_2 => (intro wq hSw; (try dsimp only at hSw); go_simp; first | done | with_reducible rfl)
        try simp only [Act.put, List.setIfInBounds_toArray, List.set_cons_zero, List.set_cons_succ]
        refine wpAnyH_take (i := 29) (oi := { dst := some 60, op := Go.Op.move (Go.Operand.tmp 59), type := 4, pos := "law.go:31", after := #[{ on := 28, ground := Go.Ground.data }, { on := 26, ground := Go.Ground.chain }], guard := none }) (v := ?v_29_2) rfl (by kernel_rfl) (by kernel_rfl) (by kernel_rfl) (fun _ _ _ h => h) (Or.inl ⟨by rfl, ?y_29_2⟩) (by assumption) ?_
        case y_29_2 => (intro wq hSw; (try dsimp only at hSw); go_simp; first | done | with_reducible rfl)
        try simp only [Act.put, List.setIfInBounds_toArray, List.set_cons_zero, List.set_cons_succ]
        refine wpAnyH_take (i := 30) (oi := { dst := some 61, op := Go.Op.load 24 (Go.Operand.tmp 3), type := 24, pos := "law.go:31", after := #[{ on := 29, ground := Go.Ground.guard }], guard := some (29, false) }) (v := ?v_30_2) rfl (by kernel_rfl) (by kernel_rfl) (by kernel_rfl) (fun _ _ _ h => h) (Or.inl ⟨by rfl, ?y_30_2⟩) (by assumption) ?_
        case y_30_2 => (intro wq hSw; (try dsimp only at hSw); go_simp; first | done | with_reducible rfl)
        try simp only [Act.put, List.setIfInBounds_toArray, List.set_cons_zero, List.set_cons_succ]
        refine wpAnyH_take (i := 32) (oi := { dst := some 63, op := Go.Op.load 24 (Go.Operand.tmp 3), type := 24, pos := "law.go:31", after := #[{ on := 29, ground := Go.Ground.guard }], guard := some (29, false) }) (v := ?v_32_2) rfl (by kernel_rfl) (by kernel_rfl) (by kernel_rfl) (fun _ _ _ h => h) (Or.inl ⟨by rfl, ?y_32_2⟩) (by assumption) ?_
        case y_32_2 => (intro wq hSw; (try dsimp only at hSw); go_simp; first | done | with_reducible rfl)
        try simp only [Act.put, List.setIfInBounds_toArray, List.set_cons_zero, List.set_cons_succ]
        refine wpAnyH_ready (rs := [31]) (by kernel_rfl) (by simp) ?_
        refine AllReadyH.cons (o := { dst := some 62, op := Go.Op.call { callee := Go.Callee.value (Go.Operand.func 18), args := #[Go.Operand.tmp 61], argTypes := #[24] }, type := 9, pos := "law.go:31", after := #[{ on := 30, ground := Go.Ground.data }, { on := 29, ground := Go.Ground.chain }, { on := 29, ground := Go.Ground.guard }], guard := some (29, false) }) rfl (fun KQ hKQ => ?_) AllReadyH.nil
        go_simp
        refine (S1'.out _ ?d_31).mono ?_
        case d_31 => exact p4
        rintro e u31 ⟨rfl, hU31⟩
        have p5 := p4.trans (hU31.mono p4.size)
        go_wp2_with fail
        refine hKQ.out _ _ ?s_31 (fun hHeld31 => ?_)
        case s_31 => exact hS2.out _ p5
        clear hKQ KQ
        try simp only [Act.put, List.setIfInBounds_toArray, List.set_cons_zero, List.set_cons_succ]
        refine wpAnyH_ready (rs := [33]) (by kernel_rfl) (by simp) ?_
        refine AllReadyH.cons (o := { dst := some 64, op := Go.Op.call { callee := Go.Callee.value (Go.Operand.func 19), args := #[Go.Operand.tmp 63], argTypes := #[24] }, type := 9, pos := "law.go:31", after := #[{ on := 32, ground := Go.Ground.data }, { on := 31, ground := Go.Ground.chain }, { on := 29, ground := Go.Ground.guard }], guard := some (29, false) }) rfl (fun KQ hKQ => ?_) AllReadyH.nil
        go_simp
        refine (S2'.out _).mono ?_
        rintro e u33 ⟨rfl, hU33⟩
        have p6 := p5.trans (hU33.mono p5.size)
        go_wp2_with fail
        refine hKQ.out _ _ ?s_33 (fun hHeld33 => ?_)
        case s_33 => exact hS2.out _ p6
        clear hKQ KQ
        try simp only [Act.put, List.setIfInBounds_toArray, List.set_cons_zero, List.set_cons_succ]
        refine wpAnyH_take (i := 34) (oi := { dst := some 65, op := Go.Op.binOp Go.BinOp.neq 9 (Go.Operand.tmp 62) (Go.Operand.tmp 64) 9, type := 4, pos := "law.go:31", after := #[{ on := 31, ground := Go.Ground.data }, { on := 33, ground := Go.Ground.data }, { on := 29, ground := Go.Ground.guard }], guard := some (29, false) }) (v := ?v_34_2) rfl (by kernel_rfl) (by kernel_rfl) (by kernel_rfl) (fun _ _ _ h => h) (Or.inl ⟨by rfl, ?y_34_2⟩) (by assumption) ?_
        case y_34_2 => (intro wq hSw; (try dsimp only at hSw); go_simp; first | done | with_reducible rfl)
        try simp only [Act.put, List.setIfInBounds_toArray, List.set_cons_zero, List.set_cons_succ]
        refine wpAnyH_take (i := 35) (oi := { dst := some 66, op := Go.Op.pick (Go.Operand.tmp 60) (Go.Operand.const (Go.Value.bool true)) (Go.Operand.tmp 65), type := 4, pos := "law.go:31", after := #[{ on := 29, ground := Go.Ground.data }, { on := 34, ground := Go.Ground.data }], guard := none }) (v := ?v_35_2) rfl (by kernel_rfl) (by kernel_rfl) (by kernel_rfl) (fun _ _ _ h => h) (Or.inl ⟨by rfl, ?y_35_2⟩) (by assumption) ?_
        case y_35_2 => (intro wq hSw; (try dsimp only at hSw); go_simp; first | done | with_reducible rfl)
        try simp only [Act.put, List.setIfInBounds_toArray, List.set_cons_zero, List.set_cons_succ]
        refine wpAnyH_done (by kernel_rfl) ?_ _
        go_wp2_with fail
        go_meet
        case rel => exact ⟨rfl, p6⟩
      case rest =>
        obtain ⟨rfl, hBc⟩ := hcut
        clear D1' D2' D3' M2' S1' S2' hS2 p0 M1 M2 S1 S2 D1 D2
        have Px := hO1'.below hBc
        have Py := hO2.below hBc
        have E1 := Lib.hid (spoil_any A1 nx c1 _ wc _ Px)
        go_wp2_with fail
        refine E1.out.mono ?_
        rintro e z1 ⟨rfl, hG1⟩
        have Py' := own_kept Py hG1 (fun q hq e => by have h1 := hx1lt q e.symm; have h2 := (Py.lt q hq).1; omega)
        have hcs := hBc.size
        have F1 : Below wr.heap.size wc z1 := (Below.refl _ _).grown hG1 (by omega) (fun q hq => (Px.lt q hq).1)
        have E2 := Lib.hid (spoil_any A2 nz c2 _ z1 _ Py')
        have hf1 := F1.size
        clear E1 hG1
        go_wp2_with fail
        refine E2.out.mono ?_
        rintro e z2 ⟨rfl, hG2⟩
        have F2 : Below wr.heap.size z1 z2 := (Below.refl _ _).grown hG2 (by omega) (fun q hq => by have h2 := (Py.lt q hq).1; omega)
        have FF := F1.trans F2
        have hT9 := (hTy.below hBc hTy.lt).below FF hgr
        have k9 := (ky.below hBc ky.lt).below FF hvr
        have hB9 := hBy.trans ((hBc.mono hBy.size).trans (FF.mono hBr.size))
        clear E2 hG2 Px Py Py' F1 F2 FF
        go_wp2_with fail
        go_roundw
        case rel => exact ⟨j + 1, by omega, by go_num, hT9, k9, hB9⟩
        case measure => simp [intOf]; omega
    · obtain rfl : j = 2 := by omega
      go_wp2_with fail
      go_ret
      exact ⟨rfl, hB0.out.trans (hBr.mono hB0.out.size)⟩
end Go.Proofs.YtodpaeaeigjmdaaDoor.law7w
