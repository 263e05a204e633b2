/- A value that may be is read as it was written, either way, whatever stands behind it (ValueBack): true of every input. -/
import Derived.Test.YtodpaeaeigjmdaaDoorValLaw
import Derived.Test.YtodpaeaeigjmdaaDoorVaEq
namespace Go.Proofs.YtodpaeaeigjmdaaDoor.law7
open Go Go.RowKit Go.Proofs.YtodpaeaeigjmdaaDoor.kit Go.Proofs.YtodpaeaeigjmdaaDoor.nums Go.Proofs.YtodpaeaeigjmdaaDoor.st Go.Proofs.YtodpaeaeigjmdaaDoor.va Go.Proofs.YtodpaeaeigjmdaaDoor.ref7 Go.Proofs.YtodpaeaeigjmdaaDoor.bytes Go.Proofs.YtodpaeaeigjmdaaDoor.libw
set_option linter.unusedVariables false

theorem own_kept {l : List Int} {v : Value} {base : Nat} {w w' : World} {row : Option Nat} (h : Own 5 w base v l) (hG : w.grownBy w' row) (hne : ∀ k, v.ownBlock = some k → ¬ some k = row) : Own 5 w' base v l := by
  refine World.ownsRow.kept h hG ?_
  rcases e : v.ownBlock with _ | k
  · exact .inl rfl
  · exact .inr (hne k e)
set_option maxHeartbeats 4000000 in
theorem back_walk (a : VaL) (A : Option Addr) (m c : Nat) (r : List Int) (w : World) (ha : a.ok ∧ (a.s.length : Int) ≤ 9223372036854775807) (hR : Rd w w.heap.size A m r) (hY : Byt r) (hmc : m ≤ c) (hcm : c ≤ maxLen) (hw : LibW w) :
    Calls Tryd.prog 6 #[vaV a, .slice A m c] w fun e w' => e = .returned (.bool true) ∧ Below w.heap.size w w' := by
  have hcm1 := hcm
  unfold maxLen at hcm1
  have BG := Lib.hid (fun wq (h : Below w.heap.size w wq) => begun_any wq (hw.on h))
  clear hw
  have MA := Lib.hid (fun w => val.may_any a ha.1 ha.2 w)
  by_cases hm : mayP a
  · have hs : a.s.length ≤ 1099511627776 := by
      unfold mayP at hm
      rcases hm with ⟨_, _, h⟩ | ⟨_, _, h⟩ | ⟨_, h⟩ | ⟨_, _, h⟩
      · rw [h]; decide
      · rw [h]; decide
      · rw [h]; decide
      · omega
    rw [show decide (mayP a) = true by simp [hm]] at MA
    have K := Lib.hid (fun w => val.key_any none 0 0 [] a w (Rd.nil _ _ _) (by omega) (by unfold maxLen; omega) (by omega) hs ha.1)
    have P := Lib.hid (fun w => val.plain_any none 0 0 [] a w (Rd.nil _ _ _) (by omega) (by unfold maxLen; omega) (by omega) hs ha.1)
    have hkb := keyF_byt a ha.1
    have hpb := plainF_byt a ha.1
    have TK := Lib.hid (fun (A : Option Addr) (c : Nat) (w : World) (hR : Rd w w.heap.size A ((keyF a).length + m) (keyF a ++ r)) (hm : m ≤ 1024) (hc : (keyF a).length + m ≤ c) => val.takeKey_any A ((keyF a).length + m) c (keyF a ++ r) w w.heap.size hR (Nat.le_refl _) (hkb.1.append hY) (by omega) hc)
    have TP := Lib.hid (fun (A : Option Addr) (c : Nat) (w : World) (hR : Rd w w.heap.size A ((plainF a).length + m) (plainF a ++ r)) (hm : m ≤ 1024) (hc : (plainF a).length + m ≤ c) => val.take_any A ((plainF a).length + m) c (plainF a ++ r) w w.heap.size hR (Nat.le_refl _) (hpb.1.append hY) (by omega) hc)
    rw [tkF_key a ha.1 hm r] at TK
    rw [tpF_plain a ha.1 hm r] at TP
    simp only [List.nil_append, Nat.zero_add] at K P
    obtain ⟨hkb1, hkl⟩ := hkb
    obtain ⟨hpb1, hpl⟩ := hpb
    clear hkb1 hpb1 hm ha hs
    generalize hX : keyF a = X at *
    generalize hZ : plainF a = Z at *
    clear hX hZ
    obtain ⟨nx, hnx⟩ : ∃ nx, X.length = nx := ⟨_, rfl⟩
    obtain ⟨nz, hnz⟩ : ∃ nz, Z.length = nz := ⟨_, rfl⟩
    rw [hnx] at K TK hkl
    rw [hnz] at P TP hpl
    have HX := Lib.hid hnx
    have HZ := Lib.hid hnz
    clear hnx hnz
    obtain ⟨k, n, s⟩ := a
    unfold RetV vaV at *
    dsimp only at MA K P TK TP ⊢
    have EQ := Lib.hid (fun w => eq_self k n (strOfNums s) w)
    generalize strOfNums s = T at *
    have hB0 : Hid (Below w.heap.size w (w.alloc (.cells #[.int .i64 k, .int .i64 n, .string T] 24))) := (Below.refl _ _).alloc (Nat.le_refl _) _
    have k0 : Blk 24 (w.alloc (.cells #[.int .i64 k, .int .i64 n, .string T] 24)) w.heap.size [.int .i64 k, .int .i64 n, .string T] := heap_alloc_new w _
    have HR1 := Lib.hid (hR.on hB0.out hB0.out.size)
    go_enter Tryd.func6, Tryd.ntmps6
    go_upto_region 1 with (fail)
    generalize (w.alloc (.cells #[.int .i64 k, .int .i64 n, .string T] 24)) = w1 at *
    go_wp2_with fail
    refine (BG.out _ hB0.out).mono ?_
    rintro e w2 ⟨rfl, hB2⟩
    have k2 := k0.below hB2 k0.lt
    obtain ⟨a0, a1, a2⟩ := box_cells k2 (Below.refl _ _)
    go_wp2_with fail
    refine (MA.out _).mono ?_
    rintro e w3 ⟨rfl, hB3⟩
    have hB13 := hB2.trans (hB3.mono hB2.size)
    have k3 := k0.below hB13 k0.lt
    clear a0 a1 a2 k2 hB2 hB3
    by_cases h1 : 1024 < m
    · go_wp2_with fail
      go_ret
      exact ⟨rfl, hB0.out.trans (hB13.mono (Nat.le_of_lt k0.lt))⟩
    have hm1 : m ≤ 1024 := by omega
    go_upto_region 5 with (fail)
    have hSr : Hid (∀ wq, Below w3.drew.heap.size w3.drew wq → wq.cell? ⟨w.heap.size, 0, none⟩ = some (.int .i64 k) ∧ wq.cell? ⟨w.heap.size, 1, none⟩ = some (.int .i64 n) ∧ wq.cell? ⟨w.heap.size, 2, none⟩ = some (.string T)) := fun wq hq => box_cells k3.drew hq
    refine wp_region_held_drew (S := fun wq => wq.cell? ⟨w.heap.size, 0, none⟩ = some (.int .i64 k) ∧ wq.cell? ⟨w.heap.size, 1, none⟩ = some (.int .i64 n) ∧ wq.cell? ⟨w.heap.size, 2, none⟩ = some (.string T)) (by kernel_rfl) ?s_0 (fun hHeld => ?_)
    case s_0 => exact hSr.out _ (Below.refl _ _)
    refine wpAnyH_take (i := 0) (oi := { dst := some 25, op := Go.Op.load 24 (Go.Operand.tmp 2), type := 24, pos := "law.go:78", after := #[], guard := none }) (v := ?v_0_1) rfl (by kernel_rfl) (by kernel_rfl) (by kernel_rfl) (fun _ _ _ h => h) (Or.inl ⟨by rfl, ?y_0_1⟩) (by assumption) ?_
    case y_0_1 => (intro wq hSw; (try dsimp only at hSw); go_simp; first | done | with_reducible rfl)
    try simp only [Act.put, List.setIfInBounds_toArray, List.set_cons_zero, List.set_cons_succ]
    refine wpAnyH_take (i := 2) (oi := { dst := some 27, op := Go.Op.load 24 (Go.Operand.tmp 2), type := 24, pos := "law.go:78", after := #[], guard := none }) (v := ?v_2_1) rfl (by kernel_rfl) (by kernel_rfl) (by kernel_rfl) (fun _ _ _ h => h) (Or.inl ⟨by rfl, ?y_2_1⟩) (by assumption) ?_
    case y_2_1 => (intro wq hSw; (try dsimp only at hSw); go_simp; first | done | with_reducible rfl)
    try simp only [Act.put, List.setIfInBounds_toArray, List.set_cons_zero, List.set_cons_succ]
    refine wpAnyH_ready (rs := [1]) (by kernel_rfl) (by simp) ?_
    refine AllReadyH.cons (o := { dst := some 26, op := Go.Op.call { callee := Go.Callee.value (Go.Operand.func 11), args := #[Go.Operand.const (Go.Value.slice none 0 0), Go.Operand.tmp 25], argTypes := #[22, 24] }, type := 22, pos := "law.go:78", after := #[{ on := 0, ground := Go.Ground.data }], guard := none }) rfl (fun KQ hKQ => ?_) AllReadyH.nil
    go_simp
    refine (K.out _).mono ?_
    rintro e y1 ⟨A1, c1, rfl, hl1, hO1, hY1⟩
    have q1 := hSr.out _ hY1
    go_wp2_with fail
    refine hKQ.out _ _ ?s_1 (fun hHeld1 => ?_)
    case s_1 => exact q1
    clear hKQ KQ
    try simp only [Act.put, List.setIfInBounds_toArray, List.set_cons_zero, List.set_cons_succ]
    refine wpAnyH_ready (rs := [3]) (by kernel_rfl) (by simp) ?_
    refine AllReadyH.cons (o := { dst := some 28, op := Go.Op.call { callee := Go.Callee.value (Go.Operand.func 12), args := #[Go.Operand.const (Go.Value.slice none 0 0), Go.Operand.tmp 27], argTypes := #[22, 24] }, type := 22, pos := "law.go:78", after := #[{ on := 2, ground := Go.Ground.data }, { on := 1, ground := Go.Ground.chain }], guard := none }) rfl (fun KQ hKQ => ?_) AllReadyH.nil
    go_simp
    refine (P.out _).mono ?_
    rintro e y2 ⟨A2, c2, rfl, hl2, hO2, hY2⟩
    have hY12 := hY1.trans (hY2.mono hY1.size)
    have q2 := hSr.out _ hY12
    go_wp2_with fail
    refine hKQ.out _ _ ?s_3 (fun hHeld3 => ?_)
    case s_3 => exact q2
    clear hKQ KQ
    try simp only [Act.put, List.setIfInBounds_toArray, List.set_cons_zero, List.set_cons_succ]
    refine wpAnyH_take (i := 4) (oi := { dst := some 5, op := Go.Op.assign (Go.Operand.tmp 26), type := 22, pos := "law.go:78", after := #[{ on := 1, ground := Go.Ground.data }, { on := 3, ground := Go.Ground.chain }, { on := 0, ground := Go.Ground.phase }, { on := 1, ground := Go.Ground.phase }, { on := 2, ground := Go.Ground.textOnly Go.Departure.lateStores }, { on := 3, ground := Go.Ground.textOnly Go.Departure.lateStoresUnsure }], guard := none }) (v := ?v_4_1) rfl (by kernel_rfl) (by kernel_rfl) (by kernel_rfl) (fun _ _ _ h => h) (Or.inl ⟨by rfl, ?y_4_1⟩) (by assumption) ?_
    case y_4_1 => (intro wq hSw; (try dsimp only at hSw); go_simp; first | done | with_reducible rfl)
    try simp only [Act.put, List.setIfInBounds_toArray, List.set_cons_zero, List.set_cons_succ]
    refine wpAnyH_take (i := 5) (oi := { dst := some 6, op := Go.Op.assign (Go.Operand.tmp 28), type := 22, pos := "law.go:78", after := #[{ on := 3, ground := Go.Ground.data }, { on := 4, ground := Go.Ground.chain }, { on := 0, ground := Go.Ground.phase }, { on := 1, ground := Go.Ground.phase }, { on := 2, ground := Go.Ground.phase }, { on := 3, ground := Go.Ground.phase }, { on := 4, ground := Go.Ground.phase }], guard := none }) (v := ?v_5_1) rfl (by kernel_rfl) (by kernel_rfl) (by kernel_rfl) (fun _ _ _ h => h) (Or.inl ⟨by rfl, ?y_5_1⟩) (by assumption) ?_
    case y_5_1 => (intro wq hSw; (try dsimp only at hSw); go_simp; first | done | with_reducible rfl)
    try simp only [Act.put, List.setIfInBounds_toArray, List.set_cons_zero, List.set_cons_succ]
    refine wpAnyH_done (by kernel_rfl) ?_ _
    have k4 := k3.drew.below hY12 k3.lt
    have hRr := HR1.out.on (hB13.trans ((Below.refl _ _).drew.mono hB13.size |>.trans (hY12.mono hB13.size))) (Nat.le_trans hB13.size hY12.size)
    have hB14 := hB13.trans ((Below.refl _ _).drew.mono hB13.size |>.trans (hY12.mono hB13.size))
    have hO1' : Own 5 y2 w3.heap.size (.slice A1 nx c1) X := hO1.below hY2
    have hne : Hid (∀ k, (Value.slice A2 nz c2).ownBlock = some k → ¬ some k = (Value.slice A1 nx c1).ownBlock) := fun k hk he => by
      have h1 := (hO1.lt k he.symm).2
      have h2 := (hO2.lt k hk).1
      omega
    have hbz : w3.heap.size ≤ y1.heap.size := hY1.size
    have hylt : Hid (∀ k, (Value.slice A2 nz c2).ownBlock = some k → k < y2.heap.size) := fun k hk => (hO2.lt k hk).2
    have hw3 : w1.heap.size ≤ w3.heap.size := hB13.size
    have hl4 : w.heap.size < w3.heap.size := k3.lt
    clear hO1 hHeld q1 q2 hSr K P hY12 hB13 HR1 k3
    go_wp2_with (at_builtin; with_reducible refine wpList_append_rd rfl (.tmp 34) (.tmp 35) 22 rfl w3.heap.size 5 Tryd.underlying22 info5 A1 nx c1 X HX.out rfl hO1' _ A m c r rfl hRr ?hb ?hbase ?_)
    case hb => omega
    case hbase => exact Nat.le_trans hY1.size hY2.size
    intro A5 c5 w5 hO5 hB5 hG5
    have hO25 := own_kept hO2 hG5 hne.out
    have hl5 : (X ++ r).length = nx + m := by rw [List.length_append, HX.out, hRr.len]
    have hB15 := hB14.trans (hB5.mono hw3)
    have k5 := k4.below hB5 hl4
    have hR5 := hRr.len
    have hRr5 : Rd w5 w.heap.size A m r := hR.below (hB0.out.trans (hB15.mono (Nat.le_of_lt k0.lt)))
    have hbs5 := hB5.size
    have hy12 : y1.heap.size ≤ y2.heap.size := hY2.size
    obtain ⟨hRx, hcx⟩ := own_rd hO5 hl5
    clear hO1' hO2 hG5 hne hB5 hO5 k4 hRr hY1 hY2
    go_wp2_with fail
    refine (TK.out A5 c5 _ hRx hm1 hcx).mono ?_
    clear TK hRx hcx
    rintro e w6 ⟨rfl, hB6⟩
    have hO26 := (hO25.below hB6).alloc (.cells #[.int .i64 k, .int .i64 n, .string T] 24)
    have hB16 := (hB15.trans (hB6.mono hB15.size)).alloc (hB15.trans (hB6.mono hB15.size)).size (.cells #[.int .i64 k, .int .i64 n, .string T] 24)
    have k6 := (k5.below hB6 k5.lt).alloc (.cells #[.int .i64 k, .int .i64 n, .string T] 24)
    have k7 : Blk 24 (w6.alloc (.cells #[.int .i64 k, .int .i64 n, .string T] 24)) w6.heap.size [.int .i64 k, .int .i64 n, .string T] := heap_alloc_new w6 _
    have hRr6 : Rd (w6.alloc (.cells #[.int .i64 k, .int .i64 n, .string T] 24)) w.heap.size A m r := hR.below (hB0.out.trans (hB16.mono (Nat.le_of_lt k0.lt)))
    have hs6 : y1.heap.size ≤ (w6.alloc (.cells #[.int .i64 k, .int .i64 n, .string T] 24)).heap.size := by have h1 := hB6.size; have h2 := (Below.refl w6.heap.size w6).alloc (Nat.le_refl _) (.cells #[.int .i64 k, .int .i64 n, .string T] 24) |>.size; omega
    have hs66 : w6.heap.size < (w6.alloc (.cells #[.int .i64 k, .int .i64 n, .string T] 24)).heap.size := by simp
    have hyw6 : y1.heap.size ≤ w6.heap.size := by have h1 := hB6.size; omega
    have hbs6 := hB6.size
    clear hO25 hB6 hB15 k5 hRr5
    go_upto_region 8 with (fail)
    have hy26 : y2.heap.size ≤ w6.heap.size := by omega
    obtain ⟨g2, hg2⟩ : ∃ g, w6.heap.size = g := ⟨_, rfl⟩
    rw [hg2] at k7 hyw6 hs66 hy26 ⊢
    generalize (w6.alloc (.cells #[.int .i64 k, .int .i64 n, .string T] 24)) = z6 at *
    go_wp2_with (at_builtin; with_reducible refine wpList_append_rd rfl (.tmp 42) (.tmp 43) 22 rfl y1.heap.size 5 Tryd.underlying22 info5 A2 nz c2 Z HZ.out rfl hO26 _ A m c r rfl hRr6 ?hb2 ?hbase2 ?_)
    case hb2 => omega
    case hbase2 => exact hs6
    intro A7 c7 w7 hO7 hB7 hG7
    have hl7 : (Z ++ r).length = nz + m := by rw [List.length_append, HZ.out, hR5]
    have hg0 : w.heap.size < y1.heap.size := by omega
    have hB7w : Below w1.heap.size z6 w7 := hB7.mono (by omega)
    have hB17 := hB16.trans hB7w
    have hK7 := k6.below hB7 hg0
    have hs7 := hB7.size
    have k7' : Blk 24 w7 g2 [.int .i64 k, .int .i64 n, .string T] := (hG7.block g2 hs66 (fun he => by have := hylt.out g2 he.symm; omega)).trans k7
    obtain ⟨hRz, hcz⟩ := own_rd hO7 hl7
    clear hO26 hB16 k6 k7 hRr6 hO7 hB7 hG7 hB7w hylt hB14
    go_wp2_with fail
    refine (TP.out A7 c7 _ hRz hm1 hcz).mono ?_
    clear TP hRz hcz
    rintro e w8 ⟨rfl, hB8⟩
    have hB18 := (hB17.trans (hB8.mono hB17.size)).alloc (hB17.trans (hB8.mono hB17.size)).size (.cells #[.int .i64 k, .int .i64 n, .string T] 24)
    have j0 := (hK7.below hB8 hK7.lt).alloc (.cells #[.int .i64 k, .int .i64 n, .string T] 24)
    have j1 := (k7'.below hB8 k7'.lt).alloc (.cells #[.int .i64 k, .int .i64 n, .string T] 24)
    have j2 : Blk 24 (w8.alloc (.cells #[.int .i64 k, .int .i64 n, .string T] 24)) w8.heap.size [.int .i64 k, .int .i64 n, .string T] := heap_alloc_new w8 _
    clear hB8 hB17 hK7 k7'
    go_upto_region 9 with (fail)
    obtain ⟨g3, hg3⟩ : ∃ g, w8.heap.size = g := ⟨_, rfl⟩
    rw [hg3] at j2 ⊢
    generalize (w8.alloc (.cells #[.int .i64 k, .int .i64 n, .string T] 24)) = z8 at *
    obtain ⟨a0, a1, a2⟩ := box_cells j0 (Below.refl _ _)
    obtain ⟨b0, b1, b2⟩ := box_cells j1 (Below.refl _ _)
    obtain ⟨d0, d1, d2⟩ := box_cells j2 (Below.refl _ _)
    have e0 := EQ.out
    clear j0 j1 j2
    go_wp2_with fail
    go_ret
    exact ⟨rfl, hB0.out.trans (hB18.mono (Nat.le_of_lt k0.lt))⟩
  · rw [show decide (mayP a) = false by simp [hm]] at MA
    clear hm ha
    obtain ⟨k, n, s⟩ := a
    unfold vaV at *
    dsimp only at MA ⊢
    generalize strOfNums s = T at *
    have hB0 : Hid (Below w.heap.size w (w.alloc (.cells #[.int .i64 k, .int .i64 n, .string T] 24))) := (Below.refl _ _).alloc (Nat.le_refl _) _
    have k0 : Blk 24 (w.alloc (.cells #[.int .i64 k, .int .i64 n, .string T] 24)) w.heap.size [.int .i64 k, .int .i64 n, .string T] := heap_alloc_new w _
    go_enter Tryd.func6, Tryd.ntmps6
    go_upto_region 1 with (fail)
    generalize (w.alloc (.cells #[.int .i64 k, .int .i64 n, .string T] 24)) = w1 at *
    go_wp2_with fail
    refine (BG.out _ hB0.out).mono ?_
    rintro e w2 ⟨rfl, hB2⟩
    have k2 := k0.below hB2 k0.lt
    obtain ⟨a0, a1, a2⟩ := box_cells k2 (Below.refl _ _)
    go_wp2_with fail
    refine (MA.out _).mono ?_
    rintro e w3 ⟨rfl, hB3⟩
    have hB13 := hB2.trans (hB3.mono hB2.size)
    go_wp2_with fail
    go_ret
    exact ⟨rfl, hB0.out.trans (hB13.mono (Nat.le_of_lt k0.lt))⟩
end Go.Proofs.YtodpaeaeigjmdaaDoor.law7
