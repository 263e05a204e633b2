/- StampBytes answers true: bytes of stamps are read back, and stand in the order of the stamps. Conditions: what the slice reads as. -/
import Derived.Test.YtpalhpkbdkodfaaStampOrder
import Derived.Test.YtpalhpkbdkodfaaLex
namespace Go.Proofs.Ytpalhpkbdkodfaa.law6
open Go.RowKit Go.Proofs.Ytpalhpkbdkodfaa.kit Go.Proofs.Ytpalhpkbdkodfaa.nums Go.Proofs.Ytpalhpkbdkodfaa.st Go.Proofs.Ytpalhpkbdkodfaa.ref6 Go.Proofs.Ytpalhpkbdkodfaa.bytes
set_option linter.unusedVariables false

theorem rd_own {l : List Int} {A : Option Addr} {n c base : Nat} {w : World} (hO : Own 5 w base (.slice A n c) l) (hn : l.length = n) : Rd w w.heap.size A n l ∧ n ≤ c := by
  obtain ⟨A', c', hv, hc, _, hR⟩ := hO.slice
  simp only [Value.slice.injEq] at hv
  obtain ⟨rfl, rfl, rfl⟩ := hv
  exact ⟨hR, hc⟩
theorem text_rd {B : Nat} {l : List Int} {A : Option Addr} {n c : Nat} {w : World} (hR : Rd w B A n l) :
    (convert 32 9 (.slice A n c)).run Try.prog w = .ok (.string (strOfNums l)) w :=
  run_string_rd w 32 5 9 Try.underlying32 Try.underlying5 Try.underlying9 B A _ c l hR
theorem text_own {l : List Int} {A : Option Addr} {n c base : Nat} {w : World} (hO : Own 5 w base (.slice A n c) l) (hn : l.length = n) :
    (convert 32 9 (.slice A n c)).run Try.prog w = .ok (.string (strOfNums l)) w := text_rd (rd_own hO hn).1
set_option maxRecDepth 100000 in
set_option maxHeartbeats 2000000 in
theorem bytes_walk (a b : StL) (M : Option Addr) (n c : Nat) (m : List Int) (w : World) (ha : a.ok) (hb : b.ok) (hR : Rd w w.heap.size M n m) (hY : Byt m) (hnc : n ≤ c) (hcm : c ≤ maxLen) :
    Calls Try.prog 5 #[stV a, stV b, .slice M n c] w fun e w' => e = .returned (.bool true) ∧ Below w.heap.size w w' := by
  have hx1 := hcm
  unfold maxLen at hx1
  have E1 := Lib.hid (fun w => stamp.bytes_any a ha w)
  have E2 := Lib.hid (fun w => stamp.bytes_any b hb w)
  have L1 := Lib.hid (fun w => stamp.less_any a b ha hb w)
  have L2 := Lib.hid (fun w => rbytes_any a.wall a.tie w ha.1 ha.2)
  have hless := stB_less a b ha hb
  have htk := take_stB a ha
  obtain ⟨X, hX⟩ : ∃ X, stB a = X := ⟨_, rfl⟩
  obtain ⟨Z, hZ⟩ : ∃ Z, stB b = Z := ⟨_, rfl⟩
  have HXl : Hid (X.length = 16) := by rw [← hX]; exact stB_len a
  have HZl : Hid (Z.length = 16) := by rw [← hZ]; exact stB_len b
  have hXb : Byt X := by rw [← hX]; exact stB_byt a
  have hmore := takeE_more X m HXl.out
  obtain ⟨p, q⟩ := a
  obtain ⟨r, s⟩ := b
  rw [hX] at E1 L2 hless htk
  rw [hZ] at E2 hless
  have ht1 := htk.1
  have ht2 := htk.2
  generalize lessF ⟨p, q⟩ ⟨r, s⟩ = f at *
  unfold stV at *
  dsimp only at E1 E2 L1 L2 ht1 ⊢
  clear htk hX hZ ha hb
  go_enter Try.func5, Try.ntmps5
  have k0 : Blk 23 ((w.alloc (.cells #[.int .i64 p, .int .i64 q] 23)).alloc (.cells #[.int .i64 r, .int .i64 s] 23)) w.heap.size [.int .i64 p, .int .i64 q] := Blk.alloc (blk_at _ _ _ _ rfl) _
  have k1 : Blk 23 ((w.alloc (.cells #[.int .i64 p, .int .i64 q] 23)).alloc (.cells #[.int .i64 r, .int .i64 s] 23)) (w.heap.size + 1) [.int .i64 r, .int .i64 s] := blk_at _ _ _ _ (by simp)
  have hB0 : Below w.heap.size w ((w.alloc (.cells #[.int .i64 p, .int .i64 q] 23)).alloc (.cells #[.int .i64 r, .int .i64 s] 23)) := ((Below.refl _ _).alloc (Nat.le_refl _) _).alloc (by simp) _
  have hR0 := hR.on hB0 hB0.size
  go_wp2_with fail
  refine (begun_any _).mono ?_
  generalize ((w.alloc (.cells #[.int .i64 p, .int .i64 q] 23)).alloc (.cells #[.int .i64 r, .int .i64 s] 23)) = w0 at *
  rintro e w1 ⟨rfl, hB1⟩
  have hB01 := hB0.trans (hB1.mono hB0.size)
  by_cases h1 : 100 < n
  · go_wp2_with fail
    go_ret
    exact ⟨rfl, hB01⟩
  have hR1 := hR0.on hB1 hB1.size
  have j0 := k0.below hB1 k0.lt
  have j1 := k1.below hB1 k1.lt
  clear k0 k1 hB0 hB1 hR0 hR
  have HS : Hid (∀ wq, Below w1.drew.heap.size w1.drew wq → (wq.cell? ⟨w.heap.size, 0, none⟩ = some (.int .i64 p) ∧ wq.cell? ⟨w.heap.size, 1, none⟩ = some (.int .i64 q)) ∧ wq.cell? ⟨w.heap.size + 1, 0, none⟩ = some (.int .i64 r) ∧ wq.cell? ⟨w.heap.size + 1, 1, none⟩ = some (.int .i64 s)) := fun wq hq => by
    have n0 := j0.drew.below hq j0.lt
    have n1 := j1.drew.below hq j1.lt
    exact ⟨⟨n0.cell 0, n0.cell 1⟩, n1.cell 0, n1.cell 1⟩
  go_upto_region 5 with (fail)
  refine wp_region_held_drew (S := fun wq => (wq.cell? ⟨w.heap.size, 0, none⟩ = some (.int .i64 p) ∧ wq.cell? ⟨w.heap.size, 1, none⟩ = some (.int .i64 q)) ∧ wq.cell? ⟨w.heap.size + 1, 0, none⟩ = some (.int .i64 r) ∧ wq.cell? ⟨w.heap.size + 1, 1, none⟩ = some (.int .i64 s)) (by kernel_rfl) ?s_0 (fun hHeld => ?_)
  case s_0 => exact HS.out _ (Below.refl _ _)
  refine wpAnyH_take (i := 0) (oi := { dst := some 18, op := Go.Op.load 23 (Go.Operand.tmp 3), type := 23, pos := "law.go:42", after := #[], guard := none }) (v := ?v_0_1) rfl (by kernel_rfl) (by kernel_rfl) (by kernel_rfl) (fun _ _ _ h => h) (Or.inl ⟨by rfl, ?y_0_1⟩) (by assumption) ?_
  case y_0_1 => (intro wq hSw; (try dsimp only at hSw); go_simp; first | done | with_reducible rfl)
  try simp only [Act.put, List.setIfInBounds_toArray, List.set_cons_zero, List.set_cons_succ]
  refine wpAnyH_take (i := 2) (oi := { dst := some 20, op := Go.Op.load 23 (Go.Operand.tmp 4), type := 23, pos := "law.go:42", after := #[], guard := none }) (v := ?v_2_1) rfl (by kernel_rfl) (by kernel_rfl) (by kernel_rfl) (fun _ _ _ h => h) (Or.inl ⟨by rfl, ?y_2_1⟩) (by assumption) ?_
  case y_2_1 => (intro wq hSw; (try dsimp only at hSw); go_simp; first | done | with_reducible rfl)
  try simp only [Act.put, List.setIfInBounds_toArray, List.set_cons_zero, List.set_cons_succ]
  refine wpAnyH_ready (rs := [1]) (by kernel_rfl) (by simp) ?_
  refine AllReadyH.cons (o := { dst := some 19, op := Go.Op.call { callee := Go.Callee.value (Go.Operand.func 17), args := #[Go.Operand.tmp 18], argTypes := #[23] }, type := 32, pos := "law.go:42", after := #[{ on := 0, ground := Go.Ground.data }], guard := none }) rfl (fun KQ hKQ => ?_) AllReadyH.nil
  go_simp
  refine (E1.out _).mono ?_
  rintro e y1 ⟨A1, c1, rfl, hl1, hO1, hY1⟩
  have r1 := HS.out _ hY1
  have HL1 := Lib.hid hl1
  clear hl1
  go_wp2_with fail
  refine hKQ.out _ _ ?s_1 (fun hHeld1 => ?_)
  case s_1 => exact r1
  clear hKQ KQ
  try simp only [Act.put, List.setIfInBounds_toArray, List.set_cons_zero, List.set_cons_succ]
  refine wpAnyH_ready (rs := [3]) (by kernel_rfl) (by simp) ?_
  refine AllReadyH.cons (o := { dst := some 21, op := Go.Op.call { callee := Go.Callee.value (Go.Operand.func 17), args := #[Go.Operand.tmp 20], argTypes := #[23] }, type := 32, pos := "law.go:42", after := #[{ on := 2, ground := Go.Ground.data }, { on := 1, ground := Go.Ground.chain }], guard := none }) rfl (fun KQ hKQ => ?_) AllReadyH.nil
  go_simp
  refine (E2.out _).mono ?_
  rintro e y2 ⟨A2, c2, rfl, hl2, hO2, hY2⟩
  have q2 := hY1.trans (hY2.mono hY1.size)
  have r2 := HS.out _ q2
  have HL2 := Lib.hid hl2
  clear hl2
  go_wp2_with fail
  refine hKQ.out _ _ ?s_3 (fun hHeld3 => ?_)
  case s_3 => exact r2
  clear hKQ KQ
  try simp only [Act.put, List.setIfInBounds_toArray, List.set_cons_zero, List.set_cons_succ]
  refine wpAnyH_ready (rs := [4]) (by kernel_rfl) (by simp) ?_
  refine AllReadyH.cons (o := { dst := some 7, op := Go.Op.assign (Go.Operand.tmp 19), type := 32, pos := "law.go:42", after := #[{ on := 1, ground := Go.Ground.data }, { on := 3, ground := Go.Ground.chain }, { on := 0, ground := Go.Ground.phase }, { on := 1, ground := Go.Ground.phase }, { on := 2, ground := Go.Ground.textOnly Go.Departure.lateStores }, { on := 3, ground := Go.Ground.textOnly Go.Departure.lateStoresUnsure }], guard := none }) rfl (fun KQ hKQ => ?_) AllReadyH.nil
  go_simp
  refine hKQ.out _ _ ?s_4 (fun hHeld4 => ?_)
  case s_4 => exact r2
  clear hKQ KQ
  try simp only [Act.put, List.setIfInBounds_toArray, List.set_cons_zero, List.set_cons_succ]
  refine wpAnyH_ready (rs := [5]) (by kernel_rfl) (by simp) ?_
  refine AllReadyH.cons (o := { dst := some 8, op := Go.Op.assign (Go.Operand.tmp 21), type := 32, pos := "law.go:42", after := #[{ on := 3, ground := Go.Ground.data }, { on := 4, ground := Go.Ground.chain }, { on := 0, ground := Go.Ground.phase }, { on := 1, ground := Go.Ground.phase }, { on := 2, ground := Go.Ground.phase }, { on := 3, ground := Go.Ground.phase }, { on := 4, ground := Go.Ground.phase }], guard := none }) rfl (fun KQ hKQ => ?_) AllReadyH.nil
  go_simp
  refine hKQ.out _ _ ?s_5 (fun hHeld5 => ?_)
  case s_5 => exact r2
  clear hKQ KQ
  try simp only [Act.put, List.setIfInBounds_toArray, List.set_cons_zero, List.set_cons_succ]
  refine wpAnyH_done (by kernel_rfl) ?_ _
  have hB2 := hB01.drew.trans (q2.mono hB01.size)
  have hRx := (rd_own (hO1.below hY2) HL1.out).1
  have hcx := (rd_own (hO1.below hY2) HL1.out).2
  have hRz := (rd_own hO2 HL2.out).1
  have hRm := hR1.drew.on q2 q2.size
  have i0 := j0.drew.below q2 j0.lt
  have i1 := j1.drew.below q2 j1.lt
  clear hO1 hO2 j0 j1 hR1 r1 r2 HS hHeld q2 hY1 hB01 E1 E2 hY2
  have F1 := Lib.hid (stamp.take_any A1 16 c1 X y2 y2.heap.size hRx (Nat.le_refl _) hXb (by omega) hcx)
  rw [ht1, ht2] at F1
  unfold stV at F1
  dsimp only at F1
  go_wp2_with fail
  refine F1.out.mono ?_
  clear F1
  rintro e w3 ⟨rfl, hB3⟩
  have hB3' := hB2.trans (hB3.mono hB2.size)
  have hB4 := hB3'.alloc hB3'.size (.cells #[.int .i64 p, .int .i64 q] 23)
  have kc : Blk 23 (w3.alloc (.cells #[.int .i64 p, .int .i64 q] 23)) w3.heap.size [.int .i64 p, .int .i64 q] := heap_alloc_new w3 _
  have hRx4 := (hRx.on hB3 hB3.size).alloc (Nat.le_refl _) (.cells #[.int .i64 p, .int .i64 q] 23)
  have hRz4 := (hRz.on hB3 hB3.size).alloc (Nat.le_refl _) (.cells #[.int .i64 p, .int .i64 q] 23)
  have hRm4 := (hRm.on hB3 hB3.size).alloc (Nat.le_refl _) (.cells #[.int .i64 p, .int .i64 q] 23)
  have m0 := (i0.below hB3 i0.lt).alloc (.cells #[.int .i64 p, .int .i64 q] 23)
  have m1 := (i1.below hB3 i1.lt).alloc (.cells #[.int .i64 p, .int .i64 q] 23)
  have hs3 : w3.heap.size < (w3.alloc (.cells #[.int .i64 p, .int .i64 q] 23)).heap.size := by simp
  clear hRx hRz hRm i0 i1 hB3 hB3' hB2
  go_upto_region 7 with (fail)
  generalize (w3.alloc (.cells #[.int .i64 p, .int .i64 q] 23)) = w4 at *
  have hRx4 := hRx4.more (show w3.heap.size ≤ w4.heap.size by omega)
  have hRz4 := hRz4.more (show w3.heap.size ≤ w4.heap.size by omega)
  have hRm4 := hRm4.more (show w3.heap.size ≤ w4.heap.size by omega)
  have hRx5 := hRx4.alloc (Nat.le_refl _) (.cells #[] 5)
  have hB5 : Below w4.heap.size w4 (w4.alloc (.cells #[] 5)) := (Below.refl _ _).alloc (Nat.le_refl _) _
  have hEm : Own 5 (w4.alloc (.cells #[] 5)) w4.heap.size (.slice (some ⟨w4.heap.size, 0, none⟩) 0 0) [] := Own.empty _ _ (Nat.le_refl _)
  have hsz5 : w4.heap.size ≤ (w4.alloc (.cells #[] 5)).heap.size := hB5.size
  go_wp2_with (at_builtin; with_reducible refine wpList_append_rd rfl (.tmp 28) (.tmp 29) 32 rfl w4.heap.size 5 Try.underlying32 info5 _ 0 0 [] rfl rfl hEm _ A1 16 c1 X rfl hRx5 ?ha hsz5 ?_)
  case ha => omega
  intro A5 c5 w5 hO5 hB6 _
  have hB45 := hB5.trans hB6
  have hRm5 := hRm4.on hB45 hB45.size
  have hsz6 := hB45.size
  go_wp2_with (at_builtin; with_reducible refine wpList_append_rd rfl (.tmp 30) (.tmp 31) 32 rfl w4.heap.size 5 Try.underlying32 info5 A5 16 c5 X HXl.out rfl hO5 _ M n c m rfl hRm5 ?hb hsz6 ?_)
  case hb => omega
  intro A6 c6 w6 hO6 hB7 _
  have hB46 := hB45.trans hB7
  have hl6 : (X ++ m).length = 16 + n := by rw [List.length_append, HXl.out, hRm4.len]
  have hR6 := (rd_own hO6 hl6).1
  have hc6 := (rd_own hO6 hl6).2
  have F2 := Lib.hid (stamp.take_any A6 (16 + n) c6 (X ++ m) w6 w6.heap.size hR6 (Nat.le_refl _) (hXb.append hY) (by omega) hc6)
  obtain ⟨⟨x1, x2⟩, hf⟩ : ∃ z, takeF (X ++ m) = z := ⟨_, rfl⟩
  rw [hf] at F2
  unfold stV at F2
  dsimp only at F2
  rw [hRm4.len] at hmore
  generalize takeE (X ++ m) = e2 at *
  clear hO5 hO6 hl6 hR6 hB6 hB7 hB5 hEm hB45 hRm5 hRx5 hf
  go_wp2_with fail
  refine F2.out.mono ?_
  rintro e w7 ⟨rfl, hB8⟩
  have hB48 := hB46.trans (hB8.mono hB46.size)
  have hB49 := hB48.alloc hB48.size (.cells #[.int .i64 x1, .int .i64 x2] 23)
  have HT : Hid (∀ wq, Below (w7.alloc (.cells #[.int .i64 x1, .int .i64 x2] 23)).drew.heap.size (w7.alloc (.cells #[.int .i64 x1, .int .i64 x2] 23)).drew wq → ((wq.cell? ⟨w.heap.size, 0, none⟩ = some (.int .i64 p) ∧ wq.cell? ⟨w.heap.size, 1, none⟩ = some (.int .i64 q)) ∧ wq.cell? ⟨w.heap.size + 1, 0, none⟩ = some (.int .i64 r) ∧ wq.cell? ⟨w.heap.size + 1, 1, none⟩ = some (.int .i64 s)) ∧ (wq.cell? ⟨w3.heap.size, 0, none⟩ = some (.int .i64 p) ∧ wq.cell? ⟨w3.heap.size, 1, none⟩ = some (.int .i64 q)) ∧ (convert 32 9 (.slice A1 16 c1)).run Try.prog wq = .ok (.string (strOfNums X)) wq ∧ (convert 32 9 (.slice A2 16 c2)).run Try.prog wq = .ok (.string (strOfNums Z)) wq) := fun wq hq => by
    have hb := hB49.drew.trans (hq.mono hB49.size)
    have n0 := m0.below hb m0.lt
    have n1 := m1.below hb m1.lt
    have n2 := kc.below hb kc.lt
    exact ⟨⟨⟨n0.cell 0, n0.cell 1⟩, n1.cell 0, n1.cell 1⟩, ⟨n2.cell 0, n2.cell 1⟩, text_rd (hRx4.on hb hb.size), text_rd (hRz4.on hb hb.size)⟩
  have hBf := Lib.hid (hB4.trans (hB49.drew.mono hB4.size))
  go_upto_region 8 with (fail)
  clear m0 m1 kc hRx4 hRz4 hRm4 hB4 hB46 hB48 hB49 hB8 F2
  generalize (w7.alloc (.cells #[.int .i64 x1, .int .i64 x2] 23)) = w8 at *
  obtain ⟨z, hz1, hz2⟩ : ∃ z, (e2 == 0) = z ∧ ((n : Int) == 0) = z := ⟨_, rfl, by
    rw [Bool.eq_iff_iff, beq_iff_eq, beq_iff_eq]
    have := decide_eq_decide.1 hmore
    omega⟩
  refine wp_region_held_drew (S := fun wq => ((wq.cell? ⟨w.heap.size, 0, none⟩ = some (.int .i64 p) ∧ wq.cell? ⟨w.heap.size, 1, none⟩ = some (.int .i64 q)) ∧ wq.cell? ⟨w.heap.size + 1, 0, none⟩ = some (.int .i64 r) ∧ wq.cell? ⟨w.heap.size + 1, 1, none⟩ = some (.int .i64 s)) ∧ (wq.cell? ⟨w3.heap.size, 0, none⟩ = some (.int .i64 p) ∧ wq.cell? ⟨w3.heap.size, 1, none⟩ = some (.int .i64 q)) ∧ (convert 32 9 (.slice A1 16 c1)).run Try.prog wq = .ok (.string (strOfNums X)) wq ∧ (convert 32 9 (.slice A2 16 c2)).run Try.prog wq = .ok (.string (strOfNums Z)) wq) (by kernel_rfl) ?s_1 (fun hHeld => ?_)
  case s_1 => exact HT.out _ (Below.refl _ _)
  refine wpAnyH_take (i := 0) (oi := { dst := some 36, op := Go.Op.move (Go.Operand.tmp 7), type := 32, pos := "law.go:45", after := #[], guard := none }) (v := ?v_0_2) rfl (by kernel_rfl) (by kernel_rfl) (by kernel_rfl) (fun _ _ _ h => h) (Or.inl ⟨by rfl, ?y_0_2⟩) (by assumption) ?_
  case y_0_2 => (intro wq hSw; (try dsimp only at hSw); go_simp; first | done | with_reducible rfl)
  try simp only [Act.put, List.setIfInBounds_toArray, List.set_cons_zero, List.set_cons_succ]
  refine wpAnyH_take (i := 1) (oi := { dst := some 37, op := Go.Op.call { callee := Go.Callee.builtin Go.Builtin.len, args := #[Go.Operand.tmp 36], argTypes := #[32] }, type := 3, pos := "law.go:45", after := #[{ on := 0, ground := Go.Ground.data }], guard := none }) (v := ?v_1_2) rfl (by kernel_rfl) (by kernel_rfl) (by kernel_rfl) (fun _ _ _ h => h) (Or.inl ⟨by rfl, ?y_1_2⟩) (by assumption) ?_
  case y_1_2 => (intro wq hSw; (try dsimp only at hSw); go_simp; first | done | with_reducible rfl)
  try simp only [Act.put, List.setIfInBounds_toArray, List.set_cons_zero, List.set_cons_succ]
  refine wpAnyH_take (i := 2) (oi := { dst := some 38, op := Go.Op.binOp Go.BinOp.eql 3 (Go.Operand.tmp 37) (Go.Operand.const (Go.Value.int Go.IntKind.i64 16)) 3, type := 4, pos := "law.go:45", after := #[{ on := 1, ground := Go.Ground.data }], guard := none }) (v := ?v_2_2) rfl (by kernel_rfl) (by kernel_rfl) (by kernel_rfl) (fun _ _ _ h => h) (Or.inl ⟨by rfl, ?y_2_2⟩) (by assumption) ?_
  case y_2_2 => (intro wq hSw; (try dsimp only at hSw); go_simp; first | done | with_reducible rfl)
  try simp only [Act.put, List.setIfInBounds_toArray, List.set_cons_zero, List.set_cons_succ]
  refine wpAnyH_take (i := 3) (oi := { dst := some 39, op := Go.Op.move (Go.Operand.tmp 38), type := 4, pos := "law.go:45", after := #[{ on := 2, ground := Go.Ground.data }], guard := none }) (v := ?v_3_2) rfl (by kernel_rfl) (by kernel_rfl) (by kernel_rfl) (fun _ _ _ h => h) (Or.inl ⟨by rfl, ?y_3_2⟩) (by assumption) ?_
  case y_3_2 => (intro wq hSw; (try dsimp only at hSw); go_simp; first | done | with_reducible rfl)
  try simp only [Act.put, List.setIfInBounds_toArray, List.set_cons_zero, List.set_cons_succ]
  refine wpAnyH_take (i := 4) (oi := { dst := some 40, op := Go.Op.move (Go.Operand.tmp 10), type := 34, pos := "law.go:45", after := #[{ on := 3, ground := Go.Ground.guard }], guard := some (3, true) }) (v := ?v_4_2) rfl (by kernel_rfl) (by kernel_rfl) (by kernel_rfl) (fun _ _ _ h => h) (Or.inl ⟨by rfl, ?y_4_2⟩) (by assumption) ?_
  case y_4_2 => (intro wq hSw; (try dsimp only at hSw); go_simp; first | done | with_reducible rfl)
  try simp only [Act.put, List.setIfInBounds_toArray, List.set_cons_zero, List.set_cons_succ]
  refine wpAnyH_take (i := 5) (oi := { dst := some 41, op := Go.Op.binOp Go.BinOp.eql 34 (Go.Operand.tmp 40) (Go.Operand.const (Go.Value.int Go.IntKind.i64 0)) 34, type := 4, pos := "law.go:45", after := #[{ on := 4, ground := Go.Ground.data }, { on := 3, ground := Go.Ground.guard }], guard := some (3, true) }) (v := ?v_5_2) rfl (by kernel_rfl) (by kernel_rfl) (by kernel_rfl) (fun _ _ _ h => h) (Or.inl ⟨by rfl, ?y_5_2⟩) (by assumption) ?_
  case y_5_2 => (intro wq hSw; (try dsimp only at hSw); go_simp; first | done | with_reducible rfl)
  try simp only [Act.put, List.setIfInBounds_toArray, List.set_cons_zero, List.set_cons_succ]
  refine wpAnyH_take (i := 6) (oi := { dst := some 42, op := Go.Op.pick (Go.Operand.tmp 39) (Go.Operand.tmp 41) (Go.Operand.const (Go.Value.bool false)), type := 4, pos := "law.go:45", after := #[{ on := 3, ground := Go.Ground.data }, { on := 5, ground := Go.Ground.data }], guard := none }) (v := ?v_6_2) rfl (by kernel_rfl) (by kernel_rfl) (by kernel_rfl) (fun _ _ _ h => h) (Or.inl ⟨by rfl, ?y_6_2⟩) (by assumption) ?_
  case y_6_2 => (intro wq hSw; (try dsimp only at hSw); go_simp; first | done | with_reducible rfl)
  try simp only [Act.put, List.setIfInBounds_toArray, List.set_cons_zero, List.set_cons_succ]
  refine wpAnyH_take (i := 7) (oi := { dst := some 43, op := Go.Op.move (Go.Operand.tmp 42), type := 4, pos := "law.go:45", after := #[{ on := 6, ground := Go.Ground.data }, { on := 3, ground := Go.Ground.chain }], guard := none }) (v := ?v_7_2) rfl (by kernel_rfl) (by kernel_rfl) (by kernel_rfl) (fun _ _ _ h => h) (Or.inl ⟨by rfl, ?y_7_2⟩) (by assumption) ?_
  case y_7_2 => (intro wq hSw; (try dsimp only at hSw); go_simp; first | done | with_reducible rfl)
  try simp only [Act.put, List.setIfInBounds_toArray, List.set_cons_zero, List.set_cons_succ]
  refine wpAnyH_take (i := 8) (oi := { dst := some 44, op := Go.Op.load 23 (Go.Operand.tmp 9), type := 23, pos := "law.go:45", after := #[{ on := 7, ground := Go.Ground.guard }], guard := some (7, true) }) (v := ?v_8_2) rfl (by kernel_rfl) (by kernel_rfl) (by kernel_rfl) (fun _ _ _ h => h) (Or.inl ⟨by rfl, ?y_8_2⟩) (by assumption) ?_
  case y_8_2 => (intro wq hSw; (try dsimp only at hSw); go_simp; first | done | with_reducible rfl)
  try simp only [Act.put, List.setIfInBounds_toArray, List.set_cons_zero, List.set_cons_succ]
  refine wpAnyH_take (i := 9) (oi := { dst := some 45, op := Go.Op.load 23 (Go.Operand.tmp 3), type := 23, pos := "law.go:45", after := #[{ on := 7, ground := Go.Ground.guard }], guard := some (7, true) }) (v := ?v_9_2) rfl (by kernel_rfl) (by kernel_rfl) (by kernel_rfl) (fun _ _ _ h => h) (Or.inl ⟨by rfl, ?y_9_2⟩) (by assumption) ?_
  case y_9_2 => (intro wq hSw; (try dsimp only at hSw); go_simp; first | done | with_reducible rfl)
  try simp only [Act.put, List.setIfInBounds_toArray, List.set_cons_zero, List.set_cons_succ]
  refine wpAnyH_take (i := 10) (oi := { dst := some 46, op := Go.Op.binOp Go.BinOp.eql 23 (Go.Operand.tmp 44) (Go.Operand.tmp 45) 23, type := 4, pos := "law.go:45", after := #[{ on := 8, ground := Go.Ground.data }, { on := 9, ground := Go.Ground.data }, { on := 7, ground := Go.Ground.guard }], guard := some (7, true) }) (v := ?v_10_2) rfl (by kernel_rfl) (by kernel_rfl) (by kernel_rfl) (fun _ _ _ h => h) (Or.inl ⟨by rfl, ?y_10_2⟩) (by assumption) ?_
  case y_10_2 => (intro wq hSw; (try dsimp only at hSw); go_simp; first | done | with_reducible rfl)
  try simp only [Act.put, List.setIfInBounds_toArray, List.set_cons_zero, List.set_cons_succ]
  refine wpAnyH_take (i := 11) (oi := { dst := some 47, op := Go.Op.pick (Go.Operand.tmp 43) (Go.Operand.tmp 46) (Go.Operand.const (Go.Value.bool false)), type := 4, pos := "law.go:45", after := #[{ on := 7, ground := Go.Ground.data }, { on := 10, ground := Go.Ground.data }], guard := none }) (v := ?v_11_2) rfl (by kernel_rfl) (by kernel_rfl) (by kernel_rfl) (fun _ _ _ h => h) (Or.inl ⟨by rfl, ?y_11_2⟩) (by assumption) ?_
  case y_11_2 => (intro wq hSw; (try dsimp only at hSw); go_simp; first | done | with_reducible rfl)
  try simp only [Act.put, List.setIfInBounds_toArray, List.set_cons_zero, List.set_cons_succ]
  refine wpAnyH_take (i := 12) (oi := { dst := some 48, op := Go.Op.move (Go.Operand.tmp 47), type := 4, pos := "law.go:45", after := #[{ on := 11, ground := Go.Ground.data }, { on := 7, ground := Go.Ground.chain }], guard := none }) (v := ?v_12_2) rfl (by kernel_rfl) (by kernel_rfl) (by kernel_rfl) (fun _ _ _ h => h) (Or.inl ⟨by rfl, ?y_12_2⟩) (by assumption) ?_
  case y_12_2 => (intro wq hSw; (try dsimp only at hSw); go_simp; first | done | with_reducible rfl)
  try simp only [Act.put, List.setIfInBounds_toArray, List.set_cons_zero, List.set_cons_succ]
  refine wpAnyH_take (i := 13) (oi := { dst := some 49, op := Go.Op.move (Go.Operand.tmp 12), type := 34, pos := "law.go:45", after := #[{ on := 12, ground := Go.Ground.guard }], guard := some (12, true) }) (v := ?v_13_2) rfl (by kernel_rfl) (by kernel_rfl) (by kernel_rfl) (fun _ _ _ h => h) (Or.inl ⟨by rfl, ?y_13_2⟩) (by assumption) ?_
  case y_13_2 => (intro wq hSw; (try dsimp only at hSw); go_simp; first | done | with_reducible rfl)
  try simp only [Act.put, List.setIfInBounds_toArray, List.set_cons_zero, List.set_cons_succ]
  refine wpAnyH_take (i := 14) (oi := { dst := some 50, op := Go.Op.binOp Go.BinOp.eql 34 (Go.Operand.tmp 49) (Go.Operand.const (Go.Value.int Go.IntKind.i64 0)) 34, type := 4, pos := "law.go:45", after := #[{ on := 13, ground := Go.Ground.data }, { on := 12, ground := Go.Ground.guard }], guard := some (12, true) }) (v := ?v_14_2) rfl (by kernel_rfl) (by kernel_rfl) (by kernel_rfl) (fun _ _ _ h => h) (Or.inl ⟨by rfl, ?y_14_2⟩) (by assumption) ?_
  case y_14_2 => (intro wq hSw; (try dsimp only at hSw); go_simp; first | done | with_reducible rfl)
  try simp only [Act.put, List.setIfInBounds_toArray, List.set_cons_zero, List.set_cons_succ]
  refine wpAnyH_take (i := 15) (oi := { dst := some 51, op := Go.Op.move (Go.Operand.tmp 2), type := 32, pos := "law.go:45", after := #[{ on := 12, ground := Go.Ground.guard }], guard := some (12, true) }) (v := ?v_15_2) rfl (by kernel_rfl) (by kernel_rfl) (by kernel_rfl) (fun _ _ _ h => h) (Or.inl ⟨by rfl, ?y_15_2⟩) (by assumption) ?_
  case y_15_2 => (intro wq hSw; (try dsimp only at hSw); go_simp; first | done | with_reducible rfl)
  try simp only [Act.put, List.setIfInBounds_toArray, List.set_cons_zero, List.set_cons_succ]
  refine wpAnyH_take (i := 16) (oi := { dst := some 52, op := Go.Op.call { callee := Go.Callee.builtin Go.Builtin.len, args := #[Go.Operand.tmp 51], argTypes := #[32] }, type := 3, pos := "law.go:45", after := #[{ on := 15, ground := Go.Ground.data }, { on := 12, ground := Go.Ground.guard }], guard := some (12, true) }) (v := ?v_16_2) rfl (by kernel_rfl) (by kernel_rfl) (by kernel_rfl) (fun _ _ _ h => h) (Or.inl ⟨by rfl, ?y_16_2⟩) (by assumption) ?_
  case y_16_2 => (intro wq hSw; (try dsimp only at hSw); go_simp; first | done | with_reducible rfl)
  try simp only [Act.put, List.setIfInBounds_toArray, List.set_cons_zero, List.set_cons_succ]
  refine wpAnyH_take (i := 17) (oi := { dst := some 53, op := Go.Op.binOp Go.BinOp.eql 3 (Go.Operand.tmp 52) (Go.Operand.const (Go.Value.int Go.IntKind.i64 0)) 3, type := 4, pos := "law.go:45", after := #[{ on := 16, ground := Go.Ground.data }, { on := 12, ground := Go.Ground.guard }], guard := some (12, true) }) (v := ?v_17_2) rfl (by kernel_rfl) (by kernel_rfl) (by kernel_rfl) (fun _ _ _ h => h) (Or.inl ⟨by rfl, ?y_17_2⟩) (by assumption) ?_
  case y_17_2 => (intro wq hSw; (try dsimp only at hSw); go_simp; first | done | with_reducible rfl)
  try simp only [Act.put, List.setIfInBounds_toArray, List.set_cons_zero, List.set_cons_succ]
  refine wpAnyH_take (i := 18) (oi := { dst := some 54, op := Go.Op.binOp Go.BinOp.eql 4 (Go.Operand.tmp 50) (Go.Operand.tmp 53) 4, type := 4, pos := "law.go:45", after := #[{ on := 14, ground := Go.Ground.data }, { on := 17, ground := Go.Ground.data }, { on := 12, ground := Go.Ground.guard }], guard := some (12, true) }) (v := ?v_18_2) rfl (by kernel_rfl) (by kernel_rfl) (by kernel_rfl) (fun _ _ _ h => h) (Or.inl ⟨by rfl, ?y_18_2⟩) (by assumption) ?_
  case y_18_2 => (intro wq hSw; (try dsimp only at hSw); go_simp; first | done | with_reducible rfl)
  try simp only [Act.put, List.setIfInBounds_toArray, List.set_cons_zero, List.set_cons_succ]
  refine wpAnyH_take (i := 19) (oi := { dst := some 55, op := Go.Op.pick (Go.Operand.tmp 48) (Go.Operand.tmp 54) (Go.Operand.const (Go.Value.bool false)), type := 4, pos := "law.go:45", after := #[{ on := 12, ground := Go.Ground.data }, { on := 18, ground := Go.Ground.data }], guard := none }) (v := ?v_19_2) rfl (by kernel_rfl) (by kernel_rfl) (by kernel_rfl) (fun _ _ _ h => h) (Or.inl ⟨by rfl, ?y_19_2⟩) (by assumption) ?_
  case y_19_2 => (intro wq hSw; (try dsimp only at hSw); go_simp; first | done | with_reducible rfl)
  try simp only [Act.put, List.setIfInBounds_toArray, List.set_cons_zero, List.set_cons_succ]
  refine wpAnyH_take (i := 20) (oi := { dst := some 56, op := Go.Op.move (Go.Operand.tmp 55), type := 4, pos := "law.go:45", after := #[{ on := 19, ground := Go.Ground.data }, { on := 12, ground := Go.Ground.chain }], guard := none }) (v := ?v_20_2) rfl (by kernel_rfl) (by kernel_rfl) (by kernel_rfl) (fun _ _ _ h => h) (Or.inl ⟨by rfl, ?y_20_2⟩) (by assumption) ?_
  case y_20_2 => (intro wq hSw; (try dsimp only at hSw); go_simp; first | done | with_reducible rfl)
  try simp only [Act.put, List.setIfInBounds_toArray, List.set_cons_zero, List.set_cons_succ]
  refine wpAnyH_take (i := 21) (oi := { dst := some 57, op := Go.Op.move (Go.Operand.tmp 7), type := 32, pos := "law.go:45", after := #[{ on := 20, ground := Go.Ground.guard }], guard := some (20, true) }) (v := ?v_21_2) rfl (by kernel_rfl) (by kernel_rfl) (by kernel_rfl) (fun _ _ _ h => h) (Or.inl ⟨by rfl, ?y_21_2⟩) (by assumption) ?_
  case y_21_2 => (intro wq hSw; (try dsimp only at hSw); go_simp; first | done | with_reducible rfl)
  try simp only [Act.put, List.setIfInBounds_toArray, List.set_cons_zero, List.set_cons_succ]
  refine wpAnyH_take (i := 22) (oi := { dst := some 58, op := Go.Op.convert 32 9 (Go.Operand.tmp 57), type := 9, pos := "law.go:45", after := #[{ on := 21, ground := Go.Ground.data }, { on := 20, ground := Go.Ground.guard }], guard := some (20, true) }) (v := ?v_22_2) rfl (by kernel_rfl) (by kernel_rfl) (by kernel_rfl) (fun _ _ _ h => h) (Or.inl ⟨by rfl, ?y_22_2⟩) (by assumption) ?_
  case y_22_2 => (intro wq hSw; (try dsimp only at hSw); go_simp; first | done | with_reducible rfl)
  try simp only [Act.put, List.setIfInBounds_toArray, List.set_cons_zero, List.set_cons_succ]
  refine wpAnyH_take (i := 23) (oi := { dst := some 59, op := Go.Op.move (Go.Operand.tmp 8), type := 32, pos := "law.go:45", after := #[{ on := 20, ground := Go.Ground.guard }], guard := some (20, true) }) (v := ?v_23_2) rfl (by kernel_rfl) (by kernel_rfl) (by kernel_rfl) (fun _ _ _ h => h) (Or.inl ⟨by rfl, ?y_23_2⟩) (by assumption) ?_
  case y_23_2 => (intro wq hSw; (try dsimp only at hSw); go_simp; first | done | with_reducible rfl)
  try simp only [Act.put, List.setIfInBounds_toArray, List.set_cons_zero, List.set_cons_succ]
  refine wpAnyH_take (i := 24) (oi := { dst := some 60, op := Go.Op.convert 32 9 (Go.Operand.tmp 59), type := 9, pos := "law.go:45", after := #[{ on := 23, ground := Go.Ground.data }, { on := 20, ground := Go.Ground.guard }], guard := some (20, true) }) (v := ?v_24_2) rfl (by kernel_rfl) (by kernel_rfl) (by kernel_rfl) (fun _ _ _ h => h) (Or.inl ⟨by rfl, ?y_24_2⟩) (by assumption) ?_
  case y_24_2 => (intro wq hSw; (try dsimp only at hSw); go_simp; first | done | with_reducible rfl)
  try simp only [Act.put, List.setIfInBounds_toArray, List.set_cons_zero, List.set_cons_succ]
  refine wpAnyH_take (i := 25) (oi := { dst := some 61, op := Go.Op.binOp Go.BinOp.lss 9 (Go.Operand.tmp 58) (Go.Operand.tmp 60) 9, type := 4, pos := "law.go:45", after := #[{ on := 22, ground := Go.Ground.data }, { on := 24, ground := Go.Ground.data }, { on := 20, ground := Go.Ground.guard }], guard := some (20, true) }) (v := ?v_25_2) rfl (by kernel_rfl) (by kernel_rfl) (by kernel_rfl) (fun _ _ _ h => h) (Or.inl ⟨by rfl, ?y_25_2⟩) (by assumption) ?_
  case y_25_2 => (intro wq hSw; (try dsimp only at hSw); go_simp; first | done | with_reducible rfl)
  try simp only [Act.put, List.setIfInBounds_toArray, List.set_cons_zero, List.set_cons_succ]
  refine wpAnyH_take (i := 26) (oi := { dst := some 62, op := Go.Op.load 23 (Go.Operand.tmp 3), type := 23, pos := "law.go:45", after := #[{ on := 20, ground := Go.Ground.guard }], guard := some (20, true) }) (v := ?v_26_2) rfl (by kernel_rfl) (by kernel_rfl) (by kernel_rfl) (fun _ _ _ h => h) (Or.inl ⟨by rfl, ?y_26_2⟩) (by assumption) ?_
  case y_26_2 => (intro wq hSw; (try dsimp only at hSw); go_simp; first | done | with_reducible rfl)
  try simp only [Act.put, List.setIfInBounds_toArray, List.set_cons_zero, List.set_cons_succ]
  refine wpAnyH_take (i := 27) (oi := { dst := some 63, op := Go.Op.load 23 (Go.Operand.tmp 4), type := 23, pos := "law.go:45", after := #[{ on := 20, ground := Go.Ground.guard }], guard := some (20, true) }) (v := ?v_27_2) rfl (by kernel_rfl) (by kernel_rfl) (by kernel_rfl) (fun _ _ _ h => h) (Or.inl ⟨by rfl, ?y_27_2⟩) (by assumption) ?_
  case y_27_2 => (intro wq hSw; (try dsimp only at hSw); go_simp; first | done | with_reducible rfl)
  try simp only [Act.put, List.setIfInBounds_toArray, List.set_cons_zero, List.set_cons_succ]
  refine wpAnyH_ready (rs := [28]) (by kernel_rfl) (by simp) ?_
  refine AllReadyH.cons (o := { dst := some 64, op := Go.Op.call { callee := Go.Callee.value (Go.Operand.func 11), args := #[Go.Operand.tmp 62, Go.Operand.tmp 63], argTypes := #[23, 23] }, type := 4, pos := "law.go:45", after := #[{ on := 26, ground := Go.Ground.data }, { on := 27, ground := Go.Ground.data }, { on := 20, ground := Go.Ground.chain }, { on := 20, ground := Go.Ground.guard }], guard := some (20, true) }) rfl (fun KQ hKQ => ?_) AllReadyH.nil
  go_simp
  refine (L1.out _).mono ?_
  rintro e z1 ⟨rfl, hZ1⟩
  have r1 := HT.out _ hZ1
  go_wp2_with fail
  refine hKQ.out _ _ ?s_28 (fun hHeld28 => ?_)
  case s_28 => exact r1
  clear hKQ KQ
  try simp only [Act.put, List.setIfInBounds_toArray, List.set_cons_zero, List.set_cons_succ]
  refine wpAnyH_take (i := 29) (oi := { dst := some 65, op := Go.Op.binOp Go.BinOp.eql 4 (Go.Operand.tmp 61) (Go.Operand.tmp 64) 4, type := 4, pos := "law.go:45", after := #[{ on := 25, ground := Go.Ground.data }, { on := 28, ground := Go.Ground.data }, { on := 20, ground := Go.Ground.guard }], guard := some (20, true) }) (v := ?v_29_2) rfl (by kernel_rfl) (by kernel_rfl) (by kernel_rfl) (fun _ _ _ h => h) (Or.inl ⟨by rfl, ?y_29_2⟩) (by assumption) ?_
  case y_29_2 => (intro wq hSw; (try dsimp only at hSw); go_simp; first | done | with_reducible rfl)
  try simp only [Act.put, List.setIfInBounds_toArray, List.set_cons_zero, List.set_cons_succ]
  refine wpAnyH_take (i := 30) (oi := { dst := some 66, op := Go.Op.pick (Go.Operand.tmp 56) (Go.Operand.tmp 65) (Go.Operand.const (Go.Value.bool false)), type := 4, pos := "law.go:45", after := #[{ on := 20, ground := Go.Ground.data }, { on := 29, ground := Go.Ground.data }], guard := none }) (v := ?v_30_2) rfl (by kernel_rfl) (by kernel_rfl) (by kernel_rfl) (fun _ _ _ h => h) (Or.inl ⟨by rfl, ?y_30_2⟩) (by assumption) ?_
  case y_30_2 => (intro wq hSw; (try dsimp only at hSw); go_simp; first | done | with_reducible rfl)
  try simp only [Act.put, List.setIfInBounds_toArray, List.set_cons_zero, List.set_cons_succ]
  refine wpAnyH_take (i := 31) (oi := { dst := some 67, op := Go.Op.move (Go.Operand.tmp 66), type := 4, pos := "law.go:45", after := #[{ on := 30, ground := Go.Ground.data }, { on := 28, ground := Go.Ground.chain }], guard := none }) (v := ?v_31_2) rfl (by kernel_rfl) (by kernel_rfl) (by kernel_rfl) (fun _ _ _ h => h) (Or.inl ⟨by rfl, ?y_31_2⟩) (by assumption) ?_
  case y_31_2 => (intro wq hSw; (try dsimp only at hSw); go_simp; first | done | with_reducible rfl)
  try simp only [Act.put, List.setIfInBounds_toArray, List.set_cons_zero, List.set_cons_succ]
  refine wpAnyH_take (i := 32) (oi := { dst := some 68, op := Go.Op.move (Go.Operand.tmp 7), type := 32, pos := "law.go:45", after := #[{ on := 31, ground := Go.Ground.guard }], guard := some (31, true) }) (v := ?v_32_2) rfl (by kernel_rfl) (by kernel_rfl) (by kernel_rfl) (fun _ _ _ h => h) (Or.inl ⟨by rfl, ?y_32_2⟩) (by assumption) ?_
  case y_32_2 => (intro wq hSw; (try dsimp only at hSw); go_simp; first | done | with_reducible rfl)
  try simp only [Act.put, List.setIfInBounds_toArray, List.set_cons_zero, List.set_cons_succ]
  refine wpAnyH_take (i := 33) (oi := { dst := some 69, op := Go.Op.convert 32 9 (Go.Operand.tmp 68), type := 9, pos := "law.go:45", after := #[{ on := 32, ground := Go.Ground.data }, { on := 31, ground := Go.Ground.guard }], guard := some (31, true) }) (v := ?v_33_2) rfl (by kernel_rfl) (by kernel_rfl) (by kernel_rfl) (fun _ _ _ h => h) (Or.inl ⟨by rfl, ?y_33_2⟩) (by assumption) ?_
  case y_33_2 => (intro wq hSw; (try dsimp only at hSw); go_simp; first | done | with_reducible rfl)
  try simp only [Act.put, List.setIfInBounds_toArray, List.set_cons_zero, List.set_cons_succ]
  refine wpAnyH_take (i := 34) (oi := { dst := some 70, op := Go.Op.load 23 (Go.Operand.tmp 3), type := 23, pos := "law.go:45", after := #[{ on := 31, ground := Go.Ground.guard }], guard := some (31, true) }) (v := ?v_34_2) rfl (by kernel_rfl) (by kernel_rfl) (by kernel_rfl) (fun _ _ _ h => h) (Or.inl ⟨by rfl, ?y_34_2⟩) (by assumption) ?_
  case y_34_2 => (intro wq hSw; (try dsimp only at hSw); go_simp; first | done | with_reducible rfl)
  try simp only [Act.put, List.setIfInBounds_toArray, List.set_cons_zero, List.set_cons_succ]
  refine wpAnyH_ready (rs := [35]) (by kernel_rfl) (by simp) ?_
  refine AllReadyH.cons (o := { dst := some 71, op := Go.Op.call { callee := Go.Callee.value (Go.Operand.func 19), args := #[Go.Operand.tmp 70], argTypes := #[23] }, type := 32, pos := "law.go:45", after := #[{ on := 34, ground := Go.Ground.data }, { on := 31, ground := Go.Ground.chain }, { on := 31, ground := Go.Ground.guard }], guard := some (31, true) }) rfl (fun KQ hKQ => ?_) AllReadyH.nil
  go_simp
  refine (L2.out _).mono ?_
  rintro e z2 ⟨A9, c9, rfl, hl9, hO9, hZ2⟩
  have p2 := hZ1.trans (hZ2.mono hZ1.size)
  have r2 := HT.out _ p2
  have hv := text_own hO9 hl9
  clear hl9
  go_wp2_with fail
  refine hKQ.out _ _ ?s_35 (fun hHeld35 => ?_)
  case s_35 => exact r2
  clear hKQ KQ
  try simp only [Act.put, List.setIfInBounds_toArray, List.set_cons_zero, List.set_cons_succ]
  refine wpAnyH_ready (rs := [36]) (by kernel_rfl) (by simp) ?_
  refine AllReadyH.cons (o := { dst := some 72, op := Go.Op.convert 32 9 (Go.Operand.tmp 71), type := 9, pos := "law.go:45", after := #[{ on := 35, ground := Go.Ground.data }, { on := 31, ground := Go.Ground.guard }], guard := some (31, true) }) rfl (fun KQ hKQ => ?_) AllReadyH.nil
  go_simp
  refine hKQ.out _ _ ?s_36 (fun hHeld36 => ?_)
  case s_36 => exact r2
  clear hKQ KQ
  try simp only [Act.put, List.setIfInBounds_toArray, List.set_cons_zero, List.set_cons_succ]
  refine wpAnyH_take (i := 37) (oi := { dst := some 73, op := Go.Op.binOp Go.BinOp.eql 9 (Go.Operand.tmp 69) (Go.Operand.tmp 72) 9, type := 4, pos := "law.go:45", after := #[{ on := 33, ground := Go.Ground.data }, { on := 36, ground := Go.Ground.data }, { on := 31, ground := Go.Ground.guard }], guard := some (31, true) }) (v := ?v_37_2) rfl (by kernel_rfl) (by kernel_rfl) (by kernel_rfl) (fun _ _ _ h => h) (Or.inl ⟨by rfl, ?y_37_2⟩) (by assumption) ?_
  case y_37_2 => (intro wq hSw; (try dsimp only at hSw); go_simp; first | done | with_reducible rfl)
  try simp only [Act.put, List.setIfInBounds_toArray, List.set_cons_zero, List.set_cons_succ]
  refine wpAnyH_take (i := 38) (oi := { dst := some 74, op := Go.Op.pick (Go.Operand.tmp 67) (Go.Operand.tmp 73) (Go.Operand.const (Go.Value.bool false)), type := 4, pos := "law.go:45", after := #[{ on := 31, ground := Go.Ground.data }, { on := 37, ground := Go.Ground.data }], guard := none }) (v := ?v_38_2) rfl (by kernel_rfl) (by kernel_rfl) (by kernel_rfl) (fun _ _ _ h => h) (Or.inl ⟨by rfl, ?y_38_2⟩) (by assumption) ?_
  case y_38_2 => (intro wq hSw; (try dsimp only at hSw); go_simp; first | done | with_reducible rfl)
  try simp only [Act.put, List.setIfInBounds_toArray, List.set_cons_zero, List.set_cons_succ]
  refine wpAnyH_take (i := 39) (oi := { dst := some 6, op := Go.Op.assign (Go.Operand.tmp 74), type := 4, pos := "law.go:45", after := #[{ on := 38, ground := Go.Ground.data }, { on := 35, ground := Go.Ground.chain }, { on := 0, ground := Go.Ground.phase }, { on := 1, ground := Go.Ground.phase }, { on := 2, ground := Go.Ground.phase }, { on := 3, ground := Go.Ground.phase }, { on := 4, ground := Go.Ground.phase }, { on := 5, ground := Go.Ground.phase }, { on := 6, ground := Go.Ground.phase }, { on := 7, ground := Go.Ground.phase }, { on := 8, ground := Go.Ground.phase }, { on := 9, ground := Go.Ground.phase }, { on := 10, ground := Go.Ground.phase }, { on := 11, ground := Go.Ground.phase }, { on := 12, ground := Go.Ground.phase }, { on := 13, ground := Go.Ground.phase }, { on := 14, ground := Go.Ground.phase }, { on := 15, ground := Go.Ground.phase }, { on := 16, ground := Go.Ground.phase }, { on := 17, ground := Go.Ground.phase }, { on := 18, ground := Go.Ground.phase }, { on := 19, ground := Go.Ground.phase }, { on := 20, ground := Go.Ground.phase }, { on := 21, ground := Go.Ground.phase }, { on := 22, ground := Go.Ground.phase }, { on := 23, ground := Go.Ground.phase }, { on := 24, ground := Go.Ground.phase }, { on := 25, ground := Go.Ground.phase }, { on := 26, ground := Go.Ground.phase }, { on := 27, ground := Go.Ground.phase }, { on := 28, ground := Go.Ground.phase }, { on := 29, ground := Go.Ground.phase }, { on := 30, ground := Go.Ground.phase }, { on := 31, ground := Go.Ground.phase }, { on := 32, ground := Go.Ground.phase }, { on := 33, ground := Go.Ground.phase }, { on := 34, ground := Go.Ground.phase }, { on := 35, ground := Go.Ground.phase }, { on := 36, ground := Go.Ground.phase }, { on := 37, ground := Go.Ground.phase }, { on := 38, ground := Go.Ground.phase }], guard := none }) (v := ?v_39_2) rfl (by kernel_rfl) (by kernel_rfl) (by kernel_rfl) (fun _ _ _ h => h) (Or.inl ⟨by rfl, ?y_39_2⟩) (by assumption) ?_
  case y_39_2 => (intro wq hSw; (try dsimp only at hSw); go_simp; first | done | with_reducible rfl)
  try simp only [Act.put, List.setIfInBounds_toArray, List.set_cons_zero, List.set_cons_succ]
  refine wpAnyH_done (by kernel_rfl) ?_ _
  go_wp2_with fail
  go_ret
  exact ⟨by first | rfl | simp, hBf.out.trans (p2.mono hBf.out.size)⟩
end Go.Proofs.Ytpalhpkbdkodfaa.law6
