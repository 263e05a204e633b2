/- What LessTry of the program's own package stamp comes to, by cmp.Compare and cmp.Or of ints. Conditions: none. -/
import Derived.Test.YtpalhpkbdkodfaaRef6
import Derived.Deep.RegionHeld3
namespace Go.Proofs.Ytpalhpkbdkodfaa.stamp
open Go.RowKit Go.Proofs.Ytpalhpkbdkodfaa.kit Go.Proofs.Ytpalhpkbdkodfaa.nums Go.Proofs.Ytpalhpkbdkodfaa.st Go.Proofs.Ytpalhpkbdkodfaa.ref6
set_option linter.unusedVariables false

def cmpF (x y : Int) : Int := if x < y then -1 else if y < x then 1 else 0
def orF : List Int → Int
  | [] => 0
  | x :: l => if x ≠ 0 then x else orF l
theorem cmp_any (x y : Int) (w : World) : Calls Try.prog 31 #[.int .i64 x, .int .i64 y] w fun e w' => e = .returned (.int .i64 (cmpF x y)) ∧ w = w' := by
  have N : Hid (∀ (x : Int) (w : World), Calls Try.prog 40 #[.int .i64 x] w fun e w' => e = .returned (.bool false) ∧ w = w') := fun x w => by
    go_enter Try.func40, Try.ntmps40
    go_wp2_with fail
    go_ret
    exact ⟨rfl, rfl⟩
  by_cases h1 : x < y
  · have HF : Hid (cmpF x y = -1) := if_pos h1
    go_enter Try.func31, Try.ntmps31
    go_wp2_with fail
    refine (N.out _ _).mono ?_
    rintro e w2 ⟨rfl, rfl⟩
    go_wp2_with fail
    refine (N.out _ _).mono ?_
    rintro e w2 ⟨rfl, rfl⟩
    go_wp2_with fail
    go_ret
    exact ⟨by rw [HF.out]; rfl, rfl⟩
  · by_cases h2 : y < x
    · have HF : Hid (cmpF x y = 1) := by unfold cmpF; rw [if_neg h1, if_pos h2]; exact Lib.hid rfl
      go_enter Try.func31, Try.ntmps31
      go_wp2_with fail
      refine (N.out _ _).mono ?_
      rintro e w2 ⟨rfl, rfl⟩
      go_wp2_with fail
      refine (N.out _ _).mono ?_
      rintro e w2 ⟨rfl, rfl⟩
      go_wp2_with fail
      go_ret
      exact ⟨by rw [HF.out]; rfl, rfl⟩
    · have HF : Hid (cmpF x y = 0) := by unfold cmpF; rw [if_neg h1, if_neg h2]; exact Lib.hid rfl
      go_enter Try.func31, Try.ntmps31
      go_wp2_with fail
      refine (N.out _ _).mono ?_
      rintro e w2 ⟨rfl, rfl⟩
      go_wp2_with fail
      refine (N.out _ _).mono ?_
      rintro e w2 ⟨rfl, rfl⟩
      go_wp2_with fail
      go_ret
      exact ⟨by rw [HF.out]; rfl, rfl⟩
theorem orF_drop (l : List Int) (j : Nat) (hj : j < l.length) (h : l.getD j 0 = 0) : orF (l.drop j) = orF (l.drop (j + 1)) := by
  rw [List.drop_eq_getElem_cons hj]
  have : l[j] = 0 := by simpa [List.getD, hj] using h
  simp [orF, this]
theorem orF_hit (l : List Int) (j : Nat) (hj : j < l.length) (h : l.getD j 0 ≠ 0) : orF (l.drop j) = l.getD j 0 := by
  rw [List.drop_eq_getElem_cons hj]
  have e : l.getD j 0 = l[j] := by simp [List.getD, hj]
  rw [e] at h ⊢
  simp [orF, h]
theorem or_any (l : List Int) (n c b o : Nat) (w : World) (hl : l.length = n) (hb : n ≤ 1099511627776) (hc : ∀ j, j < n → w.cell? ⟨b, o + j, none⟩ = some (.int .i64 (l.getD j 0))) :
    Calls Try.prog 30 #[.slice (some ⟨b, o, none⟩) n c] w fun e w' => e = .returned (.int .i64 (orF l)) ∧ w = w' := by
  have HC := Lib.hid hc
  have HD := Lib.hid (orF_drop l)
  have HH := Lib.hid (orF_hit l)
  have HL := Lib.hid hl
  clear hc hl
  go_enter Try.func30, Try.ntmps30
  go_wp2_with fail
  go_loop [8] (fun i => ∃ j : Nat, j ≤ n ∧ i = .int .i64 j ∧ Hid (orF l = orF (l.drop j))) (fun i => n - (intOf i).toNat)
  case atStart => exact ⟨0, Nat.zero_le _, rfl, rfl⟩
  case round =>
    obtain ⟨j, hj, rfl, hO⟩ := hrel
    by_cases hlt : j < n
    · have hx := HC.out j hlt
      by_cases h0 : l.getD j 0 = 0
      · have HN : Hid (orF l = orF (l.drop (j + 1))) := hO.out.trans (HD.out j (by rw [HL.out]; exact hlt) h0)
        rw [h0] at hx
        clear h0
        go_wp2_with fail
        go_round
        case rel => exact ⟨j + 1, by omega, by go_num, HN⟩
        case measure => simp [intOf]; omega
      · have HN : Hid (orF l = l.getD j 0) := hO.out.trans (HH.out j (by rw [HL.out]; exact hlt) h0)
        have h0' : (l.getD j 0 == 0) = false := by simpa using h0
        generalize l.getD j 0 = x at *
        go_wp2_with fail
        go_ret
        exact ⟨by rw [HN.out]; rfl, rfl⟩
    · obtain rfl : j = n := by omega
      have HN : Hid (orF l = 0) := by rw [hO.out, List.drop_of_length_le (by rw [HL.out]; omega)]; exact Lib.hid rfl
      go_wp2_with fail
      go_ret
      exact ⟨by rw [HN.out]; rfl, rfl⟩
theorem orF_cmp (x y : Int) (l : List Int) : orF (cmpF x y :: l) = if x ≠ y then cmpF x y else orF l := by
  by_cases h : x = y
  · subst h
    simp [orF, cmpF]
  · rw [if_pos h]
    have : cmpF x y ≠ 0 := by
      unfold cmpF
      by_cases h1 : x < y
      · rw [if_pos h1]; decide
      · rw [if_neg h1, if_pos (by omega)]; decide
    exact if_pos this
theorem cmpF_neg (x y : Int) : decide (cmpF x y < 0) = decide (x < y) := by
  unfold cmpF
  by_cases h1 : x < y
  · rw [if_pos h1]; simp [h1]
  · rw [if_neg h1]
    by_cases h2 : y < x
    · rw [if_pos h2]; simp [h1]
    · rw [if_neg h2]; simp [h1]
theorem less_or (a b : TrL) : decide (orF [cmpF a.node b.node, cmpF a.life b.life, cmpF a.seq b.seq, cmpF a.att b.att] < 0) = lessT a b := by
  unfold lessT
  rw [orF_cmp, orF_cmp, orF_cmp, orF_cmp]
  by_cases h : a.node ≠ b.node
  · rw [if_pos h, if_pos h, cmpF_neg]
  rw [if_neg h, if_neg h]
  by_cases h2 : a.life ≠ b.life
  · rw [if_pos h2, if_pos h2, cmpF_neg]
  rw [if_neg h2, if_neg h2]
  by_cases h3 : a.seq ≠ b.seq
  · rw [if_pos h3, if_pos h3, cmpF_neg]
  rw [if_neg h3, if_neg h3]
  by_cases h4 : a.att ≠ b.att
  · rw [if_pos h4, cmpF_neg]
  rw [if_neg h4]
  have : ¬ a.att < b.att := by omega
  simp [orF, this]
set_option maxRecDepth 100000 in
set_option maxHeartbeats 2000000 in
theorem lessT_any (a b : TrL) (ha : a.ok) (hb : b.ok) (w : World) :
    Calls Try.prog 15 #[trV a, trV b] w fun e w' => e = .returned (.bool (lessT a b)) ∧ Below w.heap.size w w' := by
  have HT := Lib.hid (less_or a b)
  clear ha hb
  obtain ⟨xa, xb, xc, xd⟩ := a
  obtain ⟨ya, yb, yc, yd⟩ := b
  dsimp only at HT
  have CC := Lib.hid cmp_any
  have OO := Lib.hid (fun (x y z u : Int) (b c : Nat) (w : World) => or_any [x, y, z, u] 4 c b 0 w rfl (by omega))
  unfold trV at *
  go_enter Try.func15, Try.ntmps15
  have hB2 : Hid (Below w.heap.size w ((w.alloc (.cells #[.int .i64 xa, .int .i64 xb, .int .i64 xc, .int .i64 xd] 25)).alloc (.cells #[.int .i64 ya, .int .i64 yb, .int .i64 yc, .int .i64 yd] 25))) := ((Below.refl _ _).alloc (Nat.le_refl _) _).alloc (by simp) _
  have k0 : Blk 25 ((w.alloc (.cells #[.int .i64 xa, .int .i64 xb, .int .i64 xc, .int .i64 xd] 25)).alloc (.cells #[.int .i64 ya, .int .i64 yb, .int .i64 yc, .int .i64 yd] 25)) w.heap.size [.int .i64 xa, .int .i64 xb, .int .i64 xc, .int .i64 xd] := Blk.alloc (heap_alloc_new w _) _
  have k1 : Blk 25 ((w.alloc (.cells #[.int .i64 xa, .int .i64 xb, .int .i64 xc, .int .i64 xd] 25)).alloc (.cells #[.int .i64 ya, .int .i64 yb, .int .i64 yc, .int .i64 yd] 25)) (w.heap.size + 1) [.int .i64 ya, .int .i64 yb, .int .i64 yc, .int .i64 yd] := by
    have := heap_alloc_new (w.alloc (.cells #[.int .i64 xa, .int .i64 xb, .int .i64 xc, .int .i64 xd] 25)) (.cells #[.int .i64 ya, .int .i64 yb, .int .i64 yc, .int .i64 yd] 25)
    simpa [Blk] using this
  go_upto_region 1 with (fail)
  generalize ((w.alloc (.cells #[.int .i64 xa, .int .i64 xb, .int .i64 xc, .int .i64 xd] 25)).alloc (.cells #[.int .i64 ya, .int .i64 yb, .int .i64 yc, .int .i64 yd] 25)) = w2 at *
  have l1 := k1.lt
  have hK : ∀ wq, Below w2.heap.size w2 wq → (wq.cell? ⟨w.heap.size, 0, none⟩ = some (.int .i64 xa) ∧ wq.cell? ⟨w.heap.size, 1, none⟩ = some (.int .i64 xb) ∧ wq.cell? ⟨w.heap.size, 2, none⟩ = some (.int .i64 xc) ∧ wq.cell? ⟨w.heap.size, 3, none⟩ = some (.int .i64 xd)) ∧ wq.cell? ⟨w.heap.size + 1, 0, none⟩ = some (.int .i64 ya) ∧ wq.cell? ⟨w.heap.size + 1, 1, none⟩ = some (.int .i64 yb) ∧ wq.cell? ⟨w.heap.size + 1, 2, none⟩ = some (.int .i64 yc) ∧ wq.cell? ⟨w.heap.size + 1, 3, none⟩ = some (.int .i64 yd) := fun wq hq => by
    have j0 := k0.below hq (by omega)
    have j1 := k1.below hq (by omega)
    exact ⟨⟨j0.cell 0, j0.cell 1, j0.cell 2, j0.cell 3⟩, j1.cell 0, j1.cell 1, j1.cell 2, j1.cell 3⟩
  have hSr := Lib.hid hK
  clear hK k0 k1
  refine wp_region_held_drew (S := fun wq => (wq.cell? ⟨w.heap.size, 0, none⟩ = some (.int .i64 xa) ∧ wq.cell? ⟨w.heap.size, 1, none⟩ = some (.int .i64 xb) ∧ wq.cell? ⟨w.heap.size, 2, none⟩ = some (.int .i64 xc) ∧ wq.cell? ⟨w.heap.size, 3, none⟩ = some (.int .i64 xd)) ∧ wq.cell? ⟨w.heap.size + 1, 0, none⟩ = some (.int .i64 ya) ∧ wq.cell? ⟨w.heap.size + 1, 1, none⟩ = some (.int .i64 yb) ∧ wq.cell? ⟨w.heap.size + 1, 2, none⟩ = some (.int .i64 yc) ∧ wq.cell? ⟨w.heap.size + 1, 3, none⟩ = some (.int .i64 yd)) (by kernel_rfl) ?s_0 (fun hHeld => ?_)
  case s_0 => exact hSr.out _ ((Below.refl _ _).drew)
  refine wpAnyH_take (i := 0) (oi := { dst := some 5, op := Go.Op.fieldAddr 25 (Go.Operand.tmp 2) 0, type := 0, pos := "stamp.go:100", after := #[], guard := none }) (v := ?v_0_1) rfl (by kernel_rfl) (by kernel_rfl) (by kernel_rfl) (fun _ _ _ h => h) (Or.inl ⟨by rfl, ?y_0_1⟩) (by assumption) ?_
  case y_0_1 => (intro wq hSw; (try dsimp only at hSw); go_simp; first | done | with_reducible rfl)
  try simp only [Act.put, List.setIfInBounds_toArray, List.set_cons_zero, List.set_cons_succ]
  refine wpAnyH_take (i := 1) (oi := { dst := some 6, op := Go.Op.load 3 (Go.Operand.tmp 5), type := 3, pos := "stamp.go:100", after := #[{ on := 0, ground := Go.Ground.data }], guard := none }) (v := ?v_1_1) rfl (by kernel_rfl) (by kernel_rfl) (by kernel_rfl) (fun _ _ _ h => h) (Or.inl ⟨by rfl, ?y_1_1⟩) (by assumption) ?_
  case y_1_1 => (intro wq hSw; (try dsimp only at hSw); go_simp; first | done | with_reducible rfl)
  try simp only [Act.put, List.setIfInBounds_toArray, List.set_cons_zero, List.set_cons_succ]
  refine wpAnyH_take (i := 2) (oi := { dst := some 7, op := Go.Op.fieldAddr 25 (Go.Operand.tmp 3) 0, type := 0, pos := "stamp.go:100", after := #[], guard := none }) (v := ?v_2_1) rfl (by kernel_rfl) (by kernel_rfl) (by kernel_rfl) (fun _ _ _ h => h) (Or.inl ⟨by rfl, ?y_2_1⟩) (by assumption) ?_
  case y_2_1 => (intro wq hSw; (try dsimp only at hSw); go_simp; first | done | with_reducible rfl)
  try simp only [Act.put, List.setIfInBounds_toArray, List.set_cons_zero, List.set_cons_succ]
  refine wpAnyH_take (i := 3) (oi := { dst := some 8, op := Go.Op.load 3 (Go.Operand.tmp 7), type := 3, pos := "stamp.go:100", after := #[{ on := 2, ground := Go.Ground.data }], guard := none }) (v := ?v_3_1) rfl (by kernel_rfl) (by kernel_rfl) (by kernel_rfl) (fun _ _ _ h => h) (Or.inl ⟨by rfl, ?y_3_1⟩) (by assumption) ?_
  case y_3_1 => (intro wq hSw; (try dsimp only at hSw); go_simp; first | done | with_reducible rfl)
  try simp only [Act.put, List.setIfInBounds_toArray, List.set_cons_zero, List.set_cons_succ]
  refine wpAnyH_take (i := 5) (oi := { dst := some 10, op := Go.Op.fieldAddr 25 (Go.Operand.tmp 2) 1, type := 0, pos := "stamp.go:100", after := #[], guard := none }) (v := ?v_5_1) rfl (by kernel_rfl) (by kernel_rfl) (by kernel_rfl) (fun _ _ _ h => h) (Or.inl ⟨by rfl, ?y_5_1⟩) (by assumption) ?_
  case y_5_1 => (intro wq hSw; (try dsimp only at hSw); go_simp; first | done | with_reducible rfl)
  try simp only [Act.put, List.setIfInBounds_toArray, List.set_cons_zero, List.set_cons_succ]
  refine wpAnyH_take (i := 6) (oi := { dst := some 11, op := Go.Op.load 3 (Go.Operand.tmp 10), type := 3, pos := "stamp.go:100", after := #[{ on := 5, ground := Go.Ground.data }], guard := none }) (v := ?v_6_1) rfl (by kernel_rfl) (by kernel_rfl) (by kernel_rfl) (fun _ _ _ h => h) (Or.inl ⟨by rfl, ?y_6_1⟩) (by assumption) ?_
  case y_6_1 => (intro wq hSw; (try dsimp only at hSw); go_simp; first | done | with_reducible rfl)
  try simp only [Act.put, List.setIfInBounds_toArray, List.set_cons_zero, List.set_cons_succ]
  refine wpAnyH_take (i := 7) (oi := { dst := some 12, op := Go.Op.fieldAddr 25 (Go.Operand.tmp 3) 1, type := 0, pos := "stamp.go:100", after := #[], guard := none }) (v := ?v_7_1) rfl (by kernel_rfl) (by kernel_rfl) (by kernel_rfl) (fun _ _ _ h => h) (Or.inl ⟨by rfl, ?y_7_1⟩) (by assumption) ?_
  case y_7_1 => (intro wq hSw; (try dsimp only at hSw); go_simp; first | done | with_reducible rfl)
  try simp only [Act.put, List.setIfInBounds_toArray, List.set_cons_zero, List.set_cons_succ]
  refine wpAnyH_take (i := 8) (oi := { dst := some 13, op := Go.Op.load 3 (Go.Operand.tmp 12), type := 3, pos := "stamp.go:100", after := #[{ on := 7, ground := Go.Ground.data }], guard := none }) (v := ?v_8_1) rfl (by kernel_rfl) (by kernel_rfl) (by kernel_rfl) (fun _ _ _ h => h) (Or.inl ⟨by rfl, ?y_8_1⟩) (by assumption) ?_
  case y_8_1 => (intro wq hSw; (try dsimp only at hSw); go_simp; first | done | with_reducible rfl)
  try simp only [Act.put, List.setIfInBounds_toArray, List.set_cons_zero, List.set_cons_succ]
  refine wpAnyH_take (i := 10) (oi := { dst := some 15, op := Go.Op.fieldAddr 25 (Go.Operand.tmp 2) 2, type := 0, pos := "stamp.go:100", after := #[], guard := none }) (v := ?v_10_1) rfl (by kernel_rfl) (by kernel_rfl) (by kernel_rfl) (fun _ _ _ h => h) (Or.inl ⟨by rfl, ?y_10_1⟩) (by assumption) ?_
  case y_10_1 => (intro wq hSw; (try dsimp only at hSw); go_simp; first | done | with_reducible rfl)
  try simp only [Act.put, List.setIfInBounds_toArray, List.set_cons_zero, List.set_cons_succ]
  refine wpAnyH_take (i := 11) (oi := { dst := some 16, op := Go.Op.load 3 (Go.Operand.tmp 15), type := 3, pos := "stamp.go:100", after := #[{ on := 10, ground := Go.Ground.data }], guard := none }) (v := ?v_11_1) rfl (by kernel_rfl) (by kernel_rfl) (by kernel_rfl) (fun _ _ _ h => h) (Or.inl ⟨by rfl, ?y_11_1⟩) (by assumption) ?_
  case y_11_1 => (intro wq hSw; (try dsimp only at hSw); go_simp; first | done | with_reducible rfl)
  try simp only [Act.put, List.setIfInBounds_toArray, List.set_cons_zero, List.set_cons_succ]
  refine wpAnyH_take (i := 12) (oi := { dst := some 17, op := Go.Op.fieldAddr 25 (Go.Operand.tmp 3) 2, type := 0, pos := "stamp.go:100", after := #[], guard := none }) (v := ?v_12_1) rfl (by kernel_rfl) (by kernel_rfl) (by kernel_rfl) (fun _ _ _ h => h) (Or.inl ⟨by rfl, ?y_12_1⟩) (by assumption) ?_
  case y_12_1 => (intro wq hSw; (try dsimp only at hSw); go_simp; first | done | with_reducible rfl)
  try simp only [Act.put, List.setIfInBounds_toArray, List.set_cons_zero, List.set_cons_succ]
  refine wpAnyH_take (i := 13) (oi := { dst := some 18, op := Go.Op.load 3 (Go.Operand.tmp 17), type := 3, pos := "stamp.go:100", after := #[{ on := 12, ground := Go.Ground.data }], guard := none }) (v := ?v_13_1) rfl (by kernel_rfl) (by kernel_rfl) (by kernel_rfl) (fun _ _ _ h => h) (Or.inl ⟨by rfl, ?y_13_1⟩) (by assumption) ?_
  case y_13_1 => (intro wq hSw; (try dsimp only at hSw); go_simp; first | done | with_reducible rfl)
  try simp only [Act.put, List.setIfInBounds_toArray, List.set_cons_zero, List.set_cons_succ]
  refine wpAnyH_take (i := 15) (oi := { dst := some 20, op := Go.Op.fieldAddr 25 (Go.Operand.tmp 2) 3, type := 0, pos := "stamp.go:100", after := #[], guard := none }) (v := ?v_15_1) rfl (by kernel_rfl) (by kernel_rfl) (by kernel_rfl) (fun _ _ _ h => h) (Or.inl ⟨by rfl, ?y_15_1⟩) (by assumption) ?_
  case y_15_1 => (intro wq hSw; (try dsimp only at hSw); go_simp; first | done | with_reducible rfl)
  try simp only [Act.put, List.setIfInBounds_toArray, List.set_cons_zero, List.set_cons_succ]
  refine wpAnyH_take (i := 16) (oi := { dst := some 21, op := Go.Op.load 3 (Go.Operand.tmp 20), type := 3, pos := "stamp.go:100", after := #[{ on := 15, ground := Go.Ground.data }], guard := none }) (v := ?v_16_1) rfl (by kernel_rfl) (by kernel_rfl) (by kernel_rfl) (fun _ _ _ h => h) (Or.inl ⟨by rfl, ?y_16_1⟩) (by assumption) ?_
  case y_16_1 => (intro wq hSw; (try dsimp only at hSw); go_simp; first | done | with_reducible rfl)
  try simp only [Act.put, List.setIfInBounds_toArray, List.set_cons_zero, List.set_cons_succ]
  refine wpAnyH_take (i := 17) (oi := { dst := some 22, op := Go.Op.fieldAddr 25 (Go.Operand.tmp 3) 3, type := 0, pos := "stamp.go:100", after := #[], guard := none }) (v := ?v_17_1) rfl (by kernel_rfl) (by kernel_rfl) (by kernel_rfl) (fun _ _ _ h => h) (Or.inl ⟨by rfl, ?y_17_1⟩) (by assumption) ?_
  case y_17_1 => (intro wq hSw; (try dsimp only at hSw); go_simp; first | done | with_reducible rfl)
  try simp only [Act.put, List.setIfInBounds_toArray, List.set_cons_zero, List.set_cons_succ]
  refine wpAnyH_take (i := 18) (oi := { dst := some 23, op := Go.Op.load 3 (Go.Operand.tmp 22), type := 3, pos := "stamp.go:100", after := #[{ on := 17, ground := Go.Ground.data }], guard := none }) (v := ?v_18_1) rfl (by kernel_rfl) (by kernel_rfl) (by kernel_rfl) (fun _ _ _ h => h) (Or.inl ⟨by rfl, ?y_18_1⟩) (by assumption) ?_
  case y_18_1 => (intro wq hSw; (try dsimp only at hSw); go_simp; first | done | with_reducible rfl)
  try simp only [Act.put, List.setIfInBounds_toArray, List.set_cons_zero, List.set_cons_succ]
  refine wpAnyH_ready (rs := [4]) (by kernel_rfl) (by simp) ?_
  refine AllReadyH.cons (o := { dst := some 9, op := Go.Op.call { callee := Go.Callee.value (Go.Operand.func 31), args := #[Go.Operand.tmp 6, Go.Operand.tmp 8], argTypes := #[3, 3] }, type := 3, pos := "stamp.go:101", after := #[{ on := 1, ground := Go.Ground.data }, { on := 3, ground := Go.Ground.data }], guard := none }) rfl (fun KQ hKQ => ?_) AllReadyH.nil
  go_simp
  refine (CC.out _ _ _).mono ?_
  rintro e yy ⟨rfl, rfl⟩
  go_wp2_with fail
  refine hKQ.out _ _ ?s_4 (fun hHeld4 => ?_)
  case s_4 => exact hHeld
  clear hKQ KQ
  try simp only [Act.put, List.setIfInBounds_toArray, List.set_cons_zero, List.set_cons_succ]
  refine wpAnyH_ready (rs := [9]) (by kernel_rfl) (by simp) ?_
  refine AllReadyH.cons (o := { dst := some 14, op := Go.Op.call { callee := Go.Callee.value (Go.Operand.func 31), args := #[Go.Operand.tmp 11, Go.Operand.tmp 13], argTypes := #[3, 3] }, type := 3, pos := "stamp.go:102", after := #[{ on := 6, ground := Go.Ground.data }, { on := 8, ground := Go.Ground.data }, { on := 4, ground := Go.Ground.chain }], guard := none }) rfl (fun KQ hKQ => ?_) AllReadyH.nil
  go_simp
  refine (CC.out _ _ _).mono ?_
  rintro e yy ⟨rfl, rfl⟩
  go_wp2_with fail
  refine hKQ.out _ _ ?s_9 (fun hHeld9 => ?_)
  case s_9 => exact hHeld
  clear hKQ KQ
  try simp only [Act.put, List.setIfInBounds_toArray, List.set_cons_zero, List.set_cons_succ]
  refine wpAnyH_ready (rs := [14]) (by kernel_rfl) (by simp) ?_
  refine AllReadyH.cons (o := { dst := some 19, op := Go.Op.call { callee := Go.Callee.value (Go.Operand.func 31), args := #[Go.Operand.tmp 16, Go.Operand.tmp 18], argTypes := #[3, 3] }, type := 3, pos := "stamp.go:103", after := #[{ on := 11, ground := Go.Ground.data }, { on := 13, ground := Go.Ground.data }, { on := 9, ground := Go.Ground.chain }], guard := none }) rfl (fun KQ hKQ => ?_) AllReadyH.nil
  go_simp
  refine (CC.out _ _ _).mono ?_
  rintro e yy ⟨rfl, rfl⟩
  go_wp2_with fail
  refine hKQ.out _ _ ?s_14 (fun hHeld14 => ?_)
  case s_14 => exact hHeld
  clear hKQ KQ
  try simp only [Act.put, List.setIfInBounds_toArray, List.set_cons_zero, List.set_cons_succ]
  refine wpAnyH_ready (rs := [19]) (by kernel_rfl) (by simp) ?_
  refine AllReadyH.cons (o := { dst := some 24, op := Go.Op.call { callee := Go.Callee.value (Go.Operand.func 31), args := #[Go.Operand.tmp 21, Go.Operand.tmp 23], argTypes := #[3, 3] }, type := 3, pos := "stamp.go:104", after := #[{ on := 16, ground := Go.Ground.data }, { on := 18, ground := Go.Ground.data }, { on := 14, ground := Go.Ground.chain }], guard := none }) rfl (fun KQ hKQ => ?_) AllReadyH.nil
  go_simp
  refine (CC.out _ _ _).mono ?_
  rintro e yy ⟨rfl, rfl⟩
  go_wp2_with fail
  refine hKQ.out _ _ ?s_19 (fun hHeld19 => ?_)
  case s_19 => exact hHeld
  clear hKQ KQ
  try simp only [Act.put, List.setIfInBounds_toArray, List.set_cons_zero, List.set_cons_succ]
  refine wpAnyH_ready (rs := [20]) (by kernel_rfl) (by simp) ?_
  refine AllReadyH.cons (o := { dst := some 25, op := Go.Op.buildSlice 67 4 #[(0, Go.Operand.tmp 9), (1, Go.Operand.tmp 14), (2, Go.Operand.tmp 19), (3, Go.Operand.tmp 24)], type := 67, pos := "stamp.go:100", after := #[{ on := 4, ground := Go.Ground.data }, { on := 9, ground := Go.Ground.data }, { on := 14, ground := Go.Ground.data }, { on := 19, ground := Go.Ground.data }], guard := none }) rfl (fun KQ hKQ => ?_) AllReadyH.nil
  go_simp
  refine hKQ.out _ _ ?s_20 (fun hHeld20 => ?_)
  case s_20 => exact hSr.out _ (((Below.refl _ _).alloc (Nat.le_refl _) _).drew)
  clear hKQ KQ
  try simp only [Act.put, List.setIfInBounds_toArray, List.set_cons_zero, List.set_cons_succ]
  refine wpAnyH_ready (rs := [21]) (by kernel_rfl) (by simp) ?_
  refine AllReadyH.cons (o := { dst := some 26, op := Go.Op.call { callee := Go.Callee.value (Go.Operand.func 30), args := #[Go.Operand.tmp 25], argTypes := #[67] }, type := 3, pos := "stamp.go:100", after := #[{ on := 20, ground := Go.Ground.data }, { on := 19, ground := Go.Ground.chain }], guard := none }) rfl (fun KQ hKQ => ?_) AllReadyH.nil
  go_simp
  refine (OO.out (cmpF xa ya) (cmpF xb yb) (cmpF xc yc) (cmpF xd yd) w2.heap.size 4 _ (fun j hj => ?_)).mono ?_
  · (rcases j with _ | _ | _ | _ | j) <;> first | exact (Blk.drew (heap_alloc_new w2 _)).cell 0 | exact (Blk.drew (heap_alloc_new w2 _)).cell 1 | exact (Blk.drew (heap_alloc_new w2 _)).cell 2 | exact (Blk.drew (heap_alloc_new w2 _)).cell 3 | omega
  rintro e yy ⟨rfl, rfl⟩
  go_wp2_with fail
  refine hKQ.out _ _ ?s_21 (fun hHeld21 => ?_)
  case s_21 => exact hSr.out _ (((Below.refl _ _).alloc (Nat.le_refl _) _).drew)
  clear hKQ KQ
  try simp only [Act.put, List.setIfInBounds_toArray, List.set_cons_zero, List.set_cons_succ]
  refine wpAnyH_take (i := 22) (oi := { dst := some 27, op := Go.Op.binOp Go.BinOp.lss 3 (Go.Operand.tmp 26) (Go.Operand.const (Go.Value.int Go.IntKind.i64 0)) 3, type := 4, pos := "stamp.go:100", after := #[{ on := 21, ground := Go.Ground.data }], guard := none }) (v := ?v_22_1) rfl (by kernel_rfl) (by kernel_rfl) (by kernel_rfl) (fun _ _ _ h => h) (Or.inl ⟨by rfl, ?y_22_1⟩) (by assumption) ?_
  case y_22_1 => (intro wq hSw; (try dsimp only at hSw); go_simp; first | done | with_reducible rfl)
  try simp only [Act.put, List.setIfInBounds_toArray, List.set_cons_zero, List.set_cons_succ]
  refine wpAnyH_take (i := 23) (oi := { dst := some 4, op := Go.Op.assign (Go.Operand.tmp 27), type := 4, pos := "stamp.go:100", after := #[{ on := 22, ground := Go.Ground.data }, { on := 21, ground := Go.Ground.chain }, { on := 0, ground := Go.Ground.phase }, { on := 1, ground := Go.Ground.phase }, { on := 2, ground := Go.Ground.phase }, { on := 3, ground := Go.Ground.phase }, { on := 4, ground := Go.Ground.phase }, { on := 5, ground := Go.Ground.phase }, { on := 6, ground := Go.Ground.phase }, { on := 7, ground := Go.Ground.phase }, { on := 8, ground := Go.Ground.phase }, { on := 9, ground := Go.Ground.phase }, { on := 10, ground := Go.Ground.phase }, { on := 11, ground := Go.Ground.phase }, { on := 12, ground := Go.Ground.phase }, { on := 13, ground := Go.Ground.phase }, { on := 14, ground := Go.Ground.phase }, { on := 15, ground := Go.Ground.phase }, { on := 16, ground := Go.Ground.phase }, { on := 17, ground := Go.Ground.phase }, { on := 18, ground := Go.Ground.phase }, { on := 19, ground := Go.Ground.phase }, { on := 20, ground := Go.Ground.phase }, { on := 21, ground := Go.Ground.phase }, { on := 22, ground := Go.Ground.phase }], guard := none }) (v := ?v_23_1) rfl (by kernel_rfl) (by kernel_rfl) (by kernel_rfl) (fun _ _ _ h => h) (Or.inl ⟨by rfl, ?y_23_1⟩) (by assumption) ?_
  case y_23_1 => (intro wq hSw; (try dsimp only at hSw); go_simp; first | done | with_reducible rfl)
  try simp only [Act.put, List.setIfInBounds_toArray, List.set_cons_zero, List.set_cons_succ]
  refine wpAnyH_done (by kernel_rfl) ?_ _
  go_wp2_with fail
  go_ret
  exact ⟨by rw [← HT.out]; rfl, hB2.out.trans ((((Below.refl _ _).alloc (Nat.le_refl _) _).drew).mono hB2.out.size)⟩
end Go.Proofs.Ytpalhpkbdkodfaa.stamp
