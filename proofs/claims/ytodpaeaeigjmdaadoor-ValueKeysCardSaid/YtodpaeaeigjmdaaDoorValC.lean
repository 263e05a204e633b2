/- What Compare of the program's own package value comes to, by cmp.Compare and cmp.Or. Conditions: none. -/
import Derived.Test.YtodpaeaeigjmdaaDoorValM
import Derived.Deep.RegionHeld3
namespace Go.Proofs.YtodpaeaeigjmdaaDoor.val
open Go Go.RowKit Go.Proofs.YtodpaeaeigjmdaaDoor.kit Go.Proofs.YtodpaeaeigjmdaaDoor.nums Go.Proofs.YtodpaeaeigjmdaaDoor.st Go.Proofs.YtodpaeaeigjmdaaDoor.va Go.Proofs.YtodpaeaeigjmdaaDoor.bytes Go.Proofs.YtodpaeaeigjmdaaDoor.ints Go.Proofs.YtodpaeaeigjmdaaDoor.ref7
set_option linter.unusedVariables false

def cmpF (x y : Int) : Int := if x < y then -1 else if y < x then 1 else 0
def orF : List Int → Int
  | [] => 0
  | x :: l => if x ≠ 0 then x else orF l
theorem cmpI_any (x y : Int) (w : World) : Calls Tryd.prog 52 #[.int .i64 x, .int .i64 y] w fun e w' => e = .returned (.int .i64 (cmpF x y)) ∧ w = w' := by
  have N : Hid (∀ (x : Int) (w : World), Calls Tryd.prog 71 #[.int .i64 x] w fun e w' => e = .returned (.bool false) ∧ w = w') := fun x w => by
    go_enter Tryd.func71, Tryd.ntmps71
    go_wp2_with fail
    go_ret
    exact ⟨rfl, rfl⟩
  by_cases h1 : x < y
  · have HF : Hid (cmpF x y = -1) := if_pos h1
    go_enter Tryd.func52, Tryd.ntmps52
    go_wp2_with fail
    refine (N.out _ _).mono ?_
    rintro e w2 ⟨rfl, rfl⟩
    go_wp2_with fail
    refine (N.out _ _).mono ?_
    rintro e w2 ⟨rfl, rfl⟩
    go_wp2_with fail
    go_ret
    exact ⟨by rw [HF.out]; rfl, rfl⟩
  · by_cases h2 : y < x
    · have HF : Hid (cmpF x y = 1) := by unfold cmpF; rw [if_neg h1, if_pos h2]; exact Lib.hid rfl
      go_enter Tryd.func52, Tryd.ntmps52
      go_wp2_with fail
      refine (N.out _ _).mono ?_
      rintro e w2 ⟨rfl, rfl⟩
      go_wp2_with fail
      refine (N.out _ _).mono ?_
      rintro e w2 ⟨rfl, rfl⟩
      go_wp2_with fail
      go_ret
      exact ⟨by rw [HF.out]; rfl, rfl⟩
    · have HF : Hid (cmpF x y = 0) := by unfold cmpF; rw [if_neg h1, if_neg h2]; exact Lib.hid rfl
      go_enter Tryd.func52, Tryd.ntmps52
      go_wp2_with fail
      refine (N.out _ _).mono ?_
      rintro e w2 ⟨rfl, rfl⟩
      go_wp2_with fail
      refine (N.out _ _).mono ?_
      rintro e w2 ⟨rfl, rfl⟩
      go_wp2_with fail
      go_ret
      exact ⟨by rw [HF.out]; rfl, rfl⟩
theorem cmp64_any (x y : Int) (w : World) : Calls Tryd.prog 53 #[.int .i64 x, .int .i64 y] w fun e w' => e = .returned (.int .i64 (cmpF x y)) ∧ w = w' := by
  have N : Hid (∀ (x : Int) (w : World), Calls Tryd.prog 72 #[.int .i64 x] w fun e w' => e = .returned (.bool false) ∧ w = w') := fun x w => by
    go_enter Tryd.func72, Tryd.ntmps72
    go_wp2_with fail
    go_ret
    exact ⟨rfl, rfl⟩
  by_cases h1 : x < y
  · have HF : Hid (cmpF x y = -1) := if_pos h1
    go_enter Tryd.func53, Tryd.ntmps53
    go_wp2_with fail
    refine (N.out _ _).mono ?_
    rintro e w2 ⟨rfl, rfl⟩
    go_wp2_with fail
    refine (N.out _ _).mono ?_
    rintro e w2 ⟨rfl, rfl⟩
    go_wp2_with fail
    go_ret
    exact ⟨by rw [HF.out]; rfl, rfl⟩
  · by_cases h2 : y < x
    · have HF : Hid (cmpF x y = 1) := by unfold cmpF; rw [if_neg h1, if_pos h2]; exact Lib.hid rfl
      go_enter Tryd.func53, Tryd.ntmps53
      go_wp2_with fail
      refine (N.out _ _).mono ?_
      rintro e w2 ⟨rfl, rfl⟩
      go_wp2_with fail
      refine (N.out _ _).mono ?_
      rintro e w2 ⟨rfl, rfl⟩
      go_wp2_with fail
      go_ret
      exact ⟨by rw [HF.out]; rfl, rfl⟩
    · have HF : Hid (cmpF x y = 0) := by unfold cmpF; rw [if_neg h1, if_neg h2]; exact Lib.hid rfl
      go_enter Tryd.func53, Tryd.ntmps53
      go_wp2_with fail
      refine (N.out _ _).mono ?_
      rintro e w2 ⟨rfl, rfl⟩
      go_wp2_with fail
      refine (N.out _ _).mono ?_
      rintro e w2 ⟨rfl, rfl⟩
      go_wp2_with fail
      go_ret
      exact ⟨by rw [HF.out]; rfl, rfl⟩
theorem orF_drop (l : List Int) (j : Nat) (hj : j < l.length) (h : l.getD j 0 = 0) : orF (l.drop j) = orF (l.drop (j + 1)) := by
  rw [List.drop_eq_getElem_cons hj]
  have : l[j] = 0 := by simpa [List.getD, hj] using h
  simp [orF, this]
theorem orF_hit (l : List Int) (j : Nat) (hj : j < l.length) (h : l.getD j 0 ≠ 0) : orF (l.drop j) = l.getD j 0 := by
  rw [List.drop_eq_getElem_cons hj]
  have e : l.getD j 0 = l[j] := by simp [List.getD, hj]
  rw [e] at h ⊢
  simp [orF, h]
theorem or_any (l : List Int) (n c b o : Nat) (w : World) (hl : l.length = n) (hb : n ≤ 1099511627776) (hc : ∀ j, j < n → w.cell? ⟨b, o + j, none⟩ = some (.int .i64 (l.getD j 0))) :
    Calls Tryd.prog 51 #[.slice (some ⟨b, o, none⟩) n c] w fun e w' => e = .returned (.int .i64 (orF l)) ∧ w = w' := by
  have HC := Lib.hid hc
  have HD := Lib.hid (orF_drop l)
  have HH := Lib.hid (orF_hit l)
  have HL := Lib.hid hl
  clear hc hl
  go_enter Tryd.func51, Tryd.ntmps51
  go_wp2_with fail
  go_loop [8] (fun i => ∃ j : Nat, j ≤ n ∧ i = .int .i64 j ∧ Hid (orF l = orF (l.drop j))) (fun i => n - (intOf i).toNat)
  case atStart => exact ⟨0, Nat.zero_le _, rfl, rfl⟩
  case round =>
    obtain ⟨j, hj, rfl, hO⟩ := hrel
    by_cases hlt : j < n
    · have hx := HC.out j hlt
      by_cases h0 : l.getD j 0 = 0
      · have HN : Hid (orF l = orF (l.drop (j + 1))) := hO.out.trans (HD.out j (by rw [HL.out]; exact hlt) h0)
        rw [h0] at hx
        clear h0
        go_wp2_with fail
        go_round
        case rel => exact ⟨j + 1, by omega, by go_num, HN⟩
        case measure => simp [intOf]; omega
      · have HN : Hid (orF l = l.getD j 0) := hO.out.trans (HH.out j (by rw [HL.out]; exact hlt) h0)
        have h0' : (l.getD j 0 == 0) = false := by simpa using h0
        generalize l.getD j 0 = x at *
        go_wp2_with fail
        go_ret
        exact ⟨by rw [HN.out]; rfl, rfl⟩
    · obtain rfl : j = n := by omega
      have HN : Hid (orF l = 0) := by rw [hO.out, List.drop_of_length_le (by rw [HL.out]; omega)]; exact Lib.hid rfl
      go_wp2_with fail
      go_ret
      exact ⟨by rw [HN.out]; rfl, rfl⟩
theorem orF_cmp (x y : Int) (l : List Int) : orF (cmpF x y :: l) = if x ≠ y then cmpF x y else orF l := by
  by_cases h : x = y
  · subst h
    simp [orF, cmpF]
  · rw [if_pos h]
    have : cmpF x y ≠ 0 := by
      unfold cmpF
      by_cases h1 : x < y
      · rw [if_pos h1]; decide
      · rw [if_neg h1, if_pos (by omega)]; decide
    exact if_pos this
def cmpS (s t : List Int) : Int := if lexB s t then -1 else if lexB t s then 1 else 0
set_option maxHeartbeats 1000000 in
theorem cmpS_any (s t : List Int) (hs : Byt s) (ht : Byt t) (w : World) : Calls Tryd.prog 54 #[.string (strOfNums s), .string (strOfNums t)] w fun e w' => e = .returned (.int .i64 (cmpS s t)) ∧ w = w' := by
  have N : Hid (∀ (x : ByteArray) (w : World), Calls Tryd.prog 73 #[.string x] w fun e w' => e = .returned (.bool false) ∧ w = w') := fun x w => by
    go_enter Tryd.func73, Tryd.ntmps73
    go_wp2_with fail
    go_ret
    exact ⟨by simp, rfl⟩
  have L1 := str_less s t hs ht
  have E1 := str_eq s t hs ht
  have HC : Hid (cmpS s t = if lexB s t then -1 else if decide (s = t) then 0 else 1) := by
    unfold cmpS
    by_cases h : s = t
    · subst h; rw [lexB_irr]; simp [Hid]
    · rcases lexB_or s t h with h1 | h1
      · rw [h1]; exact Lib.hid rfl
      · rw [h1, lexB_asym t s h1]; simp [h, Hid]
  clear hs ht
  generalize cmpS s t = z at *
  generalize lexB s t = b1 at *
  generalize decide (s = t) = b2 at *
  generalize strOfNums s = S at *
  generalize strOfNums t = T at *
  rcases b1 with _ | _
  · rcases b2 with _ | _
    · have HF : Hid (z = 1) := HC.out
      go_enter Tryd.func54, Tryd.ntmps54
      go_wp2_with fail
      refine (N.out _ _).mono ?_
      rintro e w2 ⟨rfl, rfl⟩
      go_wp2_with fail
      refine (N.out _ _).mono ?_
      rintro e w2 ⟨rfl, rfl⟩
      go_wp2_with fail
      go_ret
      exact ⟨by rw [HF.out]; rfl, rfl⟩
    · have HF : Hid (z = 0) := HC.out
      go_enter Tryd.func54, Tryd.ntmps54
      go_wp2_with fail
      refine (N.out _ _).mono ?_
      rintro e w2 ⟨rfl, rfl⟩
      go_wp2_with fail
      refine (N.out _ _).mono ?_
      rintro e w2 ⟨rfl, rfl⟩
      go_wp2_with fail
      go_ret
      exact ⟨by rw [HF.out]; rfl, rfl⟩
  · have HF : Hid (z = -1) := HC.out
    go_enter Tryd.func54, Tryd.ntmps54
    go_wp2_with fail
    refine (N.out _ _).mono ?_
    rintro e w2 ⟨rfl, rfl⟩
    go_wp2_with fail
    refine (N.out _ _).mono ?_
    rintro e w2 ⟨rfl, rfl⟩
    go_wp2_with fail
    go_ret
    exact ⟨by rw [HF.out]; rfl, rfl⟩
theorem orS (s t : List Int) (l : List Int) : orF (cmpS s t :: l) = if s ≠ t then sgn (lexB s t) else orF l := by
  by_cases h : s = t
  · subst h
    have : cmpS s s = 0 := by unfold cmpS; rw [lexB_irr]; rfl
    rw [this]
    simp [orF]
  · rw [if_pos h]
    rcases lexB_or s t h with h1 | h1
    · have : cmpS s t = -1 := by unfold cmpS; rw [h1]; rfl
      rw [this, h1]; rfl
    · have h2 := lexB_asym t s h1
      have : cmpS s t = 1 := by unfold cmpS; rw [h1, h2]; rfl
      rw [this, h2]; rfl
theorem cmpF_sgn (x y : Int) (h : x ≠ y) : cmpF x y = sgn (decide (x < y)) := by
  unfold cmpF
  by_cases h1 : x < y
  · rw [if_pos h1]; simp [h1, sgn]
  · rw [if_neg h1, if_pos (by omega)]; simp [h1, sgn]
theorem or_cmpV (a b : VaL) : orF [cmpF a.kind b.kind, cmpF a.n b.n, cmpS a.s b.s] = cmpV a b := by
  unfold cmpV
  rw [orF_cmp, orF_cmp, orS]
  by_cases h : a.kind ≠ b.kind
  · rw [if_pos h, if_pos h, cmpF_sgn _ _ h]
  rw [if_neg h, if_neg h]
  by_cases h2 : a.n ≠ b.n
  · rw [if_pos h2, if_pos h2, cmpF_sgn _ _ h2]
  rw [if_neg h2, if_neg h2]
  rfl
set_option maxRecDepth 100000 in
set_option maxHeartbeats 2000000 in
theorem cmp_any (a b : VaL) (ha : a.ok) (hb : b.ok) (w : World) :
    Calls Tryd.prog 25 #[vaV a, vaV b] w fun e w' => e = .returned (.int .i64 (cmpV a b)) ∧ Below w.heap.size w w' := by
  have HT := Lib.hid (or_cmpV a b)
  have C1 := Lib.hid (fun w => cmpI_any a.kind b.kind w)
  have C2 := Lib.hid (fun w => cmp64_any a.n b.n w)
  have C3 := Lib.hid (fun w => cmpS_any a.s b.s ha.2.2 hb.2.2 w)
  clear ha hb
  have OO := Lib.hid (fun (x y z : Int) (b c : Nat) (w : World) => or_any [x, y, z] 3 c b 0 w rfl (by omega))
  unfold vaV at *
  obtain ⟨xa, xb, xs⟩ := a
  obtain ⟨ya, yb, ys⟩ := b
  dsimp only at HT C1 C2 C3 ⊢
  generalize strOfNums xs = xc at *
  generalize strOfNums ys = yc at *
  generalize cmpS xs ys = z3 at *
  generalize cmpF xa ya = z1 at *
  generalize cmpF xb yb = z2 at *
  go_enter Tryd.func25, Tryd.ntmps25
  have hB2 : Hid (Below w.heap.size w ((w.alloc (.cells #[.int .i64 xa, .int .i64 xb, .string xc] 24)).alloc (.cells #[.int .i64 ya, .int .i64 yb, .string yc] 24))) := ((Below.refl _ _).alloc (Nat.le_refl _) _).alloc (by simp) _
  have k0 : Blk 24 ((w.alloc (.cells #[.int .i64 xa, .int .i64 xb, .string xc] 24)).alloc (.cells #[.int .i64 ya, .int .i64 yb, .string yc] 24)) w.heap.size [.int .i64 xa, .int .i64 xb, .string xc] := Blk.alloc (heap_alloc_new w _) _
  have k1 : Blk 24 ((w.alloc (.cells #[.int .i64 xa, .int .i64 xb, .string xc] 24)).alloc (.cells #[.int .i64 ya, .int .i64 yb, .string yc] 24)) (w.heap.size + 1) [.int .i64 ya, .int .i64 yb, .string yc] := by
    have := heap_alloc_new (w.alloc (.cells #[.int .i64 xa, .int .i64 xb, .string xc] 24)) (.cells #[.int .i64 ya, .int .i64 yb, .string yc] 24)
    simpa [Blk] using this
  go_upto_region 1 with (fail)
  generalize ((w.alloc (.cells #[.int .i64 xa, .int .i64 xb, .string xc] 24)).alloc (.cells #[.int .i64 ya, .int .i64 yb, .string yc] 24)) = w2 at *
  have l1 := k1.lt
  have hK : ∀ wq, Below w2.heap.size w2 wq → (wq.cell? ⟨w.heap.size, 0, none⟩ = some (.int .i64 xa) ∧ wq.cell? ⟨w.heap.size, 1, none⟩ = some (.int .i64 xb) ∧ wq.cell? ⟨w.heap.size, 2, none⟩ = some (.string xc)) ∧ wq.cell? ⟨w.heap.size + 1, 0, none⟩ = some (.int .i64 ya) ∧ wq.cell? ⟨w.heap.size + 1, 1, none⟩ = some (.int .i64 yb) ∧ wq.cell? ⟨w.heap.size + 1, 2, none⟩ = some (.string yc) := fun wq hq => by
    have j0 := k0.below hq (by omega)
    have j1 := k1.below hq (by omega)
    exact ⟨⟨j0.cell 0, j0.cell 1, j0.cell 2⟩, j1.cell 0, j1.cell 1, j1.cell 2⟩
  have hSr := Lib.hid hK
  clear hK k0 k1
  refine wp_region_held_drew (S := fun wq => (wq.cell? ⟨w.heap.size, 0, none⟩ = some (.int .i64 xa) ∧ wq.cell? ⟨w.heap.size, 1, none⟩ = some (.int .i64 xb) ∧ wq.cell? ⟨w.heap.size, 2, none⟩ = some (.string xc)) ∧ wq.cell? ⟨w.heap.size + 1, 0, none⟩ = some (.int .i64 ya) ∧ wq.cell? ⟨w.heap.size + 1, 1, none⟩ = some (.int .i64 yb) ∧ wq.cell? ⟨w.heap.size + 1, 2, none⟩ = some (.string yc)) (by kernel_rfl) ?s_0 (fun hHeld => ?_)
  case s_0 => exact hSr.out _ ((Below.refl _ _).drew)
  refine wpAnyH_take (i := 0) (oi := { dst := some 5, op := Go.Op.fieldAddr 24 (Go.Operand.tmp 2) 0, type := 0, pos := "value.go:59", after := #[], guard := none }) (v := ?v_0_1) rfl (by kernel_rfl) (by kernel_rfl) (by kernel_rfl) (fun _ _ _ h => h) (Or.inl ⟨by rfl, ?y_0_1⟩) (by assumption) ?_
  case y_0_1 => (intro wq hSw; (try dsimp only at hSw); go_simp; first | done | with_reducible rfl)
  try simp only [Act.put, List.setIfInBounds_toArray, List.set_cons_zero, List.set_cons_succ]
  refine wpAnyH_take (i := 1) (oi := { dst := some 6, op := Go.Op.load 3 (Go.Operand.tmp 5), type := 3, pos := "value.go:59", after := #[{ on := 0, ground := Go.Ground.data }], guard := none }) (v := ?v_1_1) rfl (by kernel_rfl) (by kernel_rfl) (by kernel_rfl) (fun _ _ _ h => h) (Or.inl ⟨by rfl, ?y_1_1⟩) (by assumption) ?_
  case y_1_1 => (intro wq hSw; (try dsimp only at hSw); go_simp; first | done | with_reducible rfl)
  try simp only [Act.put, List.setIfInBounds_toArray, List.set_cons_zero, List.set_cons_succ]
  refine wpAnyH_take (i := 2) (oi := { dst := some 7, op := Go.Op.fieldAddr 24 (Go.Operand.tmp 3) 0, type := 0, pos := "value.go:59", after := #[], guard := none }) (v := ?v_2_1) rfl (by kernel_rfl) (by kernel_rfl) (by kernel_rfl) (fun _ _ _ h => h) (Or.inl ⟨by rfl, ?y_2_1⟩) (by assumption) ?_
  case y_2_1 => (intro wq hSw; (try dsimp only at hSw); go_simp; first | done | with_reducible rfl)
  try simp only [Act.put, List.setIfInBounds_toArray, List.set_cons_zero, List.set_cons_succ]
  refine wpAnyH_take (i := 3) (oi := { dst := some 8, op := Go.Op.load 3 (Go.Operand.tmp 7), type := 3, pos := "value.go:59", after := #[{ on := 2, ground := Go.Ground.data }], guard := none }) (v := ?v_3_1) rfl (by kernel_rfl) (by kernel_rfl) (by kernel_rfl) (fun _ _ _ h => h) (Or.inl ⟨by rfl, ?y_3_1⟩) (by assumption) ?_
  case y_3_1 => (intro wq hSw; (try dsimp only at hSw); go_simp; first | done | with_reducible rfl)
  try simp only [Act.put, List.setIfInBounds_toArray, List.set_cons_zero, List.set_cons_succ]
  refine wpAnyH_take (i := 5) (oi := { dst := some 10, op := Go.Op.fieldAddr 24 (Go.Operand.tmp 2) 1, type := 0, pos := "value.go:59", after := #[], guard := none }) (v := ?v_5_1) rfl (by kernel_rfl) (by kernel_rfl) (by kernel_rfl) (fun _ _ _ h => h) (Or.inl ⟨by rfl, ?y_5_1⟩) (by assumption) ?_
  case y_5_1 => (intro wq hSw; (try dsimp only at hSw); go_simp; first | done | with_reducible rfl)
  try simp only [Act.put, List.setIfInBounds_toArray, List.set_cons_zero, List.set_cons_succ]
  refine wpAnyH_take (i := 6) (oi := { dst := some 11, op := Go.Op.load 2 (Go.Operand.tmp 10), type := 2, pos := "value.go:59", after := #[{ on := 5, ground := Go.Ground.data }], guard := none }) (v := ?v_6_1) rfl (by kernel_rfl) (by kernel_rfl) (by kernel_rfl) (fun _ _ _ h => h) (Or.inl ⟨by rfl, ?y_6_1⟩) (by assumption) ?_
  case y_6_1 => (intro wq hSw; (try dsimp only at hSw); go_simp; first | done | with_reducible rfl)
  try simp only [Act.put, List.setIfInBounds_toArray, List.set_cons_zero, List.set_cons_succ]
  refine wpAnyH_take (i := 7) (oi := { dst := some 12, op := Go.Op.fieldAddr 24 (Go.Operand.tmp 3) 1, type := 0, pos := "value.go:59", after := #[], guard := none }) (v := ?v_7_1) rfl (by kernel_rfl) (by kernel_rfl) (by kernel_rfl) (fun _ _ _ h => h) (Or.inl ⟨by rfl, ?y_7_1⟩) (by assumption) ?_
  case y_7_1 => (intro wq hSw; (try dsimp only at hSw); go_simp; first | done | with_reducible rfl)
  try simp only [Act.put, List.setIfInBounds_toArray, List.set_cons_zero, List.set_cons_succ]
  refine wpAnyH_take (i := 8) (oi := { dst := some 13, op := Go.Op.load 2 (Go.Operand.tmp 12), type := 2, pos := "value.go:59", after := #[{ on := 7, ground := Go.Ground.data }], guard := none }) (v := ?v_8_1) rfl (by kernel_rfl) (by kernel_rfl) (by kernel_rfl) (fun _ _ _ h => h) (Or.inl ⟨by rfl, ?y_8_1⟩) (by assumption) ?_
  case y_8_1 => (intro wq hSw; (try dsimp only at hSw); go_simp; first | done | with_reducible rfl)
  try simp only [Act.put, List.setIfInBounds_toArray, List.set_cons_zero, List.set_cons_succ]
  refine wpAnyH_take (i := 10) (oi := { dst := some 15, op := Go.Op.fieldAddr 24 (Go.Operand.tmp 2) 2, type := 0, pos := "value.go:59", after := #[], guard := none }) (v := ?v_10_1) rfl (by kernel_rfl) (by kernel_rfl) (by kernel_rfl) (fun _ _ _ h => h) (Or.inl ⟨by rfl, ?y_10_1⟩) (by assumption) ?_
  case y_10_1 => (intro wq hSw; (try dsimp only at hSw); go_simp; first | done | with_reducible rfl)
  try simp only [Act.put, List.setIfInBounds_toArray, List.set_cons_zero, List.set_cons_succ]
  refine wpAnyH_take (i := 11) (oi := { dst := some 16, op := Go.Op.load 9 (Go.Operand.tmp 15), type := 9, pos := "value.go:59", after := #[{ on := 10, ground := Go.Ground.data }], guard := none }) (v := ?v_11_1) rfl (by kernel_rfl) (by kernel_rfl) (by kernel_rfl) (fun _ _ _ h => h) (Or.inl ⟨by rfl, ?y_11_1⟩) (by assumption) ?_
  case y_11_1 => (intro wq hSw; (try dsimp only at hSw); go_simp; first | done | with_reducible rfl)
  try simp only [Act.put, List.setIfInBounds_toArray, List.set_cons_zero, List.set_cons_succ]
  refine wpAnyH_take (i := 12) (oi := { dst := some 17, op := Go.Op.fieldAddr 24 (Go.Operand.tmp 3) 2, type := 0, pos := "value.go:59", after := #[], guard := none }) (v := ?v_12_1) rfl (by kernel_rfl) (by kernel_rfl) (by kernel_rfl) (fun _ _ _ h => h) (Or.inl ⟨by rfl, ?y_12_1⟩) (by assumption) ?_
  case y_12_1 => (intro wq hSw; (try dsimp only at hSw); go_simp; first | done | with_reducible rfl)
  try simp only [Act.put, List.setIfInBounds_toArray, List.set_cons_zero, List.set_cons_succ]
  refine wpAnyH_take (i := 13) (oi := { dst := some 18, op := Go.Op.load 9 (Go.Operand.tmp 17), type := 9, pos := "value.go:59", after := #[{ on := 12, ground := Go.Ground.data }], guard := none }) (v := ?v_13_1) rfl (by kernel_rfl) (by kernel_rfl) (by kernel_rfl) (fun _ _ _ h => h) (Or.inl ⟨by rfl, ?y_13_1⟩) (by assumption) ?_
  case y_13_1 => (intro wq hSw; (try dsimp only at hSw); go_simp; first | done | with_reducible rfl)
  try simp only [Act.put, List.setIfInBounds_toArray, List.set_cons_zero, List.set_cons_succ]
  refine wpAnyH_ready (rs := [4]) (by kernel_rfl) (by simp) ?_
  refine AllReadyH.cons (o := { dst := some 9, op := Go.Op.call { callee := Go.Callee.value (Go.Operand.func 52), args := #[Go.Operand.tmp 6, Go.Operand.tmp 8], argTypes := #[3, 3] }, type := 3, pos := "value.go:60", after := #[{ on := 1, ground := Go.Ground.data }, { on := 3, ground := Go.Ground.data }], guard := none }) rfl (fun KQ hKQ => ?_) AllReadyH.nil
  go_simp
  refine (C1.out _).mono ?_
  rintro e yy ⟨rfl, rfl⟩
  go_wp2_with fail
  refine hKQ.out _ _ ?s_4 (fun hHeld4 => ?_)
  case s_4 => exact hHeld
  clear hKQ KQ
  try simp only [Act.put, List.setIfInBounds_toArray, List.set_cons_zero, List.set_cons_succ]
  refine wpAnyH_ready (rs := [9]) (by kernel_rfl) (by simp) ?_
  refine AllReadyH.cons (o := { dst := some 14, op := Go.Op.call { callee := Go.Callee.value (Go.Operand.func 53), args := #[Go.Operand.tmp 11, Go.Operand.tmp 13], argTypes := #[2, 2] }, type := 3, pos := "value.go:61", after := #[{ on := 6, ground := Go.Ground.data }, { on := 8, ground := Go.Ground.data }, { on := 4, ground := Go.Ground.chain }], guard := none }) rfl (fun KQ hKQ => ?_) AllReadyH.nil
  go_simp
  refine (C2.out _).mono ?_
  rintro e yy ⟨rfl, rfl⟩
  go_wp2_with fail
  refine hKQ.out _ _ ?s_9 (fun hHeld9 => ?_)
  case s_9 => exact hHeld
  clear hKQ KQ
  try simp only [Act.put, List.setIfInBounds_toArray, List.set_cons_zero, List.set_cons_succ]
  refine wpAnyH_ready (rs := [14]) (by kernel_rfl) (by simp) ?_
  refine AllReadyH.cons (o := { dst := some 19, op := Go.Op.call { callee := Go.Callee.value (Go.Operand.func 54), args := #[Go.Operand.tmp 16, Go.Operand.tmp 18], argTypes := #[9, 9] }, type := 3, pos := "value.go:62", after := #[{ on := 11, ground := Go.Ground.data }, { on := 13, ground := Go.Ground.data }, { on := 9, ground := Go.Ground.chain }], guard := none }) rfl (fun KQ hKQ => ?_) AllReadyH.nil
  go_simp
  refine (C3.out _).mono ?_
  rintro e yy ⟨rfl, rfl⟩
  go_wp2_with fail
  refine hKQ.out _ _ ?s_14 (fun hHeld14 => ?_)
  case s_14 => exact hHeld
  clear hKQ KQ
  try simp only [Act.put, List.setIfInBounds_toArray, List.set_cons_zero, List.set_cons_succ]
  refine wpAnyH_ready (rs := [15]) (by kernel_rfl) (by simp) ?_
  refine AllReadyH.cons (o := { dst := some 20, op := Go.Op.buildSlice 72 3 #[(0, Go.Operand.tmp 9), (1, Go.Operand.tmp 14), (2, Go.Operand.tmp 19)], type := 72, pos := "value.go:59", after := #[{ on := 4, ground := Go.Ground.data }, { on := 9, ground := Go.Ground.data }, { on := 14, ground := Go.Ground.data }], guard := none }) rfl (fun KQ hKQ => ?_) AllReadyH.nil
  go_simp
  refine hKQ.out _ _ ?s_15 (fun hHeld15 => ?_)
  case s_15 => exact hSr.out _ (((Below.refl _ _).alloc (Nat.le_refl _) _).drew)
  clear hKQ KQ
  try simp only [Act.put, List.setIfInBounds_toArray, List.set_cons_zero, List.set_cons_succ]
  refine wpAnyH_ready (rs := [16]) (by kernel_rfl) (by simp) ?_
  refine AllReadyH.cons (o := { dst := some 21, op := Go.Op.call { callee := Go.Callee.value (Go.Operand.func 51), args := #[Go.Operand.tmp 20], argTypes := #[72] }, type := 3, pos := "value.go:59", after := #[{ on := 15, ground := Go.Ground.data }, { on := 14, ground := Go.Ground.chain }], guard := none }) rfl (fun KQ hKQ => ?_) AllReadyH.nil
  go_simp
  refine (OO.out z1 z2 z3 w2.heap.size 3 _ (fun j hj => ?_)).mono ?_
  · (rcases j with _ | _ | _ | j) <;> first | exact (Blk.drew (heap_alloc_new w2 _)).cell 0 | exact (Blk.drew (heap_alloc_new w2 _)).cell 1 | exact (Blk.drew (heap_alloc_new w2 _)).cell 2 | omega
  rintro e yy ⟨rfl, rfl⟩
  go_wp2_with fail
  refine hKQ.out _ _ ?s_16 (fun hHeld16 => ?_)
  case s_16 => exact hSr.out _ (((Below.refl _ _).alloc (Nat.le_refl _) _).drew)
  clear hKQ KQ
  try simp only [Act.put, List.setIfInBounds_toArray, List.set_cons_zero, List.set_cons_succ]
  refine wpAnyH_take (i := 17) (oi := { dst := some 4, op := Go.Op.assign (Go.Operand.tmp 21), type := 3, pos := "value.go:59", after := #[{ on := 16, ground := Go.Ground.data }, { on := 16, ground := Go.Ground.chain }, { on := 0, ground := Go.Ground.phase }, { on := 1, ground := Go.Ground.phase }, { on := 2, ground := Go.Ground.phase }, { on := 3, ground := Go.Ground.phase }, { on := 4, ground := Go.Ground.phase }, { on := 5, ground := Go.Ground.phase }, { on := 6, ground := Go.Ground.phase }, { on := 7, ground := Go.Ground.phase }, { on := 8, ground := Go.Ground.phase }, { on := 9, ground := Go.Ground.phase }, { on := 10, ground := Go.Ground.phase }, { on := 11, ground := Go.Ground.phase }, { on := 12, ground := Go.Ground.phase }, { on := 13, ground := Go.Ground.phase }, { on := 14, ground := Go.Ground.phase }, { on := 15, ground := Go.Ground.phase }, { on := 16, ground := Go.Ground.phase }], guard := none }) (v := ?v_17_1) rfl (by kernel_rfl) (by kernel_rfl) (by kernel_rfl) (fun _ _ _ h => h) (Or.inl ⟨by rfl, ?y_17_1⟩) (by assumption) ?_
  case y_17_1 => (intro wq hSw; (try dsimp only at hSw); go_simp; first | done | with_reducible rfl)
  try simp only [Act.put, List.setIfInBounds_toArray, List.set_cons_zero, List.set_cons_succ]
  refine wpAnyH_done (by kernel_rfl) ?_ _
  go_wp2_with fail
  go_ret
  exact ⟨by rw [← HT.out]; rfl, hB2.out.trans ((((Below.refl _ _).alloc (Nat.le_refl _) _).drew).mono hB2.out.size)⟩
end Go.Proofs.YtodpaeaeigjmdaaDoor.val
