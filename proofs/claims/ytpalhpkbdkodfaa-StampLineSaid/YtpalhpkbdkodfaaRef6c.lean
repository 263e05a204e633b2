/- What the document's Bytes and Take (antipoderef6) come to. Conditions: int64; at most 2^40 bytes. -/
import Derived.Test.YtpalhpkbdkodfaaRef6b
import Derived.Test.YtpalhpkbdkodfaaRefW
import Derived.Test.YtpalhpkbdkodfaaGetR
import Derived.Test.YtpalhpkbdkodfaaInts
import Derived.Deep.RegionHeld3
namespace Go.Proofs.Ytpalhpkbdkodfaa.ref6
open Go.RowKit Go.Proofs.Ytpalhpkbdkodfaa.kit Go.Proofs.Ytpalhpkbdkodfaa.nums Go.Proofs.Ytpalhpkbdkodfaa.st Go.Proofs.Ytpalhpkbdkodfaa.bytes Go.Proofs.Ytpalhpkbdkodfaa.ints
set_option linter.unusedVariables false

/-- 'append' in a region that draws its order: as wpList_append_rd says. -/
theorem wp_append_rd {P : Program} {w : World} {o : Oper} {a : Act} {K : Act → World → Prop} {Q : Exit → Act → World → Prop} (s x : Operand) (t : TypeId)
    (ho : o.op = .call { callee := .builtin .append, args := #[s, x], argTypes := #[t, t] }) (base : Nat) (e : TypeId) (ht : P.underlying t = some (.slice e)) (h2 : (P.info? e).map (fun i => (i.zero, i.size, i.bytes)) = some (some (.int .u8 0), 1, 1))
    (A : Option Addr) (n c : Nat) (l : List Int) (hn : l.length = n) (hs : a.eval s = .slice A n c) (hown : Own e w base (.slice A n c) l)
    (B : Nat) (X : Option Addr) (m xc : Nat) (news : List Int) (hx : a.eval x = .slice X m xc) (hR : Rd w B X m news) (hb : n + m ≤ 140737488355328) (hbase : base ≤ w.heap.size)
    (h : ∀ A' c' w', Own e w' base (.slice A' (n + m) c') (l ++ news) → Below base w w' → w.grownBy w' (Value.ownBlock (.slice A n c)) → K (a.put o.dst (.slice A' (n + m) c')) w') : o.wp P a w K Q := by
  obtain ⟨A', c', w', hrun, h3, h4, h5⟩ := run_append_rd (P := P) w base t o.type e ht h2 A n c l hn hown B X m xc news hR hb hbase
  unfold Oper.wp execOp
  simp only [ho, resolve, invoke, builtin, Sem.run_bind, Sem.run_pure, Result.andThen_ok, List.map_toArray, List.map_cons, List.map_nil, hs, hx, hrun]
  exact h A' c' w' h3 h4 h5

theorem beV_lt8 (l : List Int) (h : Byt l) (hl : l.length ≤ 8) : 0 ≤ beV l ∧ beV l ≤ 18446744073709551615 := by
  obtain ⟨h0, h1⟩ := beV_bound l h
  have h2 : (((256 : Nat) ^ l.length : Nat) : Int) ≤ ((256 ^ 8 : Nat) : Int) := Int.ofNat_le.2 (Nat.pow_le_pow_right (by decide) hl)
  rw [Int.natCast_pow] at h2
  have h3 : ((256 ^ 8 : Nat) : Int) = 18446744073709551616 := by decide
  rw [h3] at h2
  have h4 : (((256 : Nat) : Int)) ^ l.length = (256 : Int) ^ l.length := rfl
  omega

theorem eight_any (v : Int) (w : World) (h0 : 0 ≤ v) (h1 : v ≤ 18446744073709551615) :
    Calls Try.prog 36 #[.int .u64 v] w (RetL 5 w 8 (beB v 8)) := by
  have C := Lib.hid (fun w => rput_any none 0 0 [] v 8 w (Rd.nil _ _ _) (by omega) h0 h1 (by omega) (by omega))
  have HZ : Hid (v / 2 ^ (8 * 8) = 0) := Int.ediv_eq_zero_of_lt h0 (by omega)
  go_enter Try.func36, Try.ntmps36
  go_wp2_with fail
  refine (C.out _).mono ?_
  rintro e w2 (⟨_, A, c, rfl, hl, hO, hB⟩ | ⟨h, _⟩)
  · go_wp2_with fail
    go_ret
    exact ⟨A, c, rfl, hl, hO, hB⟩
  · exact absurd HZ.out h

set_option maxHeartbeats 1000000 in
theorem rbytes_any (p q : Int) (w : World) (hp : -9223372036854775808 ≤ p ∧ p ≤ 9223372036854775807) (hq : -9223372036854775808 ≤ q ∧ q ≤ 9223372036854775807) :
    Calls Try.prog 19 #[.agg #[.int .i64 p, .int .i64 q]] w (RetL 5 w 16 (stB ⟨p, q⟩)) := by
  have O1 := Lib.hid (fun w => rorder_any p w hp.1 hp.2)
  have O2 := Lib.hid (fun w => rorder_any q w hq.1 hq.2)
  have E1 := Lib.hid (fun w => eight_any (p + 9223372036854775808) w (by omega) (by omega))
  have E2 := Lib.hid (fun w => eight_any (q + 9223372036854775808) w (by omega) (by omega))
  go_enter Try.func19, Try.ntmps19
  have hB1 : Below w.heap.size w (w.alloc (.cells #[.int .i64 p, .int .i64 q] 23)) := (Below.refl _ _).alloc (Nat.le_refl _) _
  have k0 : Blk 23 (w.alloc (.cells #[.int .i64 p, .int .i64 q] 23)) w.heap.size [.int .i64 p, .int .i64 q] := heap_alloc_new w _
  have hB0 := Lib.hid hB1
  go_upto_region 1 with (fail)
  generalize (w.alloc (.cells #[.int .i64 p, .int .i64 q] 23)) = w1 at *
  have hSr : Hid (∀ wq, Below w1.drew.heap.size w1.drew wq → wq.cell? ⟨w.heap.size, 0, none⟩ = some (.int .i64 p) ∧ wq.cell? ⟨w.heap.size, 1, none⟩ = some (.int .i64 q)) := fun wq hq => by
    have j0 := k0.drew.below hq k0.lt
    exact ⟨j0.cell 0, j0.cell 1⟩
  clear k0 hB1
  refine wp_region_held_drew (S := fun wq => wq.cell? ⟨w.heap.size, 0, none⟩ = some (.int .i64 p) ∧ wq.cell? ⟨w.heap.size, 1, none⟩ = some (.int .i64 q)) (by kernel_rfl) ?s_0 (fun hHeld => ?_)
  case s_0 => exact hSr.out _ (Below.refl _ _)
  refine wpAnyH_take (i := 0) (oi := { dst := some 3, op := Go.Op.fieldAddr 23 (Go.Operand.tmp 1) 0, type := 0, pos := "ref.go:33", after := #[], guard := none }) (v := ?v_0_1) rfl (by kernel_rfl) (by kernel_rfl) (by kernel_rfl) (fun _ _ _ h => h) (Or.inl ⟨by rfl, ?y_0_1⟩) (by assumption) ?_
  case y_0_1 => (intro wq hSw; (try dsimp only at hSw); go_simp; first | done | with_reducible rfl)
  try simp only [Act.put, List.setIfInBounds_toArray, List.set_cons_zero, List.set_cons_succ]
  refine wpAnyH_take (i := 1) (oi := { dst := some 4, op := Go.Op.load 2 (Go.Operand.tmp 3), type := 2, pos := "ref.go:33", after := #[{ on := 0, ground := Go.Ground.data }], guard := none }) (v := ?v_1_1) rfl (by kernel_rfl) (by kernel_rfl) (by kernel_rfl) (fun _ _ _ h => h) (Or.inl ⟨by rfl, ?y_1_1⟩) (by assumption) ?_
  case y_1_1 => (intro wq hSw; (try dsimp only at hSw); go_simp; first | done | with_reducible rfl)
  try simp only [Act.put, List.setIfInBounds_toArray, List.set_cons_zero, List.set_cons_succ]
  refine wpAnyH_take (i := 4) (oi := { dst := some 7, op := Go.Op.fieldAddr 23 (Go.Operand.tmp 1) 1, type := 0, pos := "ref.go:33", after := #[], guard := none }) (v := ?v_4_1) rfl (by kernel_rfl) (by kernel_rfl) (by kernel_rfl) (fun _ _ _ h => h) (Or.inl ⟨by rfl, ?y_4_1⟩) (by assumption) ?_
  case y_4_1 => (intro wq hSw; (try dsimp only at hSw); go_simp; first | done | with_reducible rfl)
  try simp only [Act.put, List.setIfInBounds_toArray, List.set_cons_zero, List.set_cons_succ]
  refine wpAnyH_take (i := 5) (oi := { dst := some 8, op := Go.Op.load 2 (Go.Operand.tmp 7), type := 2, pos := "ref.go:33", after := #[{ on := 4, ground := Go.Ground.data }], guard := none }) (v := ?v_5_1) rfl (by kernel_rfl) (by kernel_rfl) (by kernel_rfl) (fun _ _ _ h => h) (Or.inl ⟨by rfl, ?y_5_1⟩) (by assumption) ?_
  case y_5_1 => (intro wq hSw; (try dsimp only at hSw); go_simp; first | done | with_reducible rfl)
  try simp only [Act.put, List.setIfInBounds_toArray, List.set_cons_zero, List.set_cons_succ]
  refine wpAnyH_ready (rs := [2]) (by kernel_rfl) (by simp) ?_
  refine AllReadyH.cons (o := { dst := some 5, op := Go.Op.call { callee := Go.Callee.value (Go.Operand.func 37), args := #[Go.Operand.tmp 4], argTypes := #[2] }, type := 58, pos := "ref.go:33", after := #[{ on := 1, ground := Go.Ground.data }], guard := none }) rfl (fun KQ hKQ => ?_) AllReadyH.nil
  go_simp
  refine (O1.out _).mono ?_
  rintro e y1 ⟨rfl, rfl⟩
  go_wp2_with fail
  refine hKQ.out _ _ ?s_2 (fun hHeld2 => ?_)
  case s_2 => exact hHeld
  clear hKQ KQ
  try simp only [Act.put, List.setIfInBounds_toArray, List.set_cons_zero, List.set_cons_succ]
  refine wpAnyH_ready (rs := [3]) (by kernel_rfl) (by simp) ?_
  refine AllReadyH.cons (o := { dst := some 6, op := Go.Op.call { callee := Go.Callee.value (Go.Operand.func 36), args := #[Go.Operand.tmp 5], argTypes := #[58] }, type := 32, pos := "ref.go:33", after := #[{ on := 2, ground := Go.Ground.data }, { on := 2, ground := Go.Ground.chain }], guard := none }) rfl (fun KQ hKQ => ?_) AllReadyH.nil
  go_simp
  refine (E1.out _).mono ?_
  rintro e y2 ⟨A1, c1, rfl, hl1, hO1, hB1⟩
  have q1 := hSr.out _ hB1
  have HL1 := Lib.hid hl1
  clear hl1
  go_wp2_with fail
  refine hKQ.out _ _ ?s_3 (fun hHeld3 => ?_)
  case s_3 => exact q1
  clear hKQ KQ
  try simp only [Act.put, List.setIfInBounds_toArray, List.set_cons_zero, List.set_cons_succ]
  refine wpAnyH_ready (rs := [6]) (by kernel_rfl) (by simp) ?_
  refine AllReadyH.cons (o := { dst := some 9, op := Go.Op.call { callee := Go.Callee.value (Go.Operand.func 37), args := #[Go.Operand.tmp 8], argTypes := #[2] }, type := 58, pos := "ref.go:33", after := #[{ on := 5, ground := Go.Ground.data }, { on := 3, ground := Go.Ground.chain }], guard := none }) rfl (fun KQ hKQ => ?_) AllReadyH.nil
  go_simp
  refine (O2.out _).mono ?_
  rintro e y3 ⟨rfl, rfl⟩
  go_wp2_with fail
  refine hKQ.out _ _ ?s_6 (fun hHeld6 => ?_)
  case s_6 => exact q1
  clear hKQ KQ
  try simp only [Act.put, List.setIfInBounds_toArray, List.set_cons_zero, List.set_cons_succ]
  refine wpAnyH_ready (rs := [7]) (by kernel_rfl) (by simp) ?_
  refine AllReadyH.cons (o := { dst := some 10, op := Go.Op.call { callee := Go.Callee.value (Go.Operand.func 36), args := #[Go.Operand.tmp 9], argTypes := #[58] }, type := 32, pos := "ref.go:33", after := #[{ on := 6, ground := Go.Ground.data }, { on := 6, ground := Go.Ground.chain }], guard := none }) rfl (fun KQ hKQ => ?_) AllReadyH.nil
  go_simp
  refine (E2.out _).mono ?_
  rintro e y4 ⟨A2, c2, rfl, hl2, hO2, hB2⟩
  have hB12 := hB1.trans (hB2.mono hB1.size)
  have q2 := hSr.out _ hB12
  have hO1' := hO1.below hB2
  obtain ⟨A2', c2', hv3, hc3, hm3, hR3⟩ := hO2.slice
  have HL2 := Lib.hid hl2
  have hR3' : Rd y4 y4.heap.size A2 8 (beB (q + 9223372036854775808) 8) := by (cases hv3; rw [HL2.out] at hR3; exact hR3)
  have hs2 := hB12.size
  clear hl2 hO2 hR3 hv3 hc3 hm3
  go_wp2_with fail
  refine hKQ.out _ _ ?s_7 (fun hHeld7 => ?_)
  case s_7 => exact q2
  clear hKQ KQ
  try simp only [Act.put, List.setIfInBounds_toArray, List.set_cons_zero, List.set_cons_succ]
  refine wpAnyH_ready (rs := [8]) (by kernel_rfl) (by simp) ?_
  refine AllReadyH.cons (o := { dst := some 11, op := Go.Op.call { callee := Go.Callee.builtin Go.Builtin.append, args := #[Go.Operand.tmp 6, Go.Operand.tmp 10], argTypes := #[32, 32] }, type := 32, pos := "ref.go:33", after := #[{ on := 3, ground := Go.Ground.data }, { on := 7, ground := Go.Ground.data }, { on := 7, ground := Go.Ground.chain }], guard := none }) rfl (fun KQ hKQ => ?_) AllReadyH.nil
  rw [if_pos (by rfl)]
  refine wp_append_rd (.tmp 6) (.tmp 10) 32 rfl w1.drew.heap.size 5 Try.underlying32 info5 A1 8 c1 (beB (p + 9223372036854775808) 8) HL1.out rfl hO1' y4.heap.size A2 8 c2 _ rfl hR3' (by omega) hs2 ?_
  intro A3 c3 y5 hO3 hB3 _
  have hB13 := hB12.trans hB3
  have q3 := hSr.out _ hB13
  refine hKQ.out _ _ ?s_8 (fun hHeld8 => ?_)
  case s_8 => exact q3
  clear hKQ KQ
  try simp only [Act.put, List.setIfInBounds_toArray, List.set_cons_zero, List.set_cons_succ]
  refine wpAnyH_ready (rs := [9]) (by kernel_rfl) (by simp) ?_
  refine AllReadyH.cons (o := { dst := some 2, op := Go.Op.assign (Go.Operand.tmp 11), type := 32, pos := "ref.go:33", after := #[{ on := 8, ground := Go.Ground.data }, { on := 8, ground := Go.Ground.chain }, { on := 0, ground := Go.Ground.phase }, { on := 1, ground := Go.Ground.phase }, { on := 2, ground := Go.Ground.phase }, { on := 3, ground := Go.Ground.phase }, { on := 4, ground := Go.Ground.phase }, { on := 5, ground := Go.Ground.phase }, { on := 6, ground := Go.Ground.phase }, { on := 7, ground := Go.Ground.phase }, { on := 8, ground := Go.Ground.phase }], guard := none }) rfl (fun KQ hKQ => ?_) AllReadyH.nil
  go_simp
  refine hKQ.out _ _ ?s_9 (fun hHeld9 => ?_)
  case s_9 => exact q3
  clear hKQ KQ
  try simp only [Act.put, List.setIfInBounds_toArray, List.set_cons_zero, List.set_cons_succ]
  refine wpAnyH_done (by kernel_rfl) ?_ _
  go_wp2_with fail
  go_ret
  exact ⟨A3, c3, rfl, by unfold stB; rw [List.length_append, beB_length, beB_length], hO3.more (by have := hB0.out.size; exact this), hB0.out.trans ((Below.refl _ _).drew.trans (hB13.mono (by have := hB0.out.size; exact this)))⟩

set_option maxHeartbeats 1000000 in
theorem rtake_any (A : Option Addr) (n c : Nat) (l : List Int) (w : World) (B : Nat) (hR : Rd w B A n l) (hB : B ≤ w.heap.size) (hY : Byt l) (hb : n ≤ 1099511627776) :
    Calls Try.prog 21 #[.slice A n c] w fun e w' => e = .returned (.tuple #[stV (takeF l), .int .i64 (takeE l)]) ∧ Below w.heap.size w w' := by
  have hl := hR.len
  have HB : Hid (Below w.heap.size w (w.alloc (.cells #[.int .i64 0, .int .i64 0] 23))) := (Below.refl _ _).alloc (Nat.le_refl _) _
  by_cases h1 : n < 16
  · have HF : Hid (takeF l = ⟨0, 0⟩) := if_neg (by omega)
    have HE : Hid (takeE l = 2) := if_pos (by omega)
    clear hl
    go_enter Try.func21, Try.ntmps21
    go_wp2_with fail
    (try simp only [Exit.inBlock, Exit.then])
    refine bodyPost_ret (by simp [results, Try.results21, go_sem]; try rfl) rfl ?_
    exact ⟨by rw [HF.out, HE.out]; rfl, HB.out⟩
  · by_cases h2 : 16 < n
    · have HF : Hid (takeF l = ⟨0, 0⟩) := if_neg (by omega)
      have HE : Hid (takeE l = 3) := by
        show (if l.length < 16 then (2 : Int) else if 16 < l.length then 3 else 0) = 3
        rw [if_neg (by omega), if_pos (by omega)]
      clear hl
      go_enter Try.func21, Try.ntmps21
      go_wp2_with fail
      (try simp only [Exit.inBlock, Exit.then])
      refine bodyPost_ret (by simp [results, Try.results21, go_sem]; try rfl) rfl ?_
      exact ⟨by rw [HF.out, HE.out]; rfl, HB.out⟩
    · obtain rfl : n = 16 := by omega
      have HF : Hid (takeF l = ⟨beV (l.take 8) - 9223372036854775808, beV (l.drop 8) - 9223372036854775808⟩) := if_pos hl
      have HE : Hid (takeE l = 0) := by
        show (if l.length < 16 then (2 : Int) else if 16 < l.length then 3 else 0) = 0
        rw [if_neg (by omega), if_neg (by omega)]
      have G1 := Lib.hid (fun (wq : World) (h : Rd wq B A 16 l) => rget_ok A 16 c l 0 8 wq B h hY (by omega) (by omega) (by omega) (by omega))
      have G2 := Lib.hid (fun (wq : World) (h : Rd wq B A 16 l) => rget_ok A 16 c l 8 8 wq B h hY (by omega) (by omega) (by omega) (by omega))
      have t1 : (l.drop 0).take 8 = l.take 8 := by simp
      have t2 : (l.drop 8).take 8 = l.drop 8 := List.take_of_length_le (by rw [List.length_drop]; omega)
      rw [t1] at G1
      rw [t2] at G2
      have v1 := beV_lt8 (l.take 8) (hY.take 8) (by rw [List.length_take]; omega)
      have v2 := beV_lt8 (l.drop 8) (hY.drop 8) (by rw [List.length_drop]; omega)
      have B1 := Lib.hid (fun w => rback_any (beV (l.take 8)) w v1.1 v1.2)
      have B2 := Lib.hid (fun w => rback_any (beV (l.drop 8)) w v2.1 v2.2)
      have HR := Lib.hid hR
      generalize beV (l.take 8) = x at *
      generalize beV (l.drop 8) = y at *
      clear t1 t2 v1 v2 hl h1 h2 hR
      go_enter Try.func21, Try.ntmps21
      go_wp2_with fail
      refine (G1.out _ (HR.out.alloc hB _)).mono ?_
      rintro e w2 ⟨rfl, rfl⟩
      go_wp2_with fail
      refine (G2.out _ (HR.out.alloc hB _)).mono ?_
      rintro e w2 ⟨rfl, rfl⟩
      go_wp2_with fail
      refine (B1.out _).mono ?_
      rintro e w2 ⟨rfl, rfl⟩
      go_wp2_with fail
      refine (B2.out _).mono ?_
      rintro e w2 ⟨rfl, rfl⟩
      go_wp2_with fail
      (try simp only [Exit.inBlock, Exit.then])
      refine bodyPost_ret (by simp [results, Try.results21, go_sem]; try rfl) rfl ?_
      exact ⟨by rw [HF.out, HE.out]; rfl, (Below.refl _ _).alloc (Nat.le_refl _) _⟩
end Go.Proofs.Ytpalhpkbdkodfaa.ref6
