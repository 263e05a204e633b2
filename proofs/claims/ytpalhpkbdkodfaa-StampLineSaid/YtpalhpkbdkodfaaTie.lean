/- What Tie of the program's own package stamp comes to, whatever the order in which its map is filled and ranged over. Condition: int64. -/
import Derived.Test.YtpalhpkbdkodfaaTieK
import Derived.Test.YtpalhpkbdkodfaaTieO
import Derived.Test.YtpalhpkbdkodfaaFlowL
import Derived.Deep.RegionHeld3
namespace Go.Proofs.Ytpalhpkbdkodfaa.tie
open Go Go.RowKit Go.Proofs.Ytpalhpkbdkodfaa.kit Go.Proofs.Ytpalhpkbdkodfaa.nums Go.Proofs.Ytpalhpkbdkodfaa.st
set_option linter.unusedVariables false

section
variable {P : Program} (w : World) {ops : Array Oper} {rest : List Oper} {o : Oper} {a : Act} {Q : Exit → Act → World → Prop}
/-- 'range m', 'next', 'entry', by their run equations. -/
theorem wpList_range_run (hg : o.guard = none) (m : Operand) (t : TypeId) (hop : o.op = Op.range t m) (V v : Value) (w' : World) (hm : a.eval m = V) (hr : (Instr.range t V).run P w = .ok v w')
    (hK : wpList P ops Q rest (a.put o.dst v) w') : wpList P ops Q (o :: rest) a w := by
  refine wpList_plain hg fun K' hK' => ?_
  unfold Oper.wp
  simp [execOp, hop, hm, hr, Result.andThen]
  exact hK' _ _ hK
theorem wpList_next_run (hg : o.guard = none) (m : Operand) (hop : o.op = Op.next m false) (V v : Value) (w' : World) (hm : a.eval m = V) (hr : (Instr.next V false o.type).run P w = .ok v w')
    (hK : wpList P ops Q rest (a.put o.dst v) w') : wpList P ops Q (o :: rest) a w := by
  refine wpList_plain hg fun K' hK' => ?_
  unfold Oper.wp
  simp [execOp, hop, hm, hr, Result.andThen]
  exact hK' _ _ hK
theorem wpList_entry_run (hg : o.guard = none) (m : Operand) (hop : o.op = Op.entry m) (V v : Value) (w' : World) (hm : a.eval m = V) (hr : (Instr.entry V).run P w = .ok v w')
    (hK : wpList P ops Q rest (a.put o.dst v) w') : wpList P ops Q (o :: rest) a w := by
  refine wpList_plain hg fun K' hK' => ?_
  unfold Oper.wp
  simp [execOp, hop, hm, hr, Result.andThen]
  exact hK' _ _ hK
end
section
variable {P : Program} {w : World} {ops : Array Oper} {o : Oper} {a : Act} {K : Act → World → Prop} {Q : Exit → Act → World → Prop} {E : Prop}
theorem step_insert (hgd : o.guard = none) (m x v : Operand) (t : TypeId) (ho : o.op = Op.insert t m x v) (M X V : Value) (hm : a.eval m = M) (hx : a.eval x = X) (hv : a.eval v = V) (R : World → Prop)
    (hrun : ∃ w', (Instr.mapUpdate t M X V).run P w = .ok () w' ∧ R w') (hK : ∀ w', R w' → K (a.put o.dst undef) w') :
    if Region.wanted o (yielded ops a.tmps) = true then Oper.wp P o a w K Q else E := by
  have hw : Region.wanted o (yielded ops a.tmps) = true := by simp [Region.wanted, hgd]
  rw [if_pos hw]
  obtain ⟨w', hr, hR⟩ := hrun
  subst hm hx hv
  unfold Oper.wp
  simp [execOp, ho, hr, Result.andThen]
  exact hK _ hR
end
theorem run_make {P : Program} (t : TypeId) (w : World) : (Instr.makeMap t none).run P w = .ok (.map (some w.heap.size)) (w.alloc (.map #[] 0)) := by
  simp [Instr.makeMap, Result.andThen]
/-- Key number i is in the map at block g (number 4: the map is there). -/
def Pres (V : Nat → Int) (g i : Nat) (w : World) : Prop := ∃ L, GM w g V L ∧ (i < 4 → i ∈ L)
def TI (w0 : World) (V : Nat → Int) (g : Nat) (w : World) : Prop := (∃ L, GM w g V L) ∧ Below g w0 w ∧ w.heap.size = g + 1
def TL (V : Nat → Int) (g : Nat) (w w' : World) : Prop := ∀ i, Pres V g i w → Pres V g i w'
def TP (V : Nat → Int) (g : Nat) : Nat → Value → World → Prop
  | 3, _, w => Pres V g 0 w
  | 6, _, w => Pres V g 1 w
  | 9, _, w => Pres V g 2 w
  | 12, _, w => Pres V g 3 w
  | 13, v, w => v = .map (some g)
  | 14, v, w => v = .map (some g)
  | _, _, _ => True
theorem TP_on {V : Nat → Int} {g i : Nat} {v : Value} {w w' : World} (h : TP V g i v w) (hl : TL V g w w') : TP V g i v w' := by
  unfold TP at h ⊢
  split at h <;> first | exact hl _ h | exact h
theorem put_on {w0 w : World} {V : Nat → Int} {g : Nat} (i : Nat) (hi : i < 4) (h : TI w0 V g w) :
    ∃ w', (Instr.mapUpdate 66 (.map (some g)) (fK i) (.int .i64 (V i))).run Try.prog w = .ok () w' ∧ TI w0 V g w' ∧ Pres V g i w' ∧ TL V g w w' := by
  obtain ⟨⟨L, hL⟩, hB, hs⟩ := h
  obtain ⟨w', L', h1, h2, h3, h4, h5, h6⟩ := run_put hL i hi
  refine ⟨w', h1, ⟨⟨L', h2⟩, hB.trans h5, by omega⟩, ⟨L', h2, fun _ => h3⟩, fun k hk => ?_⟩
  obtain ⟨M, hM, hk⟩ := hk
  obtain ⟨w2, M', r1, r2, r3, r4, _, _⟩ := run_put hM i hi
  rw [h1] at r1
  obtain rfl : w' = w2 := by injection r1
  exact ⟨M', r2, fun h => r4 _ (hk h)⟩
set_option maxRecDepth 100000 in
set_option maxHeartbeats 2000000 in
theorem tie_any (n l s a : Int) (hn : I64 n) (hl : I64 l) (hs : I64 s) (ha : I64 a) (w : World) :
    Calls Try.prog 23 #[.int .i64 n, .int .i64 l, .int .i64 s, .int .i64 a] w fun e w' => e = .returned (.tuple #[.int .i64 (tieF n l s a), .int .i64 (tieE n l s a)]) ∧ Below w.heap.size w w' := by
  have PO := Lib.hid (fun (i : Nat) (hi : i < 4) (wq : World) (h : TI w (four n l s a) w.heap.size wq) => put_on i hi h)
  have MK := fun w => run_make (P := Try.prog) 66 w
  go_enter Try.func23, Try.ntmps23
  go_upto_region 1 with (fail)
  refine wp_region_held_drew (S := fun _ => True) (by kernel_rfl) trivial (fun hHeld => ?_)
  refine wpAnyH_take (i := 1) (oi := { dst := some 15, op := Go.Op.build 65 #[(0, Go.Operand.const (Go.Value.int Go.IntKind.i64 1)), (1, Go.Operand.const (Go.Value.int Go.IntKind.i64 9)), (2, Go.Operand.const (Go.Value.int Go.IntKind.i64 48))], type := 65, pos := "stamp.go:61", after := #[], guard := none }) (v := ?v_1_1) rfl (by kernel_rfl) (by kernel_rfl) (by kernel_rfl) (fun _ _ _ h => h) (Or.inl ⟨by rfl, ?y_1_1⟩) (by assumption) ?_
  case y_1_1 => (intro wq hSw; (try dsimp only at hSw); go_simp; first | done | with_reducible rfl)
  try simp only [Act.put, List.setIfInBounds_toArray, List.set_cons_zero, List.set_cons_succ]
  refine wpAnyH_take (i := 2) (oi := { dst := some 16, op := Go.Op.move (Go.Operand.tmp 0), type := 3, pos := "stamp.go:61", after := #[], guard := none }) (v := ?v_2_1) rfl (by kernel_rfl) (by kernel_rfl) (by kernel_rfl) (fun _ _ _ h => h) (Or.inl ⟨by rfl, ?y_2_1⟩) (by assumption) ?_
  case y_2_1 => (intro wq hSw; (try dsimp only at hSw); go_simp; first | done | with_reducible rfl)
  try simp only [Act.put, List.setIfInBounds_toArray, List.set_cons_zero, List.set_cons_succ]
  refine wpAnyH_take (i := 4) (oi := { dst := some 17, op := Go.Op.build 65 #[(0, Go.Operand.const (Go.Value.int Go.IntKind.i64 0)), (1, Go.Operand.const (Go.Value.int Go.IntKind.i64 1048575)), (2, Go.Operand.const (Go.Value.int Go.IntKind.i64 28))], type := 65, pos := "stamp.go:61", after := #[], guard := none }) (v := ?v_4_1) rfl (by kernel_rfl) (by kernel_rfl) (by kernel_rfl) (fun _ _ _ h => h) (Or.inl ⟨by rfl, ?y_4_1⟩) (by assumption) ?_
  case y_4_1 => (intro wq hSw; (try dsimp only at hSw); go_simp; first | done | with_reducible rfl)
  try simp only [Act.put, List.setIfInBounds_toArray, List.set_cons_zero, List.set_cons_succ]
  refine wpAnyH_take (i := 5) (oi := { dst := some 18, op := Go.Op.move (Go.Operand.tmp 1), type := 3, pos := "stamp.go:61", after := #[], guard := none }) (v := ?v_5_1) rfl (by kernel_rfl) (by kernel_rfl) (by kernel_rfl) (fun _ _ _ h => h) (Or.inl ⟨by rfl, ?y_5_1⟩) (by assumption) ?_
  case y_5_1 => (intro wq hSw; (try dsimp only at hSw); go_simp; first | done | with_reducible rfl)
  try simp only [Act.put, List.setIfInBounds_toArray, List.set_cons_zero, List.set_cons_succ]
  refine wpAnyH_take (i := 7) (oi := { dst := some 19, op := Go.Op.build 65 #[(0, Go.Operand.const (Go.Value.int Go.IntKind.i64 0)), (1, Go.Operand.const (Go.Value.int Go.IntKind.i64 16777215)), (2, Go.Operand.const (Go.Value.int Go.IntKind.i64 4))], type := 65, pos := "stamp.go:61", after := #[], guard := none }) (v := ?v_7_1) rfl (by kernel_rfl) (by kernel_rfl) (by kernel_rfl) (fun _ _ _ h => h) (Or.inl ⟨by rfl, ?y_7_1⟩) (by assumption) ?_
  case y_7_1 => (intro wq hSw; (try dsimp only at hSw); go_simp; first | done | with_reducible rfl)
  try simp only [Act.put, List.setIfInBounds_toArray, List.set_cons_zero, List.set_cons_succ]
  refine wpAnyH_take (i := 8) (oi := { dst := some 20, op := Go.Op.move (Go.Operand.tmp 2), type := 3, pos := "stamp.go:61", after := #[], guard := none }) (v := ?v_8_1) rfl (by kernel_rfl) (by kernel_rfl) (by kernel_rfl) (fun _ _ _ h => h) (Or.inl ⟨by rfl, ?y_8_1⟩) (by assumption) ?_
  case y_8_1 => (intro wq hSw; (try dsimp only at hSw); go_simp; first | done | with_reducible rfl)
  try simp only [Act.put, List.setIfInBounds_toArray, List.set_cons_zero, List.set_cons_succ]
  refine wpAnyH_take (i := 10) (oi := { dst := some 21, op := Go.Op.build 65 #[(0, Go.Operand.const (Go.Value.int Go.IntKind.i64 0)), (1, Go.Operand.const (Go.Value.int Go.IntKind.i64 15)), (2, Go.Operand.const (Go.Value.int Go.IntKind.i64 0))], type := 65, pos := "stamp.go:61", after := #[], guard := none }) (v := ?v_10_1) rfl (by kernel_rfl) (by kernel_rfl) (by kernel_rfl) (fun _ _ _ h => h) (Or.inl ⟨by rfl, ?y_10_1⟩) (by assumption) ?_
  case y_10_1 => (intro wq hSw; (try dsimp only at hSw); go_simp; first | done | with_reducible rfl)
  try simp only [Act.put, List.setIfInBounds_toArray, List.set_cons_zero, List.set_cons_succ]
  refine wpAnyH_take (i := 11) (oi := { dst := some 22, op := Go.Op.move (Go.Operand.tmp 3), type := 3, pos := "stamp.go:61", after := #[], guard := none }) (v := ?v_11_1) rfl (by kernel_rfl) (by kernel_rfl) (by kernel_rfl) (fun _ _ _ h => h) (Or.inl ⟨by rfl, ?y_11_1⟩) (by assumption) ?_
  case y_11_1 => (intro wq hSw; (try dsimp only at hSw); go_simp; first | done | with_reducible rfl)
  try simp only [Act.put, List.setIfInBounds_toArray, List.set_cons_zero, List.set_cons_succ]
  refine wpAnyH_ready (rs := [0]) (by kernel_rfl) (by simp) ?_
  refine AllReadyH.cons (o := { dst := some 14, op := Go.Op.makeMap 66 none, type := 66, pos := "stamp.go:61", after := #[], guard := none }) rfl (fun KQ hKQ => ?_) AllReadyH.nil
  go_simp
  refine hKQ.out _ _ ?s_0 (fun hHeld0 => ?_)
  case s_0 => trivial
  clear hKQ KQ
  try simp only [Act.put, List.setIfInBounds_toArray, List.set_cons_zero, List.set_cons_succ]
  apply flowl.wpAnyH_flowF (TL (four n l s a) w.heap.size) (TI w (four n l s a) w.heap.size) ?hIS [(3, none), (6, none), (9, none), (12, none), (13, some 23), (14, some 10)] (fun i => match i with | 3 => [] | 6 => [] | 9 => [] | 12 => [] | 13 => [3, 6, 9, 12] | 14 => [13] | _ => []) (TP (four n l s a) w.heap.size)
  case hIS => exact fun _ _ => trivial
  case hok => kernel_rfl
  case hf => (intro vs; simp only [flowl.putEx, Act.put, List.setIfInBounds_toArray, List.set_cons_zero, List.set_cons_succ]; exact rfl)
  case hst => exact fun i v w w' h hb => TP_on h hb
  case hS => exact ⟨⟨[], heap_alloc_new w.drew _, fun x hx => (by cases hx), List.nodup_nil⟩, (Below.refl _ _).drew.alloc (Nat.le_refl _) _, by simp⟩
  case hsteps =>
    simp only [List.map_cons, List.map_nil]
    refine flowl.StepsF.cons (o := { dst := none, op := Go.Op.insert 66 (Go.Operand.tmp 14) (Go.Operand.tmp 15) (Go.Operand.tmp 16), type := 0, pos := "stamp.go:61", after := #[{ on := 0, ground := Go.Ground.data }, { on := 1, ground := Go.Ground.data }, { on := 2, ground := Go.Ground.data }], guard := none }) rfl (fun vs wq KQ hS hd hKQ => ?_) ?_
    · have HK := hKQ.out
      clear hKQ hd
      have HQ := Lib.hid HK
      clear HK
      refine step_insert rfl _ _ _ _ rfl (.map (some w.heap.size)) (fK 0) (.int .i64 (four n l s a 0)) rfl rfl rfl _ (PO.out 0 (by omega) wq hS) ?_
      rintro w3 ⟨h2, h3, h4⟩
      exact HQ.out undef _ h2 h3 h4
    refine flowl.StepsF.cons (o := { dst := none, op := Go.Op.insert 66 (Go.Operand.tmp 14) (Go.Operand.tmp 17) (Go.Operand.tmp 18), type := 0, pos := "stamp.go:61", after := #[{ on := 0, ground := Go.Ground.data }, { on := 4, ground := Go.Ground.data }, { on := 5, ground := Go.Ground.data }], guard := none }) rfl (fun vs wq KQ hS hd hKQ => ?_) ?_
    · have HK := hKQ.out
      clear hKQ hd
      have HQ := Lib.hid HK
      clear HK
      refine step_insert rfl _ _ _ _ rfl (.map (some w.heap.size)) (fK 1) (.int .i64 (four n l s a 1)) rfl rfl rfl _ (PO.out 1 (by omega) wq hS) ?_
      rintro w3 ⟨h2, h3, h4⟩
      exact HQ.out undef _ h2 h3 h4
    refine flowl.StepsF.cons (o := { dst := none, op := Go.Op.insert 66 (Go.Operand.tmp 14) (Go.Operand.tmp 19) (Go.Operand.tmp 20), type := 0, pos := "stamp.go:61", after := #[{ on := 0, ground := Go.Ground.data }, { on := 7, ground := Go.Ground.data }, { on := 8, ground := Go.Ground.data }], guard := none }) rfl (fun vs wq KQ hS hd hKQ => ?_) ?_
    · have HK := hKQ.out
      clear hKQ hd
      have HQ := Lib.hid HK
      clear HK
      refine step_insert rfl _ _ _ _ rfl (.map (some w.heap.size)) (fK 2) (.int .i64 (four n l s a 2)) rfl rfl rfl _ (PO.out 2 (by omega) wq hS) ?_
      rintro w3 ⟨h2, h3, h4⟩
      exact HQ.out undef _ h2 h3 h4
    refine flowl.StepsF.cons (o := { dst := none, op := Go.Op.insert 66 (Go.Operand.tmp 14) (Go.Operand.tmp 21) (Go.Operand.tmp 22), type := 0, pos := "stamp.go:61", after := #[{ on := 0, ground := Go.Ground.data }, { on := 10, ground := Go.Ground.data }, { on := 11, ground := Go.Ground.data }], guard := none }) rfl (fun vs wq KQ hS hd hKQ => ?_) ?_
    · have HK := hKQ.out
      clear hKQ hd
      have HQ := Lib.hid HK
      clear HK
      refine step_insert rfl _ _ _ _ rfl (.map (some w.heap.size)) (fK 3) (.int .i64 (four n l s a 3)) rfl rfl rfl _ (PO.out 3 (by omega) wq hS) ?_
      rintro w3 ⟨h2, h3, h4⟩
      exact HQ.out undef _ h2 h3 h4
    refine flowl.StepsF.cons (o := { dst := some 23, op := Go.Op.move (Go.Operand.tmp 14), type := 66, pos := "stamp.go:61", after := #[{ on := 0, ground := Go.Ground.data }, { on := 1, ground := Go.Ground.data }, { on := 2, ground := Go.Ground.data }, { on := 3, ground := Go.Ground.data }, { on := 4, ground := Go.Ground.data }, { on := 5, ground := Go.Ground.data }, { on := 6, ground := Go.Ground.data }, { on := 7, ground := Go.Ground.data }, { on := 8, ground := Go.Ground.data }, { on := 9, ground := Go.Ground.data }, { on := 10, ground := Go.Ground.data }, { on := 11, ground := Go.Ground.data }, { on := 12, ground := Go.Ground.data }], guard := none }) rfl (fun vs wq KQ hS hd hKQ => ?_) ?_
    · have HK := hKQ.out
      have d3 := hd 3 (by simp)
      simp only [TP] at d3
      have d6 := hd 6 (by simp)
      simp only [TP] at d6
      have d9 := hd 9 (by simp)
      simp only [TP] at d9
      have d12 := hd 12 (by simp)
      simp only [TP] at d12
      clear hKQ hd
      simp only [TP, Act.put, List.setIfInBounds_toArray, List.set_cons_zero, List.set_cons_succ] at HK ⊢
      have HQ := Lib.hid HK
      clear HK
      go_simp
      exact HQ.out _ _ hS rfl (fun _ h => h)
    refine flowl.StepsF.cons (o := { dst := some 10, op := Go.Op.assign (Go.Operand.tmp 23), type := 66, pos := "stamp.go:61", after := #[{ on := 13, ground := Go.Ground.data }, { on := 0, ground := Go.Ground.phase }, { on := 1, ground := Go.Ground.phase }, { on := 2, ground := Go.Ground.phase }, { on := 3, ground := Go.Ground.phase }, { on := 4, ground := Go.Ground.phase }, { on := 5, ground := Go.Ground.phase }, { on := 6, ground := Go.Ground.phase }, { on := 7, ground := Go.Ground.phase }, { on := 8, ground := Go.Ground.phase }, { on := 9, ground := Go.Ground.phase }, { on := 10, ground := Go.Ground.phase }, { on := 11, ground := Go.Ground.phase }, { on := 12, ground := Go.Ground.phase }, { on := 13, ground := Go.Ground.phase }], guard := none }) rfl (fun vs wq KQ hS hd hKQ => ?_) ?_
    · have HK := hKQ.out
      have d13 := hd 13 (by simp)
      simp only [TP] at d13
      clear hKQ hd
      simp only [TP, Act.put, List.setIfInBounds_toArray, List.set_cons_zero, List.set_cons_succ, d13] at HK ⊢
      have HQ := Lib.hid HK
      clear HK
      go_simp
      exact HQ.out _ _ hS rfl (fun _ h => h)
    exact flowl.StepsF.nil
  case hend =>
    intro vs wq hS hall
    have p0 := hall 3 (by simp)
    have p1 := hall 6 (by simp)
    have p2 := hall 9 (by simp)
    have p3 := hall 12 (by simp)
    have p4 := hall 14 (by simp)
    simp only [TP] at p0 p1 p2 p3 p4
    clear hall
    simp only [p4]
    obtain ⟨⟨L, hL⟩, hB, hsz⟩ := hS
    have hall : Hid (∀ i, i < 4 → i ∈ L) := by
      obtain ⟨L0, g0, m0⟩ := p0
      obtain ⟨L1, g1, m1⟩ := p1
      obtain ⟨L2, g2, m2⟩ := p2
      obtain ⟨L3, g3, m3⟩ := p3
      rw [g0.eq hL] at m0
      rw [g1.eq hL] at m1
      rw [g2.eq hL] at m2
      rw [g3.eq hL] at m3
      intro i hi
      rcases i with _ | _ | _ | _ | i
      · exact m0 hi
      · exact m1 hi
      · exact m2 hi
      · exact m3 hi
      · omega
    clear p0 p1 p2 p3 p4 PO MK hHeld hHeld0
    generalize vs 14 = v14 at *
    generalize vs 13 = v13 at *
    clear vs
    have hlt := hL.lt
    have RG := Lib.hid (run_range_map (P := Try.prog) wq 66 65 3 w.heap.size (fents (four n l s a) L).toArray L.length Try.underlying66 hL.1)
    go_wp2_with (refine wpList_range_run _ rfl (.tmp 24) 66 rfl (.map (some w.heap.size)) _ _ rfl RG.out ?_)
    have hr0 : (wq.alloc (.mapIter (some w.heap.size) L.length #[] L.length)).heap[wq.heap.size]? = some (.mapIter (some w.heap.size) L.length #[] L.length) := heap_alloc_new wq _
    have hm0 : GM (wq.alloc (.mapIter (some w.heap.size) L.length #[] L.length)) w.heap.size (four n l s a) L := hL.keep (heap_alloc_old wq _ hlt)
    have hB0 : Below w.heap.size w (wq.alloc (.mapIter (some w.heap.size) L.length #[] L.length)) := hB.alloc hB.size _
    rw [hsz] at hr0 ⊢
    generalize (wq.alloc (.mapIter (some w.heap.size) L.length #[] L.length)) = w1 at *
    clear RG hL hB hlt hsz
    have hold : Hid (∀ x ∈ (fents (four n l s a) L).toArray.toList, x.born < L.length) := fun x hx => by
      obtain ⟨k, hk, rfl⟩ := fents_mem _ L x (by simpa using hx)
      exact hk
    have hborn : Hid (((fents (four n l s a) L).toArray.toList.map (·.born)).Nodup) := by
      have := fents_born (four n l s a) L
      simpa using Lib.hid this
    have HV : Hid (∀ i, I64 (four n l s a i)) := fun i => by
      unfold four
      split <;> assumption
    have HT : Hid (∀ d : List Nat, (∀ i, i ∈ d ↔ i < 4) → (∀ i, i < 4 → fits (four n l s a) i) → tieF n l s a = ((acc (four n l s a) d : Nat) : Int) ∧ tieE n l s a = 0) := fun d h1 h2 => by
      have hb := good_of n l s a h2
      exact ⟨(if_neg hb).trans (acc_full n l s a d h1 h2).symm, if_neg hb⟩
    have HE : Hid (∀ i, i < 4 → ¬ fits (four n l s a) i → tieF n l s a = 0 ∧ tieE n l s a = 1) := fun i h4 h => by
      have hb := bad_of n l s a i h4 h
      exact ⟨if_pos hb, if_pos hb⟩
    clear hn hl hs ha
    generalize four n l s a = V at *
    simp only [Act.put, List.setIfInBounds_toArray, List.set_cons_zero, List.set_cons_succ]
    go_loopw [11] (fun ac wr => ∃ (d : List Nat) (seen : Array Nat) (c0 : Nat), ac = .int .i64 ((acc V d : Nat) : Int) ∧ GM wr w.heap.size V L ∧ wr.heap[w.heap.size + 1]? = some (.mapIter (some w.heap.size) L.length seen c0) ∧ L.length ≤ c0 ∧ Hid (∀ k (hk : k < L.length), seen.contains k = true → L[k] ∈ d) ∧ Hid (∀ i ∈ d, i < 4 ∧ fits V i) ∧ Below w.heap.size w wr) (fun _ wr => (leftOf (fents V L).toArray (wr.iterSeen (w.heap.size + 1))).size)
    case atStart => exact ⟨[], #[], L.length, rfl, hm0, hr0, Nat.le_refl _, fun k hk h => by simp at h, fun i hi => by (cases hi), hB0⟩
    case round =>
      obtain ⟨d, seen, c0, rfl, hM, hR, hc, hS, hF, hB⟩ := hrel
      rcases run_next_at (P := Try.prog) wr 0 (w.heap.size + 1) w.heap.size L.length c0 seen (fents V L).toArray L.length hR hM.1 hold.out hc with ⟨h0, hrun⟩ | ⟨e, he, w2, hw2, hrun⟩
      · have hrunH := Lib.hid hrun
        have hds : ∀ i, i ∈ d ↔ i < 4 := fun i => by
          refine ⟨fun h => (hF.out i h).1, fun h => ?_⟩
          obtain ⟨k, hk, rfl⟩ := List.mem_iff_getElem.1 (hall.out i h)
          refine hS.out k hk ?_
          have hmem : fent V L[k] k ∈ (fents V L).toArray.toList := by
            have : fent V L[k] k ∈ fents V L := List.mem_iff_getElem?.2 ⟨k, by unfold fents; rw [List.getElem?_mapIdx, List.getElem?_eq_getElem hk]; rfl⟩
            simpa using this
          exact all_seen _ _ h0 _ hmem
        have hT := HT.out d hds (fun i h => (hF.out i ((hds i).2 h)).2)
        have hTF := Lib.hid hT.1
        have hTE := Lib.hid hT.2
        clear hT hds hrun HT HE
        go_wp2_with (refine wpList_next_run _ rfl (.tmp 25) rfl (.pointer (some ⟨w.heap.size + 1, 0, none⟩)) _ _ rfl hrunH.out ?_)
        go_ret2
        exact ⟨by rw [hTF.out, hTE.out]; rfl, hB⟩
      · obtain ⟨hmem, hns⟩ := mem_left he
        have hSeen : Hid (wr.iterSeen (w.heap.size + 1) = seen) := by
          unfold World.iterSeen
          rw [hR]
          exact Lib.hid rfl
        have hmeas := Lib.hid (left_shrinks (fents V L).toArray seen e he)
        have hent := fun (w3 : World) (h1 : w3.heap[w.heap.size + 1]? = some (.mapIter (some w.heap.size) L.length (seen.push e.born) L.length)) (h2 : GM w3 w.heap.size V L) => run_entry_at (P := Try.prog) w3 (w.heap.size + 1) w.heap.size L.length seen (fents V L).toArray L.length e h1 h2.1 hmem hborn.out
        obtain ⟨k, hk, rfl⟩ := fents_mem V L e (by simpa using hmem)
        have hgr : Below w.heap.size w w2 ∧ GM w2 w.heap.size V L ∧ w.heap.size + 1 < w2.heap.size := by
          have hrl := (Array.getElem?_eq_some_iff.1 hR).1
          rcases hw2 with rfl | rfl
          · exact ⟨hB, hM, hrl⟩
          · exact ⟨hB.drew, hM, hrl⟩
        obtain ⟨hB2, hM2, hrl⟩ := hgr
        have hR3 : (ChangeMaps.setBlock w2 (w.heap.size + 1) (.mapIter (some w.heap.size) L.length (seen.push (fent V L[k] k).born) L.length)).heap[w.heap.size + 1]? = some (.mapIter (some w.heap.size) L.length (seen.push (fent V L[k] k).born) L.length) := by
          simp [ChangeMaps.setBlock, hrl]
        have hM3 : GM (ChangeMaps.setBlock w2 (w.heap.size + 1) (.mapIter (some w.heap.size) L.length (seen.push (fent V L[k] k).born) L.length)) w.heap.size V L := hM2.keep (by simp [ChangeMaps.setBlock, Array.getElem?_setIfInBounds_ne (show w.heap.size + 1 ≠ w.heap.size by omega)])
        have hB3 : Below w.heap.size w (ChangeMaps.setBlock w2 (w.heap.size + 1) (.mapIter (some w.heap.size) L.length (seen.push (fent V L[k] k).born) L.length)) :=
          hB2.trans ⟨rfl, rfl, rfl, by simp [ChangeMaps.setBlock], fun j hj => by simp [ChangeMaps.setBlock, Array.getElem?_setIfInBounds_ne (show w.heap.size + 1 ≠ j by omega)]⟩
        have hi4 : L[k] < 4 := hM.2.1 _ (List.getElem_mem hk)
        have hS3 : Hid (∀ j (hj : j < L.length), (seen.push (fent V L[k] k).born).contains j = true → L[j] ∈ L[k] :: d) := fun j hj h => by
          rw [contains_push, Bool.or_eq_true] at h
          rcases h with h | h
          · exact List.mem_cons_of_mem _ (hS.out j hj h)
          · have : j = k := by simpa [fent] using h
            subst this
            exact List.mem_cons_self
        have hent3 := hent _ hR3 hM3
        have hlt3 := (Array.getElem?_eq_some_iff.1 hR3).1
        have hgl3 := hM3.lt
        generalize ChangeMaps.setBlock w2 (w.heap.size + 1) (.mapIter (some w.heap.size) L.length (seen.push (fent V L[k] k).born) L.length) = w3 at *
        have hkey : (fent V L[k] k).key = fK L[k] := rfl
        have hval : (fent V L[k] k).val = .int .i64 (V L[k]) := rfl
        have hbo : (fent V L[k] k).born = k := rfl
        rw [hkey, hval] at hrun hent3
        rw [hbo] at hR3 hS3 hmeas
        clear hent he hmem hns hR hM hB hB2 hM2 hrl hw2 hS hkey hval hbo
        generalize hLk : L[k] = i at *
        rw [fK_eq i hi4] at hrun hent3
        have hv := HV.out i
        have hfit : fits V i ↔ lo i ≤ V i ∧ V i ≤ hi i := Iff.rfl
        have hsh : (sh i : Int) ≤ 48 := by
          unfold sh
          split <;> decide
        have hsh0 : (0 : Int) ≤ sh i := Int.natCast_nonneg _
        have hrunH := Lib.hid hrun
        have hentH := Lib.hid hent3
        clear hrun hent3
        by_cases h1 : V i < lo i
        · have hE := HE.out i hi4 (fun h => by have := (hfit.1 h).1; omega)
          have hEF := Lib.hid hE.1
          have hEE := Lib.hid hE.2
          clear hE hfit HE HT hv
          generalize V i = x at *
          generalize lo i = p at *
          generalize hi i = q at *
          generalize sh i = m at *
          go_wp2_with (first | refine wpList_next_run _ rfl (.tmp 25) rfl (.pointer (some ⟨w.heap.size + 1, 0, none⟩)) _ _ rfl hrunH.out ?_ | refine wpList_entry_run _ rfl (.tmp 25) rfl (.pointer (some ⟨w.heap.size + 1, 0, none⟩)) _ _ rfl hentH.out ?_)
          go_ret2
          exact ⟨by rw [hEF.out, hEE.out]; rfl, hB3.alloc hB3.size _⟩
        · by_cases h2 : hi i < V i
          · have hE := HE.out i hi4 (fun h => by have := (hfit.1 h).2; omega)
            have hEF := Lib.hid hE.1
            have hEE := Lib.hid hE.2
            clear hE hfit HE HT hv
            generalize V i = x at *
            generalize lo i = p at *
            generalize hi i = q at *
            generalize sh i = m at *
            go_wp2_with (first | refine wpList_next_run _ rfl (.tmp 25) rfl (.pointer (some ⟨w.heap.size + 1, 0, none⟩)) _ _ rfl hrunH.out ?_ | refine wpList_entry_run _ rfl (.tmp 25) rfl (.pointer (some ⟨w.heap.size + 1, 0, none⟩)) _ _ rfl hentH.out ?_)
            go_ret2
            exact ⟨by rw [hEF.out, hEE.out]; rfl, hB3.alloc hB3.size _⟩
          · have hfi : fits V i := hfit.2 (by omega)
            have hor := Lib.hid (or_step V i d hfi (fun j hj => (hF.out j hj).2))
            obtain ⟨hs0, hs1⟩ := shl_in V i hfi
            have hF3 : Hid (∀ j ∈ i :: d, j < 4 ∧ fits V j) := fun j hj => by
              rcases List.mem_cons.1 hj with rfl | hj
              · exact ⟨hi4, hfi⟩
              · exact hF.out j hj
            have hsn : wr.iterSeen (w.heap.size + 1) = seen := hSeen.out
            clear hfit HE HT hfi
            generalize hX : V i = x at *
            generalize hP : lo i = p at *
            generalize hQ : hi i = q at *
            generalize hM : sh i = m at *
            have hX' := Lib.hid hX
            clear hX hP hQ hM
            go_wp2_with (first | refine wpList_next_run _ rfl (.tmp 25) rfl (.pointer (some ⟨w.heap.size + 1, 0, none⟩)) _ _ rfl hrunH.out ?_ | refine wpList_entry_run _ rfl (.tmp 25) rfl (.pointer (some ⟨w.heap.size + 1, 0, none⟩)) _ _ rfl hentH.out ?_)
            have e3 : (w3.alloc (.cells #[.int .i64 p, .int .i64 q, .int .i64 m] 65)).heap[w.heap.size + 1]? = some (.mapIter (some w.heap.size) L.length (seen.push k) L.length) := (heap_alloc_old _ _ hlt3).trans hR3
            refine ⟨⟨i :: d, seen.push k, L.length, by rw [← hor.out], hM3.keep (heap_alloc_old _ _ hgl3), e3, Nat.le_refl _, hS3, hF3, hB3.alloc hB3.size _⟩, ?_⟩
            have e4 : (w3.alloc (.cells #[.int .i64 p, .int .i64 q, .int .i64 m] 65)).iterSeen (w.heap.size + 1) = seen.push k := by
              unfold World.iterSeen
              rw [e3]
            rw [e4, hsn]
            exact hmeas.out
end Go.Proofs.Ytpalhpkbdkodfaa.tie
