/- SumLines. -/
import Derived.Test.YtgejdnkfbleakaaSumLaw
namespace Go.Proofs.Ytgejdnkfbleakaa.sumLaw
open Go.RowKit Go.Proofs.Ytgejdnkfbleakaa.kit Go.Proofs.Ytgejdnkfbleakaa.nums Go.Proofs.Ytgejdnkfbleakaa.crc Go.Proofs.Ytgejdnkfbleakaa.bytes Go.Proofs.Ytgejdnkfbleakaa.law0
set_option linter.unusedVariables false

theorem run_min4 {P : Program} (x y z u : Nat) (w : World) (ts : Array TypeId) (t : TypeId) : (Builtin.min_ ts t #[.int .i64 x, .int .i64 y, .int .i64 z, .int .i64 u]).run P w = .ok (.int .i64 (min (min (min x y) z) u : Nat)) w := by
  simp [Builtin.min_, Builtin.min2]
  repeat' split
  all_goals omega
theorem zeros_put (xs : List Int) (j n : Nat) (v : Int) (h : xs.length = j) (hj : j < n) : (u8s xs ++ zeros (n - j)).set j (.int .u8 v) = u8s (xs ++ [v]) ++ zeros (n - (j + 1)) := by
  rw [List.set_append_right _ _ (by rw [u8s_length]; omega), u8s_length, h, Nat.sub_self, show n - j = (n - (j + 1)) + 1 by omega, u8s_append, List.append_assoc]
  rfl
theorem zeros_at (xs : List Int) (j n : Nat) (h : xs.length = j) (hj : j < n) : (u8s xs ++ zeros (n - j))[j]? = some (.int .u8 0) := by
  rw [List.getElem?_append_right (by rw [u8s_length]; omega), u8s_length, h, Nat.sub_self, show n - j = (n - (j + 1)) + 1 by omega]
  rfl

theorem rd_pre {w : World} {B n m : Nat} {A : Option Addr} {l : List Int} (h : Rd w B A n l) (hm : m ≤ n) : Rd w B A m (l.take m) := by
  refine ⟨by rw [List.length_take, h.1]; omega, fun hp => ?_⟩
  obtain ⟨b, o, e, hb, hc⟩ := h.2 (by omega)
  refine ⟨b, o, e, hb, fun j hj => ?_⟩
  rw [hc j (by omega), List.getD_eq_getElem?_getD, List.getD_eq_getElem?_getD, List.getElem?_take, if_pos hj]
theorem sl_of {w : World} {B n c : Nat} {A : Option Addr} {l : List Int} (h : Rd w B A n l) (hc : n ≤ c) (hm : c ≤ maxLen) : Sl w B (.slice A n c) l := by
  obtain rfl : n = l.length := h.len.symm
  exact ⟨A, c, rfl, hc, hm, h⟩
/-- A row of one slice, laid by the call. -/
def OneS (l : List Int) (v : Value) (w : World) : Prop := ∃ g, v = .slice (some ⟨g, 0, none⟩) 1 1 ∧ RdS w w.heap.size (some ⟨g, 0, none⟩) 1 [l]
theorem OneS.on {l : List Int} {v : Value} {w w' : World} (h : OneS l v w) (hb : Below w.heap.size w w') : OneS l v w' := by
  obtain ⟨g, e, hr⟩ := h
  exact ⟨g, e, hr.on hb hb.size⟩
theorem oneS_new {w : World} {x : Value} {l : List Int} {E : TypeId} (hx : Sl w w.heap.size x l) : OneS l (.slice (some ⟨w.heap.size, 0, none⟩) 1 1) (w.alloc (.cells #[x] E)) := ⟨_, rfl, by simpa using rds_one (E := E) hx⟩
theorem of_oneS (l : List Int) (h : Byt l) (hl : l.length ≤ 1099511627776) (w : World) (g : Nat) (hr : RdS w w.heap.size (some ⟨g, 0, none⟩) 1 [l]) :
    Calls Try.prog 12 #[.slice (some ⟨g, 0, none⟩) 1 1] w fun e w' => e = .returned (.int .u32 ((ofC l : Nat) : Int)) ∧ Below w.heap.size w w' := by
  have := sum.of_any (some ⟨g, 0, none⟩) 1 1 [l] w hr (allB_one h hl) (by omega)
  rwa [show [l].flatten = l by simp] at this
/-- What each operation of the last statement comes to. -/
def linesP (xs a b c : List Int) (rx ra rb rc : Nat) (i : Nat) (v : Value) (w : World) : Prop := match i with
  | 1 => OneS xs v w
  | 2 => v = .int .u32 (rx : Int)
  | 6 => OneS a v w
  | 7 => v = .int .u32 (ra : Int)
  | 11 => OneS b v w
  | 12 => v = .int .u32 (rb : Int)
  | 13 => v = .int .u32 ((ra ^^^ rb : Nat) : Int)
  | 17 => OneS c v w
  | 18 => v = .int .u32 (rc : Int)
  | 19 => v = .int .u32 (rx : Int)
  | 20 => v = .bool true
  | 21 => v = .bool true
  | _ => True
theorem linesP_on {xs a b c : List Int} {rx ra rb rc i : Nat} {v : Value} {w w' : World} (h : linesP xs a b c rx ra rb rc i v w) (hb : Below w.heap.size w w') : linesP xs a b c rx ra rb rc i v w' := by
  revert h
  unfold linesP
  split <;> intro h <;> first | exact h | exact OneS.on h hb

set_option maxHeartbeats 400000 in
theorem lines_any (A : Option Addr) (na ca : Nat) (la : List Int) (B : Option Addr) (nb cb : Nat) (lb : List Int) (C : Option Addr) (nc cc : Nat) (lc : List Int) (w : World) (hA : Rd w w.heap.size A na la) (hYa : Byt la) (ha : na ≤ ca) (hma : ca ≤ maxLen)
    (hB : Rd w w.heap.size B nb lb) (hYb : Byt lb) (hb : nb ≤ cb) (hmb : cb ≤ maxLen) (hC : Rd w w.heap.size C nc lc) (hYc : Byt lc) (hc : nc ≤ cc) (hmc : cc ≤ maxLen) :
    Calls Try.prog 6 #[.slice A na ca, .slice B nb cb, .slice C nc cc] w fun e w' => e = .returned (.bool true) ∧ Below w.heap.size w w' := by
  have HA := Lib.hid hA
  have HB := Lib.hid hB
  have HC := Lib.hid hC
  have hma' : ca ≤ 9223372036854775807 := hma
  have hmb' : cb ≤ 9223372036854775807 := hmb
  have hmc' : cc ≤ 9223372036854775807 := hmc
  have hmin := fun (w : World) (ts : Array TypeId) (t : TypeId) => run_min4 (P := Try.prog) na nb nc 4096 w ts t
  obtain ⟨n, hn⟩ : ∃ n : Nat, n = min (min (min na nb) nc) 4096 := ⟨_, rfl⟩
  rw [← hn] at hmin
  have h1 : n ≤ na := by omega
  have h2 : n ≤ nb := by omega
  have h3 : n ≤ nc := by omega
  have h4 : n ≤ 4096 := by omega
  have hmin2 := fun (w : World) (ts : Array TypeId) (t : TypeId) => show (Builtin.min_ ts t #[.int .i64 na, .int .i64 nb, .int .i64 nc, .int .i64 4096]).run Try.prog w = .ok (.int .i64 n) w from hmin w ts t
  clear hA hB hC hmin hn
  go_enter Try.func6, Try.ntmps6
  go_wp2_with fail
  refine (begun_any w).mono ?_
  rintro e w1 ⟨rfl, hB1⟩
  go_wp2_with (at_make; refine wpList_make_bytes _ rfl _ _ 27 rfl 5 Try.underlying27 info5 .i64 .i64 _ _ n n rfl rfl ?cL ?cC ?c1 ?c2 ?_)
  case cL => rfl
  case cC => rfl
  case c1 => omega
  case c2 => omega
  intro w2 HG HBw HS
  have hgw : w.heap.size ≤ w1.heap.size := hB1.size
  have hB2 := hB1.trans (HBw.mono hB1.size)
  clear HBw HS hmin2
  generalize w1.heap.size = g at *
  go_wp2_with fail
  go_loopw [9] (fun i wr => ∃ (j : Nat) (xs : List Int), j ≤ n ∧ i = .int .i64 j ∧ Hid (xs.length = j) ∧ Byt xs ∧ Hid (numC xs = numC (la.take j) ^^^ numC (lb.take j) ^^^ numC (lc.take j)) ∧ Blk 5 wr g (u8s xs ++ zeros (n - j)) ∧ Below w.heap.size w wr) (fun i _ => n - (intOf i).toNat)
  case atStart => exact ⟨0, [], by omega, rfl, rfl, Byt.nil, by show _ = _; simp [numC], HG, hB2⟩
  case round =>
    obtain ⟨j, xs, hj, rfl, HX, hYx, HN, hD, hBr⟩ := hrel
    by_cases hlt : j < n
    · have hna := HA.out.len
      have hnb := HB.out.len
      have hnc := HC.out.len
      obtain ⟨ba, oa, rfl, hba, hca⟩ := (HA.out.below hBr).2 (by omega : 0 < na)
      obtain ⟨bb, ob, rfl, hbb, hcb⟩ := (HB.out.below hBr).2 (by omega : 0 < nb)
      obtain ⟨bc, oc, rfl, hbc, hcc⟩ := (HC.out.below hBr).2 (by omega : 0 < nc)
      have ca0 := hca j (by omega)
      have cb0 := hcb j (by omega)
      have cc0 := hcc j (by omega)
      have va := hYa.at_ j
      have vb := hYb.at_ j
      have vc := hYc.at_ j
      obtain ⟨x, hx⟩ : ∃ x : Nat, la.getD j 0 = x := ⟨(la.getD j 0).toNat, by omega⟩
      obtain ⟨y, hy⟩ : ∃ y : Nat, lb.getD j 0 = y := ⟨(lb.getD j 0).toNat, by omega⟩
      obtain ⟨z, hz⟩ : ∃ z : Nat, lc.getD j 0 = z := ⟨(lc.getD j 0).toNat, by omega⟩
      have HN2 : Hid (numC (xs ++ [((x ^^^ y ^^^ z : Nat) : Int)]) = numC (la.take (j + 1)) ^^^ numC (lb.take (j + 1)) ^^^ numC (lc.take (j + 1))) :=
        lines_step HX.out HN.out (by omega) (by omega) (by omega) hx hy hz
      rw [hx] at ca0 va
      rw [hy] at cb0 vb
      rw [hz] at cc0 vc
      have hxy : x ^^^ y < 256 := Nat.xor_lt_two_pow (n := 8) (by omega) (by omega)
      have hxyz : x ^^^ y ^^^ z < 256 := Nat.xor_lt_two_pow (n := 8) hxy (by omega)
      have hw1 := bits_xor_u8_nat x y (by omega) (by omega)
      have hw2 := bits_xor_u8_nat (x ^^^ y) z hxy (by omega)
      have hcell : wr.cell? ⟨g, j, none⟩ = some (.int .u8 0) := by rw [hD.cell, zeros_at xs j n HX.out hlt]
      have hfr := hD.frozen j
      have HD2 : Hid (Blk 5 (wr.setCell ⟨g, j, none⟩ (.int .u8 ((x ^^^ y ^^^ z : Nat) : Int))) g (u8s (xs ++ [((x ^^^ y ^^^ z : Nat) : Int)]) ++ zeros (n - (j + 1)))) := by
        have h := hD.set_ j (.int .u8 ((x ^^^ y ^^^ z : Nat) : Int))
        rw [zeros_put xs j n _ HX.out hlt] at h
        exact h
      have hYx2 : Byt (xs ++ [((x ^^^ y ^^^ z : Nat) : Int)]) := hYx.append (Byt.one (by omega) (by omega))
      have HX2 : Hid ((xs ++ [((x ^^^ y ^^^ z : Nat) : Int)]).length = j + 1) := by show _ = _; rw [List.length_append, HX.out]; rfl
      have hB3 : Below w.heap.size w (wr.setCell ⟨g, j, none⟩ (.int .u8 ((x ^^^ y ^^^ z : Nat) : Int))) := hBr.setCell hgw _
      generalize xs ++ [((x ^^^ y ^^^ z : Nat) : Int)] = xs2 at *
      generalize x ^^^ y ^^^ z = v2 at *
      generalize x ^^^ y = v1 at *
      have i0 : (0 : Int) ≤ j := by omega
      have i1 : (j : Int) < na := by omega
      have i2 : (j : Int) < nb := by omega
      have i3 : (j : Int) < nc := by omega
      have i4 : (j : Int) < n := by omega
      clear hx hy hz HN hD hYx HX hca hcb hcc hna hnb hnc HG
      go_wp2_with fail
      go_still_tail 17, (by kernel_rfl)
      change wpList _ _ _ _ _ wr.drew
      go_wp2_with fail
      go_roundw
      case rel => exact ⟨j + 1, xs2, by omega, by go_num, HX2, hYx2, HN2, HD2.out, hB3.drew⟩
      case measure => simp [intOf]; omega
    · obtain rfl : j = n := by omega
      rw [Nat.sub_self] at hD
      have hgs : g < wr.heap.size := hD.lt
      have HXr : Hid (Rd wr wr.heap.size (some ⟨g, 0, none⟩) j xs) := hD.rd (by rw [← HX.out, ← u8s_length xs]; exact List.take_left) HX.out hgs
      have hS0 : Below wr.heap.size wr wr.drew := (Below.refl _ _).drew
      have SX : ∀ w', Below wr.heap.size wr w' → Sl w' w'.heap.size (.slice (some ⟨g, 0, none⟩) j j) xs := fun w' h => sl_of (HXr.out.on h h.size) (Nat.le_refl _) (by unfold maxLen; omega)
      have SA : ∀ w', Below wr.heap.size wr w' → Sl w' w'.heap.size (.slice A j ca) (la.take j) := fun w' h => sl_of (rd_pre ((HA.out.on hBr hBr.size).on h h.size) h1) (by omega) hma
      have SB : ∀ w', Below wr.heap.size wr w' → Sl w' w'.heap.size (.slice B j cb) (lb.take j) := fun w' h => sl_of (rd_pre ((HB.out.on hBr hBr.size).on h h.size) h2) (by omega) hmb
      have SC : ∀ w', Below wr.heap.size wr w' → Sl w' w'.heap.size (.slice C j cc) (lc.take j) := fun w' h => sl_of (rd_pre ((HC.out.on hBr hBr.size).on h h.size) h3) (by omega) hmc
      have hna := HA.out.len
      have hnb := HB.out.len
      have hnc := HC.out.len
      have hl1 : (la.take j).length = xs.length := by rw [List.length_take, HX.out]; omega
      have hl2 : (lb.take j).length = xs.length := by rw [List.length_take, HX.out]; omega
      have hl3 : (lc.take j).length = xs.length := by rw [List.length_take, HX.out]; omega
      have hYa2 : Byt (la.take j) := hYa.take j
      have hYb2 : Byt (lb.take j) := hYb.take j
      have hYc2 : Byt (lc.take j) := hYc.take j
      have hlin := lines hYx hYa2 hYb2 hYc2 hl1 hl2 hl3 HN.out
      have DX := Lib.hid (of_oneS xs hYx (by rw [HX.out]; omega))
      have DA := Lib.hid (of_oneS (la.take j) hYa2 (by rw [hl1, HX.out]; omega))
      have DB := Lib.hid (of_oneS (lb.take j) hYb2 (by rw [hl2, HX.out]; omega))
      have DC := Lib.hid (of_oneS (lc.take j) hYc2 (by rw [hl3, HX.out]; omega))
      have ba : ofC (la.take j) < 4294967296 := moreC_lt (by omega) hYa2
      have bb : ofC (lb.take j) < 4294967296 := moreC_lt (by omega) hYb2
      have bc : ofC (lc.take j) < 4294967296 := moreC_lt (by omega) hYc2
      rw [hlin] at DX
      generalize ofC (la.take j) = ra at *
      generalize ofC (lb.take j) = rb at *
      generalize ofC (lc.take j) = rc at *
      have hw1 := bits_xor_u32_nat ra rb ba bb
      have hw2 := bits_xor_u32_nat (ra ^^^ rb) rc (xor_lt ba bb) bc
      obtain ⟨rx, hrx⟩ : ∃ rx, rx = ra ^^^ rb ^^^ rc := ⟨_, rfl⟩
      rw [← hrx] at hw2 DX
      have hc1 : (j : Int) ≤ ca := by omega
      have hc2 : (j : Int) ≤ cb := by omega
      have hc3 : (j : Int) ≤ cc := by omega
      have hj0 : (0 : Int) ≤ j := by omega
      clear hlin hrx HN hD hYx hYa2 hYb2 hYc2 hl1 hl2 hl3 hna hnb hnc HG
      go_wp2_with fail
      refine wp_region_held_drew (S := fun w' => Below wr.heap.size wr w') (by kernel_rfl) ?s_0 (fun hHeld => ?_)
      case s_0 => exact hS0
      refine wpAnyH_take (i := 0) (oi := { dst := some 43, op := Go.Op.move (Go.Operand.tmp 8), type := 27, pos := "law.go:70", after := #[], guard := none }) (v := ?v_0) rfl (by kernel_rfl) (by kernel_rfl) (by kernel_rfl) (fun _ _ _ h => h) (Or.inl ⟨by rfl, ?y_0⟩) (by assumption) ?_
      case y_0 => (intro wq hSw; (try dsimp only at hSw); go_simp; first | done | with_reducible rfl)
      try simp only [Act.put, List.setIfInBounds_toArray, List.set_cons_zero, List.set_cons_succ]
      refine wpAnyH_take (i := 3) (oi := { dst := some 46, op := Go.Op.move (Go.Operand.tmp 0), type := 27, pos := "law.go:70", after := #[], guard := none }) (v := ?v_3) rfl (by kernel_rfl) (by kernel_rfl) (by kernel_rfl) (fun _ _ _ h => h) (Or.inl ⟨by rfl, ?y_3⟩) (by assumption) ?_
      case y_3 => (intro wq hSw; (try dsimp only at hSw); go_simp; first | done | with_reducible rfl)
      try simp only [Act.put, List.setIfInBounds_toArray, List.set_cons_zero, List.set_cons_succ]
      refine wpAnyH_take (i := 4) (oi := { dst := some 47, op := Go.Op.move (Go.Operand.tmp 7), type := 3, pos := "law.go:70", after := #[], guard := none }) (v := ?v_4) rfl (by kernel_rfl) (by kernel_rfl) (by kernel_rfl) (fun _ _ _ h => h) (Or.inl ⟨by rfl, ?y_4⟩) (by assumption) ?_
      case y_4 => (intro wq hSw; (try dsimp only at hSw); go_simp; first | done | with_reducible rfl)
      try simp only [Act.put, List.setIfInBounds_toArray, List.set_cons_zero, List.set_cons_succ]
      refine wpAnyH_take (i := 5) (oi := { dst := some 48, op := Go.Op.slice 27 (Go.Operand.tmp 46) none (some (Go.Operand.tmp 47)) none, type := 27, pos := "law.go:70", after := #[{ on := 3, ground := Go.Ground.data }, { on := 4, ground := Go.Ground.data }], guard := none }) (v := ?v_5) rfl (by kernel_rfl) (by kernel_rfl) (by kernel_rfl) (fun _ _ _ h => h) (Or.inl ⟨by rfl, ?y_5⟩) (by assumption) ?_
      case y_5 => (intro wq hSw; (try dsimp only at hSw); go_simp; first | done | with_reducible rfl)
      try simp only [Act.put, List.setIfInBounds_toArray, List.set_cons_zero, List.set_cons_succ]
      refine wpAnyH_take (i := 8) (oi := { dst := some 51, op := Go.Op.move (Go.Operand.tmp 1), type := 27, pos := "law.go:70", after := #[], guard := none }) (v := ?v_8) rfl (by kernel_rfl) (by kernel_rfl) (by kernel_rfl) (fun _ _ _ h => h) (Or.inl ⟨by rfl, ?y_8⟩) (by assumption) ?_
      case y_8 => (intro wq hSw; (try dsimp only at hSw); go_simp; first | done | with_reducible rfl)
      try simp only [Act.put, List.setIfInBounds_toArray, List.set_cons_zero, List.set_cons_succ]
      refine wpAnyH_take (i := 9) (oi := { dst := some 52, op := Go.Op.move (Go.Operand.tmp 7), type := 3, pos := "law.go:70", after := #[], guard := none }) (v := ?v_9) rfl (by kernel_rfl) (by kernel_rfl) (by kernel_rfl) (fun _ _ _ h => h) (Or.inl ⟨by rfl, ?y_9⟩) (by assumption) ?_
      case y_9 => (intro wq hSw; (try dsimp only at hSw); go_simp; first | done | with_reducible rfl)
      try simp only [Act.put, List.setIfInBounds_toArray, List.set_cons_zero, List.set_cons_succ]
      refine wpAnyH_take (i := 10) (oi := { dst := some 53, op := Go.Op.slice 27 (Go.Operand.tmp 51) none (some (Go.Operand.tmp 52)) none, type := 27, pos := "law.go:70", after := #[{ on := 8, ground := Go.Ground.data }, { on := 9, ground := Go.Ground.data }], guard := none }) (v := ?v_10) rfl (by kernel_rfl) (by kernel_rfl) (by kernel_rfl) (fun _ _ _ h => h) (Or.inl ⟨by rfl, ?y_10⟩) (by assumption) ?_
      case y_10 => (intro wq hSw; (try dsimp only at hSw); go_simp; first | done | with_reducible rfl)
      try simp only [Act.put, List.setIfInBounds_toArray, List.set_cons_zero, List.set_cons_succ]
      refine wpAnyH_take (i := 14) (oi := { dst := some 57, op := Go.Op.move (Go.Operand.tmp 2), type := 27, pos := "law.go:70", after := #[], guard := none }) (v := ?v_14) rfl (by kernel_rfl) (by kernel_rfl) (by kernel_rfl) (fun _ _ _ h => h) (Or.inl ⟨by rfl, ?y_14⟩) (by assumption) ?_
      case y_14 => (intro wq hSw; (try dsimp only at hSw); go_simp; first | done | with_reducible rfl)
      try simp only [Act.put, List.setIfInBounds_toArray, List.set_cons_zero, List.set_cons_succ]
      refine wpAnyH_take (i := 15) (oi := { dst := some 58, op := Go.Op.move (Go.Operand.tmp 7), type := 3, pos := "law.go:70", after := #[], guard := none }) (v := ?v_15) rfl (by kernel_rfl) (by kernel_rfl) (by kernel_rfl) (fun _ _ _ h => h) (Or.inl ⟨by rfl, ?y_15⟩) (by assumption) ?_
      case y_15 => (intro wq hSw; (try dsimp only at hSw); go_simp; first | done | with_reducible rfl)
      try simp only [Act.put, List.setIfInBounds_toArray, List.set_cons_zero, List.set_cons_succ]
      refine wpAnyH_take (i := 16) (oi := { dst := some 59, op := Go.Op.slice 27 (Go.Operand.tmp 57) none (some (Go.Operand.tmp 58)) none, type := 27, pos := "law.go:70", after := #[{ on := 14, ground := Go.Ground.data }, { on := 15, ground := Go.Ground.data }], guard := none }) (v := ?v_16) rfl (by kernel_rfl) (by kernel_rfl) (by kernel_rfl) (fun _ _ _ h => h) (Or.inl ⟨by rfl, ?y_16⟩) (by assumption) ?_
      case y_16 => (intro wq hSw; (try dsimp only at hSw); go_simp; first | done | with_reducible rfl)
      try simp only [Act.put, List.setIfInBounds_toArray, List.set_cons_zero, List.set_cons_succ]
      apply flow.wpAnyH_flowF [(1, some 44), (2, some 45), (6, some 49), (7, some 50), (11, some 54), (12, some 55), (13, some 56), (17, some 60), (18, some 61), (19, some 62), (20, some 63), (21, some 6)] (fun i => match i with | 1 => [] | 2 => [1] | 6 => [] | 7 => [6] | 11 => [] | 12 => [11] | 13 => [7, 12] | 17 => [] | 18 => [17] | 19 => [13, 18] | 20 => [2, 19] | 21 => [20] | _ => []) (linesP xs (la.take j) (lb.take j) (lc.take j) rx ra rb rc)
      case hok => kernel_rfl
      case hf => (intro vs; simp only [flow.putEx, Act.put, List.setIfInBounds_toArray, List.set_cons_zero, List.set_cons_succ]; exact rfl)
      case hst => exact fun i v w w' h hb => linesP_on h hb
      case hS => exact hS0
      case hsteps =>
        simp only [List.map_cons, List.map_nil]
        refine flow.StepsF.cons (o := { dst := some 44, op := Go.Op.buildSlice 22 1 #[(0, Go.Operand.tmp 43)], type := 22, pos := "law.go:70", after := #[{ on := 0, ground := Go.Ground.data }], guard := none }) rfl (fun vs wq KQ hS hd hKQ => ?_) ?_
        · have HK := hKQ.out
          clear hKQ hd
          simp only [linesP, Act.put, List.setIfInBounds_toArray, List.set_cons_zero, List.set_cons_succ] at HK ⊢
          have HQ := Lib.hid HK
          clear HK
          go_simp
          exact HQ.out _ _ (hS.alloc hS.size _) (oneS_new (SX wq hS)) ((Below.refl _ _).alloc (Nat.le_refl _) _)
        refine flow.StepsF.cons (o := { dst := some 45, op := Go.Op.call { callee := Go.Callee.value (Go.Operand.func 12), args := #[Go.Operand.tmp 44], argTypes := #[22] }, type := 23, pos := "law.go:70", after := #[{ on := 1, ground := Go.Ground.data }], guard := none }) rfl (fun vs wq KQ hS hd hKQ => ?_) ?_
        · have HK := hKQ.out
          have d1 := hd 1 (by simp)
          simp only [linesP] at d1
          clear hKQ hd
          simp only [linesP, Act.put, List.setIfInBounds_toArray, List.set_cons_zero, List.set_cons_succ] at HK ⊢
          have HQ := Lib.hid HK
          clear HK
          obtain ⟨g1, e1, h1⟩ := d1
          simp only [e1] at HQ ⊢
          go_simp
          refine (DX.out wq g1 h1).mono ?_
          rintro e w2 ⟨rfl, hb⟩
          go_wp2_with fail
          exact HQ.out _ _ (hS.trans (hb.mono hS.size)) rfl hb
        refine flow.StepsF.cons (o := { dst := some 49, op := Go.Op.buildSlice 22 1 #[(0, Go.Operand.tmp 48)], type := 22, pos := "law.go:70", after := #[{ on := 5, ground := Go.Ground.data }], guard := none }) rfl (fun vs wq KQ hS hd hKQ => ?_) ?_
        · have HK := hKQ.out
          clear hKQ hd
          simp only [linesP, Act.put, List.setIfInBounds_toArray, List.set_cons_zero, List.set_cons_succ] at HK ⊢
          have HQ := Lib.hid HK
          clear HK
          go_simp
          exact HQ.out _ _ (hS.alloc hS.size _) (oneS_new (SA wq hS)) ((Below.refl _ _).alloc (Nat.le_refl _) _)
        refine flow.StepsF.cons (o := { dst := some 50, op := Go.Op.call { callee := Go.Callee.value (Go.Operand.func 12), args := #[Go.Operand.tmp 49], argTypes := #[22] }, type := 23, pos := "law.go:70", after := #[{ on := 6, ground := Go.Ground.data }, { on := 2, ground := Go.Ground.chain }], guard := none }) rfl (fun vs wq KQ hS hd hKQ => ?_) ?_
        · have HK := hKQ.out
          have d6 := hd 6 (by simp)
          simp only [linesP] at d6
          clear hKQ hd
          simp only [linesP, Act.put, List.setIfInBounds_toArray, List.set_cons_zero, List.set_cons_succ] at HK ⊢
          have HQ := Lib.hid HK
          clear HK
          obtain ⟨g1, e1, h1⟩ := d6
          simp only [e1] at HQ ⊢
          go_simp
          refine (DA.out wq g1 h1).mono ?_
          rintro e w2 ⟨rfl, hb⟩
          go_wp2_with fail
          exact HQ.out _ _ (hS.trans (hb.mono hS.size)) rfl hb
        refine flow.StepsF.cons (o := { dst := some 54, op := Go.Op.buildSlice 22 1 #[(0, Go.Operand.tmp 53)], type := 22, pos := "law.go:70", after := #[{ on := 10, ground := Go.Ground.data }], guard := none }) rfl (fun vs wq KQ hS hd hKQ => ?_) ?_
        · have HK := hKQ.out
          clear hKQ hd
          simp only [linesP, Act.put, List.setIfInBounds_toArray, List.set_cons_zero, List.set_cons_succ] at HK ⊢
          have HQ := Lib.hid HK
          clear HK
          go_simp
          exact HQ.out _ _ (hS.alloc hS.size _) (oneS_new (SB wq hS)) ((Below.refl _ _).alloc (Nat.le_refl _) _)
        refine flow.StepsF.cons (o := { dst := some 55, op := Go.Op.call { callee := Go.Callee.value (Go.Operand.func 12), args := #[Go.Operand.tmp 54], argTypes := #[22] }, type := 23, pos := "law.go:70", after := #[{ on := 11, ground := Go.Ground.data }, { on := 7, ground := Go.Ground.chain }], guard := none }) rfl (fun vs wq KQ hS hd hKQ => ?_) ?_
        · have HK := hKQ.out
          have d11 := hd 11 (by simp)
          simp only [linesP] at d11
          clear hKQ hd
          simp only [linesP, Act.put, List.setIfInBounds_toArray, List.set_cons_zero, List.set_cons_succ] at HK ⊢
          have HQ := Lib.hid HK
          clear HK
          obtain ⟨g1, e1, h1⟩ := d11
          simp only [e1] at HQ ⊢
          go_simp
          refine (DB.out wq g1 h1).mono ?_
          rintro e w2 ⟨rfl, hb⟩
          go_wp2_with fail
          exact HQ.out _ _ (hS.trans (hb.mono hS.size)) rfl hb
        refine flow.StepsF.cons (o := { dst := some 56, op := Go.Op.binOp Go.BinOp.xor 23 (Go.Operand.tmp 50) (Go.Operand.tmp 55) 23, type := 23, pos := "law.go:70", after := #[{ on := 7, ground := Go.Ground.data }, { on := 12, ground := Go.Ground.data }], guard := none }) rfl (fun vs wq KQ hS hd hKQ => ?_) ?_
        · have HK := hKQ.out
          have d7 := hd 7 (by simp)
          simp only [linesP] at d7
          have d12 := hd 12 (by simp)
          simp only [linesP] at d12
          clear hKQ hd
          simp only [linesP, Act.put, List.setIfInBounds_toArray, List.set_cons_zero, List.set_cons_succ, d7, d12] at HK ⊢
          have HQ := Lib.hid HK
          clear HK
          go_simp
          exact HQ.out _ _ hS rfl (Below.refl _ _)
        refine flow.StepsF.cons (o := { dst := some 60, op := Go.Op.buildSlice 22 1 #[(0, Go.Operand.tmp 59)], type := 22, pos := "law.go:70", after := #[{ on := 16, ground := Go.Ground.data }], guard := none }) rfl (fun vs wq KQ hS hd hKQ => ?_) ?_
        · have HK := hKQ.out
          clear hKQ hd
          simp only [linesP, Act.put, List.setIfInBounds_toArray, List.set_cons_zero, List.set_cons_succ] at HK ⊢
          have HQ := Lib.hid HK
          clear HK
          go_simp
          exact HQ.out _ _ (hS.alloc hS.size _) (oneS_new (SC wq hS)) ((Below.refl _ _).alloc (Nat.le_refl _) _)
        refine flow.StepsF.cons (o := { dst := some 61, op := Go.Op.call { callee := Go.Callee.value (Go.Operand.func 12), args := #[Go.Operand.tmp 60], argTypes := #[22] }, type := 23, pos := "law.go:70", after := #[{ on := 17, ground := Go.Ground.data }, { on := 12, ground := Go.Ground.chain }], guard := none }) rfl (fun vs wq KQ hS hd hKQ => ?_) ?_
        · have HK := hKQ.out
          have d17 := hd 17 (by simp)
          simp only [linesP] at d17
          clear hKQ hd
          simp only [linesP, Act.put, List.setIfInBounds_toArray, List.set_cons_zero, List.set_cons_succ] at HK ⊢
          have HQ := Lib.hid HK
          clear HK
          obtain ⟨g1, e1, h1⟩ := d17
          simp only [e1] at HQ ⊢
          go_simp
          refine (DC.out wq g1 h1).mono ?_
          rintro e w2 ⟨rfl, hb⟩
          go_wp2_with fail
          exact HQ.out _ _ (hS.trans (hb.mono hS.size)) rfl hb
        refine flow.StepsF.cons (o := { dst := some 62, op := Go.Op.binOp Go.BinOp.xor 23 (Go.Operand.tmp 56) (Go.Operand.tmp 61) 23, type := 23, pos := "law.go:70", after := #[{ on := 13, ground := Go.Ground.data }, { on := 18, ground := Go.Ground.data }], guard := none }) rfl (fun vs wq KQ hS hd hKQ => ?_) ?_
        · have HK := hKQ.out
          have d13 := hd 13 (by simp)
          simp only [linesP] at d13
          have d18 := hd 18 (by simp)
          simp only [linesP] at d18
          clear hKQ hd
          simp only [linesP, Act.put, List.setIfInBounds_toArray, List.set_cons_zero, List.set_cons_succ, d13, d18] at HK ⊢
          have HQ := Lib.hid HK
          clear HK
          go_simp
          exact HQ.out _ _ hS rfl (Below.refl _ _)
        refine flow.StepsF.cons (o := { dst := some 63, op := Go.Op.binOp Go.BinOp.eql 23 (Go.Operand.tmp 45) (Go.Operand.tmp 62) 23, type := 4, pos := "law.go:70", after := #[{ on := 2, ground := Go.Ground.data }, { on := 19, ground := Go.Ground.data }], guard := none }) rfl (fun vs wq KQ hS hd hKQ => ?_) ?_
        · have HK := hKQ.out
          have d2 := hd 2 (by simp)
          simp only [linesP] at d2
          have d19 := hd 19 (by simp)
          simp only [linesP] at d19
          clear hKQ hd
          simp only [linesP, Act.put, List.setIfInBounds_toArray, List.set_cons_zero, List.set_cons_succ, d2, d19] at HK ⊢
          have HQ := Lib.hid HK
          clear HK
          go_simp
          exact HQ.out _ _ hS rfl (Below.refl _ _)
        refine flow.StepsF.cons (o := { dst := some 6, op := Go.Op.assign (Go.Operand.tmp 63), type := 4, pos := "law.go:70", after := #[{ on := 20, ground := Go.Ground.data }, { on := 18, ground := Go.Ground.chain }, { on := 0, ground := Go.Ground.phase }, { on := 1, ground := Go.Ground.phase }, { on := 2, ground := Go.Ground.phase }, { on := 3, ground := Go.Ground.phase }, { on := 4, ground := Go.Ground.phase }, { on := 5, ground := Go.Ground.phase }, { on := 6, ground := Go.Ground.phase }, { on := 7, ground := Go.Ground.phase }, { on := 8, ground := Go.Ground.phase }, { on := 9, ground := Go.Ground.phase }, { on := 10, ground := Go.Ground.phase }, { on := 11, ground := Go.Ground.phase }, { on := 12, ground := Go.Ground.phase }, { on := 13, ground := Go.Ground.phase }, { on := 14, ground := Go.Ground.phase }, { on := 15, ground := Go.Ground.phase }, { on := 16, ground := Go.Ground.phase }, { on := 17, ground := Go.Ground.phase }, { on := 18, ground := Go.Ground.phase }, { on := 19, ground := Go.Ground.phase }, { on := 20, ground := Go.Ground.phase }], guard := none }) rfl (fun vs wq KQ hS hd hKQ => ?_) ?_
        · have HK := hKQ.out
          have d20 := hd 20 (by simp)
          simp only [linesP] at d20
          clear hKQ hd
          simp only [linesP, Act.put, List.setIfInBounds_toArray, List.set_cons_zero, List.set_cons_succ, d20] at HK ⊢
          have HQ := Lib.hid HK
          clear HK
          go_simp
          exact HQ.out _ _ hS rfl (Below.refl _ _)
        exact flow.StepsF.nil
      case hend =>
        intro vs wq hS hall
        have e21 := hall 21 (by simp)
        simp only [linesP] at e21
        simp only [e21]
        go_wp2_with fail
        go_ret
        exact ⟨rfl, hBr.trans (hS.mono hBr.size)⟩
end Go.Proofs.Ytgejdnkfbleakaa.sumLaw
