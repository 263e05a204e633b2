/- SumOnward. -/
import Derived.Test.YtgejdnkfbleakaaSumLines
namespace Go.Proofs.Ytgejdnkfbleakaa.sumLaw
open Go.RowKit Go.Proofs.Ytgejdnkfbleakaa.kit Go.Proofs.Ytgejdnkfbleakaa.nums Go.Proofs.Ytgejdnkfbleakaa.crc Go.Proofs.Ytgejdnkfbleakaa.bytes Go.Proofs.Ytgejdnkfbleakaa.law0
set_option linter.unusedVariables false

/-- A row of two slices, laid by the call. -/
def TwoS (l m : List Int) (v : Value) (w : World) : Prop := ∃ g, v = .slice (some ⟨g, 0, none⟩) 2 2 ∧ RdS w w.heap.size (some ⟨g, 0, none⟩) 2 [l, m]
theorem TwoS.on {l m : List Int} {v : Value} {w w' : World} (h : TwoS l m v w) (hb : Below w.heap.size w w') : TwoS l m v w' := by
  obtain ⟨g, e, hr⟩ := h
  exact ⟨g, e, hr.on hb hb.size⟩
theorem twoS_new {w : World} {x y : Value} {l m : List Int} {E : TypeId} (hx : Sl w w.heap.size x l) (hy : Sl w w.heap.size y m) : TwoS l m (.slice (some ⟨w.heap.size, 0, none⟩) 2 2) (w.alloc (.cells #[x, y] E)) := ⟨_, rfl, by simpa using rds_two (E := E) hx hy⟩
theorem Sl.on {w w' : World} {x : Value} {l : List Int} (h : Sl w w.heap.size x l) (hb : Below w.heap.size w w') : Sl w' w'.heap.size x l := (h.below hb).more hb.size
def onwP1 (zs l : List Int) (zero sl one : Value) (k ra rb rc r0 r1 : Nat) (i : Nat) (v : Value) (w : World) : Prop := match i with
  | 0 => v = .int .u32 (ra : Int)
  | 1 => v = zero
  | 2 => OneS zs v w
  | 3 => v = .int .u32 (r0 : Int)
  | 4 => v = sl
  | 5 => v = .int .u32 (ra : Int)
  | 6 => v = .bool true
  | 7 => v = .bool true
  | 8 => v = .int .u32 (rc : Int)
  | 9 => v = sl
  | 10 => OneS l v w
  | 11 => v = .int .u32 (rb : Int)
  | 12 => v = zero
  | 13 => v = .int .u32 (rc : Int)
  | 14 => v = .bool true
  | 15 => v = .bool true
  | 16 => v = .bool true
  | 17 => v = .int .i64 (k : Int)
  | 18 => v = .bool true
  | 19 => v = .bool true
  | 20 => v = undef
  | 21 => v = undef
  | 22 => v = undef
  | 23 => v = undef
  | 24 => v = undef
  | 25 => v = .bool true
  | 26 => v = .bool true
  | 27 => v = .bool true
  | 28 => v = .int .i64 (k : Int)
  | 29 => v = .bool false
  | 30 => v = .bool false
  | 31 => v = zero
  | 32 => OneS zs v w
  | 33 => v = .int .u32 (r0 : Int)
  | 34 => v = zero
  | 35 => v = one
  | 36 => OneS (zs.drop 1) v w
  | 37 => v = .int .u32 (r1 : Int)
  | 38 => v = .bool true
  | 39 => v = .bool true
  | 40 => v = .bool true
  | 41 => v = .bool true
  | 42 => v = .int .u32 (ra : Int)
  | 43 => v = zero
  | 44 => v = sl
  | 45 => TwoS zs l v w
  | 46 => v = .int .u32 (ra : Int)
  | 47 => v = .bool true
  | 48 => v = .bool true
  | 49 => v = .bool true
  | _ => True
theorem onwP1_on {zs l : List Int} {zero sl one : Value} {k ra rb rc r0 r1 i : Nat} {v : Value} {w w' : World} (h : onwP1 zs l zero sl one k ra rb rc r0 r1 i v w) (hb : Below w.heap.size w w') : onwP1 zs l zero sl one k ra rb rc r0 r1 i v w' := by
  revert h
  unfold onwP1
  split <;> intro h <;> first | exact h | exact OneS.on h hb | exact TwoS.on h hb
def onwP0 (l : List Int) (zero sl : Value) (ra rb r0 : Nat) (i : Nat) (v : Value) (w : World) : Prop := match i with
  | 0 => v = .int .u32 (ra : Int)
  | 1 => v = zero
  | 2 => OneS [] v w
  | 3 => v = .int .u32 (r0 : Int)
  | 4 => v = sl
  | 5 => v = .int .u32 (ra : Int)
  | 6 => v = .bool true
  | 7 => v = .bool true
  | 8 => v = .int .u32 (rb : Int)
  | 9 => v = sl
  | 10 => OneS l v w
  | 11 => v = .int .u32 (rb : Int)
  | 12 => v = zero
  | 13 => v = .int .u32 (rb : Int)
  | 14 => v = .bool true
  | 15 => v = .bool true
  | 16 => v = .bool true
  | 17 => v = .int .i64 0
  | 18 => v = .bool false
  | 19 => v = .bool false
  | 20 => v = .int .u32 (rb : Int)
  | 21 => v = sl
  | 22 => OneS l v w
  | 23 => v = .int .u32 (rb : Int)
  | 24 => v = .bool true
  | 25 => v = .bool true
  | 26 => v = .bool true
  | 27 => v = .bool true
  | 28 => v = .int .i64 0
  | 29 => v = .bool true
  | 30 => v = .bool true
  | 31 => v = undef
  | 32 => v = undef
  | 33 => v = undef
  | 34 => v = undef
  | 35 => v = undef
  | 36 => v = undef
  | 37 => v = undef
  | 38 => v = undef
  | 39 => v = .bool true
  | 40 => v = .bool true
  | 41 => v = .bool true
  | 42 => v = .int .u32 (ra : Int)
  | 43 => v = zero
  | 44 => v = sl
  | 45 => TwoS [] l v w
  | 46 => v = .int .u32 (ra : Int)
  | 47 => v = .bool true
  | 48 => v = .bool true
  | 49 => v = .bool true
  | _ => True
theorem onwP0_on {l : List Int} {zero sl : Value} {ra rb r0 i : Nat} {v : Value} {w w' : World} (h : onwP0 l zero sl ra rb r0 i v w) (hb : Below w.heap.size w w') : onwP0 l zero sl ra rb r0 i v w' := by
  revert h
  unfold onwP0
  split <;> intro h <;> first | exact h | exact OneS.on h hb | exact TwoS.on h hb
theorem sl_tail {w : World} {B g k : Nat} {zs : List Int} (hl : zs.length = k) (h : Rd w B (some ⟨g, 0, none⟩) k zs) (h0 : 0 < k) (hk : k < 50) : Sl w B (.slice (if k = 1 then some ⟨g, 0, none⟩ else some ⟨g, 1, none⟩) (k - 1) (k - 1)) (zs.drop 1) := by
  have hd : (zs.drop 1).length = k - 1 := by rw [List.length_drop, hl]
  refine ⟨_, k - 1, by rw [hd], by rw [hd]; exact Nat.le_refl _, by unfold maxLen; omega, ?_⟩
  rw [hd]
  by_cases h1 : k = 1
  · rw [if_pos h1, h1, List.eq_nil_of_length_eq_zero (by rw [hd, h1] : (zs.drop 1).length = 0)]
    exact Rd.nil _ _ _
  · rw [if_neg h1]
    have := h.cut (p := 1) (q := k) (by omega) (Nat.le_refl _)
    rwa [List.take_of_length_le (by rw [hd]; exact Nat.le_refl _)] at this
theorem ofC_two (l m : List Int) : ofC [l, m].flatten = moreC (ofC l) m := by
  rw [show [l, m].flatten = l ++ m by simp]
  exact moreC_append 0 l m
/-- Noughts of unlike counts are told apart. -/
theorem noughts : ∀ k : Fin 49, ofC (List.replicate (k.1 + 1) 0) ≠ ofC (List.replicate k.1 0) := by decide +kernel
theorem noughts_of {k : Nat} (h0 : 0 < k) (h : k < 50) : ofC (List.replicate k 0) ≠ ofC ((List.replicate k (0 : Int)).drop 1) := by
  have := noughts ⟨k - 1, by omega⟩
  rw [List.drop_replicate]
  simpa [Nat.sub_add_cancel h0] using this
theorem byt_zero (k : Nat) : Byt (List.replicate k 0) := fun x hx => by
  obtain ⟨_, rfl⟩ := List.mem_replicate.1 hx
  omega

set_option maxRecDepth 100000 in
set_option maxHeartbeats 2000000 in
theorem onward_small (A : Option Addr) (n c : Nat) (l : List Int) (t : Int) (w : World) (hA : Rd w w.heap.size A n l) (hY : Byt l) (hc : n ≤ c) (hm : c ≤ maxLen) (hn : n ≤ 4096) (ht : -9223372036854775808 ≤ t ∧ t ≤ 9223372036854775807) :
    Calls Try.prog 7 #[.slice A n c, .int .i64 t] w fun e w' => e = .returned (.bool true) ∧ Below w.heap.size w w' := by
  obtain rfl : n = l.length := hA.len.symm
  have HA := Lib.hid hA
  clear hA
  obtain ⟨k, hk, hk50⟩ : ∃ k : Nat, (wrap64 (t.tmod 50 + 50)).tmod 50 = k ∧ k < 50 := by
    have h1 : -50 < t.tmod 50 := Int.lt_tmod_of_pos t (by omega)
    have h2 : t.tmod 50 < 50 := Int.tmod_lt_of_pos t (by omega)
    have h3 : wrap64 (t.tmod 50 + 50) = t.tmod 50 + 50 := by unfold wrap64; omega
    rw [h3, Int.tmod_eq_emod_of_nonneg (by omega)]
    refine ⟨((t.tmod 50 + 50) % 50).toNat, ?_, ?_⟩ <;> omega
  go_enter Try.func7, Try.ntmps7
  go_wp2_with fail
  refine (begun_any w).mono ?_
  rintro e w1 ⟨rfl, hB1⟩
  go_wp2_with (at_make; refine wpList_make_bytes _ rfl _ _ 27 rfl 5 Try.underlying27 info5 .i64 .i64 _ _ k k rfl rfl ?cL ?cC ?c1 ?c2 ?_)
  case cL => rfl
  case cC => rfl
  case c1 => exact Nat.le_refl _
  case c2 => omega
  intro w2 HG HBw HS
  have hB2 := hB1.trans (HBw.mono hB1.size)
  have hgs : w1.heap.size < w2.heap.size := HG.lt
  have HZ : Hid (Rd w2 w2.heap.size (some ⟨w1.heap.size, 0, none⟩) k (List.replicate k 0)) := HG.rd (by simp [zeros, u8s]) (by simp) hgs
  clear HBw HS HG
  generalize w1.heap.size = g at *
  obtain ⟨zs, hzs⟩ : ∃ zs, zs = List.replicate k (0 : Int) := ⟨_, rfl⟩
  have hYz : Byt zs := by rw [hzs]; exact byt_zero k
  have hlz : zs.length = k := by rw [hzs]; simp
  have hneq : 0 < k → ofC zs ≠ ofC (zs.drop 1) := fun h => by rw [hzs]; exact noughts_of h hk50
  rw [← hzs] at HZ
  have SZ2 : ∀ w', Below w2.heap.size w2 w' → Sl w' w'.heap.size (.slice (some ⟨g, 0, none⟩) k k) zs := fun w' h => sl_of (HZ.out.on h h.size) (Nat.le_refl _) (by unfold maxLen; omega)
  have SL2 : ∀ w', Below w2.heap.size w2 w' → Sl w' w'.heap.size (.slice A l.length c) l := fun w' h => sl_of ((HA.out.on hB2 hB2.size).on h h.size) hc hm
  have D1 := fun (w' : World) (h : Below w2.heap.size w2 w') => of_two (SZ2 w' h) (SL2 w' h) hYz (by omega) hY (by omega)
  have D2 := fun (w' : World) (h : Below w2.heap.size w2 w') => of_two (SL2 w' h) (SZ2 w' h) hY (by omega) hYz (by omega)
  rw [ofC_two] at D1 D2
  have M1 := fun (w' : World) (h : Below w2.heap.size w2 w') => sum.more_any (ofC zs) A l.length c l w' ((HA.out.on hB2 hB2.size).on h h.size) hY (by omega) (moreC_lt (by omega) hYz)
  have M2 := fun (w' : World) (h : Below w2.heap.size w2 w') => sum.more_any (ofC l) (some ⟨g, 0, none⟩) k k zs w' (HZ.out.on h h.size) hYz (by omega) (moreC_lt (by omega) hY)
  have DZ := Lib.hid (of_oneS zs hYz (by omega))
  have DL := Lib.hid (of_oneS l hY (by omega))
  have DZ1 := Lib.hid (of_oneS (zs.drop 1) (hYz.drop 1) (by rw [List.length_drop]; omega))
  have DR := fun (w' : World) (g2 : Nat) (hr : RdS w' w'.heap.size (some ⟨g2, 0, none⟩) 2 [zs, l]) => ref2.of_any (some ⟨g2, 0, none⟩) 2 2 [zs, l] w' w'.heap.size hr (allB_two hYz (by omega) hY (by omega)) (by omega)
  rw [ofC_two] at DR
  have h0c : k = 0 → moreC (ofC l) zs = ofC l := fun h => by
    subst h
    rw [List.eq_nil_of_length_eq_zero hlz]; exact moreC_nil _
  generalize moreC (ofC zs) l = ra at *
  generalize moreC (ofC l) zs = rc at *
  generalize ofC zs = r0 at *
  generalize ofC l = rb at *
  generalize ofC (zs.drop 1) = r1 at *
  have HD1 := Lib.hid D1
  have HD2 := Lib.hid D2
  have HM1 := Lib.hid M1
  have HM2 := Lib.hid M2
  have HDR := Lib.hid DR
  have HSZ := Lib.hid SZ2
  have HSL := Lib.hid SL2
  have HLZ := Lib.hid hlz
  have HQ0 := Lib.hid h0c
  have HQ1 := Lib.hid hneq
  clear D1 D2 M1 M2 DR SZ2 SL2 hzs hlz h0c hneq hk
  go_wp2_with fail
  refine (HD1.out w2 (Below.refl _ _)).mono ?_
  rintro e w3 ⟨rfl, hB3⟩
  go_wp2_with fail
  refine (HD2.out w3 hB3).mono ?_
  rintro e w4 ⟨rfl, hB4⟩
  have hB24 := hB3.trans (hB4.mono hB3.size)
  clear HD1 HD2
  have hB5 := hB2.trans (hB24.mono hB2.size)
  have hS0 : Below w4.heap.size w4 w4.drew := (Below.refl _ _).drew
  have SZ : ∀ w', Below w4.heap.size w4 w' → Sl w' w'.heap.size (.slice (some ⟨g, 0, none⟩) k k) zs := fun w' h => HSZ.out w' (hB24.trans (h.mono hB24.size))
  have SL : ∀ w', Below w4.heap.size w4 w' → Sl w' w'.heap.size (.slice A l.length c) l := fun w' h => HSL.out w' (hB24.trans (h.mono hB24.size))
  have M1 := Lib.hid (fun (w' : World) (h : Below w4.heap.size w4 w') => HM1.out w' (hB24.trans (h.mono hB24.size)))
  have M2 := Lib.hid (fun (w' : World) (h : Below w4.heap.size w4 w') => HM2.out w' (hB24.trans (h.mono hB24.size)))
  by_cases hk0 : 0 < k
  · have hn01 := HQ1.out hk0
    have hne : ((r0 : Int) != r1) = true := by simp; omega
    have hki : (0 : Int) < k := by omega
    have hki1 : (1 : Int) ≤ k := by omega
    have hki2 : ((k : Int) == 0) = false := by rw [beq_eq_false_iff_ne]; omega
    have hki0 : 0 < k := hk0
    have SZ1 : ∀ w', Below w4.heap.size w4 w' → Sl w' w'.heap.size (.slice (if k = 1 then some ⟨g, 0, none⟩ else some ⟨g, 1, none⟩) (k - 1) (k - 1)) (zs.drop 1) := fun w' h => sl_tail (HLZ.out) (HZ.out.on (hB24.trans (h.mono hB24.size)) (hB24.trans (h.mono hB24.size)).size) hki0 (by omega)
    clear HM1 HM2 HSZ HSL HQ0 HQ1 hn01 HZ
    go_wp2_with fail
    refine wp_region_held_drew (S := fun w' => Below w4.heap.size w4 w') (by kernel_rfl) ?s_0 (fun hHeld => ?_)
    case s_0 => exact hS0
    apply flow.wpAnyH_flowF [(0, some 27), (1, some 28), (2, some 29), (3, some 30), (4, some 31), (5, some 32), (6, some 33), (7, some 34), (8, some 35), (9, some 36), (10, some 37), (11, some 38), (12, some 39), (13, some 40), (14, some 41), (15, some 42), (16, some 43), (17, some 44), (18, some 45), (19, some 46), (20, some 47), (21, some 48), (22, some 49), (23, some 50), (24, some 51), (25, some 52), (26, some 53), (27, some 54), (28, some 55), (29, some 56), (30, some 57), (31, some 58), (32, some 59), (33, some 60), (34, some 61), (35, some 62), (36, some 63), (37, some 64), (38, some 65), (39, some 66), (40, some 67), (41, some 68), (42, some 69), (43, some 70), (44, some 71), (45, some 72), (46, some 73), (47, some 74), (48, some 75), (49, some 4)] (fun i => match i with | 0 => [] | 1 => [] | 2 => [1] | 3 => [2] | 4 => [] | 5 => [3, 4] | 6 => [0, 5] | 7 => [6] | 8 => [7] | 9 => [7] | 10 => [9, 7] | 11 => [10, 7] | 12 => [7] | 13 => [11, 12, 7] | 14 => [8, 13, 7] | 15 => [7, 14] | 16 => [15] | 17 => [16] | 18 => [17, 16] | 19 => [18, 16] | 20 => [19] | 21 => [19] | 22 => [21, 19] | 23 => [22, 19] | 24 => [20, 23, 19] | 25 => [19, 24, 16] | 26 => [16, 25] | 27 => [26] | 28 => [27] | 29 => [28, 27] | 30 => [29, 27] | 31 => [30] | 32 => [31, 30] | 33 => [32, 30] | 34 => [30] | 35 => [34, 30] | 36 => [35, 30] | 37 => [36, 30] | 38 => [33, 37, 30] | 39 => [30, 38, 27] | 40 => [27, 39] | 41 => [40] | 42 => [41] | 43 => [41] | 44 => [41] | 45 => [43, 44, 41] | 46 => [45, 41] | 47 => [42, 46, 41] | 48 => [41, 47] | 49 => [48] | _ => []) (onwP1 zs l (.slice (some ⟨g, 0, none⟩) k k) (.slice A l.length c) (.slice (if k = 1 then some ⟨g, 0, none⟩ else some ⟨g, 1, none⟩) (k - 1) (k - 1)) k ra rb rc r0 r1)
    case hok => kernel_rfl
    case hf => (intro vs; simp only [flow.putEx, Act.put, List.setIfInBounds_toArray, List.set_cons_zero, List.set_cons_succ]; exact rfl)
    case hst => exact fun i v w w' h hb => onwP1_on h hb
    case hS => exact hS0
    case hsteps =>
      simp only [List.map_cons, List.map_nil]
      refine flow.StepsF.cons (o := { dst := some 27, op := Go.Op.move (Go.Operand.tmp 6), type := 23, pos := "more.go:19", after := #[], guard := none }) rfl (fun vs wq KQ hS hd hKQ => ?_) ?_
      · have HK := hKQ.out
        clear hKQ hd
        simp only [onwP1, Act.put, List.setIfInBounds_toArray, List.set_cons_zero, List.set_cons_succ] at HK ⊢
        have HQ := Lib.hid HK
        clear HK
        go_simp
        exact HQ.out _ _ hS rfl (Below.refl _ _)
      refine flow.StepsF.cons (o := { dst := some 28, op := Go.Op.move (Go.Operand.tmp 5), type := 27, pos := "more.go:19", after := #[], guard := none }) rfl (fun vs wq KQ hS hd hKQ => ?_) ?_
      · have HK := hKQ.out
        clear hKQ hd
        simp only [onwP1, Act.put, List.setIfInBounds_toArray, List.set_cons_zero, List.set_cons_succ] at HK ⊢
        have HQ := Lib.hid HK
        clear HK
        go_simp
        exact HQ.out _ _ hS rfl (Below.refl _ _)
      refine flow.StepsF.cons (o := { dst := some 29, op := Go.Op.buildSlice 22 1 #[(0, Go.Operand.tmp 28)], type := 22, pos := "more.go:19", after := #[{ on := 1, ground := Go.Ground.data }], guard := none }) rfl (fun vs wq KQ hS hd hKQ => ?_) ?_
      · have HK := hKQ.out
        have d1 := hd 1 (by simp)
        simp only [onwP1] at d1
        clear hKQ hd
        simp only [onwP1, Act.put, List.setIfInBounds_toArray, List.set_cons_zero, List.set_cons_succ, d1] at HK ⊢
        have HQ := Lib.hid HK
        clear HK
        go_simp
        exact HQ.out _ _ (hS.alloc hS.size _) (oneS_new (SZ wq hS)) ((Below.refl _ _).alloc (Nat.le_refl _) _)
      refine flow.StepsF.cons (o := { dst := some 30, op := Go.Op.call { callee := Go.Callee.value (Go.Operand.func 12), args := #[Go.Operand.tmp 29], argTypes := #[22] }, type := 23, pos := "more.go:19", after := #[{ on := 2, ground := Go.Ground.data }], guard := none }) rfl (fun vs wq KQ hS hd hKQ => ?_) ?_
      · have HK := hKQ.out
        have d2 := hd 2 (by simp)
        simp only [onwP1] at d2
        clear hKQ hd
        simp only [onwP1, Act.put, List.setIfInBounds_toArray, List.set_cons_zero, List.set_cons_succ] at HK ⊢
        have HQ := Lib.hid HK
        clear HK
        obtain ⟨g1, e1, h1⟩ := d2
        simp only [e1] at HQ ⊢
        go_simp
        refine (DZ.out wq g1 h1).mono ?_
        rintro e w2 ⟨rfl, hb⟩
        go_wp2_with fail
        exact HQ.out _ _ (hS.trans (hb.mono hS.size)) rfl hb
      refine flow.StepsF.cons (o := { dst := some 31, op := Go.Op.move (Go.Operand.tmp 0), type := 27, pos := "more.go:19", after := #[], guard := none }) rfl (fun vs wq KQ hS hd hKQ => ?_) ?_
      · have HK := hKQ.out
        clear hKQ hd
        simp only [onwP1, Act.put, List.setIfInBounds_toArray, List.set_cons_zero, List.set_cons_succ] at HK ⊢
        have HQ := Lib.hid HK
        clear HK
        go_simp
        exact HQ.out _ _ hS rfl (Below.refl _ _)
      refine flow.StepsF.cons (o := { dst := some 32, op := Go.Op.call { callee := Go.Callee.value (Go.Operand.func 14), args := #[Go.Operand.tmp 30, Go.Operand.tmp 31], argTypes := #[23, 27] }, type := 23, pos := "more.go:19", after := #[{ on := 3, ground := Go.Ground.data }, { on := 4, ground := Go.Ground.data }, { on := 3, ground := Go.Ground.chain }], guard := none }) rfl (fun vs wq KQ hS hd hKQ => ?_) ?_
      · have HK := hKQ.out
        have d3 := hd 3 (by simp)
        simp only [onwP1] at d3
        have d4 := hd 4 (by simp)
        simp only [onwP1] at d4
        clear hKQ hd
        simp only [onwP1, Act.put, List.setIfInBounds_toArray, List.set_cons_zero, List.set_cons_succ, d3, d4] at HK ⊢
        have HQ := Lib.hid HK
        clear HK
        go_simp
        refine (M1.out wq hS).mono ?_
        rintro e w2 ⟨rfl, hb⟩
        go_wp2_with fail
        exact HQ.out _ _ (hS.trans (hb.mono hS.size)) rfl hb
      refine flow.StepsF.cons (o := { dst := some 33, op := Go.Op.binOp Go.BinOp.eql 23 (Go.Operand.tmp 27) (Go.Operand.tmp 32) 23, type := 4, pos := "more.go:19", after := #[{ on := 0, ground := Go.Ground.data }, { on := 5, ground := Go.Ground.data }], guard := none }) rfl (fun vs wq KQ hS hd hKQ => ?_) ?_
      · have HK := hKQ.out
        have d0 := hd 0 (by simp)
        simp only [onwP1] at d0
        have d5 := hd 5 (by simp)
        simp only [onwP1] at d5
        clear hKQ hd
        simp only [onwP1, Act.put, List.setIfInBounds_toArray, List.set_cons_zero, List.set_cons_succ, d0, d5] at HK ⊢
        have HQ := Lib.hid HK
        clear HK
        go_simp
        exact HQ.out _ _ hS rfl (Below.refl _ _)
      refine flow.StepsF.cons (o := { dst := some 34, op := Go.Op.move (Go.Operand.tmp 33), type := 4, pos := "more.go:19", after := #[{ on := 6, ground := Go.Ground.data }, { on := 5, ground := Go.Ground.chain }], guard := none }) rfl (fun vs wq KQ hS hd hKQ => ?_) ?_
      · have HK := hKQ.out
        have d6 := hd 6 (by simp)
        simp only [onwP1] at d6
        clear hKQ hd
        simp only [onwP1, Act.put, List.setIfInBounds_toArray, List.set_cons_zero, List.set_cons_succ, d6] at HK ⊢
        have HQ := Lib.hid HK
        clear HK
        go_simp
        exact HQ.out _ _ hS rfl (Below.refl _ _)
      refine flow.StepsF.cons (o := { dst := some 35, op := Go.Op.move (Go.Operand.tmp 7), type := 23, pos := "more.go:19", after := #[{ on := 7, ground := Go.Ground.guard }], guard := some (7, true) }) rfl (fun vs wq KQ hS hd hKQ => ?_) ?_
      · have HK := hKQ.out
        have d7 := hd 7 (by simp)
        simp only [onwP1] at d7
        clear hKQ hd
        simp only [onwP1, Act.put, List.setIfInBounds_toArray, List.set_cons_zero, List.set_cons_succ, d7] at HK ⊢
        have HQ := Lib.hid HK
        clear HK
        go_simp
        exact HQ.out _ _ hS rfl (Below.refl _ _)
      refine flow.StepsF.cons (o := { dst := some 36, op := Go.Op.move (Go.Operand.tmp 0), type := 27, pos := "more.go:19", after := #[{ on := 7, ground := Go.Ground.guard }], guard := some (7, true) }) rfl (fun vs wq KQ hS hd hKQ => ?_) ?_
      · have HK := hKQ.out
        have d7 := hd 7 (by simp)
        simp only [onwP1] at d7
        clear hKQ hd
        simp only [onwP1, Act.put, List.setIfInBounds_toArray, List.set_cons_zero, List.set_cons_succ, d7] at HK ⊢
        have HQ := Lib.hid HK
        clear HK
        go_simp
        exact HQ.out _ _ hS rfl (Below.refl _ _)
      refine flow.StepsF.cons (o := { dst := some 37, op := Go.Op.buildSlice 22 1 #[(0, Go.Operand.tmp 36)], type := 22, pos := "more.go:19", after := #[{ on := 9, ground := Go.Ground.data }, { on := 7, ground := Go.Ground.guard }], guard := some (7, true) }) rfl (fun vs wq KQ hS hd hKQ => ?_) ?_
      · have HK := hKQ.out
        have d9 := hd 9 (by simp)
        simp only [onwP1] at d9
        have d7 := hd 7 (by simp)
        simp only [onwP1] at d7
        clear hKQ hd
        simp only [onwP1, Act.put, List.setIfInBounds_toArray, List.set_cons_zero, List.set_cons_succ, d9, d7] at HK ⊢
        have HQ := Lib.hid HK
        clear HK
        go_simp
        exact HQ.out _ _ (hS.alloc hS.size _) (oneS_new (SL wq hS)) ((Below.refl _ _).alloc (Nat.le_refl _) _)
      refine flow.StepsF.cons (o := { dst := some 38, op := Go.Op.call { callee := Go.Callee.value (Go.Operand.func 12), args := #[Go.Operand.tmp 37], argTypes := #[22] }, type := 23, pos := "more.go:19", after := #[{ on := 10, ground := Go.Ground.data }, { on := 7, ground := Go.Ground.chain }, { on := 7, ground := Go.Ground.guard }], guard := some (7, true) }) rfl (fun vs wq KQ hS hd hKQ => ?_) ?_
      · have HK := hKQ.out
        have d10 := hd 10 (by simp)
        simp only [onwP1] at d10
        have d7 := hd 7 (by simp)
        simp only [onwP1] at d7
        clear hKQ hd
        simp only [onwP1, Act.put, List.setIfInBounds_toArray, List.set_cons_zero, List.set_cons_succ, d7] at HK ⊢
        have HQ := Lib.hid HK
        clear HK
        obtain ⟨g1, e1, h1⟩ := d10
        simp only [e1] at HQ ⊢
        go_simp
        refine (DL.out wq g1 h1).mono ?_
        rintro e w2 ⟨rfl, hb⟩
        go_wp2_with fail
        exact HQ.out _ _ (hS.trans (hb.mono hS.size)) rfl hb
      refine flow.StepsF.cons (o := { dst := some 39, op := Go.Op.move (Go.Operand.tmp 5), type := 27, pos := "more.go:19", after := #[{ on := 7, ground := Go.Ground.guard }], guard := some (7, true) }) rfl (fun vs wq KQ hS hd hKQ => ?_) ?_
      · have HK := hKQ.out
        have d7 := hd 7 (by simp)
        simp only [onwP1] at d7
        clear hKQ hd
        simp only [onwP1, Act.put, List.setIfInBounds_toArray, List.set_cons_zero, List.set_cons_succ, d7] at HK ⊢
        have HQ := Lib.hid HK
        clear HK
        go_simp
        exact HQ.out _ _ hS rfl (Below.refl _ _)
      refine flow.StepsF.cons (o := { dst := some 40, op := Go.Op.call { callee := Go.Callee.value (Go.Operand.func 14), args := #[Go.Operand.tmp 38, Go.Operand.tmp 39], argTypes := #[23, 27] }, type := 23, pos := "more.go:19", after := #[{ on := 11, ground := Go.Ground.data }, { on := 12, ground := Go.Ground.data }, { on := 11, ground := Go.Ground.chain }, { on := 7, ground := Go.Ground.guard }], guard := some (7, true) }) rfl (fun vs wq KQ hS hd hKQ => ?_) ?_
      · have HK := hKQ.out
        have d11 := hd 11 (by simp)
        simp only [onwP1] at d11
        have d12 := hd 12 (by simp)
        simp only [onwP1] at d12
        have d7 := hd 7 (by simp)
        simp only [onwP1] at d7
        clear hKQ hd
        simp only [onwP1, Act.put, List.setIfInBounds_toArray, List.set_cons_zero, List.set_cons_succ, d11, d12, d7] at HK ⊢
        have HQ := Lib.hid HK
        clear HK
        go_simp
        refine (M2.out wq hS).mono ?_
        rintro e w2 ⟨rfl, hb⟩
        go_wp2_with fail
        exact HQ.out _ _ (hS.trans (hb.mono hS.size)) rfl hb
      refine flow.StepsF.cons (o := { dst := some 41, op := Go.Op.binOp Go.BinOp.eql 23 (Go.Operand.tmp 35) (Go.Operand.tmp 40) 23, type := 4, pos := "more.go:19", after := #[{ on := 8, ground := Go.Ground.data }, { on := 13, ground := Go.Ground.data }, { on := 7, ground := Go.Ground.guard }], guard := some (7, true) }) rfl (fun vs wq KQ hS hd hKQ => ?_) ?_
      · have HK := hKQ.out
        have d8 := hd 8 (by simp)
        simp only [onwP1] at d8
        have d13 := hd 13 (by simp)
        simp only [onwP1] at d13
        have d7 := hd 7 (by simp)
        simp only [onwP1] at d7
        clear hKQ hd
        simp only [onwP1, Act.put, List.setIfInBounds_toArray, List.set_cons_zero, List.set_cons_succ, d8, d13, d7] at HK ⊢
        have HQ := Lib.hid HK
        clear HK
        go_simp
        exact HQ.out _ _ hS rfl (Below.refl _ _)
      refine flow.StepsF.cons (o := { dst := some 42, op := Go.Op.pick (Go.Operand.tmp 34) (Go.Operand.tmp 41) (Go.Operand.const (Go.Value.bool false)), type := 4, pos := "more.go:19", after := #[{ on := 7, ground := Go.Ground.data }, { on := 14, ground := Go.Ground.data }], guard := none }) rfl (fun vs wq KQ hS hd hKQ => ?_) ?_
      · have HK := hKQ.out
        have d7 := hd 7 (by simp)
        simp only [onwP1] at d7
        have d14 := hd 14 (by simp)
        simp only [onwP1] at d14
        clear hKQ hd
        simp only [onwP1, Act.put, List.setIfInBounds_toArray, List.set_cons_zero, List.set_cons_succ, d7, d14] at HK ⊢
        have HQ := Lib.hid HK
        clear HK
        go_simp
        exact HQ.out _ _ hS rfl (Below.refl _ _)
      refine flow.StepsF.cons (o := { dst := some 43, op := Go.Op.move (Go.Operand.tmp 42), type := 4, pos := "more.go:19", after := #[{ on := 15, ground := Go.Ground.data }, { on := 13, ground := Go.Ground.chain }], guard := none }) rfl (fun vs wq KQ hS hd hKQ => ?_) ?_
      · have HK := hKQ.out
        have d15 := hd 15 (by simp)
        simp only [onwP1] at d15
        clear hKQ hd
        simp only [onwP1, Act.put, List.setIfInBounds_toArray, List.set_cons_zero, List.set_cons_succ, d15] at HK ⊢
        have HQ := Lib.hid HK
        clear HK
        go_simp
        exact HQ.out _ _ hS rfl (Below.refl _ _)
      refine flow.StepsF.cons (o := { dst := some 44, op := Go.Op.move (Go.Operand.tmp 1), type := 3, pos := "more.go:19", after := #[{ on := 16, ground := Go.Ground.guard }], guard := some (16, true) }) rfl (fun vs wq KQ hS hd hKQ => ?_) ?_
      · have HK := hKQ.out
        have d16 := hd 16 (by simp)
        simp only [onwP1] at d16
        clear hKQ hd
        simp only [onwP1, Act.put, List.setIfInBounds_toArray, List.set_cons_zero, List.set_cons_succ, d16] at HK ⊢
        have HQ := Lib.hid HK
        clear HK
        go_simp
        exact HQ.out _ _ hS rfl (Below.refl _ _)
      refine flow.StepsF.cons (o := { dst := some 45, op := Go.Op.binOp Go.BinOp.gtr 3 (Go.Operand.tmp 44) (Go.Operand.const (Go.Value.int Go.IntKind.i64 0)) 3, type := 4, pos := "more.go:19", after := #[{ on := 17, ground := Go.Ground.data }, { on := 16, ground := Go.Ground.guard }], guard := some (16, true) }) rfl (fun vs wq KQ hS hd hKQ => ?_) ?_
      · have HK := hKQ.out
        have d17 := hd 17 (by simp)
        simp only [onwP1] at d17
        have d16 := hd 16 (by simp)
        simp only [onwP1] at d16
        clear hKQ hd
        simp only [onwP1, Act.put, List.setIfInBounds_toArray, List.set_cons_zero, List.set_cons_succ, d17, d16] at HK ⊢
        have HQ := Lib.hid HK
        clear HK
        go_simp
        exact HQ.out _ _ hS rfl (Below.refl _ _)
      refine flow.StepsF.cons (o := { dst := some 46, op := Go.Op.move (Go.Operand.tmp 45), type := 4, pos := "more.go:19", after := #[{ on := 18, ground := Go.Ground.data }, { on := 16, ground := Go.Ground.chain }, { on := 16, ground := Go.Ground.guard }], guard := some (16, true) }) rfl (fun vs wq KQ hS hd hKQ => ?_) ?_
      · have HK := hKQ.out
        have d18 := hd 18 (by simp)
        simp only [onwP1] at d18
        have d16 := hd 16 (by simp)
        simp only [onwP1] at d16
        clear hKQ hd
        simp only [onwP1, Act.put, List.setIfInBounds_toArray, List.set_cons_zero, List.set_cons_succ, d18, d16] at HK ⊢
        have HQ := Lib.hid HK
        clear HK
        go_simp
        exact HQ.out _ _ hS rfl (Below.refl _ _)
      refine flow.StepsF.cons (o := { dst := some 47, op := Go.Op.move (Go.Operand.tmp 7), type := 23, pos := "more.go:19", after := #[{ on := 19, ground := Go.Ground.guard }], guard := some (19, false) }) rfl (fun vs wq KQ hS hd hKQ => ?_) ?_
      · have HK := hKQ.out
        have d19 := hd 19 (by simp)
        simp only [onwP1] at d19
        clear hKQ hd
        simp only [onwP1, Act.put, List.setIfInBounds_toArray, List.set_cons_zero, List.set_cons_succ, d19] at HK ⊢
        have HQ := Lib.hid HK
        clear HK
        go_simp
        exact HQ.out _ _ hS rfl (Below.refl _ _)
      refine flow.StepsF.cons (o := { dst := some 48, op := Go.Op.move (Go.Operand.tmp 0), type := 27, pos := "more.go:19", after := #[{ on := 19, ground := Go.Ground.guard }], guard := some (19, false) }) rfl (fun vs wq KQ hS hd hKQ => ?_) ?_
      · have HK := hKQ.out
        have d19 := hd 19 (by simp)
        simp only [onwP1] at d19
        clear hKQ hd
        simp only [onwP1, Act.put, List.setIfInBounds_toArray, List.set_cons_zero, List.set_cons_succ, d19] at HK ⊢
        have HQ := Lib.hid HK
        clear HK
        go_simp
        exact HQ.out _ _ hS rfl (Below.refl _ _)
      refine flow.StepsF.cons (o := { dst := some 49, op := Go.Op.buildSlice 22 1 #[(0, Go.Operand.tmp 48)], type := 22, pos := "more.go:19", after := #[{ on := 21, ground := Go.Ground.data }, { on := 19, ground := Go.Ground.guard }], guard := some (19, false) }) rfl (fun vs wq KQ hS hd hKQ => ?_) ?_
      · have HK := hKQ.out
        have d21 := hd 21 (by simp)
        simp only [onwP1] at d21
        have d19 := hd 19 (by simp)
        simp only [onwP1] at d19
        clear hKQ hd
        simp only [onwP1, Act.put, List.setIfInBounds_toArray, List.set_cons_zero, List.set_cons_succ, d21, d19] at HK ⊢
        have HQ := Lib.hid HK
        clear HK
        go_simp
        exact HQ.out _ _ hS rfl (Below.refl _ _)
      refine flow.StepsF.cons (o := { dst := some 50, op := Go.Op.call { callee := Go.Callee.value (Go.Operand.func 12), args := #[Go.Operand.tmp 49], argTypes := #[22] }, type := 23, pos := "more.go:19", after := #[{ on := 22, ground := Go.Ground.data }, { on := 19, ground := Go.Ground.chain }, { on := 19, ground := Go.Ground.guard }], guard := some (19, false) }) rfl (fun vs wq KQ hS hd hKQ => ?_) ?_
      · have HK := hKQ.out
        have d22 := hd 22 (by simp)
        simp only [onwP1] at d22
        have d19 := hd 19 (by simp)
        simp only [onwP1] at d19
        clear hKQ hd
        simp only [onwP1, Act.put, List.setIfInBounds_toArray, List.set_cons_zero, List.set_cons_succ, d22, d19] at HK ⊢
        have HQ := Lib.hid HK
        clear HK
        go_simp
        exact HQ.out _ _ hS rfl (Below.refl _ _)
      refine flow.StepsF.cons (o := { dst := some 51, op := Go.Op.binOp Go.BinOp.eql 23 (Go.Operand.tmp 47) (Go.Operand.tmp 50) 23, type := 4, pos := "more.go:19", after := #[{ on := 20, ground := Go.Ground.data }, { on := 23, ground := Go.Ground.data }, { on := 19, ground := Go.Ground.guard }], guard := some (19, false) }) rfl (fun vs wq KQ hS hd hKQ => ?_) ?_
      · have HK := hKQ.out
        have d20 := hd 20 (by simp)
        simp only [onwP1] at d20
        have d23 := hd 23 (by simp)
        simp only [onwP1] at d23
        have d19 := hd 19 (by simp)
        simp only [onwP1] at d19
        clear hKQ hd
        simp only [onwP1, Act.put, List.setIfInBounds_toArray, List.set_cons_zero, List.set_cons_succ, d20, d23, d19] at HK ⊢
        have HQ := Lib.hid HK
        clear HK
        go_simp
        exact HQ.out _ _ hS rfl (Below.refl _ _)
      refine flow.StepsF.cons (o := { dst := some 52, op := Go.Op.pick (Go.Operand.tmp 46) (Go.Operand.const (Go.Value.bool true)) (Go.Operand.tmp 51), type := 4, pos := "more.go:19", after := #[{ on := 19, ground := Go.Ground.data }, { on := 24, ground := Go.Ground.data }, { on := 16, ground := Go.Ground.guard }], guard := some (16, true) }) rfl (fun vs wq KQ hS hd hKQ => ?_) ?_
      · have HK := hKQ.out
        have d19 := hd 19 (by simp)
        simp only [onwP1] at d19
        have d24 := hd 24 (by simp)
        simp only [onwP1] at d24
        have d16 := hd 16 (by simp)
        simp only [onwP1] at d16
        clear hKQ hd
        simp only [onwP1, Act.put, List.setIfInBounds_toArray, List.set_cons_zero, List.set_cons_succ, d19, d24, d16] at HK ⊢
        have HQ := Lib.hid HK
        clear HK
        go_simp
        exact HQ.out _ _ hS rfl (Below.refl _ _)
      refine flow.StepsF.cons (o := { dst := some 53, op := Go.Op.pick (Go.Operand.tmp 43) (Go.Operand.tmp 52) (Go.Operand.const (Go.Value.bool false)), type := 4, pos := "more.go:19", after := #[{ on := 16, ground := Go.Ground.data }, { on := 25, ground := Go.Ground.data }], guard := none }) rfl (fun vs wq KQ hS hd hKQ => ?_) ?_
      · have HK := hKQ.out
        have d16 := hd 16 (by simp)
        simp only [onwP1] at d16
        have d25 := hd 25 (by simp)
        simp only [onwP1] at d25
        clear hKQ hd
        simp only [onwP1, Act.put, List.setIfInBounds_toArray, List.set_cons_zero, List.set_cons_succ, d16, d25] at HK ⊢
        have HQ := Lib.hid HK
        clear HK
        go_simp
        exact HQ.out _ _ hS rfl (Below.refl _ _)
      refine flow.StepsF.cons (o := { dst := some 54, op := Go.Op.move (Go.Operand.tmp 53), type := 4, pos := "more.go:19", after := #[{ on := 26, ground := Go.Ground.data }, { on := 23, ground := Go.Ground.chain }], guard := none }) rfl (fun vs wq KQ hS hd hKQ => ?_) ?_
      · have HK := hKQ.out
        have d26 := hd 26 (by simp)
        simp only [onwP1] at d26
        clear hKQ hd
        simp only [onwP1, Act.put, List.setIfInBounds_toArray, List.set_cons_zero, List.set_cons_succ, d26] at HK ⊢
        have HQ := Lib.hid HK
        clear HK
        go_simp
        exact HQ.out _ _ hS rfl (Below.refl _ _)
      refine flow.StepsF.cons (o := { dst := some 55, op := Go.Op.move (Go.Operand.tmp 1), type := 3, pos := "more.go:19", after := #[{ on := 27, ground := Go.Ground.guard }], guard := some (27, true) }) rfl (fun vs wq KQ hS hd hKQ => ?_) ?_
      · have HK := hKQ.out
        have d27 := hd 27 (by simp)
        simp only [onwP1] at d27
        clear hKQ hd
        simp only [onwP1, Act.put, List.setIfInBounds_toArray, List.set_cons_zero, List.set_cons_succ, d27] at HK ⊢
        have HQ := Lib.hid HK
        clear HK
        go_simp
        exact HQ.out _ _ hS rfl (Below.refl _ _)
      refine flow.StepsF.cons (o := { dst := some 56, op := Go.Op.binOp Go.BinOp.eql 3 (Go.Operand.tmp 55) (Go.Operand.const (Go.Value.int Go.IntKind.i64 0)) 3, type := 4, pos := "more.go:19", after := #[{ on := 28, ground := Go.Ground.data }, { on := 27, ground := Go.Ground.guard }], guard := some (27, true) }) rfl (fun vs wq KQ hS hd hKQ => ?_) ?_
      · have HK := hKQ.out
        have d28 := hd 28 (by simp)
        simp only [onwP1] at d28
        have d27 := hd 27 (by simp)
        simp only [onwP1] at d27
        clear hKQ hd
        simp only [onwP1, Act.put, List.setIfInBounds_toArray, List.set_cons_zero, List.set_cons_succ, d28, d27] at HK ⊢
        have HQ := Lib.hid HK
        clear HK
        go_simp
        exact HQ.out _ _ hS rfl (Below.refl _ _)
      refine flow.StepsF.cons (o := { dst := some 57, op := Go.Op.move (Go.Operand.tmp 56), type := 4, pos := "more.go:19", after := #[{ on := 29, ground := Go.Ground.data }, { on := 27, ground := Go.Ground.chain }, { on := 27, ground := Go.Ground.guard }], guard := some (27, true) }) rfl (fun vs wq KQ hS hd hKQ => ?_) ?_
      · have HK := hKQ.out
        have d29 := hd 29 (by simp)
        simp only [onwP1] at d29
        have d27 := hd 27 (by simp)
        simp only [onwP1] at d27
        clear hKQ hd
        simp only [onwP1, Act.put, List.setIfInBounds_toArray, List.set_cons_zero, List.set_cons_succ, d29, d27] at HK ⊢
        have HQ := Lib.hid HK
        clear HK
        go_simp
        exact HQ.out _ _ hS rfl (Below.refl _ _)
      refine flow.StepsF.cons (o := { dst := some 58, op := Go.Op.move (Go.Operand.tmp 5), type := 27, pos := "more.go:19", after := #[{ on := 30, ground := Go.Ground.guard }], guard := some (30, false) }) rfl (fun vs wq KQ hS hd hKQ => ?_) ?_
      · have HK := hKQ.out
        have d30 := hd 30 (by simp)
        simp only [onwP1] at d30
        clear hKQ hd
        simp only [onwP1, Act.put, List.setIfInBounds_toArray, List.set_cons_zero, List.set_cons_succ, d30] at HK ⊢
        have HQ := Lib.hid HK
        clear HK
        go_simp
        exact HQ.out _ _ hS rfl (Below.refl _ _)
      refine flow.StepsF.cons (o := { dst := some 59, op := Go.Op.buildSlice 22 1 #[(0, Go.Operand.tmp 58)], type := 22, pos := "more.go:19", after := #[{ on := 31, ground := Go.Ground.data }, { on := 30, ground := Go.Ground.guard }], guard := some (30, false) }) rfl (fun vs wq KQ hS hd hKQ => ?_) ?_
      · have HK := hKQ.out
        have d31 := hd 31 (by simp)
        simp only [onwP1] at d31
        have d30 := hd 30 (by simp)
        simp only [onwP1] at d30
        clear hKQ hd
        simp only [onwP1, Act.put, List.setIfInBounds_toArray, List.set_cons_zero, List.set_cons_succ, d31, d30] at HK ⊢
        have HQ := Lib.hid HK
        clear HK
        go_simp
        exact HQ.out _ _ (hS.alloc hS.size _) (oneS_new (SZ wq hS)) ((Below.refl _ _).alloc (Nat.le_refl _) _)
      refine flow.StepsF.cons (o := { dst := some 60, op := Go.Op.call { callee := Go.Callee.value (Go.Operand.func 12), args := #[Go.Operand.tmp 59], argTypes := #[22] }, type := 23, pos := "more.go:19", after := #[{ on := 32, ground := Go.Ground.data }, { on := 30, ground := Go.Ground.chain }, { on := 30, ground := Go.Ground.guard }], guard := some (30, false) }) rfl (fun vs wq KQ hS hd hKQ => ?_) ?_
      · have HK := hKQ.out
        have d32 := hd 32 (by simp)
        simp only [onwP1] at d32
        have d30 := hd 30 (by simp)
        simp only [onwP1] at d30
        clear hKQ hd
        simp only [onwP1, Act.put, List.setIfInBounds_toArray, List.set_cons_zero, List.set_cons_succ, d30] at HK ⊢
        have HQ := Lib.hid HK
        clear HK
        obtain ⟨g1, e1, h1⟩ := d32
        simp only [e1] at HQ ⊢
        go_simp
        refine (DZ.out wq g1 h1).mono ?_
        rintro e w2 ⟨rfl, hb⟩
        go_wp2_with fail
        exact HQ.out _ _ (hS.trans (hb.mono hS.size)) rfl hb
      refine flow.StepsF.cons (o := { dst := some 61, op := Go.Op.move (Go.Operand.tmp 5), type := 27, pos := "more.go:19", after := #[{ on := 30, ground := Go.Ground.guard }], guard := some (30, false) }) rfl (fun vs wq KQ hS hd hKQ => ?_) ?_
      · have HK := hKQ.out
        have d30 := hd 30 (by simp)
        simp only [onwP1] at d30
        clear hKQ hd
        simp only [onwP1, Act.put, List.setIfInBounds_toArray, List.set_cons_zero, List.set_cons_succ, d30] at HK ⊢
        have HQ := Lib.hid HK
        clear HK
        go_simp
        exact HQ.out _ _ hS rfl (Below.refl _ _)
      refine flow.StepsF.cons (o := { dst := some 62, op := Go.Op.slice 27 (Go.Operand.tmp 61) (some (Go.Operand.const (Go.Value.int Go.IntKind.i64 1))) none none, type := 27, pos := "more.go:19", after := #[{ on := 34, ground := Go.Ground.data }, { on := 30, ground := Go.Ground.guard }], guard := some (30, false) }) rfl (fun vs wq KQ hS hd hKQ => ?_) ?_
      · have HK := hKQ.out
        have d34 := hd 34 (by simp)
        simp only [onwP1] at d34
        have d30 := hd 30 (by simp)
        simp only [onwP1] at d30
        clear hKQ hd
        simp only [onwP1, Act.put, List.setIfInBounds_toArray, List.set_cons_zero, List.set_cons_succ, d34, d30] at HK ⊢
        have HQ := Lib.hid HK
        clear HK
        go_simp
        exact HQ.out _ _ hS rfl (Below.refl _ _)
      refine flow.StepsF.cons (o := { dst := some 63, op := Go.Op.buildSlice 22 1 #[(0, Go.Operand.tmp 62)], type := 22, pos := "more.go:19", after := #[{ on := 35, ground := Go.Ground.data }, { on := 30, ground := Go.Ground.guard }], guard := some (30, false) }) rfl (fun vs wq KQ hS hd hKQ => ?_) ?_
      · have HK := hKQ.out
        have d35 := hd 35 (by simp)
        simp only [onwP1] at d35
        have d30 := hd 30 (by simp)
        simp only [onwP1] at d30
        clear hKQ hd
        simp only [onwP1, Act.put, List.setIfInBounds_toArray, List.set_cons_zero, List.set_cons_succ, d35, d30] at HK ⊢
        have HQ := Lib.hid HK
        clear HK
        go_simp
        exact HQ.out _ _ (hS.alloc hS.size _) (oneS_new (SZ1 wq hS)) ((Below.refl _ _).alloc (Nat.le_refl _) _)
      refine flow.StepsF.cons (o := { dst := some 64, op := Go.Op.call { callee := Go.Callee.value (Go.Operand.func 12), args := #[Go.Operand.tmp 63], argTypes := #[22] }, type := 23, pos := "more.go:19", after := #[{ on := 36, ground := Go.Ground.data }, { on := 33, ground := Go.Ground.chain }, { on := 30, ground := Go.Ground.guard }], guard := some (30, false) }) rfl (fun vs wq KQ hS hd hKQ => ?_) ?_
      · have HK := hKQ.out
        have d36 := hd 36 (by simp)
        simp only [onwP1] at d36
        have d30 := hd 30 (by simp)
        simp only [onwP1] at d30
        clear hKQ hd
        simp only [onwP1, Act.put, List.setIfInBounds_toArray, List.set_cons_zero, List.set_cons_succ, d30] at HK ⊢
        have HQ := Lib.hid HK
        clear HK
        obtain ⟨g1, e1, h1⟩ := d36
        simp only [e1] at HQ ⊢
        go_simp
        refine (DZ1.out wq g1 h1).mono ?_
        rintro e w2 ⟨rfl, hb⟩
        go_wp2_with fail
        exact HQ.out _ _ (hS.trans (hb.mono hS.size)) rfl hb
      refine flow.StepsF.cons (o := { dst := some 65, op := Go.Op.binOp Go.BinOp.neq 23 (Go.Operand.tmp 60) (Go.Operand.tmp 64) 23, type := 4, pos := "more.go:19", after := #[{ on := 33, ground := Go.Ground.data }, { on := 37, ground := Go.Ground.data }, { on := 30, ground := Go.Ground.guard }], guard := some (30, false) }) rfl (fun vs wq KQ hS hd hKQ => ?_) ?_
      · have HK := hKQ.out
        have d33 := hd 33 (by simp)
        simp only [onwP1] at d33
        have d37 := hd 37 (by simp)
        simp only [onwP1] at d37
        have d30 := hd 30 (by simp)
        simp only [onwP1] at d30
        clear hKQ hd
        simp only [onwP1, Act.put, List.setIfInBounds_toArray, List.set_cons_zero, List.set_cons_succ, d33, d37, d30] at HK ⊢
        have HQ := Lib.hid HK
        clear HK
        go_simp
        exact HQ.out _ _ hS rfl (Below.refl _ _)
      refine flow.StepsF.cons (o := { dst := some 66, op := Go.Op.pick (Go.Operand.tmp 57) (Go.Operand.const (Go.Value.bool true)) (Go.Operand.tmp 65), type := 4, pos := "more.go:19", after := #[{ on := 30, ground := Go.Ground.data }, { on := 38, ground := Go.Ground.data }, { on := 27, ground := Go.Ground.guard }], guard := some (27, true) }) rfl (fun vs wq KQ hS hd hKQ => ?_) ?_
      · have HK := hKQ.out
        have d30 := hd 30 (by simp)
        simp only [onwP1] at d30
        have d38 := hd 38 (by simp)
        simp only [onwP1] at d38
        have d27 := hd 27 (by simp)
        simp only [onwP1] at d27
        clear hKQ hd
        simp only [onwP1, Act.put, List.setIfInBounds_toArray, List.set_cons_zero, List.set_cons_succ, d30, d38, d27] at HK ⊢
        have HQ := Lib.hid HK
        clear HK
        go_simp
        exact HQ.out _ _ hS rfl (Below.refl _ _)
      refine flow.StepsF.cons (o := { dst := some 67, op := Go.Op.pick (Go.Operand.tmp 54) (Go.Operand.tmp 66) (Go.Operand.const (Go.Value.bool false)), type := 4, pos := "more.go:19", after := #[{ on := 27, ground := Go.Ground.data }, { on := 39, ground := Go.Ground.data }], guard := none }) rfl (fun vs wq KQ hS hd hKQ => ?_) ?_
      · have HK := hKQ.out
        have d27 := hd 27 (by simp)
        simp only [onwP1] at d27
        have d39 := hd 39 (by simp)
        simp only [onwP1] at d39
        clear hKQ hd
        simp only [onwP1, Act.put, List.setIfInBounds_toArray, List.set_cons_zero, List.set_cons_succ, d27, d39] at HK ⊢
        have HQ := Lib.hid HK
        clear HK
        go_simp
        exact HQ.out _ _ hS rfl (Below.refl _ _)
      refine flow.StepsF.cons (o := { dst := some 68, op := Go.Op.move (Go.Operand.tmp 67), type := 4, pos := "more.go:19", after := #[{ on := 40, ground := Go.Ground.data }, { on := 37, ground := Go.Ground.chain }], guard := none }) rfl (fun vs wq KQ hS hd hKQ => ?_) ?_
      · have HK := hKQ.out
        have d40 := hd 40 (by simp)
        simp only [onwP1] at d40
        clear hKQ hd
        simp only [onwP1, Act.put, List.setIfInBounds_toArray, List.set_cons_zero, List.set_cons_succ, d40] at HK ⊢
        have HQ := Lib.hid HK
        clear HK
        go_simp
        exact HQ.out _ _ hS rfl (Below.refl _ _)
      refine flow.StepsF.cons (o := { dst := some 69, op := Go.Op.move (Go.Operand.tmp 6), type := 23, pos := "more.go:19", after := #[{ on := 41, ground := Go.Ground.guard }], guard := some (41, true) }) rfl (fun vs wq KQ hS hd hKQ => ?_) ?_
      · have HK := hKQ.out
        have d41 := hd 41 (by simp)
        simp only [onwP1] at d41
        clear hKQ hd
        simp only [onwP1, Act.put, List.setIfInBounds_toArray, List.set_cons_zero, List.set_cons_succ, d41] at HK ⊢
        have HQ := Lib.hid HK
        clear HK
        go_simp
        exact HQ.out _ _ hS rfl (Below.refl _ _)
      refine flow.StepsF.cons (o := { dst := some 70, op := Go.Op.move (Go.Operand.tmp 5), type := 27, pos := "more.go:19", after := #[{ on := 41, ground := Go.Ground.guard }], guard := some (41, true) }) rfl (fun vs wq KQ hS hd hKQ => ?_) ?_
      · have HK := hKQ.out
        have d41 := hd 41 (by simp)
        simp only [onwP1] at d41
        clear hKQ hd
        simp only [onwP1, Act.put, List.setIfInBounds_toArray, List.set_cons_zero, List.set_cons_succ, d41] at HK ⊢
        have HQ := Lib.hid HK
        clear HK
        go_simp
        exact HQ.out _ _ hS rfl (Below.refl _ _)
      refine flow.StepsF.cons (o := { dst := some 71, op := Go.Op.move (Go.Operand.tmp 0), type := 27, pos := "more.go:19", after := #[{ on := 41, ground := Go.Ground.guard }], guard := some (41, true) }) rfl (fun vs wq KQ hS hd hKQ => ?_) ?_
      · have HK := hKQ.out
        have d41 := hd 41 (by simp)
        simp only [onwP1] at d41
        clear hKQ hd
        simp only [onwP1, Act.put, List.setIfInBounds_toArray, List.set_cons_zero, List.set_cons_succ, d41] at HK ⊢
        have HQ := Lib.hid HK
        clear HK
        go_simp
        exact HQ.out _ _ hS rfl (Below.refl _ _)
      refine flow.StepsF.cons (o := { dst := some 72, op := Go.Op.buildSlice 22 2 #[(0, Go.Operand.tmp 70), (1, Go.Operand.tmp 71)], type := 22, pos := "more.go:19", after := #[{ on := 43, ground := Go.Ground.data }, { on := 44, ground := Go.Ground.data }, { on := 41, ground := Go.Ground.guard }], guard := some (41, true) }) rfl (fun vs wq KQ hS hd hKQ => ?_) ?_
      · have HK := hKQ.out
        have d43 := hd 43 (by simp)
        simp only [onwP1] at d43
        have d44 := hd 44 (by simp)
        simp only [onwP1] at d44
        have d41 := hd 41 (by simp)
        simp only [onwP1] at d41
        clear hKQ hd
        simp only [onwP1, Act.put, List.setIfInBounds_toArray, List.set_cons_zero, List.set_cons_succ, d43, d44, d41] at HK ⊢
        have HQ := Lib.hid HK
        clear HK
        go_simp
        exact HQ.out _ _ (hS.alloc hS.size _) (twoS_new (SZ wq hS) (SL wq hS)) ((Below.refl _ _).alloc (Nat.le_refl _) _)
      refine flow.StepsF.cons (o := { dst := some 73, op := Go.Op.call { callee := Go.Callee.value (Go.Operand.func 13), args := #[Go.Operand.tmp 72], argTypes := #[22] }, type := 23, pos := "more.go:19", after := #[{ on := 45, ground := Go.Ground.data }, { on := 41, ground := Go.Ground.chain }, { on := 41, ground := Go.Ground.guard }], guard := some (41, true) }) rfl (fun vs wq KQ hS hd hKQ => ?_) ?_
      · have HK := hKQ.out
        have d45 := hd 45 (by simp)
        simp only [onwP1] at d45
        have d41 := hd 41 (by simp)
        simp only [onwP1] at d41
        clear hKQ hd
        simp only [onwP1, Act.put, List.setIfInBounds_toArray, List.set_cons_zero, List.set_cons_succ, d41] at HK ⊢
        have HQ := Lib.hid HK
        clear HK
        obtain ⟨g1, e1, h1⟩ := d45
        simp only [e1] at HQ ⊢
        go_simp
        refine (HDR.out wq g1 h1).mono ?_
        rintro e w2 ⟨rfl, rfl⟩
        go_wp2_with fail
        exact HQ.out _ _ hS rfl (Below.refl _ _)
      refine flow.StepsF.cons (o := { dst := some 74, op := Go.Op.binOp Go.BinOp.eql 23 (Go.Operand.tmp 69) (Go.Operand.tmp 73) 23, type := 4, pos := "more.go:19", after := #[{ on := 42, ground := Go.Ground.data }, { on := 46, ground := Go.Ground.data }, { on := 41, ground := Go.Ground.guard }], guard := some (41, true) }) rfl (fun vs wq KQ hS hd hKQ => ?_) ?_
      · have HK := hKQ.out
        have d42 := hd 42 (by simp)
        simp only [onwP1] at d42
        have d46 := hd 46 (by simp)
        simp only [onwP1] at d46
        have d41 := hd 41 (by simp)
        simp only [onwP1] at d41
        clear hKQ hd
        simp only [onwP1, Act.put, List.setIfInBounds_toArray, List.set_cons_zero, List.set_cons_succ, d42, d46, d41] at HK ⊢
        have HQ := Lib.hid HK
        clear HK
        go_simp
        exact HQ.out _ _ hS rfl (Below.refl _ _)
      refine flow.StepsF.cons (o := { dst := some 75, op := Go.Op.pick (Go.Operand.tmp 68) (Go.Operand.tmp 74) (Go.Operand.const (Go.Value.bool false)), type := 4, pos := "more.go:19", after := #[{ on := 41, ground := Go.Ground.data }, { on := 47, ground := Go.Ground.data }], guard := none }) rfl (fun vs wq KQ hS hd hKQ => ?_) ?_
      · have HK := hKQ.out
        have d41 := hd 41 (by simp)
        simp only [onwP1] at d41
        have d47 := hd 47 (by simp)
        simp only [onwP1] at d47
        clear hKQ hd
        simp only [onwP1, Act.put, List.setIfInBounds_toArray, List.set_cons_zero, List.set_cons_succ, d41, d47] at HK ⊢
        have HQ := Lib.hid HK
        clear HK
        go_simp
        exact HQ.out _ _ hS rfl (Below.refl _ _)
      refine flow.StepsF.cons (o := { dst := some 4, op := Go.Op.assign (Go.Operand.tmp 75), type := 4, pos := "more.go:19", after := #[{ on := 48, ground := Go.Ground.data }, { on := 46, ground := Go.Ground.chain }, { on := 0, ground := Go.Ground.phase }, { on := 1, ground := Go.Ground.phase }, { on := 2, ground := Go.Ground.phase }, { on := 3, ground := Go.Ground.phase }, { on := 4, ground := Go.Ground.phase }, { on := 5, ground := Go.Ground.phase }, { on := 6, ground := Go.Ground.phase }, { on := 7, ground := Go.Ground.phase }, { on := 8, ground := Go.Ground.phase }, { on := 9, ground := Go.Ground.phase }, { on := 10, ground := Go.Ground.phase }, { on := 11, ground := Go.Ground.phase }, { on := 12, ground := Go.Ground.phase }, { on := 13, ground := Go.Ground.phase }, { on := 14, ground := Go.Ground.phase }, { on := 15, ground := Go.Ground.phase }, { on := 16, ground := Go.Ground.phase }, { on := 17, ground := Go.Ground.phase }, { on := 18, ground := Go.Ground.phase }, { on := 19, ground := Go.Ground.phase }, { on := 20, ground := Go.Ground.phase }, { on := 21, ground := Go.Ground.phase }, { on := 22, ground := Go.Ground.phase }, { on := 23, ground := Go.Ground.phase }, { on := 24, ground := Go.Ground.phase }, { on := 25, ground := Go.Ground.phase }, { on := 26, ground := Go.Ground.phase }, { on := 27, ground := Go.Ground.phase }, { on := 28, ground := Go.Ground.phase }, { on := 29, ground := Go.Ground.phase }, { on := 30, ground := Go.Ground.phase }, { on := 31, ground := Go.Ground.phase }, { on := 32, ground := Go.Ground.phase }, { on := 33, ground := Go.Ground.phase }, { on := 34, ground := Go.Ground.phase }, { on := 35, ground := Go.Ground.phase }, { on := 36, ground := Go.Ground.phase }, { on := 37, ground := Go.Ground.phase }, { on := 38, ground := Go.Ground.phase }, { on := 39, ground := Go.Ground.phase }, { on := 40, ground := Go.Ground.phase }, { on := 41, ground := Go.Ground.phase }, { on := 42, ground := Go.Ground.phase }, { on := 43, ground := Go.Ground.phase }, { on := 44, ground := Go.Ground.phase }, { on := 45, ground := Go.Ground.phase }, { on := 46, ground := Go.Ground.phase }, { on := 47, ground := Go.Ground.phase }, { on := 48, ground := Go.Ground.phase }], guard := none }) rfl (fun vs wq KQ hS hd hKQ => ?_) ?_
      · have HK := hKQ.out
        have d48 := hd 48 (by simp)
        simp only [onwP1] at d48
        clear hKQ hd
        simp only [onwP1, Act.put, List.setIfInBounds_toArray, List.set_cons_zero, List.set_cons_succ, d48] at HK ⊢
        have HQ := Lib.hid HK
        clear HK
        go_simp
        exact HQ.out _ _ hS rfl (Below.refl _ _)
      exact flow.StepsF.nil
    case hend =>
      intro vs wq hS hall
      have e49 := hall 49 (by simp)
      simp only [onwP1] at e49
      simp only [e49]
      go_wp2_with fail
      go_ret
      exact ⟨rfl, hB5.trans (hS.mono hB5.size)⟩
  · obtain rfl : k = 0 := by omega
    have h0c : rb = rc := (HQ0.out rfl).symm
    subst h0c
    obtain rfl : zs = [] := List.eq_nil_of_length_eq_zero HLZ.out
    clear HM1 HM2 HSZ HSL HQ0 HQ1 HZ
    go_wp2_with fail
    refine wp_region_held_drew (S := fun w' => Below w4.heap.size w4 w') (by kernel_rfl) ?s_1 (fun hHeld => ?_)
    case s_1 => exact hS0
    apply flow.wpAnyH_flowF [(0, some 27), (1, some 28), (2, some 29), (3, some 30), (4, some 31), (5, some 32), (6, some 33), (7, some 34), (8, some 35), (9, some 36), (10, some 37), (11, some 38), (12, some 39), (13, some 40), (14, some 41), (15, some 42), (16, some 43), (17, some 44), (18, some 45), (19, some 46), (20, some 47), (21, some 48), (22, some 49), (23, some 50), (24, some 51), (25, some 52), (26, some 53), (27, some 54), (28, some 55), (29, some 56), (30, some 57), (31, some 58), (32, some 59), (33, some 60), (34, some 61), (35, some 62), (36, some 63), (37, some 64), (38, some 65), (39, some 66), (40, some 67), (41, some 68), (42, some 69), (43, some 70), (44, some 71), (45, some 72), (46, some 73), (47, some 74), (48, some 75), (49, some 4)] (fun i => match i with | 0 => [] | 1 => [] | 2 => [1] | 3 => [2] | 4 => [] | 5 => [3, 4] | 6 => [0, 5] | 7 => [6] | 8 => [7] | 9 => [7] | 10 => [9, 7] | 11 => [10, 7] | 12 => [7] | 13 => [11, 12, 7] | 14 => [8, 13, 7] | 15 => [7, 14] | 16 => [15] | 17 => [16] | 18 => [17, 16] | 19 => [18, 16] | 20 => [19] | 21 => [19] | 22 => [21, 19] | 23 => [22, 19] | 24 => [20, 23, 19] | 25 => [19, 24, 16] | 26 => [16, 25] | 27 => [26] | 28 => [27] | 29 => [28, 27] | 30 => [29, 27] | 31 => [30] | 32 => [31, 30] | 33 => [32, 30] | 34 => [30] | 35 => [34, 30] | 36 => [35, 30] | 37 => [36, 30] | 38 => [33, 37, 30] | 39 => [30, 38, 27] | 40 => [27, 39] | 41 => [40] | 42 => [41] | 43 => [41] | 44 => [41] | 45 => [43, 44, 41] | 46 => [45, 41] | 47 => [42, 46, 41] | 48 => [41, 47] | 49 => [48] | _ => []) (onwP0 l (.slice (some ⟨g, 0, none⟩) 0 0) (.slice A l.length c) ra rb r0)
    case hok => kernel_rfl
    case hf => (intro vs; simp only [flow.putEx, Act.put, List.setIfInBounds_toArray, List.set_cons_zero, List.set_cons_succ]; exact rfl)
    case hst => exact fun i v w w' h hb => onwP0_on h hb
    case hS => exact hS0
    case hsteps =>
      simp only [List.map_cons, List.map_nil]
      refine flow.StepsF.cons (o := { dst := some 27, op := Go.Op.move (Go.Operand.tmp 6), type := 23, pos := "more.go:19", after := #[], guard := none }) rfl (fun vs wq KQ hS hd hKQ => ?_) ?_
      · have HK := hKQ.out
        clear hKQ hd
        simp only [onwP0, Act.put, List.setIfInBounds_toArray, List.set_cons_zero, List.set_cons_succ] at HK ⊢
        have HQ := Lib.hid HK
        clear HK
        go_simp
        exact HQ.out _ _ hS rfl (Below.refl _ _)
      refine flow.StepsF.cons (o := { dst := some 28, op := Go.Op.move (Go.Operand.tmp 5), type := 27, pos := "more.go:19", after := #[], guard := none }) rfl (fun vs wq KQ hS hd hKQ => ?_) ?_
      · have HK := hKQ.out
        clear hKQ hd
        simp only [onwP0, Act.put, List.setIfInBounds_toArray, List.set_cons_zero, List.set_cons_succ] at HK ⊢
        have HQ := Lib.hid HK
        clear HK
        go_simp
        exact HQ.out _ _ hS rfl (Below.refl _ _)
      refine flow.StepsF.cons (o := { dst := some 29, op := Go.Op.buildSlice 22 1 #[(0, Go.Operand.tmp 28)], type := 22, pos := "more.go:19", after := #[{ on := 1, ground := Go.Ground.data }], guard := none }) rfl (fun vs wq KQ hS hd hKQ => ?_) ?_
      · have HK := hKQ.out
        have d1 := hd 1 (by simp)
        simp only [onwP0] at d1
        clear hKQ hd
        simp only [onwP0, Act.put, List.setIfInBounds_toArray, List.set_cons_zero, List.set_cons_succ, d1] at HK ⊢
        have HQ := Lib.hid HK
        clear HK
        go_simp
        exact HQ.out _ _ (hS.alloc hS.size _) (oneS_new (SZ wq hS)) ((Below.refl _ _).alloc (Nat.le_refl _) _)
      refine flow.StepsF.cons (o := { dst := some 30, op := Go.Op.call { callee := Go.Callee.value (Go.Operand.func 12), args := #[Go.Operand.tmp 29], argTypes := #[22] }, type := 23, pos := "more.go:19", after := #[{ on := 2, ground := Go.Ground.data }], guard := none }) rfl (fun vs wq KQ hS hd hKQ => ?_) ?_
      · have HK := hKQ.out
        have d2 := hd 2 (by simp)
        simp only [onwP0] at d2
        clear hKQ hd
        simp only [onwP0, Act.put, List.setIfInBounds_toArray, List.set_cons_zero, List.set_cons_succ] at HK ⊢
        have HQ := Lib.hid HK
        clear HK
        obtain ⟨g1, e1, h1⟩ := d2
        simp only [e1] at HQ ⊢
        go_simp
        refine (DZ.out wq g1 h1).mono ?_
        rintro e w2 ⟨rfl, hb⟩
        go_wp2_with fail
        exact HQ.out _ _ (hS.trans (hb.mono hS.size)) rfl hb
      refine flow.StepsF.cons (o := { dst := some 31, op := Go.Op.move (Go.Operand.tmp 0), type := 27, pos := "more.go:19", after := #[], guard := none }) rfl (fun vs wq KQ hS hd hKQ => ?_) ?_
      · have HK := hKQ.out
        clear hKQ hd
        simp only [onwP0, Act.put, List.setIfInBounds_toArray, List.set_cons_zero, List.set_cons_succ] at HK ⊢
        have HQ := Lib.hid HK
        clear HK
        go_simp
        exact HQ.out _ _ hS rfl (Below.refl _ _)
      refine flow.StepsF.cons (o := { dst := some 32, op := Go.Op.call { callee := Go.Callee.value (Go.Operand.func 14), args := #[Go.Operand.tmp 30, Go.Operand.tmp 31], argTypes := #[23, 27] }, type := 23, pos := "more.go:19", after := #[{ on := 3, ground := Go.Ground.data }, { on := 4, ground := Go.Ground.data }, { on := 3, ground := Go.Ground.chain }], guard := none }) rfl (fun vs wq KQ hS hd hKQ => ?_) ?_
      · have HK := hKQ.out
        have d3 := hd 3 (by simp)
        simp only [onwP0] at d3
        have d4 := hd 4 (by simp)
        simp only [onwP0] at d4
        clear hKQ hd
        simp only [onwP0, Act.put, List.setIfInBounds_toArray, List.set_cons_zero, List.set_cons_succ, d3, d4] at HK ⊢
        have HQ := Lib.hid HK
        clear HK
        go_simp
        refine (M1.out wq hS).mono ?_
        rintro e w2 ⟨rfl, hb⟩
        go_wp2_with fail
        exact HQ.out _ _ (hS.trans (hb.mono hS.size)) rfl hb
      refine flow.StepsF.cons (o := { dst := some 33, op := Go.Op.binOp Go.BinOp.eql 23 (Go.Operand.tmp 27) (Go.Operand.tmp 32) 23, type := 4, pos := "more.go:19", after := #[{ on := 0, ground := Go.Ground.data }, { on := 5, ground := Go.Ground.data }], guard := none }) rfl (fun vs wq KQ hS hd hKQ => ?_) ?_
      · have HK := hKQ.out
        have d0 := hd 0 (by simp)
        simp only [onwP0] at d0
        have d5 := hd 5 (by simp)
        simp only [onwP0] at d5
        clear hKQ hd
        simp only [onwP0, Act.put, List.setIfInBounds_toArray, List.set_cons_zero, List.set_cons_succ, d0, d5] at HK ⊢
        have HQ := Lib.hid HK
        clear HK
        go_simp
        exact HQ.out _ _ hS rfl (Below.refl _ _)
      refine flow.StepsF.cons (o := { dst := some 34, op := Go.Op.move (Go.Operand.tmp 33), type := 4, pos := "more.go:19", after := #[{ on := 6, ground := Go.Ground.data }, { on := 5, ground := Go.Ground.chain }], guard := none }) rfl (fun vs wq KQ hS hd hKQ => ?_) ?_
      · have HK := hKQ.out
        have d6 := hd 6 (by simp)
        simp only [onwP0] at d6
        clear hKQ hd
        simp only [onwP0, Act.put, List.setIfInBounds_toArray, List.set_cons_zero, List.set_cons_succ, d6] at HK ⊢
        have HQ := Lib.hid HK
        clear HK
        go_simp
        exact HQ.out _ _ hS rfl (Below.refl _ _)
      refine flow.StepsF.cons (o := { dst := some 35, op := Go.Op.move (Go.Operand.tmp 7), type := 23, pos := "more.go:19", after := #[{ on := 7, ground := Go.Ground.guard }], guard := some (7, true) }) rfl (fun vs wq KQ hS hd hKQ => ?_) ?_
      · have HK := hKQ.out
        have d7 := hd 7 (by simp)
        simp only [onwP0] at d7
        clear hKQ hd
        simp only [onwP0, Act.put, List.setIfInBounds_toArray, List.set_cons_zero, List.set_cons_succ, d7] at HK ⊢
        have HQ := Lib.hid HK
        clear HK
        go_simp
        exact HQ.out _ _ hS rfl (Below.refl _ _)
      refine flow.StepsF.cons (o := { dst := some 36, op := Go.Op.move (Go.Operand.tmp 0), type := 27, pos := "more.go:19", after := #[{ on := 7, ground := Go.Ground.guard }], guard := some (7, true) }) rfl (fun vs wq KQ hS hd hKQ => ?_) ?_
      · have HK := hKQ.out
        have d7 := hd 7 (by simp)
        simp only [onwP0] at d7
        clear hKQ hd
        simp only [onwP0, Act.put, List.setIfInBounds_toArray, List.set_cons_zero, List.set_cons_succ, d7] at HK ⊢
        have HQ := Lib.hid HK
        clear HK
        go_simp
        exact HQ.out _ _ hS rfl (Below.refl _ _)
      refine flow.StepsF.cons (o := { dst := some 37, op := Go.Op.buildSlice 22 1 #[(0, Go.Operand.tmp 36)], type := 22, pos := "more.go:19", after := #[{ on := 9, ground := Go.Ground.data }, { on := 7, ground := Go.Ground.guard }], guard := some (7, true) }) rfl (fun vs wq KQ hS hd hKQ => ?_) ?_
      · have HK := hKQ.out
        have d9 := hd 9 (by simp)
        simp only [onwP0] at d9
        have d7 := hd 7 (by simp)
        simp only [onwP0] at d7
        clear hKQ hd
        simp only [onwP0, Act.put, List.setIfInBounds_toArray, List.set_cons_zero, List.set_cons_succ, d9, d7] at HK ⊢
        have HQ := Lib.hid HK
        clear HK
        go_simp
        exact HQ.out _ _ (hS.alloc hS.size _) (oneS_new (SL wq hS)) ((Below.refl _ _).alloc (Nat.le_refl _) _)
      refine flow.StepsF.cons (o := { dst := some 38, op := Go.Op.call { callee := Go.Callee.value (Go.Operand.func 12), args := #[Go.Operand.tmp 37], argTypes := #[22] }, type := 23, pos := "more.go:19", after := #[{ on := 10, ground := Go.Ground.data }, { on := 7, ground := Go.Ground.chain }, { on := 7, ground := Go.Ground.guard }], guard := some (7, true) }) rfl (fun vs wq KQ hS hd hKQ => ?_) ?_
      · have HK := hKQ.out
        have d10 := hd 10 (by simp)
        simp only [onwP0] at d10
        have d7 := hd 7 (by simp)
        simp only [onwP0] at d7
        clear hKQ hd
        simp only [onwP0, Act.put, List.setIfInBounds_toArray, List.set_cons_zero, List.set_cons_succ, d7] at HK ⊢
        have HQ := Lib.hid HK
        clear HK
        obtain ⟨g1, e1, h1⟩ := d10
        simp only [e1] at HQ ⊢
        go_simp
        refine (DL.out wq g1 h1).mono ?_
        rintro e w2 ⟨rfl, hb⟩
        go_wp2_with fail
        exact HQ.out _ _ (hS.trans (hb.mono hS.size)) rfl hb
      refine flow.StepsF.cons (o := { dst := some 39, op := Go.Op.move (Go.Operand.tmp 5), type := 27, pos := "more.go:19", after := #[{ on := 7, ground := Go.Ground.guard }], guard := some (7, true) }) rfl (fun vs wq KQ hS hd hKQ => ?_) ?_
      · have HK := hKQ.out
        have d7 := hd 7 (by simp)
        simp only [onwP0] at d7
        clear hKQ hd
        simp only [onwP0, Act.put, List.setIfInBounds_toArray, List.set_cons_zero, List.set_cons_succ, d7] at HK ⊢
        have HQ := Lib.hid HK
        clear HK
        go_simp
        exact HQ.out _ _ hS rfl (Below.refl _ _)
      refine flow.StepsF.cons (o := { dst := some 40, op := Go.Op.call { callee := Go.Callee.value (Go.Operand.func 14), args := #[Go.Operand.tmp 38, Go.Operand.tmp 39], argTypes := #[23, 27] }, type := 23, pos := "more.go:19", after := #[{ on := 11, ground := Go.Ground.data }, { on := 12, ground := Go.Ground.data }, { on := 11, ground := Go.Ground.chain }, { on := 7, ground := Go.Ground.guard }], guard := some (7, true) }) rfl (fun vs wq KQ hS hd hKQ => ?_) ?_
      · have HK := hKQ.out
        have d11 := hd 11 (by simp)
        simp only [onwP0] at d11
        have d12 := hd 12 (by simp)
        simp only [onwP0] at d12
        have d7 := hd 7 (by simp)
        simp only [onwP0] at d7
        clear hKQ hd
        simp only [onwP0, Act.put, List.setIfInBounds_toArray, List.set_cons_zero, List.set_cons_succ, d11, d12, d7] at HK ⊢
        have HQ := Lib.hid HK
        clear HK
        go_simp
        refine (M2.out wq hS).mono ?_
        rintro e w2 ⟨rfl, hb⟩
        go_wp2_with fail
        exact HQ.out _ _ (hS.trans (hb.mono hS.size)) rfl hb
      refine flow.StepsF.cons (o := { dst := some 41, op := Go.Op.binOp Go.BinOp.eql 23 (Go.Operand.tmp 35) (Go.Operand.tmp 40) 23, type := 4, pos := "more.go:19", after := #[{ on := 8, ground := Go.Ground.data }, { on := 13, ground := Go.Ground.data }, { on := 7, ground := Go.Ground.guard }], guard := some (7, true) }) rfl (fun vs wq KQ hS hd hKQ => ?_) ?_
      · have HK := hKQ.out
        have d8 := hd 8 (by simp)
        simp only [onwP0] at d8
        have d13 := hd 13 (by simp)
        simp only [onwP0] at d13
        have d7 := hd 7 (by simp)
        simp only [onwP0] at d7
        clear hKQ hd
        simp only [onwP0, Act.put, List.setIfInBounds_toArray, List.set_cons_zero, List.set_cons_succ, d8, d13, d7] at HK ⊢
        have HQ := Lib.hid HK
        clear HK
        go_simp
        exact HQ.out _ _ hS rfl (Below.refl _ _)
      refine flow.StepsF.cons (o := { dst := some 42, op := Go.Op.pick (Go.Operand.tmp 34) (Go.Operand.tmp 41) (Go.Operand.const (Go.Value.bool false)), type := 4, pos := "more.go:19", after := #[{ on := 7, ground := Go.Ground.data }, { on := 14, ground := Go.Ground.data }], guard := none }) rfl (fun vs wq KQ hS hd hKQ => ?_) ?_
      · have HK := hKQ.out
        have d7 := hd 7 (by simp)
        simp only [onwP0] at d7
        have d14 := hd 14 (by simp)
        simp only [onwP0] at d14
        clear hKQ hd
        simp only [onwP0, Act.put, List.setIfInBounds_toArray, List.set_cons_zero, List.set_cons_succ, d7, d14] at HK ⊢
        have HQ := Lib.hid HK
        clear HK
        go_simp
        exact HQ.out _ _ hS rfl (Below.refl _ _)
      refine flow.StepsF.cons (o := { dst := some 43, op := Go.Op.move (Go.Operand.tmp 42), type := 4, pos := "more.go:19", after := #[{ on := 15, ground := Go.Ground.data }, { on := 13, ground := Go.Ground.chain }], guard := none }) rfl (fun vs wq KQ hS hd hKQ => ?_) ?_
      · have HK := hKQ.out
        have d15 := hd 15 (by simp)
        simp only [onwP0] at d15
        clear hKQ hd
        simp only [onwP0, Act.put, List.setIfInBounds_toArray, List.set_cons_zero, List.set_cons_succ, d15] at HK ⊢
        have HQ := Lib.hid HK
        clear HK
        go_simp
        exact HQ.out _ _ hS rfl (Below.refl _ _)
      refine flow.StepsF.cons (o := { dst := some 44, op := Go.Op.move (Go.Operand.tmp 1), type := 3, pos := "more.go:19", after := #[{ on := 16, ground := Go.Ground.guard }], guard := some (16, true) }) rfl (fun vs wq KQ hS hd hKQ => ?_) ?_
      · have HK := hKQ.out
        have d16 := hd 16 (by simp)
        simp only [onwP0] at d16
        clear hKQ hd
        simp only [onwP0, Act.put, List.setIfInBounds_toArray, List.set_cons_zero, List.set_cons_succ, d16] at HK ⊢
        have HQ := Lib.hid HK
        clear HK
        go_simp
        exact HQ.out _ _ hS rfl (Below.refl _ _)
      refine flow.StepsF.cons (o := { dst := some 45, op := Go.Op.binOp Go.BinOp.gtr 3 (Go.Operand.tmp 44) (Go.Operand.const (Go.Value.int Go.IntKind.i64 0)) 3, type := 4, pos := "more.go:19", after := #[{ on := 17, ground := Go.Ground.data }, { on := 16, ground := Go.Ground.guard }], guard := some (16, true) }) rfl (fun vs wq KQ hS hd hKQ => ?_) ?_
      · have HK := hKQ.out
        have d17 := hd 17 (by simp)
        simp only [onwP0] at d17
        have d16 := hd 16 (by simp)
        simp only [onwP0] at d16
        clear hKQ hd
        simp only [onwP0, Act.put, List.setIfInBounds_toArray, List.set_cons_zero, List.set_cons_succ, d17, d16] at HK ⊢
        have HQ := Lib.hid HK
        clear HK
        go_simp
        exact HQ.out _ _ hS rfl (Below.refl _ _)
      refine flow.StepsF.cons (o := { dst := some 46, op := Go.Op.move (Go.Operand.tmp 45), type := 4, pos := "more.go:19", after := #[{ on := 18, ground := Go.Ground.data }, { on := 16, ground := Go.Ground.chain }, { on := 16, ground := Go.Ground.guard }], guard := some (16, true) }) rfl (fun vs wq KQ hS hd hKQ => ?_) ?_
      · have HK := hKQ.out
        have d18 := hd 18 (by simp)
        simp only [onwP0] at d18
        have d16 := hd 16 (by simp)
        simp only [onwP0] at d16
        clear hKQ hd
        simp only [onwP0, Act.put, List.setIfInBounds_toArray, List.set_cons_zero, List.set_cons_succ, d18, d16] at HK ⊢
        have HQ := Lib.hid HK
        clear HK
        go_simp
        exact HQ.out _ _ hS rfl (Below.refl _ _)
      refine flow.StepsF.cons (o := { dst := some 47, op := Go.Op.move (Go.Operand.tmp 7), type := 23, pos := "more.go:19", after := #[{ on := 19, ground := Go.Ground.guard }], guard := some (19, false) }) rfl (fun vs wq KQ hS hd hKQ => ?_) ?_
      · have HK := hKQ.out
        have d19 := hd 19 (by simp)
        simp only [onwP0] at d19
        clear hKQ hd
        simp only [onwP0, Act.put, List.setIfInBounds_toArray, List.set_cons_zero, List.set_cons_succ, d19] at HK ⊢
        have HQ := Lib.hid HK
        clear HK
        go_simp
        exact HQ.out _ _ hS rfl (Below.refl _ _)
      refine flow.StepsF.cons (o := { dst := some 48, op := Go.Op.move (Go.Operand.tmp 0), type := 27, pos := "more.go:19", after := #[{ on := 19, ground := Go.Ground.guard }], guard := some (19, false) }) rfl (fun vs wq KQ hS hd hKQ => ?_) ?_
      · have HK := hKQ.out
        have d19 := hd 19 (by simp)
        simp only [onwP0] at d19
        clear hKQ hd
        simp only [onwP0, Act.put, List.setIfInBounds_toArray, List.set_cons_zero, List.set_cons_succ, d19] at HK ⊢
        have HQ := Lib.hid HK
        clear HK
        go_simp
        exact HQ.out _ _ hS rfl (Below.refl _ _)
      refine flow.StepsF.cons (o := { dst := some 49, op := Go.Op.buildSlice 22 1 #[(0, Go.Operand.tmp 48)], type := 22, pos := "more.go:19", after := #[{ on := 21, ground := Go.Ground.data }, { on := 19, ground := Go.Ground.guard }], guard := some (19, false) }) rfl (fun vs wq KQ hS hd hKQ => ?_) ?_
      · have HK := hKQ.out
        have d21 := hd 21 (by simp)
        simp only [onwP0] at d21
        have d19 := hd 19 (by simp)
        simp only [onwP0] at d19
        clear hKQ hd
        simp only [onwP0, Act.put, List.setIfInBounds_toArray, List.set_cons_zero, List.set_cons_succ, d21, d19] at HK ⊢
        have HQ := Lib.hid HK
        clear HK
        go_simp
        exact HQ.out _ _ (hS.alloc hS.size _) (oneS_new (SL wq hS)) ((Below.refl _ _).alloc (Nat.le_refl _) _)
      refine flow.StepsF.cons (o := { dst := some 50, op := Go.Op.call { callee := Go.Callee.value (Go.Operand.func 12), args := #[Go.Operand.tmp 49], argTypes := #[22] }, type := 23, pos := "more.go:19", after := #[{ on := 22, ground := Go.Ground.data }, { on := 19, ground := Go.Ground.chain }, { on := 19, ground := Go.Ground.guard }], guard := some (19, false) }) rfl (fun vs wq KQ hS hd hKQ => ?_) ?_
      · have HK := hKQ.out
        have d22 := hd 22 (by simp)
        simp only [onwP0] at d22
        have d19 := hd 19 (by simp)
        simp only [onwP0] at d19
        clear hKQ hd
        simp only [onwP0, Act.put, List.setIfInBounds_toArray, List.set_cons_zero, List.set_cons_succ, d19] at HK ⊢
        have HQ := Lib.hid HK
        clear HK
        obtain ⟨g1, e1, h1⟩ := d22
        simp only [e1] at HQ ⊢
        go_simp
        refine (DL.out wq g1 h1).mono ?_
        rintro e w2 ⟨rfl, hb⟩
        go_wp2_with fail
        exact HQ.out _ _ (hS.trans (hb.mono hS.size)) rfl hb
      refine flow.StepsF.cons (o := { dst := some 51, op := Go.Op.binOp Go.BinOp.eql 23 (Go.Operand.tmp 47) (Go.Operand.tmp 50) 23, type := 4, pos := "more.go:19", after := #[{ on := 20, ground := Go.Ground.data }, { on := 23, ground := Go.Ground.data }, { on := 19, ground := Go.Ground.guard }], guard := some (19, false) }) rfl (fun vs wq KQ hS hd hKQ => ?_) ?_
      · have HK := hKQ.out
        have d20 := hd 20 (by simp)
        simp only [onwP0] at d20
        have d23 := hd 23 (by simp)
        simp only [onwP0] at d23
        have d19 := hd 19 (by simp)
        simp only [onwP0] at d19
        clear hKQ hd
        simp only [onwP0, Act.put, List.setIfInBounds_toArray, List.set_cons_zero, List.set_cons_succ, d20, d23, d19] at HK ⊢
        have HQ := Lib.hid HK
        clear HK
        go_simp
        exact HQ.out _ _ hS rfl (Below.refl _ _)
      refine flow.StepsF.cons (o := { dst := some 52, op := Go.Op.pick (Go.Operand.tmp 46) (Go.Operand.const (Go.Value.bool true)) (Go.Operand.tmp 51), type := 4, pos := "more.go:19", after := #[{ on := 19, ground := Go.Ground.data }, { on := 24, ground := Go.Ground.data }, { on := 16, ground := Go.Ground.guard }], guard := some (16, true) }) rfl (fun vs wq KQ hS hd hKQ => ?_) ?_
      · have HK := hKQ.out
        have d19 := hd 19 (by simp)
        simp only [onwP0] at d19
        have d24 := hd 24 (by simp)
        simp only [onwP0] at d24
        have d16 := hd 16 (by simp)
        simp only [onwP0] at d16
        clear hKQ hd
        simp only [onwP0, Act.put, List.setIfInBounds_toArray, List.set_cons_zero, List.set_cons_succ, d19, d24, d16] at HK ⊢
        have HQ := Lib.hid HK
        clear HK
        go_simp
        exact HQ.out _ _ hS rfl (Below.refl _ _)
      refine flow.StepsF.cons (o := { dst := some 53, op := Go.Op.pick (Go.Operand.tmp 43) (Go.Operand.tmp 52) (Go.Operand.const (Go.Value.bool false)), type := 4, pos := "more.go:19", after := #[{ on := 16, ground := Go.Ground.data }, { on := 25, ground := Go.Ground.data }], guard := none }) rfl (fun vs wq KQ hS hd hKQ => ?_) ?_
      · have HK := hKQ.out
        have d16 := hd 16 (by simp)
        simp only [onwP0] at d16
        have d25 := hd 25 (by simp)
        simp only [onwP0] at d25
        clear hKQ hd
        simp only [onwP0, Act.put, List.setIfInBounds_toArray, List.set_cons_zero, List.set_cons_succ, d16, d25] at HK ⊢
        have HQ := Lib.hid HK
        clear HK
        go_simp
        exact HQ.out _ _ hS rfl (Below.refl _ _)
      refine flow.StepsF.cons (o := { dst := some 54, op := Go.Op.move (Go.Operand.tmp 53), type := 4, pos := "more.go:19", after := #[{ on := 26, ground := Go.Ground.data }, { on := 23, ground := Go.Ground.chain }], guard := none }) rfl (fun vs wq KQ hS hd hKQ => ?_) ?_
      · have HK := hKQ.out
        have d26 := hd 26 (by simp)
        simp only [onwP0] at d26
        clear hKQ hd
        simp only [onwP0, Act.put, List.setIfInBounds_toArray, List.set_cons_zero, List.set_cons_succ, d26] at HK ⊢
        have HQ := Lib.hid HK
        clear HK
        go_simp
        exact HQ.out _ _ hS rfl (Below.refl _ _)
      refine flow.StepsF.cons (o := { dst := some 55, op := Go.Op.move (Go.Operand.tmp 1), type := 3, pos := "more.go:19", after := #[{ on := 27, ground := Go.Ground.guard }], guard := some (27, true) }) rfl (fun vs wq KQ hS hd hKQ => ?_) ?_
      · have HK := hKQ.out
        have d27 := hd 27 (by simp)
        simp only [onwP0] at d27
        clear hKQ hd
        simp only [onwP0, Act.put, List.setIfInBounds_toArray, List.set_cons_zero, List.set_cons_succ, d27] at HK ⊢
        have HQ := Lib.hid HK
        clear HK
        go_simp
        exact HQ.out _ _ hS rfl (Below.refl _ _)
      refine flow.StepsF.cons (o := { dst := some 56, op := Go.Op.binOp Go.BinOp.eql 3 (Go.Operand.tmp 55) (Go.Operand.const (Go.Value.int Go.IntKind.i64 0)) 3, type := 4, pos := "more.go:19", after := #[{ on := 28, ground := Go.Ground.data }, { on := 27, ground := Go.Ground.guard }], guard := some (27, true) }) rfl (fun vs wq KQ hS hd hKQ => ?_) ?_
      · have HK := hKQ.out
        have d28 := hd 28 (by simp)
        simp only [onwP0] at d28
        have d27 := hd 27 (by simp)
        simp only [onwP0] at d27
        clear hKQ hd
        simp only [onwP0, Act.put, List.setIfInBounds_toArray, List.set_cons_zero, List.set_cons_succ, d28, d27] at HK ⊢
        have HQ := Lib.hid HK
        clear HK
        go_simp
        exact HQ.out _ _ hS rfl (Below.refl _ _)
      refine flow.StepsF.cons (o := { dst := some 57, op := Go.Op.move (Go.Operand.tmp 56), type := 4, pos := "more.go:19", after := #[{ on := 29, ground := Go.Ground.data }, { on := 27, ground := Go.Ground.chain }, { on := 27, ground := Go.Ground.guard }], guard := some (27, true) }) rfl (fun vs wq KQ hS hd hKQ => ?_) ?_
      · have HK := hKQ.out
        have d29 := hd 29 (by simp)
        simp only [onwP0] at d29
        have d27 := hd 27 (by simp)
        simp only [onwP0] at d27
        clear hKQ hd
        simp only [onwP0, Act.put, List.setIfInBounds_toArray, List.set_cons_zero, List.set_cons_succ, d29, d27] at HK ⊢
        have HQ := Lib.hid HK
        clear HK
        go_simp
        exact HQ.out _ _ hS rfl (Below.refl _ _)
      refine flow.StepsF.cons (o := { dst := some 58, op := Go.Op.move (Go.Operand.tmp 5), type := 27, pos := "more.go:19", after := #[{ on := 30, ground := Go.Ground.guard }], guard := some (30, false) }) rfl (fun vs wq KQ hS hd hKQ => ?_) ?_
      · have HK := hKQ.out
        have d30 := hd 30 (by simp)
        simp only [onwP0] at d30
        clear hKQ hd
        simp only [onwP0, Act.put, List.setIfInBounds_toArray, List.set_cons_zero, List.set_cons_succ, d30] at HK ⊢
        have HQ := Lib.hid HK
        clear HK
        go_simp
        exact HQ.out _ _ hS rfl (Below.refl _ _)
      refine flow.StepsF.cons (o := { dst := some 59, op := Go.Op.buildSlice 22 1 #[(0, Go.Operand.tmp 58)], type := 22, pos := "more.go:19", after := #[{ on := 31, ground := Go.Ground.data }, { on := 30, ground := Go.Ground.guard }], guard := some (30, false) }) rfl (fun vs wq KQ hS hd hKQ => ?_) ?_
      · have HK := hKQ.out
        have d31 := hd 31 (by simp)
        simp only [onwP0] at d31
        have d30 := hd 30 (by simp)
        simp only [onwP0] at d30
        clear hKQ hd
        simp only [onwP0, Act.put, List.setIfInBounds_toArray, List.set_cons_zero, List.set_cons_succ, d31, d30] at HK ⊢
        have HQ := Lib.hid HK
        clear HK
        go_simp
        exact HQ.out _ _ hS rfl (Below.refl _ _)
      refine flow.StepsF.cons (o := { dst := some 60, op := Go.Op.call { callee := Go.Callee.value (Go.Operand.func 12), args := #[Go.Operand.tmp 59], argTypes := #[22] }, type := 23, pos := "more.go:19", after := #[{ on := 32, ground := Go.Ground.data }, { on := 30, ground := Go.Ground.chain }, { on := 30, ground := Go.Ground.guard }], guard := some (30, false) }) rfl (fun vs wq KQ hS hd hKQ => ?_) ?_
      · have HK := hKQ.out
        have d32 := hd 32 (by simp)
        simp only [onwP0] at d32
        have d30 := hd 30 (by simp)
        simp only [onwP0] at d30
        clear hKQ hd
        simp only [onwP0, Act.put, List.setIfInBounds_toArray, List.set_cons_zero, List.set_cons_succ, d32, d30] at HK ⊢
        have HQ := Lib.hid HK
        clear HK
        go_simp
        exact HQ.out _ _ hS rfl (Below.refl _ _)
      refine flow.StepsF.cons (o := { dst := some 61, op := Go.Op.move (Go.Operand.tmp 5), type := 27, pos := "more.go:19", after := #[{ on := 30, ground := Go.Ground.guard }], guard := some (30, false) }) rfl (fun vs wq KQ hS hd hKQ => ?_) ?_
      · have HK := hKQ.out
        have d30 := hd 30 (by simp)
        simp only [onwP0] at d30
        clear hKQ hd
        simp only [onwP0, Act.put, List.setIfInBounds_toArray, List.set_cons_zero, List.set_cons_succ, d30] at HK ⊢
        have HQ := Lib.hid HK
        clear HK
        go_simp
        exact HQ.out _ _ hS rfl (Below.refl _ _)
      refine flow.StepsF.cons (o := { dst := some 62, op := Go.Op.slice 27 (Go.Operand.tmp 61) (some (Go.Operand.const (Go.Value.int Go.IntKind.i64 1))) none none, type := 27, pos := "more.go:19", after := #[{ on := 34, ground := Go.Ground.data }, { on := 30, ground := Go.Ground.guard }], guard := some (30, false) }) rfl (fun vs wq KQ hS hd hKQ => ?_) ?_
      · have HK := hKQ.out
        have d34 := hd 34 (by simp)
        simp only [onwP0] at d34
        have d30 := hd 30 (by simp)
        simp only [onwP0] at d30
        clear hKQ hd
        simp only [onwP0, Act.put, List.setIfInBounds_toArray, List.set_cons_zero, List.set_cons_succ, d34, d30] at HK ⊢
        have HQ := Lib.hid HK
        clear HK
        go_simp
        exact HQ.out _ _ hS rfl (Below.refl _ _)
      refine flow.StepsF.cons (o := { dst := some 63, op := Go.Op.buildSlice 22 1 #[(0, Go.Operand.tmp 62)], type := 22, pos := "more.go:19", after := #[{ on := 35, ground := Go.Ground.data }, { on := 30, ground := Go.Ground.guard }], guard := some (30, false) }) rfl (fun vs wq KQ hS hd hKQ => ?_) ?_
      · have HK := hKQ.out
        have d35 := hd 35 (by simp)
        simp only [onwP0] at d35
        have d30 := hd 30 (by simp)
        simp only [onwP0] at d30
        clear hKQ hd
        simp only [onwP0, Act.put, List.setIfInBounds_toArray, List.set_cons_zero, List.set_cons_succ, d35, d30] at HK ⊢
        have HQ := Lib.hid HK
        clear HK
        go_simp
        exact HQ.out _ _ hS rfl (Below.refl _ _)
      refine flow.StepsF.cons (o := { dst := some 64, op := Go.Op.call { callee := Go.Callee.value (Go.Operand.func 12), args := #[Go.Operand.tmp 63], argTypes := #[22] }, type := 23, pos := "more.go:19", after := #[{ on := 36, ground := Go.Ground.data }, { on := 33, ground := Go.Ground.chain }, { on := 30, ground := Go.Ground.guard }], guard := some (30, false) }) rfl (fun vs wq KQ hS hd hKQ => ?_) ?_
      · have HK := hKQ.out
        have d36 := hd 36 (by simp)
        simp only [onwP0] at d36
        have d30 := hd 30 (by simp)
        simp only [onwP0] at d30
        clear hKQ hd
        simp only [onwP0, Act.put, List.setIfInBounds_toArray, List.set_cons_zero, List.set_cons_succ, d36, d30] at HK ⊢
        have HQ := Lib.hid HK
        clear HK
        go_simp
        exact HQ.out _ _ hS rfl (Below.refl _ _)
      refine flow.StepsF.cons (o := { dst := some 65, op := Go.Op.binOp Go.BinOp.neq 23 (Go.Operand.tmp 60) (Go.Operand.tmp 64) 23, type := 4, pos := "more.go:19", after := #[{ on := 33, ground := Go.Ground.data }, { on := 37, ground := Go.Ground.data }, { on := 30, ground := Go.Ground.guard }], guard := some (30, false) }) rfl (fun vs wq KQ hS hd hKQ => ?_) ?_
      · have HK := hKQ.out
        have d33 := hd 33 (by simp)
        simp only [onwP0] at d33
        have d37 := hd 37 (by simp)
        simp only [onwP0] at d37
        have d30 := hd 30 (by simp)
        simp only [onwP0] at d30
        clear hKQ hd
        simp only [onwP0, Act.put, List.setIfInBounds_toArray, List.set_cons_zero, List.set_cons_succ, d33, d37, d30] at HK ⊢
        have HQ := Lib.hid HK
        clear HK
        go_simp
        exact HQ.out _ _ hS rfl (Below.refl _ _)
      refine flow.StepsF.cons (o := { dst := some 66, op := Go.Op.pick (Go.Operand.tmp 57) (Go.Operand.const (Go.Value.bool true)) (Go.Operand.tmp 65), type := 4, pos := "more.go:19", after := #[{ on := 30, ground := Go.Ground.data }, { on := 38, ground := Go.Ground.data }, { on := 27, ground := Go.Ground.guard }], guard := some (27, true) }) rfl (fun vs wq KQ hS hd hKQ => ?_) ?_
      · have HK := hKQ.out
        have d30 := hd 30 (by simp)
        simp only [onwP0] at d30
        have d38 := hd 38 (by simp)
        simp only [onwP0] at d38
        have d27 := hd 27 (by simp)
        simp only [onwP0] at d27
        clear hKQ hd
        simp only [onwP0, Act.put, List.setIfInBounds_toArray, List.set_cons_zero, List.set_cons_succ, d30, d38, d27] at HK ⊢
        have HQ := Lib.hid HK
        clear HK
        go_simp
        exact HQ.out _ _ hS rfl (Below.refl _ _)
      refine flow.StepsF.cons (o := { dst := some 67, op := Go.Op.pick (Go.Operand.tmp 54) (Go.Operand.tmp 66) (Go.Operand.const (Go.Value.bool false)), type := 4, pos := "more.go:19", after := #[{ on := 27, ground := Go.Ground.data }, { on := 39, ground := Go.Ground.data }], guard := none }) rfl (fun vs wq KQ hS hd hKQ => ?_) ?_
      · have HK := hKQ.out
        have d27 := hd 27 (by simp)
        simp only [onwP0] at d27
        have d39 := hd 39 (by simp)
        simp only [onwP0] at d39
        clear hKQ hd
        simp only [onwP0, Act.put, List.setIfInBounds_toArray, List.set_cons_zero, List.set_cons_succ, d27, d39] at HK ⊢
        have HQ := Lib.hid HK
        clear HK
        go_simp
        exact HQ.out _ _ hS rfl (Below.refl _ _)
      refine flow.StepsF.cons (o := { dst := some 68, op := Go.Op.move (Go.Operand.tmp 67), type := 4, pos := "more.go:19", after := #[{ on := 40, ground := Go.Ground.data }, { on := 37, ground := Go.Ground.chain }], guard := none }) rfl (fun vs wq KQ hS hd hKQ => ?_) ?_
      · have HK := hKQ.out
        have d40 := hd 40 (by simp)
        simp only [onwP0] at d40
        clear hKQ hd
        simp only [onwP0, Act.put, List.setIfInBounds_toArray, List.set_cons_zero, List.set_cons_succ, d40] at HK ⊢
        have HQ := Lib.hid HK
        clear HK
        go_simp
        exact HQ.out _ _ hS rfl (Below.refl _ _)
      refine flow.StepsF.cons (o := { dst := some 69, op := Go.Op.move (Go.Operand.tmp 6), type := 23, pos := "more.go:19", after := #[{ on := 41, ground := Go.Ground.guard }], guard := some (41, true) }) rfl (fun vs wq KQ hS hd hKQ => ?_) ?_
      · have HK := hKQ.out
        have d41 := hd 41 (by simp)
        simp only [onwP0] at d41
        clear hKQ hd
        simp only [onwP0, Act.put, List.setIfInBounds_toArray, List.set_cons_zero, List.set_cons_succ, d41] at HK ⊢
        have HQ := Lib.hid HK
        clear HK
        go_simp
        exact HQ.out _ _ hS rfl (Below.refl _ _)
      refine flow.StepsF.cons (o := { dst := some 70, op := Go.Op.move (Go.Operand.tmp 5), type := 27, pos := "more.go:19", after := #[{ on := 41, ground := Go.Ground.guard }], guard := some (41, true) }) rfl (fun vs wq KQ hS hd hKQ => ?_) ?_
      · have HK := hKQ.out
        have d41 := hd 41 (by simp)
        simp only [onwP0] at d41
        clear hKQ hd
        simp only [onwP0, Act.put, List.setIfInBounds_toArray, List.set_cons_zero, List.set_cons_succ, d41] at HK ⊢
        have HQ := Lib.hid HK
        clear HK
        go_simp
        exact HQ.out _ _ hS rfl (Below.refl _ _)
      refine flow.StepsF.cons (o := { dst := some 71, op := Go.Op.move (Go.Operand.tmp 0), type := 27, pos := "more.go:19", after := #[{ on := 41, ground := Go.Ground.guard }], guard := some (41, true) }) rfl (fun vs wq KQ hS hd hKQ => ?_) ?_
      · have HK := hKQ.out
        have d41 := hd 41 (by simp)
        simp only [onwP0] at d41
        clear hKQ hd
        simp only [onwP0, Act.put, List.setIfInBounds_toArray, List.set_cons_zero, List.set_cons_succ, d41] at HK ⊢
        have HQ := Lib.hid HK
        clear HK
        go_simp
        exact HQ.out _ _ hS rfl (Below.refl _ _)
      refine flow.StepsF.cons (o := { dst := some 72, op := Go.Op.buildSlice 22 2 #[(0, Go.Operand.tmp 70), (1, Go.Operand.tmp 71)], type := 22, pos := "more.go:19", after := #[{ on := 43, ground := Go.Ground.data }, { on := 44, ground := Go.Ground.data }, { on := 41, ground := Go.Ground.guard }], guard := some (41, true) }) rfl (fun vs wq KQ hS hd hKQ => ?_) ?_
      · have HK := hKQ.out
        have d43 := hd 43 (by simp)
        simp only [onwP0] at d43
        have d44 := hd 44 (by simp)
        simp only [onwP0] at d44
        have d41 := hd 41 (by simp)
        simp only [onwP0] at d41
        clear hKQ hd
        simp only [onwP0, Act.put, List.setIfInBounds_toArray, List.set_cons_zero, List.set_cons_succ, d43, d44, d41] at HK ⊢
        have HQ := Lib.hid HK
        clear HK
        go_simp
        exact HQ.out _ _ (hS.alloc hS.size _) (twoS_new (SZ wq hS) (SL wq hS)) ((Below.refl _ _).alloc (Nat.le_refl _) _)
      refine flow.StepsF.cons (o := { dst := some 73, op := Go.Op.call { callee := Go.Callee.value (Go.Operand.func 13), args := #[Go.Operand.tmp 72], argTypes := #[22] }, type := 23, pos := "more.go:19", after := #[{ on := 45, ground := Go.Ground.data }, { on := 41, ground := Go.Ground.chain }, { on := 41, ground := Go.Ground.guard }], guard := some (41, true) }) rfl (fun vs wq KQ hS hd hKQ => ?_) ?_
      · have HK := hKQ.out
        have d45 := hd 45 (by simp)
        simp only [onwP0] at d45
        have d41 := hd 41 (by simp)
        simp only [onwP0] at d41
        clear hKQ hd
        simp only [onwP0, Act.put, List.setIfInBounds_toArray, List.set_cons_zero, List.set_cons_succ, d41] at HK ⊢
        have HQ := Lib.hid HK
        clear HK
        obtain ⟨g1, e1, h1⟩ := d45
        simp only [e1] at HQ ⊢
        go_simp
        refine (HDR.out wq g1 h1).mono ?_
        rintro e w2 ⟨rfl, rfl⟩
        go_wp2_with fail
        exact HQ.out _ _ hS rfl (Below.refl _ _)
      refine flow.StepsF.cons (o := { dst := some 74, op := Go.Op.binOp Go.BinOp.eql 23 (Go.Operand.tmp 69) (Go.Operand.tmp 73) 23, type := 4, pos := "more.go:19", after := #[{ on := 42, ground := Go.Ground.data }, { on := 46, ground := Go.Ground.data }, { on := 41, ground := Go.Ground.guard }], guard := some (41, true) }) rfl (fun vs wq KQ hS hd hKQ => ?_) ?_
      · have HK := hKQ.out
        have d42 := hd 42 (by simp)
        simp only [onwP0] at d42
        have d46 := hd 46 (by simp)
        simp only [onwP0] at d46
        have d41 := hd 41 (by simp)
        simp only [onwP0] at d41
        clear hKQ hd
        simp only [onwP0, Act.put, List.setIfInBounds_toArray, List.set_cons_zero, List.set_cons_succ, d42, d46, d41] at HK ⊢
        have HQ := Lib.hid HK
        clear HK
        go_simp
        exact HQ.out _ _ hS rfl (Below.refl _ _)
      refine flow.StepsF.cons (o := { dst := some 75, op := Go.Op.pick (Go.Operand.tmp 68) (Go.Operand.tmp 74) (Go.Operand.const (Go.Value.bool false)), type := 4, pos := "more.go:19", after := #[{ on := 41, ground := Go.Ground.data }, { on := 47, ground := Go.Ground.data }], guard := none }) rfl (fun vs wq KQ hS hd hKQ => ?_) ?_
      · have HK := hKQ.out
        have d41 := hd 41 (by simp)
        simp only [onwP0] at d41
        have d47 := hd 47 (by simp)
        simp only [onwP0] at d47
        clear hKQ hd
        simp only [onwP0, Act.put, List.setIfInBounds_toArray, List.set_cons_zero, List.set_cons_succ, d41, d47] at HK ⊢
        have HQ := Lib.hid HK
        clear HK
        go_simp
        exact HQ.out _ _ hS rfl (Below.refl _ _)
      refine flow.StepsF.cons (o := { dst := some 4, op := Go.Op.assign (Go.Operand.tmp 75), type := 4, pos := "more.go:19", after := #[{ on := 48, ground := Go.Ground.data }, { on := 46, ground := Go.Ground.chain }, { on := 0, ground := Go.Ground.phase }, { on := 1, ground := Go.Ground.phase }, { on := 2, ground := Go.Ground.phase }, { on := 3, ground := Go.Ground.phase }, { on := 4, ground := Go.Ground.phase }, { on := 5, ground := Go.Ground.phase }, { on := 6, ground := Go.Ground.phase }, { on := 7, ground := Go.Ground.phase }, { on := 8, ground := Go.Ground.phase }, { on := 9, ground := Go.Ground.phase }, { on := 10, ground := Go.Ground.phase }, { on := 11, ground := Go.Ground.phase }, { on := 12, ground := Go.Ground.phase }, { on := 13, ground := Go.Ground.phase }, { on := 14, ground := Go.Ground.phase }, { on := 15, ground := Go.Ground.phase }, { on := 16, ground := Go.Ground.phase }, { on := 17, ground := Go.Ground.phase }, { on := 18, ground := Go.Ground.phase }, { on := 19, ground := Go.Ground.phase }, { on := 20, ground := Go.Ground.phase }, { on := 21, ground := Go.Ground.phase }, { on := 22, ground := Go.Ground.phase }, { on := 23, ground := Go.Ground.phase }, { on := 24, ground := Go.Ground.phase }, { on := 25, ground := Go.Ground.phase }, { on := 26, ground := Go.Ground.phase }, { on := 27, ground := Go.Ground.phase }, { on := 28, ground := Go.Ground.phase }, { on := 29, ground := Go.Ground.phase }, { on := 30, ground := Go.Ground.phase }, { on := 31, ground := Go.Ground.phase }, { on := 32, ground := Go.Ground.phase }, { on := 33, ground := Go.Ground.phase }, { on := 34, ground := Go.Ground.phase }, { on := 35, ground := Go.Ground.phase }, { on := 36, ground := Go.Ground.phase }, { on := 37, ground := Go.Ground.phase }, { on := 38, ground := Go.Ground.phase }, { on := 39, ground := Go.Ground.phase }, { on := 40, ground := Go.Ground.phase }, { on := 41, ground := Go.Ground.phase }, { on := 42, ground := Go.Ground.phase }, { on := 43, ground := Go.Ground.phase }, { on := 44, ground := Go.Ground.phase }, { on := 45, ground := Go.Ground.phase }, { on := 46, ground := Go.Ground.phase }, { on := 47, ground := Go.Ground.phase }, { on := 48, ground := Go.Ground.phase }], guard := none }) rfl (fun vs wq KQ hS hd hKQ => ?_) ?_
      · have HK := hKQ.out
        have d48 := hd 48 (by simp)
        simp only [onwP0] at d48
        clear hKQ hd
        simp only [onwP0, Act.put, List.setIfInBounds_toArray, List.set_cons_zero, List.set_cons_succ, d48] at HK ⊢
        have HQ := Lib.hid HK
        clear HK
        go_simp
        exact HQ.out _ _ hS rfl (Below.refl _ _)
      exact flow.StepsF.nil
    case hend =>
      intro vs wq hS hall
      have e49 := hall 49 (by simp)
      simp only [onwP0] at e49
      simp only [e49]
      go_wp2_with fail
      go_ret
      exact ⟨rfl, hB5.trans (hS.mono hB5.size)⟩
theorem onward_great (A : Option Addr) (n c : Nat) (t : Int) (w : World) (h : 4096 < n) (hm : n ≤ 9223372036854775807) :
    Calls Try.prog 7 #[.slice A n c, .int .i64 t] w fun e w' => e = .returned (.bool true) ∧ Below w.heap.size w w' := by
  go_enter Try.func7, Try.ntmps7
  go_wp2_with fail
  refine (begun_any w).mono ?_
  rintro e w1 ⟨rfl, hB1⟩
  go_wp2_with fail
  go_ret
  exact ⟨rfl, hB1⟩
theorem onward_walk (A : Option Addr) (n c : Nat) (l : List Int) (t : Int) (w : World) (hR : Rd w w.heap.size A n l) (hY : Byt l) (hnc : n ≤ c) (hcm : c ≤ maxLen) (w1 : (Lit.int .i64 t).wf = true) :
    Calls Try.prog 7 #[.slice A n c, .int .i64 t] w fun e w' => e = .returned (.bool true) ∧ Below w.heap.size w w' := by
  have b1 : -9223372036854775808 ≤ t ∧ t ≤ 9223372036854775807 := by simpa [Lit.wf, IntKind.min, IntKind.max, IntKind.signed, IntKind.bits] using w1
  have h1 : c ≤ 9223372036854775807 := hcm
  by_cases h : 4096 < n
  · exact onward_great A n c t w h (by omega)
  · exact onward_small A n c l t w hR hY hnc hcm (by omega) b1
end Go.Proofs.Ytgejdnkfbleakaa.sumLaw
