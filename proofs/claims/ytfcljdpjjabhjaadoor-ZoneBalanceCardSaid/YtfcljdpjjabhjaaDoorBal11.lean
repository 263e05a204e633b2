/- ZoneBalance answers true: a node that is taken has no more load than one of its region that is not. Condition: the library's table reads as its text lays it. -/
import Derived.Test.YtfcljdpjjabhjaaDoorBegun11
import Derived.Test.YtfcljdpjjabhjaaDoorLight11
import Derived.Test.YtfcljdpjjabhjaaDoorRef10m
import Derived.Test.YtfcljdpjjabhjaaDoorZnQ
import Derived.Test.YtfcljdpjjabhjaaDoorZonE
namespace Go.Proofs.YtfcljdpjjabhjaaDoor.law11
open Go Go.RowKit Go.Proofs.YtfcljdpjjabhjaaDoor.kit Go.Proofs.YtfcljdpjjabhjaaDoor.nums Go.Proofs.YtfcljdpjjabhjaaDoor.se Go.Proofs.YtfcljdpjjabhjaaDoor.cf Go.Proofs.YtfcljdpjjabhjaaDoor.zn Go.Proofs.YtfcljdpjjabhjaaDoor.ref9 Go.Proofs.YtfcljdpjjabhjaaDoor.zoni
set_option linter.unusedVariables false

theorem loadOf_any (A : Option Addr) (n c : Nat) (l : List Int) (j : Nat) (w : World) (B : Nat) (hR : RdV w B A n (i64s l)) (hn : n ≤ 1099511627776) (hj : j ≤ 1099511627776) :
    Calls Tryd.prog 23 #[.slice A n c, .int .i64 ((j + 1 : Nat) : Int)] w fun e w' => e = .returned (.int .i64 (nodeLd l (j + 1))) ∧ w = w' := by
  have hl := zoni.rd_len hR
  have e1 : ((j + 1 : Nat) : Int) - 1 = (j : Int) := by omega
  have e2 : nodeLd l (j + 1) = l.getD j 0 := rfl
  rw [e2]
  by_cases h : j < n
  · obtain ⟨b, o, x, rfl, _, hx, hc⟩ := zoni.rd_get hR j h
    have e3 : l.getD j 0 = x := by rw [List.getD_eq_getElem?_getD, hx]; rfl
    rw [e3]
    clear hR hx e3 e2
    go_enter Tryd.func23, Tryd.ntmps23
    go_wp2_with fail
    go_ret
    exact ⟨rfl, rfl⟩
  · have e3 : l.getD j 0 = 0 := by rw [List.getD_eq_getElem?_getD, List.getElem?_eq_none (by omega)]; rfl
    rw [e3]
    clear hR e3 e2
    go_enter Tryd.func23, Tryd.ntmps23
    go_wp2_with fail
    go_ret
    exact ⟨rfl, rfl⟩
set_option maxHeartbeats 4000000 in
theorem balance_walk (A : Option Addr) (n c : Nat) (rs : List Int) (a : ZnA) (z : ZnL) (A2 : Option Addr) (m c2 : Nat) (ld : List Int) (w : World)
    (hT : TabW w) (hR : RdV w w.heap.size A n (i64s rs)) (hZ : RdZ0 w w.heap.size a z) (hL : RdV w w.heap.size A2 m (i64s ld)) :
    Calls Tryd.prog 6 #[.slice A n c, znV a z, .slice A2 m c2] w fun e w' => e = .returned (.bool true) ∧ Below w.heap.size w w' := by
  have CB := Lib.hid (fun y (hb : Below w.heap.size w y) => begun_any y (hT.on hb))
  have CL := Lib.hid (fun y => light_any A n c a z A2 m c2 y)
  have C1 := Lib.hid (fun (hlb : lightB n a m = true) y (hb : Below w.heap.size w y) => zoni.allot_any A n c rs a z A2 m c2 ld y (hT.on hb) (hR.on hb hb.size) (by have := light_lens hlb; omega) ((hZ.on hb hb.size).full (light_lens hlb).2.1 (light_lens hlb).2.2.1 (light_lens hlb).2.2.2.1) (hL.on hb hb.size) (by have := light_lens hlb; omega))
  have CO := Lib.hid (fun (hlb : lightB n a m = true) (j : Nat) (hj : j ≤ 30) y (hb : Below w.heap.size w y) => loadOf_any A2 m c2 ld j y y.heap.size (hL.on hb hb.size) (by have := light_lens hlb; omega) (by omega))
  have CG := Lib.hid (fun (i : Nat) (hi : i < n) y (hb : Below w.heap.size w y) => zoni.rd_get (hR.on hb hb.size) i hi)
  have hl := zoni.rd_len hR
  have HLB := Lib.hid (fun (hlb : lightB n a m = true) => light_lens hlb)
  obtain ⟨lb, hlb⟩ : ∃ lb, lightB n a m = lb := ⟨_, rfl⟩
  rw [hlb] at CL
  clear hT hR hZ hL
  obtain ⟨ra, hra⟩ : ∃ ra, allotF rs z ld = ra := ⟨_, rfl⟩
  have hok := allot_ok rs z ld
  rw [hra] at C1 hok
  obtain ⟨⟨cv, cw, cl, ce, ck⟩, e1⟩ := ra
  have HBAL := Lib.hid (fun (he : e1 = 0) (i j : Nat) (x : Int) hi hj ha hb => balance (i := i) (j := j) (x := x) (hra.trans (by rw [he])) hi hj ha hb)
  have HINV := Lib.hid (fun (he : e1 = 0) => allot_inv (hra.trans (by rw [he])))
  clear hra
  dsimp only at *
  unfold cfV at *
  have HOK := Lib.hid hok
  clear hok
  unfold znV at *
  obtain ⟨z1, n1, c1, z2, n2, c2_, z3, n3, c3⟩ := a
  obtain ⟨zv, zw, zl, ze, zk, zs⟩ := z
  dsimp only at *
  have kz : Blk 24 (w.alloc (.cells #[.slice z1 n1 c1, .slice z2 n2 c2_, .slice z3 n3 c3, .int .i64 ze, .int .i64 zk, .int .i64 zs] 24)) w.heap.size [.slice z1 n1 c1, .slice z2 n2 c2_, .slice z3 n3 c3, .int .i64 ze, .int .i64 zk, .int .i64 zs] := heap_alloc_new w _
  have hB0 := (Below.refl w.heap.size w).alloc (Nat.le_refl _) (.cells #[.slice z1 n1 c1, .slice z2 n2 c2_, .slice z3 n3 c3, .int .i64 ze, .int .i64 zk, .int .i64 zs] 24)
  go_enter Tryd.func6, Tryd.ntmps6
  go_upto_region 1 with (fail)
  generalize (w.alloc (.cells #[.slice z1 n1 c1, .slice z2 n2 c2_, .slice z3 n3 c3, .int .i64 ze, .int .i64 zk, .int .i64 zs] 24)) = w1 at *
  have K1 := Lib.hid kz
  have B1 := Lib.hid hB0
  clear kz hB0
  go_wp2_with fail
  refine (CB.out _ B1.out).mono ?_
  rintro e y1 ⟨rfl, hY1⟩
  have K2 := Lib.hid (K1.out.below hY1 K1.out.lt)
  have B2 := Lib.hid (B1.out.trans (hY1.mono B1.out.size))
  clear hY1 K1 B1 CB
  obtain ⟨x0, x1, x2, x3, x4, x5⟩ := blk6 K2.out
  go_wp2_with fail
  refine (CL.out _).mono ?_
  rintro e y2 ⟨rfl, hY2⟩
  have K3 := Lib.hid (K2.out.below hY2 K2.out.lt)
  have B3 := Lib.hid (B2.out.trans (hY2.mono B2.out.size))
  clear x0 x1 x2 x3 x4 x5 hY2 K2 B2 CL
  cases lb
  · go_wp2_with fail
    go_ret
    exact ⟨rfl, B3.out⟩
  obtain ⟨x0, x1, x2, x3, x4, x5⟩ := blk6 K3.out
  have cC := Lib.hid (C1.out hlb _ B3.out)
  clear C1
  go_wp2_with fail
  refine cC.out.mono ?_
  rintro e v0 ⟨rfl, hY⟩
  clear x0 x1 x2 x3 x4 x5 cC
  have k0 : Blk 30 (v0.alloc (.cells #[.int .u16 (cv : Int), .int .u16 (cw : Int), .int .u16 (cl : Int), .int .i64 ce, .int .i64 ck] 30)) v0.heap.size [.int .u16 (cv : Int), .int .u16 (cw : Int), .int .u16 (cl : Int), .int .i64 ce, .int .i64 ck] := heap_alloc_new v0 _
  have b0 := (B3.out.trans (hY.mono B3.out.size)).alloc (B3.out.trans (hY.mono B3.out.size)).size (.cells #[.int .u16 (cv : Int), .int .u16 (cw : Int), .int .u16 (cl : Int), .int .i64 ce, .int .i64 ck] 30)
  clear hY K3 B3
  go_upto_region 6 with (fail)
  generalize (v0.alloc (.cells #[.int .u16 (cv : Int), .int .u16 (cw : Int), .int .u16 (cl : Int), .int .i64 ce, .int .i64 ck] 30)) = u0 at *
  generalize v0.heap.size = g0 at *
  have K0 := Lib.hid k0
  have B0 := Lib.hid b0
  clear k0 b0
  by_cases he : e1 = 0
  · have hbal := Lib.hid (HBAL.out he)
    obtain ⟨hmR, hmZ, s, hs, hcc⟩ := HINV.out he
    subst he
    have h9 := (mayR_len hmR).2.1
    have hmay := run_may h9 _ _ hs
    have m1 : mayF (⟨cv, cw, cl, ce, ck⟩ : CfL).v = true := by rw [hcc]; exact hmay.1
    have m2 : mayF (⟨cv, cw, cl, ce, ck⟩ : CfL).w = true := by rw [hcc]; exact hmay.2.1
    have m3 : mayF (⟨cv, cw, cl, ce, ck⟩ : CfL).l = true := by rw [hcc]; exact hmay.2.2.1
    have cM := Lib.hid (fun y => ref10.members_one ⟨cv, cw, cl, ce, ck⟩ y HOK.out m1 m2 m3)
    have hml := mem_lt HOK.out
    unfold jtV at cM
    dsimp only [zeroC] at cM
    clear hcc hs hmay m1 m2 m3 HINV HBAL HOK hmZ hmR
    generalize memF ⟨cv, cw, cl, ce, ck⟩ = M at *
    have CH := Lib.hid (fun (k : Nat) (hk : k ≤ 9) y => has_any M ((k + 1 : Nat) : Int) y hml (by omega) (by omega))
    have co := Lib.hid (fun j hj y hb => CO.out hlb j hj y hb)
    clear CO HLB
    obtain ⟨x0, x1, x2, x3, x4⟩ := blk5 K0.out
    go_wp2_with fail
    refine (cM.out _).mono ?_
    rintro e y3 ⟨rfl, hY3⟩
    have B4 := Lib.hid (B0.out.trans (hY3.mono B0.out.size))
    clear hY3 K0 B0 cM x0 x1 x2 x3 x4
    go_wp2_with fail
    go_loopw [10] (fun av wr => ∃ i : Nat, i ≤ n ∧ av = .int .i64 ((i + 1 : Nat) : Int) ∧ Below w.heap.size w wr) (fun av _ => n + 1 - (intOf av).toNat)
    case atStart => exact ⟨0, by omega, rfl, B4.out⟩
    case round =>
      obtain ⟨i, hi, rfl, hBr⟩ := hrel
      by_cases hlt : i < n
      · have hlti : (i : Int) + 1 ≤ (n : Int) := by omega
        go_wp2_with fail
        generalize wr = w8 at *
        generalize hp : ((i + 1 : Nat) : Int) = p at *
        have HP := Lib.hid hp
        have p1 : 1 ≤ p := by omega
        have p2 : p ≤ (n : Int) := by omega
        clear hp
        go_loopw [11] (fun bv wr => ∃ j : Nat, j ≤ n ∧ bv = .int .i64 ((j + 1 : Nat) : Int) ∧ Below w.heap.size w wr) (fun bv _ => n + 1 - (intOf bv).toNat)
        case atStart => exact ⟨0, by omega, rfl, hBr⟩
        case round =>
          obtain ⟨j, hj, rfl, hBs⟩ := hrel
          by_cases hlj : j < n
          · obtain ⟨b, o, x, hA1, hb1, hx, hcx⟩ := CG.out i hlt _ hBs
            obtain ⟨b2, o2, x2, hA2, hb2, hx2, hcx2⟩ := CG.out j hlj _ hBs
            subst hA1
            injection hA2 with hA2
            injection hA2 with hb hoo _
            subst hb
            subst hoo
            have wi : IntKind.i64.wrap (i : Int) = (i : Int) := by simp [IntKind.wrap, IntKind.bits, IntKind.signed]; omega
            have wj : IntKind.i64.wrap (j : Int) = (j : Int) := by simp [IntKind.wrap, IntKind.bits, IntKind.signed]; omega
            have li : (i : Int) < (n : Int) := by omega
            have lj : (j : Int) < (n : Int) := by omega
            have e1 : p - 1 = (i : Int) := by have := HP.out; omega
            have e2 : ((j + 1 : Nat) : Int) - 1 = (j : Int) := by omega
            have ca := Lib.hid (HP.out ▸ CH.out i (by omega) wr.drew)
            have cb := Lib.hid (CH.out j (by omega) wr.drew)
            have la := Lib.hid (HP.out ▸ co.out i (by omega) _ hBs.drew)
            have lb := Lib.hid (co.out j (by omega) _ hBs.drew)
            have hB := Lib.hid (fun (e : x2 = x) => HP.out ▸ hbal.out i j x hx (by rw [hx2, e]))
            clear CH co hbal CG hx hx2 hb1 hb2
            generalize hasF M p = ba at *
            generalize hasF M ((j + 1 : Nat) : Int) = bb at *
            generalize nodeLd ld (i + 1) = da at *
            generalize nodeLd ld (j + 1) = db at *
            go_upto_region 15 with (fail)
            by_cases gx : x = x2
            · subst gx
              have g0 : (x == x) = true := by simp
              cases ba
              · refine wp_region_held_drew (S := fun wq => wq.cell? ⟨b, o + i, none⟩ = some (.int .i64 x) ∧ wq.cell? ⟨b, o + j, none⟩ = some (.int .i64 x)) (by kernel_rfl) ⟨hcx, hcx2⟩ (fun hHeld => ?_)
                refine tk 0 { dst := some 43, op := .move (.tmp 0), type := 22, pos := "law.go:120", after := #[], guard := none } _ ?_
                try simp only [Act.put, List.setIfInBounds_toArray, List.set_cons_zero, List.set_cons_succ]
                refine tk 1 { dst := some 44, op := .move (.tmp 10), type := 3, pos := "law.go:120", after := #[], guard := none } _ ?_
                try simp only [Act.put, List.setIfInBounds_toArray, List.set_cons_zero, List.set_cons_succ]
                refine tk 2 { dst := some 45, op := .binOp .sub 3 (.tmp 44) (.const (.int .i64 1)) 3, type := 3, pos := "law.go:120", after := #[{ on := 1, ground := .data }], guard := none } _ ?_
                try simp only [Act.put, List.setIfInBounds_toArray, List.set_cons_zero, List.set_cons_succ]
                refine tk 3 { dst := some 46, op := .indexAddr 22 (.tmp 43) (.tmp 45), type := 0, pos := "law.go:120", after := #[{ on := 0, ground := .data }, { on := 2, ground := .data }], guard := none } _ ?_
                try simp only [Act.put, List.setIfInBounds_toArray, List.set_cons_zero, List.set_cons_succ]
                refine tk 4 { dst := some 47, op := .load 3 (.tmp 46), type := 3, pos := "law.go:120", after := #[{ on := 3, ground := .data }], guard := none } _ ?_
                try simp only [Act.put, List.setIfInBounds_toArray, List.set_cons_zero, List.set_cons_succ]
                refine tk 5 { dst := some 48, op := .move (.tmp 0), type := 22, pos := "law.go:120", after := #[], guard := none } _ ?_
                try simp only [Act.put, List.setIfInBounds_toArray, List.set_cons_zero, List.set_cons_succ]
                refine tk 6 { dst := some 49, op := .move (.tmp 11), type := 3, pos := "law.go:120", after := #[], guard := none } _ ?_
                try simp only [Act.put, List.setIfInBounds_toArray, List.set_cons_zero, List.set_cons_succ]
                refine tk 7 { dst := some 50, op := .binOp .sub 3 (.tmp 49) (.const (.int .i64 1)) 3, type := 3, pos := "law.go:120", after := #[{ on := 6, ground := .data }], guard := none } _ ?_
                try simp only [Act.put, List.setIfInBounds_toArray, List.set_cons_zero, List.set_cons_succ]
                refine tk 8 { dst := some 51, op := .indexAddr 22 (.tmp 48) (.tmp 50), type := 0, pos := "law.go:120", after := #[{ on := 5, ground := .data }, { on := 7, ground := .data }], guard := none } _ ?_
                try simp only [Act.put, List.setIfInBounds_toArray, List.set_cons_zero, List.set_cons_succ]
                refine tk 9 { dst := some 52, op := .load 3 (.tmp 51), type := 3, pos := "law.go:120", after := #[{ on := 8, ground := .data }], guard := none } _ ?_
                try simp only [Act.put, List.setIfInBounds_toArray, List.set_cons_zero, List.set_cons_succ]
                refine tk 10 { dst := some 53, op := .binOp .eql 3 (.tmp 47) (.tmp 52) 3, type := 4, pos := "law.go:120", after := #[{ on := 4, ground := .data }, { on := 9, ground := .data }], guard := none } _ ?_
                try simp only [Act.put, List.setIfInBounds_toArray, List.set_cons_zero, List.set_cons_succ]
                refine tk 11 { dst := some 54, op := .move (.tmp 53), type := 4, pos := "law.go:120", after := #[{ on := 10, ground := .data }], guard := none } _ ?_
                try simp only [Act.put, List.setIfInBounds_toArray, List.set_cons_zero, List.set_cons_succ]
                refine tk 12 { dst := some 55, op := .move (.tmp 9), type := 28, pos := "law.go:120", after := #[{ on := 11, ground := .guard }], guard := some (11, true) } _ ?_
                try simp only [Act.put, List.setIfInBounds_toArray, List.set_cons_zero, List.set_cons_succ]
                refine tk 13 { dst := some 56, op := .move (.tmp 10), type := 3, pos := "law.go:120", after := #[{ on := 11, ground := .guard }], guard := some (11, true) } _ ?_
                try simp only [Act.put, List.setIfInBounds_toArray, List.set_cons_zero, List.set_cons_succ]
                refine wpAnyH_ready (rs := [14]) (by kernel_rfl) (by simp) ?_
                refine AllReadyH.cons (o := { dst := some 57, op := .call { callee := .value (.func 17), args := #[.tmp 55, .tmp 56], argTypes := #[28, 3] }, type := 4, pos := "law.go:120", after := #[{ on := 12, ground := .data }, { on := 13, ground := .data }, { on := 11, ground := .chain }, { on := 11, ground := .guard }], guard := some (11, true) }) rfl (fun KQ hKQ => ?_) AllReadyH.nil
                go_simp
                refine ca.out.mono ?_
                rintro e y9 ⟨rfl, rfl⟩
                go_wp2_with fail
                refine hKQ.out _ _ ?s_14 (fun hHeld14 => ?_)
                case s_14 => exact ⟨hcx, hcx2⟩
                clear hKQ KQ
                try simp only [Act.put, List.setIfInBounds_toArray, List.set_cons_zero, List.set_cons_succ]
                refine tk 15 { dst := some 58, op := .pick (.tmp 54) (.tmp 57) (.const (.bool false)), type := 4, pos := "law.go:120", after := #[{ on := 11, ground := .data }, { on := 14, ground := .data }], guard := none } _ ?_
                try simp only [Act.put, List.setIfInBounds_toArray, List.set_cons_zero, List.set_cons_succ]
                refine tk 16 { dst := some 59, op := .move (.tmp 58), type := 4, pos := "law.go:120", after := #[{ on := 15, ground := .data }, { on := 14, ground := .chain }], guard := none } _ ?_
                try simp only [Act.put, List.setIfInBounds_toArray, List.set_cons_zero, List.set_cons_succ]
                refine tu 17 { dst := some 60, op := .move (.tmp 9), type := 28, pos := "law.go:120", after := #[{ on := 16, ground := .guard }], guard := some (16, true) } ?_
                try simp only [Act.put, List.setIfInBounds_toArray, List.set_cons_zero, List.set_cons_succ]
                refine tu 18 { dst := some 61, op := .move (.tmp 11), type := 3, pos := "law.go:120", after := #[{ on := 16, ground := .guard }], guard := some (16, true) } ?_
                try simp only [Act.put, List.setIfInBounds_toArray, List.set_cons_zero, List.set_cons_succ]
                refine tu 19 { dst := some 62, op := .call { callee := .value (.func 17), args := #[.tmp 60, .tmp 61], argTypes := #[28, 3] }, type := 4, pos := "law.go:120", after := #[{ on := 17, ground := .data }, { on := 18, ground := .data }, { on := 16, ground := .chain }, { on := 16, ground := .guard }], guard := some (16, true) } ?_
                try simp only [Act.put, List.setIfInBounds_toArray, List.set_cons_zero, List.set_cons_succ]
                refine tu 20 { dst := some 63, op := .unOp .not 4 (.tmp 62), type := 4, pos := "law.go:120", after := #[{ on := 19, ground := .data }, { on := 16, ground := .guard }], guard := some (16, true) } ?_
                try simp only [Act.put, List.setIfInBounds_toArray, List.set_cons_zero, List.set_cons_succ]
                refine tk 21 { dst := some 64, op := .pick (.tmp 59) (.tmp 63) (.const (.bool false)), type := 4, pos := "law.go:120", after := #[{ on := 16, ground := .data }, { on := 20, ground := .data }], guard := none } _ ?_
                try simp only [Act.put, List.setIfInBounds_toArray, List.set_cons_zero, List.set_cons_succ]
                refine tk 22 { dst := some 65, op := .move (.tmp 64), type := 4, pos := "law.go:120", after := #[{ on := 21, ground := .data }, { on := 19, ground := .chain }], guard := none } _ ?_
                try simp only [Act.put, List.setIfInBounds_toArray, List.set_cons_zero, List.set_cons_succ]
                refine tu 23 { dst := some 66, op := .move (.tmp 2), type := 22, pos := "law.go:120", after := #[{ on := 22, ground := .guard }], guard := some (22, true) } ?_
                try simp only [Act.put, List.setIfInBounds_toArray, List.set_cons_zero, List.set_cons_succ]
                refine tu 24 { dst := some 67, op := .move (.tmp 10), type := 3, pos := "law.go:120", after := #[{ on := 22, ground := .guard }], guard := some (22, true) } ?_
                try simp only [Act.put, List.setIfInBounds_toArray, List.set_cons_zero, List.set_cons_succ]
                refine tu 25 { dst := some 68, op := .call { callee := .value (.func 23), args := #[.tmp 66, .tmp 67], argTypes := #[22, 3] }, type := 3, pos := "law.go:120", after := #[{ on := 23, ground := .data }, { on := 24, ground := .data }, { on := 22, ground := .chain }, { on := 22, ground := .guard }], guard := some (22, true) } ?_
                try simp only [Act.put, List.setIfInBounds_toArray, List.set_cons_zero, List.set_cons_succ]
                refine tu 26 { dst := some 69, op := .move (.tmp 2), type := 22, pos := "law.go:120", after := #[{ on := 22, ground := .guard }], guard := some (22, true) } ?_
                try simp only [Act.put, List.setIfInBounds_toArray, List.set_cons_zero, List.set_cons_succ]
                refine tu 27 { dst := some 70, op := .move (.tmp 11), type := 3, pos := "law.go:120", after := #[{ on := 22, ground := .guard }], guard := some (22, true) } ?_
                try simp only [Act.put, List.setIfInBounds_toArray, List.set_cons_zero, List.set_cons_succ]
                refine tu 28 { dst := some 71, op := .call { callee := .value (.func 23), args := #[.tmp 69, .tmp 70], argTypes := #[22, 3] }, type := 3, pos := "law.go:120", after := #[{ on := 26, ground := .data }, { on := 27, ground := .data }, { on := 25, ground := .chain }, { on := 22, ground := .guard }], guard := some (22, true) } ?_
                try simp only [Act.put, List.setIfInBounds_toArray, List.set_cons_zero, List.set_cons_succ]
                refine tu 29 { dst := some 72, op := .binOp .gtr 3 (.tmp 68) (.tmp 71) 3, type := 4, pos := "law.go:120", after := #[{ on := 25, ground := .data }, { on := 28, ground := .data }, { on := 22, ground := .guard }], guard := some (22, true) } ?_
                try simp only [Act.put, List.setIfInBounds_toArray, List.set_cons_zero, List.set_cons_succ]
                refine tu 30 { dst := some 73, op := .move (.tmp 72), type := 4, pos := "law.go:120", after := #[{ on := 29, ground := .data }, { on := 28, ground := .chain }, { on := 22, ground := .guard }], guard := some (22, true) } ?_
                try simp only [Act.put, List.setIfInBounds_toArray, List.set_cons_zero, List.set_cons_succ]
                refine tu 31 { dst := some 74, op := .move (.tmp 2), type := 22, pos := "law.go:120", after := #[{ on := 30, ground := .guard }], guard := some (30, false) } ?_
                try simp only [Act.put, List.setIfInBounds_toArray, List.set_cons_zero, List.set_cons_succ]
                refine tu 32 { dst := some 75, op := .move (.tmp 10), type := 3, pos := "law.go:120", after := #[{ on := 30, ground := .guard }], guard := some (30, false) } ?_
                try simp only [Act.put, List.setIfInBounds_toArray, List.set_cons_zero, List.set_cons_succ]
                refine tu 33 { dst := some 76, op := .call { callee := .value (.func 23), args := #[.tmp 74, .tmp 75], argTypes := #[22, 3] }, type := 3, pos := "law.go:120", after := #[{ on := 31, ground := .data }, { on := 32, ground := .data }, { on := 30, ground := .chain }, { on := 30, ground := .guard }], guard := some (30, false) } ?_
                try simp only [Act.put, List.setIfInBounds_toArray, List.set_cons_zero, List.set_cons_succ]
                refine tu 34 { dst := some 77, op := .move (.tmp 2), type := 22, pos := "law.go:120", after := #[{ on := 30, ground := .guard }], guard := some (30, false) } ?_
                try simp only [Act.put, List.setIfInBounds_toArray, List.set_cons_zero, List.set_cons_succ]
                refine tu 35 { dst := some 78, op := .move (.tmp 11), type := 3, pos := "law.go:120", after := #[{ on := 30, ground := .guard }], guard := some (30, false) } ?_
                try simp only [Act.put, List.setIfInBounds_toArray, List.set_cons_zero, List.set_cons_succ]
                refine tu 36 { dst := some 79, op := .call { callee := .value (.func 23), args := #[.tmp 77, .tmp 78], argTypes := #[22, 3] }, type := 3, pos := "law.go:120", after := #[{ on := 34, ground := .data }, { on := 35, ground := .data }, { on := 33, ground := .chain }, { on := 30, ground := .guard }], guard := some (30, false) } ?_
                try simp only [Act.put, List.setIfInBounds_toArray, List.set_cons_zero, List.set_cons_succ]
                refine tu 37 { dst := some 80, op := .binOp .eql 3 (.tmp 76) (.tmp 79) 3, type := 4, pos := "law.go:120", after := #[{ on := 33, ground := .data }, { on := 36, ground := .data }, { on := 30, ground := .guard }], guard := some (30, false) } ?_
                try simp only [Act.put, List.setIfInBounds_toArray, List.set_cons_zero, List.set_cons_succ]
                refine tu 38 { dst := some 81, op := .move (.tmp 80), type := 4, pos := "law.go:120", after := #[{ on := 37, ground := .data }, { on := 36, ground := .chain }, { on := 30, ground := .guard }], guard := some (30, false) } ?_
                try simp only [Act.put, List.setIfInBounds_toArray, List.set_cons_zero, List.set_cons_succ]
                refine tu 39 { dst := some 82, op := .move (.tmp 10), type := 3, pos := "law.go:120", after := #[{ on := 38, ground := .guard }], guard := some (38, true) } ?_
                try simp only [Act.put, List.setIfInBounds_toArray, List.set_cons_zero, List.set_cons_succ]
                refine tu 40 { dst := some 83, op := .move (.tmp 11), type := 3, pos := "law.go:120", after := #[{ on := 38, ground := .guard }], guard := some (38, true) } ?_
                try simp only [Act.put, List.setIfInBounds_toArray, List.set_cons_zero, List.set_cons_succ]
                refine tu 41 { dst := some 84, op := .binOp .gtr 3 (.tmp 82) (.tmp 83) 3, type := 4, pos := "law.go:120", after := #[{ on := 39, ground := .data }, { on := 40, ground := .data }, { on := 38, ground := .guard }], guard := some (38, true) } ?_
                try simp only [Act.put, List.setIfInBounds_toArray, List.set_cons_zero, List.set_cons_succ]
                refine tu 42 { dst := some 85, op := .pick (.tmp 81) (.tmp 84) (.const (.bool false)), type := 4, pos := "law.go:120", after := #[{ on := 38, ground := .data }, { on := 41, ground := .data }, { on := 30, ground := .guard }], guard := some (30, false) } ?_
                try simp only [Act.put, List.setIfInBounds_toArray, List.set_cons_zero, List.set_cons_succ]
                refine tu 43 { dst := some 86, op := .pick (.tmp 73) (.const (.bool true)) (.tmp 85), type := 4, pos := "law.go:120", after := #[{ on := 30, ground := .data }, { on := 42, ground := .data }, { on := 22, ground := .guard }], guard := some (22, true) } ?_
                try simp only [Act.put, List.setIfInBounds_toArray, List.set_cons_zero, List.set_cons_succ]
                refine tk 44 { dst := some 87, op := .pick (.tmp 65) (.tmp 86) (.const (.bool false)), type := 4, pos := "law.go:120", after := #[{ on := 22, ground := .data }, { on := 43, ground := .data }], guard := none } _ ?_
                try simp only [Act.put, List.setIfInBounds_toArray, List.set_cons_zero, List.set_cons_succ]
                refine wpAnyH_done (by kernel_rfl) ?_ _
                go_wp2_with fail
                clear wi wj li lj e1 e2
                go_round
                case rel => exact ⟨j + 1, by omega, by go_num, hBs.drew⟩
                case measure => simp [intOf]; omega
              · cases bb
                · have hle := hB.out rfl rfl rfl
                  have g5 : decide (db < da) = false := decide_eq_false (by omega)
                  by_cases gl : da = db
                  · have g6 : (da == db) = true := by rw [beq_iff_eq]; exact gl
                    have g7 : decide (j < i) = false := decide_eq_false (by omega)
                    have g8 : ¬ j < i := by omega
                    have g9 : decide ((j : Int) < (i : Int)) = false := decide_eq_false (by omega)
                    have g10 : decide (((j + 1 : Nat) : Int) < p) = false := decide_eq_false (by have := HP.out; omega)
                    clear hle hB
                    refine wp_region_held_drew (S := fun wq => wq.cell? ⟨b, o + i, none⟩ = some (.int .i64 x) ∧ wq.cell? ⟨b, o + j, none⟩ = some (.int .i64 x)) (by kernel_rfl) ⟨hcx, hcx2⟩ (fun hHeld => ?_)
                    refine tk 0 { dst := some 43, op := .move (.tmp 0), type := 22, pos := "law.go:120", after := #[], guard := none } _ ?_
                    try simp only [Act.put, List.setIfInBounds_toArray, List.set_cons_zero, List.set_cons_succ]
                    refine tk 1 { dst := some 44, op := .move (.tmp 10), type := 3, pos := "law.go:120", after := #[], guard := none } _ ?_
                    try simp only [Act.put, List.setIfInBounds_toArray, List.set_cons_zero, List.set_cons_succ]
                    refine tk 2 { dst := some 45, op := .binOp .sub 3 (.tmp 44) (.const (.int .i64 1)) 3, type := 3, pos := "law.go:120", after := #[{ on := 1, ground := .data }], guard := none } _ ?_
                    try simp only [Act.put, List.setIfInBounds_toArray, List.set_cons_zero, List.set_cons_succ]
                    refine tk 3 { dst := some 46, op := .indexAddr 22 (.tmp 43) (.tmp 45), type := 0, pos := "law.go:120", after := #[{ on := 0, ground := .data }, { on := 2, ground := .data }], guard := none } _ ?_
                    try simp only [Act.put, List.setIfInBounds_toArray, List.set_cons_zero, List.set_cons_succ]
                    refine tk 4 { dst := some 47, op := .load 3 (.tmp 46), type := 3, pos := "law.go:120", after := #[{ on := 3, ground := .data }], guard := none } _ ?_
                    try simp only [Act.put, List.setIfInBounds_toArray, List.set_cons_zero, List.set_cons_succ]
                    refine tk 5 { dst := some 48, op := .move (.tmp 0), type := 22, pos := "law.go:120", after := #[], guard := none } _ ?_
                    try simp only [Act.put, List.setIfInBounds_toArray, List.set_cons_zero, List.set_cons_succ]
                    refine tk 6 { dst := some 49, op := .move (.tmp 11), type := 3, pos := "law.go:120", after := #[], guard := none } _ ?_
                    try simp only [Act.put, List.setIfInBounds_toArray, List.set_cons_zero, List.set_cons_succ]
                    refine tk 7 { dst := some 50, op := .binOp .sub 3 (.tmp 49) (.const (.int .i64 1)) 3, type := 3, pos := "law.go:120", after := #[{ on := 6, ground := .data }], guard := none } _ ?_
                    try simp only [Act.put, List.setIfInBounds_toArray, List.set_cons_zero, List.set_cons_succ]
                    refine tk 8 { dst := some 51, op := .indexAddr 22 (.tmp 48) (.tmp 50), type := 0, pos := "law.go:120", after := #[{ on := 5, ground := .data }, { on := 7, ground := .data }], guard := none } _ ?_
                    try simp only [Act.put, List.setIfInBounds_toArray, List.set_cons_zero, List.set_cons_succ]
                    refine tk 9 { dst := some 52, op := .load 3 (.tmp 51), type := 3, pos := "law.go:120", after := #[{ on := 8, ground := .data }], guard := none } _ ?_
                    try simp only [Act.put, List.setIfInBounds_toArray, List.set_cons_zero, List.set_cons_succ]
                    refine tk 10 { dst := some 53, op := .binOp .eql 3 (.tmp 47) (.tmp 52) 3, type := 4, pos := "law.go:120", after := #[{ on := 4, ground := .data }, { on := 9, ground := .data }], guard := none } _ ?_
                    try simp only [Act.put, List.setIfInBounds_toArray, List.set_cons_zero, List.set_cons_succ]
                    refine tk 11 { dst := some 54, op := .move (.tmp 53), type := 4, pos := "law.go:120", after := #[{ on := 10, ground := .data }], guard := none } _ ?_
                    try simp only [Act.put, List.setIfInBounds_toArray, List.set_cons_zero, List.set_cons_succ]
                    refine tk 12 { dst := some 55, op := .move (.tmp 9), type := 28, pos := "law.go:120", after := #[{ on := 11, ground := .guard }], guard := some (11, true) } _ ?_
                    try simp only [Act.put, List.setIfInBounds_toArray, List.set_cons_zero, List.set_cons_succ]
                    refine tk 13 { dst := some 56, op := .move (.tmp 10), type := 3, pos := "law.go:120", after := #[{ on := 11, ground := .guard }], guard := some (11, true) } _ ?_
                    try simp only [Act.put, List.setIfInBounds_toArray, List.set_cons_zero, List.set_cons_succ]
                    refine wpAnyH_ready (rs := [14]) (by kernel_rfl) (by simp) ?_
                    refine AllReadyH.cons (o := { dst := some 57, op := .call { callee := .value (.func 17), args := #[.tmp 55, .tmp 56], argTypes := #[28, 3] }, type := 4, pos := "law.go:120", after := #[{ on := 12, ground := .data }, { on := 13, ground := .data }, { on := 11, ground := .chain }, { on := 11, ground := .guard }], guard := some (11, true) }) rfl (fun KQ hKQ => ?_) AllReadyH.nil
                    go_simp
                    refine ca.out.mono ?_
                    rintro e y9 ⟨rfl, rfl⟩
                    go_wp2_with fail
                    refine hKQ.out _ _ ?s_14 (fun hHeld14 => ?_)
                    case s_14 => exact ⟨hcx, hcx2⟩
                    clear hKQ KQ
                    try simp only [Act.put, List.setIfInBounds_toArray, List.set_cons_zero, List.set_cons_succ]
                    refine tk 15 { dst := some 58, op := .pick (.tmp 54) (.tmp 57) (.const (.bool false)), type := 4, pos := "law.go:120", after := #[{ on := 11, ground := .data }, { on := 14, ground := .data }], guard := none } _ ?_
                    try simp only [Act.put, List.setIfInBounds_toArray, List.set_cons_zero, List.set_cons_succ]
                    refine tk 16 { dst := some 59, op := .move (.tmp 58), type := 4, pos := "law.go:120", after := #[{ on := 15, ground := .data }, { on := 14, ground := .chain }], guard := none } _ ?_
                    try simp only [Act.put, List.setIfInBounds_toArray, List.set_cons_zero, List.set_cons_succ]
                    refine tk 17 { dst := some 60, op := .move (.tmp 9), type := 28, pos := "law.go:120", after := #[{ on := 16, ground := .guard }], guard := some (16, true) } _ ?_
                    try simp only [Act.put, List.setIfInBounds_toArray, List.set_cons_zero, List.set_cons_succ]
                    refine tk 18 { dst := some 61, op := .move (.tmp 11), type := 3, pos := "law.go:120", after := #[{ on := 16, ground := .guard }], guard := some (16, true) } _ ?_
                    try simp only [Act.put, List.setIfInBounds_toArray, List.set_cons_zero, List.set_cons_succ]
                    refine wpAnyH_ready (rs := [19]) (by kernel_rfl) (by simp) ?_
                    refine AllReadyH.cons (o := { dst := some 62, op := .call { callee := .value (.func 17), args := #[.tmp 60, .tmp 61], argTypes := #[28, 3] }, type := 4, pos := "law.go:120", after := #[{ on := 17, ground := .data }, { on := 18, ground := .data }, { on := 16, ground := .chain }, { on := 16, ground := .guard }], guard := some (16, true) }) rfl (fun KQ hKQ => ?_) AllReadyH.nil
                    go_simp
                    refine cb.out.mono ?_
                    rintro e y9 ⟨rfl, rfl⟩
                    go_wp2_with fail
                    refine hKQ.out _ _ ?s_19 (fun hHeld19 => ?_)
                    case s_19 => exact ⟨hcx, hcx2⟩
                    clear hKQ KQ
                    try simp only [Act.put, List.setIfInBounds_toArray, List.set_cons_zero, List.set_cons_succ]
                    refine tk 20 { dst := some 63, op := .unOp .not 4 (.tmp 62), type := 4, pos := "law.go:120", after := #[{ on := 19, ground := .data }, { on := 16, ground := .guard }], guard := some (16, true) } _ ?_
                    try simp only [Act.put, List.setIfInBounds_toArray, List.set_cons_zero, List.set_cons_succ]
                    refine tk 21 { dst := some 64, op := .pick (.tmp 59) (.tmp 63) (.const (.bool false)), type := 4, pos := "law.go:120", after := #[{ on := 16, ground := .data }, { on := 20, ground := .data }], guard := none } _ ?_
                    try simp only [Act.put, List.setIfInBounds_toArray, List.set_cons_zero, List.set_cons_succ]
                    refine tk 22 { dst := some 65, op := .move (.tmp 64), type := 4, pos := "law.go:120", after := #[{ on := 21, ground := .data }, { on := 19, ground := .chain }], guard := none } _ ?_
                    try simp only [Act.put, List.setIfInBounds_toArray, List.set_cons_zero, List.set_cons_succ]
                    refine tk 23 { dst := some 66, op := .move (.tmp 2), type := 22, pos := "law.go:120", after := #[{ on := 22, ground := .guard }], guard := some (22, true) } _ ?_
                    try simp only [Act.put, List.setIfInBounds_toArray, List.set_cons_zero, List.set_cons_succ]
                    refine tk 24 { dst := some 67, op := .move (.tmp 10), type := 3, pos := "law.go:120", after := #[{ on := 22, ground := .guard }], guard := some (22, true) } _ ?_
                    try simp only [Act.put, List.setIfInBounds_toArray, List.set_cons_zero, List.set_cons_succ]
                    refine tk 26 { dst := some 69, op := .move (.tmp 2), type := 22, pos := "law.go:120", after := #[{ on := 22, ground := .guard }], guard := some (22, true) } _ ?_
                    try simp only [Act.put, List.setIfInBounds_toArray, List.set_cons_zero, List.set_cons_succ]
                    refine tk 27 { dst := some 70, op := .move (.tmp 11), type := 3, pos := "law.go:120", after := #[{ on := 22, ground := .guard }], guard := some (22, true) } _ ?_
                    try simp only [Act.put, List.setIfInBounds_toArray, List.set_cons_zero, List.set_cons_succ]
                    refine wpAnyH_ready (rs := [25]) (by kernel_rfl) (by simp) ?_
                    refine AllReadyH.cons (o := { dst := some 68, op := .call { callee := .value (.func 23), args := #[.tmp 66, .tmp 67], argTypes := #[22, 3] }, type := 3, pos := "law.go:120", after := #[{ on := 23, ground := .data }, { on := 24, ground := .data }, { on := 22, ground := .chain }, { on := 22, ground := .guard }], guard := some (22, true) }) rfl (fun KQ hKQ => ?_) AllReadyH.nil
                    go_simp
                    refine la.out.mono ?_
                    rintro e y9 ⟨rfl, rfl⟩
                    go_wp2_with fail
                    refine hKQ.out _ _ ?s_25 (fun hHeld25 => ?_)
                    case s_25 => exact ⟨hcx, hcx2⟩
                    clear hKQ KQ
                    try simp only [Act.put, List.setIfInBounds_toArray, List.set_cons_zero, List.set_cons_succ]
                    refine wpAnyH_ready (rs := [28]) (by kernel_rfl) (by simp) ?_
                    refine AllReadyH.cons (o := { dst := some 71, op := .call { callee := .value (.func 23), args := #[.tmp 69, .tmp 70], argTypes := #[22, 3] }, type := 3, pos := "law.go:120", after := #[{ on := 26, ground := .data }, { on := 27, ground := .data }, { on := 25, ground := .chain }, { on := 22, ground := .guard }], guard := some (22, true) }) rfl (fun KQ hKQ => ?_) AllReadyH.nil
                    go_simp
                    refine lb.out.mono ?_
                    rintro e y9 ⟨rfl, rfl⟩
                    go_wp2_with fail
                    refine hKQ.out _ _ ?s_28 (fun hHeld28 => ?_)
                    case s_28 => exact ⟨hcx, hcx2⟩
                    clear hKQ KQ
                    try simp only [Act.put, List.setIfInBounds_toArray, List.set_cons_zero, List.set_cons_succ]
                    refine tk 29 { dst := some 72, op := .binOp .gtr 3 (.tmp 68) (.tmp 71) 3, type := 4, pos := "law.go:120", after := #[{ on := 25, ground := .data }, { on := 28, ground := .data }, { on := 22, ground := .guard }], guard := some (22, true) } _ ?_
                    try simp only [Act.put, List.setIfInBounds_toArray, List.set_cons_zero, List.set_cons_succ]
                    refine tk 30 { dst := some 73, op := .move (.tmp 72), type := 4, pos := "law.go:120", after := #[{ on := 29, ground := .data }, { on := 28, ground := .chain }, { on := 22, ground := .guard }], guard := some (22, true) } _ ?_
                    try simp only [Act.put, List.setIfInBounds_toArray, List.set_cons_zero, List.set_cons_succ]
                    refine tk 31 { dst := some 74, op := .move (.tmp 2), type := 22, pos := "law.go:120", after := #[{ on := 30, ground := .guard }], guard := some (30, false) } _ ?_
                    try simp only [Act.put, List.setIfInBounds_toArray, List.set_cons_zero, List.set_cons_succ]
                    refine tk 32 { dst := some 75, op := .move (.tmp 10), type := 3, pos := "law.go:120", after := #[{ on := 30, ground := .guard }], guard := some (30, false) } _ ?_
                    try simp only [Act.put, List.setIfInBounds_toArray, List.set_cons_zero, List.set_cons_succ]
                    refine tk 34 { dst := some 77, op := .move (.tmp 2), type := 22, pos := "law.go:120", after := #[{ on := 30, ground := .guard }], guard := some (30, false) } _ ?_
                    try simp only [Act.put, List.setIfInBounds_toArray, List.set_cons_zero, List.set_cons_succ]
                    refine tk 35 { dst := some 78, op := .move (.tmp 11), type := 3, pos := "law.go:120", after := #[{ on := 30, ground := .guard }], guard := some (30, false) } _ ?_
                    try simp only [Act.put, List.setIfInBounds_toArray, List.set_cons_zero, List.set_cons_succ]
                    refine wpAnyH_ready (rs := [33]) (by kernel_rfl) (by simp) ?_
                    refine AllReadyH.cons (o := { dst := some 76, op := .call { callee := .value (.func 23), args := #[.tmp 74, .tmp 75], argTypes := #[22, 3] }, type := 3, pos := "law.go:120", after := #[{ on := 31, ground := .data }, { on := 32, ground := .data }, { on := 30, ground := .chain }, { on := 30, ground := .guard }], guard := some (30, false) }) rfl (fun KQ hKQ => ?_) AllReadyH.nil
                    go_simp
                    refine la.out.mono ?_
                    rintro e y9 ⟨rfl, rfl⟩
                    go_wp2_with fail
                    refine hKQ.out _ _ ?s_33 (fun hHeld33 => ?_)
                    case s_33 => exact ⟨hcx, hcx2⟩
                    clear hKQ KQ
                    try simp only [Act.put, List.setIfInBounds_toArray, List.set_cons_zero, List.set_cons_succ]
                    refine wpAnyH_ready (rs := [36]) (by kernel_rfl) (by simp) ?_
                    refine AllReadyH.cons (o := { dst := some 79, op := .call { callee := .value (.func 23), args := #[.tmp 77, .tmp 78], argTypes := #[22, 3] }, type := 3, pos := "law.go:120", after := #[{ on := 34, ground := .data }, { on := 35, ground := .data }, { on := 33, ground := .chain }, { on := 30, ground := .guard }], guard := some (30, false) }) rfl (fun KQ hKQ => ?_) AllReadyH.nil
                    go_simp
                    refine lb.out.mono ?_
                    rintro e y9 ⟨rfl, rfl⟩
                    go_wp2_with fail
                    refine hKQ.out _ _ ?s_36 (fun hHeld36 => ?_)
                    case s_36 => exact ⟨hcx, hcx2⟩
                    clear hKQ KQ
                    try simp only [Act.put, List.setIfInBounds_toArray, List.set_cons_zero, List.set_cons_succ]
                    refine tk 37 { dst := some 80, op := .binOp .eql 3 (.tmp 76) (.tmp 79) 3, type := 4, pos := "law.go:120", after := #[{ on := 33, ground := .data }, { on := 36, ground := .data }, { on := 30, ground := .guard }], guard := some (30, false) } _ ?_
                    try simp only [Act.put, List.setIfInBounds_toArray, List.set_cons_zero, List.set_cons_succ]
                    refine tk 38 { dst := some 81, op := .move (.tmp 80), type := 4, pos := "law.go:120", after := #[{ on := 37, ground := .data }, { on := 36, ground := .chain }, { on := 30, ground := .guard }], guard := some (30, false) } _ ?_
                    try simp only [Act.put, List.setIfInBounds_toArray, List.set_cons_zero, List.set_cons_succ]
                    refine tk 39 { dst := some 82, op := .move (.tmp 10), type := 3, pos := "law.go:120", after := #[{ on := 38, ground := .guard }], guard := some (38, true) } _ ?_
                    try simp only [Act.put, List.setIfInBounds_toArray, List.set_cons_zero, List.set_cons_succ]
                    refine tk 40 { dst := some 83, op := .move (.tmp 11), type := 3, pos := "law.go:120", after := #[{ on := 38, ground := .guard }], guard := some (38, true) } _ ?_
                    try simp only [Act.put, List.setIfInBounds_toArray, List.set_cons_zero, List.set_cons_succ]
                    refine tk 41 { dst := some 84, op := .binOp .gtr 3 (.tmp 82) (.tmp 83) 3, type := 4, pos := "law.go:120", after := #[{ on := 39, ground := .data }, { on := 40, ground := .data }, { on := 38, ground := .guard }], guard := some (38, true) } _ ?_
                    try simp only [Act.put, List.setIfInBounds_toArray, List.set_cons_zero, List.set_cons_succ]
                    refine tk 42 { dst := some 85, op := .pick (.tmp 81) (.tmp 84) (.const (.bool false)), type := 4, pos := "law.go:120", after := #[{ on := 38, ground := .data }, { on := 41, ground := .data }, { on := 30, ground := .guard }], guard := some (30, false) } _ ?_
                    try simp only [Act.put, List.setIfInBounds_toArray, List.set_cons_zero, List.set_cons_succ]
                    refine tk 43 { dst := some 86, op := .pick (.tmp 73) (.const (.bool true)) (.tmp 85), type := 4, pos := "law.go:120", after := #[{ on := 30, ground := .data }, { on := 42, ground := .data }, { on := 22, ground := .guard }], guard := some (22, true) } _ ?_
                    try simp only [Act.put, List.setIfInBounds_toArray, List.set_cons_zero, List.set_cons_succ]
                    refine tk 44 { dst := some 87, op := .pick (.tmp 65) (.tmp 86) (.const (.bool false)), type := 4, pos := "law.go:120", after := #[{ on := 22, ground := .data }, { on := 43, ground := .data }], guard := none } _ ?_
                    try simp only [Act.put, List.setIfInBounds_toArray, List.set_cons_zero, List.set_cons_succ]
                    refine wpAnyH_done (by kernel_rfl) ?_ _
                    go_wp2_with fail
                    clear wi wj li lj e1 e2
                    go_round
                    case rel => exact ⟨j + 1, by omega, by go_num, hBs.drew⟩
                    case measure => simp [intOf]; omega
                  · have g6 : (da == db) = false := by rw [beq_eq_false_iff_ne]; exact gl
                    clear hle hB
                    refine wp_region_held_drew (S := fun wq => wq.cell? ⟨b, o + i, none⟩ = some (.int .i64 x) ∧ wq.cell? ⟨b, o + j, none⟩ = some (.int .i64 x)) (by kernel_rfl) ⟨hcx, hcx2⟩ (fun hHeld => ?_)
                    refine tk 0 { dst := some 43, op := .move (.tmp 0), type := 22, pos := "law.go:120", after := #[], guard := none } _ ?_
                    try simp only [Act.put, List.setIfInBounds_toArray, List.set_cons_zero, List.set_cons_succ]
                    refine tk 1 { dst := some 44, op := .move (.tmp 10), type := 3, pos := "law.go:120", after := #[], guard := none } _ ?_
                    try simp only [Act.put, List.setIfInBounds_toArray, List.set_cons_zero, List.set_cons_succ]
                    refine tk 2 { dst := some 45, op := .binOp .sub 3 (.tmp 44) (.const (.int .i64 1)) 3, type := 3, pos := "law.go:120", after := #[{ on := 1, ground := .data }], guard := none } _ ?_
                    try simp only [Act.put, List.setIfInBounds_toArray, List.set_cons_zero, List.set_cons_succ]
                    refine tk 3 { dst := some 46, op := .indexAddr 22 (.tmp 43) (.tmp 45), type := 0, pos := "law.go:120", after := #[{ on := 0, ground := .data }, { on := 2, ground := .data }], guard := none } _ ?_
                    try simp only [Act.put, List.setIfInBounds_toArray, List.set_cons_zero, List.set_cons_succ]
                    refine tk 4 { dst := some 47, op := .load 3 (.tmp 46), type := 3, pos := "law.go:120", after := #[{ on := 3, ground := .data }], guard := none } _ ?_
                    try simp only [Act.put, List.setIfInBounds_toArray, List.set_cons_zero, List.set_cons_succ]
                    refine tk 5 { dst := some 48, op := .move (.tmp 0), type := 22, pos := "law.go:120", after := #[], guard := none } _ ?_
                    try simp only [Act.put, List.setIfInBounds_toArray, List.set_cons_zero, List.set_cons_succ]
                    refine tk 6 { dst := some 49, op := .move (.tmp 11), type := 3, pos := "law.go:120", after := #[], guard := none } _ ?_
                    try simp only [Act.put, List.setIfInBounds_toArray, List.set_cons_zero, List.set_cons_succ]
                    refine tk 7 { dst := some 50, op := .binOp .sub 3 (.tmp 49) (.const (.int .i64 1)) 3, type := 3, pos := "law.go:120", after := #[{ on := 6, ground := .data }], guard := none } _ ?_
                    try simp only [Act.put, List.setIfInBounds_toArray, List.set_cons_zero, List.set_cons_succ]
                    refine tk 8 { dst := some 51, op := .indexAddr 22 (.tmp 48) (.tmp 50), type := 0, pos := "law.go:120", after := #[{ on := 5, ground := .data }, { on := 7, ground := .data }], guard := none } _ ?_
                    try simp only [Act.put, List.setIfInBounds_toArray, List.set_cons_zero, List.set_cons_succ]
                    refine tk 9 { dst := some 52, op := .load 3 (.tmp 51), type := 3, pos := "law.go:120", after := #[{ on := 8, ground := .data }], guard := none } _ ?_
                    try simp only [Act.put, List.setIfInBounds_toArray, List.set_cons_zero, List.set_cons_succ]
                    refine tk 10 { dst := some 53, op := .binOp .eql 3 (.tmp 47) (.tmp 52) 3, type := 4, pos := "law.go:120", after := #[{ on := 4, ground := .data }, { on := 9, ground := .data }], guard := none } _ ?_
                    try simp only [Act.put, List.setIfInBounds_toArray, List.set_cons_zero, List.set_cons_succ]
                    refine tk 11 { dst := some 54, op := .move (.tmp 53), type := 4, pos := "law.go:120", after := #[{ on := 10, ground := .data }], guard := none } _ ?_
                    try simp only [Act.put, List.setIfInBounds_toArray, List.set_cons_zero, List.set_cons_succ]
                    refine tk 12 { dst := some 55, op := .move (.tmp 9), type := 28, pos := "law.go:120", after := #[{ on := 11, ground := .guard }], guard := some (11, true) } _ ?_
                    try simp only [Act.put, List.setIfInBounds_toArray, List.set_cons_zero, List.set_cons_succ]
                    refine tk 13 { dst := some 56, op := .move (.tmp 10), type := 3, pos := "law.go:120", after := #[{ on := 11, ground := .guard }], guard := some (11, true) } _ ?_
                    try simp only [Act.put, List.setIfInBounds_toArray, List.set_cons_zero, List.set_cons_succ]
                    refine wpAnyH_ready (rs := [14]) (by kernel_rfl) (by simp) ?_
                    refine AllReadyH.cons (o := { dst := some 57, op := .call { callee := .value (.func 17), args := #[.tmp 55, .tmp 56], argTypes := #[28, 3] }, type := 4, pos := "law.go:120", after := #[{ on := 12, ground := .data }, { on := 13, ground := .data }, { on := 11, ground := .chain }, { on := 11, ground := .guard }], guard := some (11, true) }) rfl (fun KQ hKQ => ?_) AllReadyH.nil
                    go_simp
                    refine ca.out.mono ?_
                    rintro e y9 ⟨rfl, rfl⟩
                    go_wp2_with fail
                    refine hKQ.out _ _ ?s_14 (fun hHeld14 => ?_)
                    case s_14 => exact ⟨hcx, hcx2⟩
                    clear hKQ KQ
                    try simp only [Act.put, List.setIfInBounds_toArray, List.set_cons_zero, List.set_cons_succ]
                    refine tk 15 { dst := some 58, op := .pick (.tmp 54) (.tmp 57) (.const (.bool false)), type := 4, pos := "law.go:120", after := #[{ on := 11, ground := .data }, { on := 14, ground := .data }], guard := none } _ ?_
                    try simp only [Act.put, List.setIfInBounds_toArray, List.set_cons_zero, List.set_cons_succ]
                    refine tk 16 { dst := some 59, op := .move (.tmp 58), type := 4, pos := "law.go:120", after := #[{ on := 15, ground := .data }, { on := 14, ground := .chain }], guard := none } _ ?_
                    try simp only [Act.put, List.setIfInBounds_toArray, List.set_cons_zero, List.set_cons_succ]
                    refine tk 17 { dst := some 60, op := .move (.tmp 9), type := 28, pos := "law.go:120", after := #[{ on := 16, ground := .guard }], guard := some (16, true) } _ ?_
                    try simp only [Act.put, List.setIfInBounds_toArray, List.set_cons_zero, List.set_cons_succ]
                    refine tk 18 { dst := some 61, op := .move (.tmp 11), type := 3, pos := "law.go:120", after := #[{ on := 16, ground := .guard }], guard := some (16, true) } _ ?_
                    try simp only [Act.put, List.setIfInBounds_toArray, List.set_cons_zero, List.set_cons_succ]
                    refine wpAnyH_ready (rs := [19]) (by kernel_rfl) (by simp) ?_
                    refine AllReadyH.cons (o := { dst := some 62, op := .call { callee := .value (.func 17), args := #[.tmp 60, .tmp 61], argTypes := #[28, 3] }, type := 4, pos := "law.go:120", after := #[{ on := 17, ground := .data }, { on := 18, ground := .data }, { on := 16, ground := .chain }, { on := 16, ground := .guard }], guard := some (16, true) }) rfl (fun KQ hKQ => ?_) AllReadyH.nil
                    go_simp
                    refine cb.out.mono ?_
                    rintro e y9 ⟨rfl, rfl⟩
                    go_wp2_with fail
                    refine hKQ.out _ _ ?s_19 (fun hHeld19 => ?_)
                    case s_19 => exact ⟨hcx, hcx2⟩
                    clear hKQ KQ
                    try simp only [Act.put, List.setIfInBounds_toArray, List.set_cons_zero, List.set_cons_succ]
                    refine tk 20 { dst := some 63, op := .unOp .not 4 (.tmp 62), type := 4, pos := "law.go:120", after := #[{ on := 19, ground := .data }, { on := 16, ground := .guard }], guard := some (16, true) } _ ?_
                    try simp only [Act.put, List.setIfInBounds_toArray, List.set_cons_zero, List.set_cons_succ]
                    refine tk 21 { dst := some 64, op := .pick (.tmp 59) (.tmp 63) (.const (.bool false)), type := 4, pos := "law.go:120", after := #[{ on := 16, ground := .data }, { on := 20, ground := .data }], guard := none } _ ?_
                    try simp only [Act.put, List.setIfInBounds_toArray, List.set_cons_zero, List.set_cons_succ]
                    refine tk 22 { dst := some 65, op := .move (.tmp 64), type := 4, pos := "law.go:120", after := #[{ on := 21, ground := .data }, { on := 19, ground := .chain }], guard := none } _ ?_
                    try simp only [Act.put, List.setIfInBounds_toArray, List.set_cons_zero, List.set_cons_succ]
                    refine tk 23 { dst := some 66, op := .move (.tmp 2), type := 22, pos := "law.go:120", after := #[{ on := 22, ground := .guard }], guard := some (22, true) } _ ?_
                    try simp only [Act.put, List.setIfInBounds_toArray, List.set_cons_zero, List.set_cons_succ]
                    refine tk 24 { dst := some 67, op := .move (.tmp 10), type := 3, pos := "law.go:120", after := #[{ on := 22, ground := .guard }], guard := some (22, true) } _ ?_
                    try simp only [Act.put, List.setIfInBounds_toArray, List.set_cons_zero, List.set_cons_succ]
                    refine tk 26 { dst := some 69, op := .move (.tmp 2), type := 22, pos := "law.go:120", after := #[{ on := 22, ground := .guard }], guard := some (22, true) } _ ?_
                    try simp only [Act.put, List.setIfInBounds_toArray, List.set_cons_zero, List.set_cons_succ]
                    refine tk 27 { dst := some 70, op := .move (.tmp 11), type := 3, pos := "law.go:120", after := #[{ on := 22, ground := .guard }], guard := some (22, true) } _ ?_
                    try simp only [Act.put, List.setIfInBounds_toArray, List.set_cons_zero, List.set_cons_succ]
                    refine wpAnyH_ready (rs := [25]) (by kernel_rfl) (by simp) ?_
                    refine AllReadyH.cons (o := { dst := some 68, op := .call { callee := .value (.func 23), args := #[.tmp 66, .tmp 67], argTypes := #[22, 3] }, type := 3, pos := "law.go:120", after := #[{ on := 23, ground := .data }, { on := 24, ground := .data }, { on := 22, ground := .chain }, { on := 22, ground := .guard }], guard := some (22, true) }) rfl (fun KQ hKQ => ?_) AllReadyH.nil
                    go_simp
                    refine la.out.mono ?_
                    rintro e y9 ⟨rfl, rfl⟩
                    go_wp2_with fail
                    refine hKQ.out _ _ ?s_25 (fun hHeld25 => ?_)
                    case s_25 => exact ⟨hcx, hcx2⟩
                    clear hKQ KQ
                    try simp only [Act.put, List.setIfInBounds_toArray, List.set_cons_zero, List.set_cons_succ]
                    refine wpAnyH_ready (rs := [28]) (by kernel_rfl) (by simp) ?_
                    refine AllReadyH.cons (o := { dst := some 71, op := .call { callee := .value (.func 23), args := #[.tmp 69, .tmp 70], argTypes := #[22, 3] }, type := 3, pos := "law.go:120", after := #[{ on := 26, ground := .data }, { on := 27, ground := .data }, { on := 25, ground := .chain }, { on := 22, ground := .guard }], guard := some (22, true) }) rfl (fun KQ hKQ => ?_) AllReadyH.nil
                    go_simp
                    refine lb.out.mono ?_
                    rintro e y9 ⟨rfl, rfl⟩
                    go_wp2_with fail
                    refine hKQ.out _ _ ?s_28 (fun hHeld28 => ?_)
                    case s_28 => exact ⟨hcx, hcx2⟩
                    clear hKQ KQ
                    try simp only [Act.put, List.setIfInBounds_toArray, List.set_cons_zero, List.set_cons_succ]
                    refine tk 29 { dst := some 72, op := .binOp .gtr 3 (.tmp 68) (.tmp 71) 3, type := 4, pos := "law.go:120", after := #[{ on := 25, ground := .data }, { on := 28, ground := .data }, { on := 22, ground := .guard }], guard := some (22, true) } _ ?_
                    try simp only [Act.put, List.setIfInBounds_toArray, List.set_cons_zero, List.set_cons_succ]
                    refine tk 30 { dst := some 73, op := .move (.tmp 72), type := 4, pos := "law.go:120", after := #[{ on := 29, ground := .data }, { on := 28, ground := .chain }, { on := 22, ground := .guard }], guard := some (22, true) } _ ?_
                    try simp only [Act.put, List.setIfInBounds_toArray, List.set_cons_zero, List.set_cons_succ]
                    refine tk 31 { dst := some 74, op := .move (.tmp 2), type := 22, pos := "law.go:120", after := #[{ on := 30, ground := .guard }], guard := some (30, false) } _ ?_
                    try simp only [Act.put, List.setIfInBounds_toArray, List.set_cons_zero, List.set_cons_succ]
                    refine tk 32 { dst := some 75, op := .move (.tmp 10), type := 3, pos := "law.go:120", after := #[{ on := 30, ground := .guard }], guard := some (30, false) } _ ?_
                    try simp only [Act.put, List.setIfInBounds_toArray, List.set_cons_zero, List.set_cons_succ]
                    refine tk 34 { dst := some 77, op := .move (.tmp 2), type := 22, pos := "law.go:120", after := #[{ on := 30, ground := .guard }], guard := some (30, false) } _ ?_
                    try simp only [Act.put, List.setIfInBounds_toArray, List.set_cons_zero, List.set_cons_succ]
                    refine tk 35 { dst := some 78, op := .move (.tmp 11), type := 3, pos := "law.go:120", after := #[{ on := 30, ground := .guard }], guard := some (30, false) } _ ?_
                    try simp only [Act.put, List.setIfInBounds_toArray, List.set_cons_zero, List.set_cons_succ]
                    refine wpAnyH_ready (rs := [33]) (by kernel_rfl) (by simp) ?_
                    refine AllReadyH.cons (o := { dst := some 76, op := .call { callee := .value (.func 23), args := #[.tmp 74, .tmp 75], argTypes := #[22, 3] }, type := 3, pos := "law.go:120", after := #[{ on := 31, ground := .data }, { on := 32, ground := .data }, { on := 30, ground := .chain }, { on := 30, ground := .guard }], guard := some (30, false) }) rfl (fun KQ hKQ => ?_) AllReadyH.nil
                    go_simp
                    refine la.out.mono ?_
                    rintro e y9 ⟨rfl, rfl⟩
                    go_wp2_with fail
                    refine hKQ.out _ _ ?s_33 (fun hHeld33 => ?_)
                    case s_33 => exact ⟨hcx, hcx2⟩
                    clear hKQ KQ
                    try simp only [Act.put, List.setIfInBounds_toArray, List.set_cons_zero, List.set_cons_succ]
                    refine wpAnyH_ready (rs := [36]) (by kernel_rfl) (by simp) ?_
                    refine AllReadyH.cons (o := { dst := some 79, op := .call { callee := .value (.func 23), args := #[.tmp 77, .tmp 78], argTypes := #[22, 3] }, type := 3, pos := "law.go:120", after := #[{ on := 34, ground := .data }, { on := 35, ground := .data }, { on := 33, ground := .chain }, { on := 30, ground := .guard }], guard := some (30, false) }) rfl (fun KQ hKQ => ?_) AllReadyH.nil
                    go_simp
                    refine lb.out.mono ?_
                    rintro e y9 ⟨rfl, rfl⟩
                    go_wp2_with fail
                    refine hKQ.out _ _ ?s_36 (fun hHeld36 => ?_)
                    case s_36 => exact ⟨hcx, hcx2⟩
                    clear hKQ KQ
                    try simp only [Act.put, List.setIfInBounds_toArray, List.set_cons_zero, List.set_cons_succ]
                    refine tk 37 { dst := some 80, op := .binOp .eql 3 (.tmp 76) (.tmp 79) 3, type := 4, pos := "law.go:120", after := #[{ on := 33, ground := .data }, { on := 36, ground := .data }, { on := 30, ground := .guard }], guard := some (30, false) } _ ?_
                    try simp only [Act.put, List.setIfInBounds_toArray, List.set_cons_zero, List.set_cons_succ]
                    refine tk 38 { dst := some 81, op := .move (.tmp 80), type := 4, pos := "law.go:120", after := #[{ on := 37, ground := .data }, { on := 36, ground := .chain }, { on := 30, ground := .guard }], guard := some (30, false) } _ ?_
                    try simp only [Act.put, List.setIfInBounds_toArray, List.set_cons_zero, List.set_cons_succ]
                    refine tu 39 { dst := some 82, op := .move (.tmp 10), type := 3, pos := "law.go:120", after := #[{ on := 38, ground := .guard }], guard := some (38, true) } ?_
                    try simp only [Act.put, List.setIfInBounds_toArray, List.set_cons_zero, List.set_cons_succ]
                    refine tu 40 { dst := some 83, op := .move (.tmp 11), type := 3, pos := "law.go:120", after := #[{ on := 38, ground := .guard }], guard := some (38, true) } ?_
                    try simp only [Act.put, List.setIfInBounds_toArray, List.set_cons_zero, List.set_cons_succ]
                    refine tu 41 { dst := some 84, op := .binOp .gtr 3 (.tmp 82) (.tmp 83) 3, type := 4, pos := "law.go:120", after := #[{ on := 39, ground := .data }, { on := 40, ground := .data }, { on := 38, ground := .guard }], guard := some (38, true) } ?_
                    try simp only [Act.put, List.setIfInBounds_toArray, List.set_cons_zero, List.set_cons_succ]
                    refine tk 42 { dst := some 85, op := .pick (.tmp 81) (.tmp 84) (.const (.bool false)), type := 4, pos := "law.go:120", after := #[{ on := 38, ground := .data }, { on := 41, ground := .data }, { on := 30, ground := .guard }], guard := some (30, false) } _ ?_
                    try simp only [Act.put, List.setIfInBounds_toArray, List.set_cons_zero, List.set_cons_succ]
                    refine tk 43 { dst := some 86, op := .pick (.tmp 73) (.const (.bool true)) (.tmp 85), type := 4, pos := "law.go:120", after := #[{ on := 30, ground := .data }, { on := 42, ground := .data }, { on := 22, ground := .guard }], guard := some (22, true) } _ ?_
                    try simp only [Act.put, List.setIfInBounds_toArray, List.set_cons_zero, List.set_cons_succ]
                    refine tk 44 { dst := some 87, op := .pick (.tmp 65) (.tmp 86) (.const (.bool false)), type := 4, pos := "law.go:120", after := #[{ on := 22, ground := .data }, { on := 43, ground := .data }], guard := none } _ ?_
                    try simp only [Act.put, List.setIfInBounds_toArray, List.set_cons_zero, List.set_cons_succ]
                    refine wpAnyH_done (by kernel_rfl) ?_ _
                    go_wp2_with fail
                    clear wi wj li lj e1 e2
                    go_round
                    case rel => exact ⟨j + 1, by omega, by go_num, hBs.drew⟩
                    case measure => simp [intOf]; omega
                · refine wp_region_held_drew (S := fun wq => wq.cell? ⟨b, o + i, none⟩ = some (.int .i64 x) ∧ wq.cell? ⟨b, o + j, none⟩ = some (.int .i64 x)) (by kernel_rfl) ⟨hcx, hcx2⟩ (fun hHeld => ?_)
                  refine tk 0 { dst := some 43, op := .move (.tmp 0), type := 22, pos := "law.go:120", after := #[], guard := none } _ ?_
                  try simp only [Act.put, List.setIfInBounds_toArray, List.set_cons_zero, List.set_cons_succ]
                  refine tk 1 { dst := some 44, op := .move (.tmp 10), type := 3, pos := "law.go:120", after := #[], guard := none } _ ?_
                  try simp only [Act.put, List.setIfInBounds_toArray, List.set_cons_zero, List.set_cons_succ]
                  refine tk 2 { dst := some 45, op := .binOp .sub 3 (.tmp 44) (.const (.int .i64 1)) 3, type := 3, pos := "law.go:120", after := #[{ on := 1, ground := .data }], guard := none } _ ?_
                  try simp only [Act.put, List.setIfInBounds_toArray, List.set_cons_zero, List.set_cons_succ]
                  refine tk 3 { dst := some 46, op := .indexAddr 22 (.tmp 43) (.tmp 45), type := 0, pos := "law.go:120", after := #[{ on := 0, ground := .data }, { on := 2, ground := .data }], guard := none } _ ?_
                  try simp only [Act.put, List.setIfInBounds_toArray, List.set_cons_zero, List.set_cons_succ]
                  refine tk 4 { dst := some 47, op := .load 3 (.tmp 46), type := 3, pos := "law.go:120", after := #[{ on := 3, ground := .data }], guard := none } _ ?_
                  try simp only [Act.put, List.setIfInBounds_toArray, List.set_cons_zero, List.set_cons_succ]
                  refine tk 5 { dst := some 48, op := .move (.tmp 0), type := 22, pos := "law.go:120", after := #[], guard := none } _ ?_
                  try simp only [Act.put, List.setIfInBounds_toArray, List.set_cons_zero, List.set_cons_succ]
                  refine tk 6 { dst := some 49, op := .move (.tmp 11), type := 3, pos := "law.go:120", after := #[], guard := none } _ ?_
                  try simp only [Act.put, List.setIfInBounds_toArray, List.set_cons_zero, List.set_cons_succ]
                  refine tk 7 { dst := some 50, op := .binOp .sub 3 (.tmp 49) (.const (.int .i64 1)) 3, type := 3, pos := "law.go:120", after := #[{ on := 6, ground := .data }], guard := none } _ ?_
                  try simp only [Act.put, List.setIfInBounds_toArray, List.set_cons_zero, List.set_cons_succ]
                  refine tk 8 { dst := some 51, op := .indexAddr 22 (.tmp 48) (.tmp 50), type := 0, pos := "law.go:120", after := #[{ on := 5, ground := .data }, { on := 7, ground := .data }], guard := none } _ ?_
                  try simp only [Act.put, List.setIfInBounds_toArray, List.set_cons_zero, List.set_cons_succ]
                  refine tk 9 { dst := some 52, op := .load 3 (.tmp 51), type := 3, pos := "law.go:120", after := #[{ on := 8, ground := .data }], guard := none } _ ?_
                  try simp only [Act.put, List.setIfInBounds_toArray, List.set_cons_zero, List.set_cons_succ]
                  refine tk 10 { dst := some 53, op := .binOp .eql 3 (.tmp 47) (.tmp 52) 3, type := 4, pos := "law.go:120", after := #[{ on := 4, ground := .data }, { on := 9, ground := .data }], guard := none } _ ?_
                  try simp only [Act.put, List.setIfInBounds_toArray, List.set_cons_zero, List.set_cons_succ]
                  refine tk 11 { dst := some 54, op := .move (.tmp 53), type := 4, pos := "law.go:120", after := #[{ on := 10, ground := .data }], guard := none } _ ?_
                  try simp only [Act.put, List.setIfInBounds_toArray, List.set_cons_zero, List.set_cons_succ]
                  refine tk 12 { dst := some 55, op := .move (.tmp 9), type := 28, pos := "law.go:120", after := #[{ on := 11, ground := .guard }], guard := some (11, true) } _ ?_
                  try simp only [Act.put, List.setIfInBounds_toArray, List.set_cons_zero, List.set_cons_succ]
                  refine tk 13 { dst := some 56, op := .move (.tmp 10), type := 3, pos := "law.go:120", after := #[{ on := 11, ground := .guard }], guard := some (11, true) } _ ?_
                  try simp only [Act.put, List.setIfInBounds_toArray, List.set_cons_zero, List.set_cons_succ]
                  refine wpAnyH_ready (rs := [14]) (by kernel_rfl) (by simp) ?_
                  refine AllReadyH.cons (o := { dst := some 57, op := .call { callee := .value (.func 17), args := #[.tmp 55, .tmp 56], argTypes := #[28, 3] }, type := 4, pos := "law.go:120", after := #[{ on := 12, ground := .data }, { on := 13, ground := .data }, { on := 11, ground := .chain }, { on := 11, ground := .guard }], guard := some (11, true) }) rfl (fun KQ hKQ => ?_) AllReadyH.nil
                  go_simp
                  refine ca.out.mono ?_
                  rintro e y9 ⟨rfl, rfl⟩
                  go_wp2_with fail
                  refine hKQ.out _ _ ?s_14 (fun hHeld14 => ?_)
                  case s_14 => exact ⟨hcx, hcx2⟩
                  clear hKQ KQ
                  try simp only [Act.put, List.setIfInBounds_toArray, List.set_cons_zero, List.set_cons_succ]
                  refine tk 15 { dst := some 58, op := .pick (.tmp 54) (.tmp 57) (.const (.bool false)), type := 4, pos := "law.go:120", after := #[{ on := 11, ground := .data }, { on := 14, ground := .data }], guard := none } _ ?_
                  try simp only [Act.put, List.setIfInBounds_toArray, List.set_cons_zero, List.set_cons_succ]
                  refine tk 16 { dst := some 59, op := .move (.tmp 58), type := 4, pos := "law.go:120", after := #[{ on := 15, ground := .data }, { on := 14, ground := .chain }], guard := none } _ ?_
                  try simp only [Act.put, List.setIfInBounds_toArray, List.set_cons_zero, List.set_cons_succ]
                  refine tk 17 { dst := some 60, op := .move (.tmp 9), type := 28, pos := "law.go:120", after := #[{ on := 16, ground := .guard }], guard := some (16, true) } _ ?_
                  try simp only [Act.put, List.setIfInBounds_toArray, List.set_cons_zero, List.set_cons_succ]
                  refine tk 18 { dst := some 61, op := .move (.tmp 11), type := 3, pos := "law.go:120", after := #[{ on := 16, ground := .guard }], guard := some (16, true) } _ ?_
                  try simp only [Act.put, List.setIfInBounds_toArray, List.set_cons_zero, List.set_cons_succ]
                  refine wpAnyH_ready (rs := [19]) (by kernel_rfl) (by simp) ?_
                  refine AllReadyH.cons (o := { dst := some 62, op := .call { callee := .value (.func 17), args := #[.tmp 60, .tmp 61], argTypes := #[28, 3] }, type := 4, pos := "law.go:120", after := #[{ on := 17, ground := .data }, { on := 18, ground := .data }, { on := 16, ground := .chain }, { on := 16, ground := .guard }], guard := some (16, true) }) rfl (fun KQ hKQ => ?_) AllReadyH.nil
                  go_simp
                  refine cb.out.mono ?_
                  rintro e y9 ⟨rfl, rfl⟩
                  go_wp2_with fail
                  refine hKQ.out _ _ ?s_19 (fun hHeld19 => ?_)
                  case s_19 => exact ⟨hcx, hcx2⟩
                  clear hKQ KQ
                  try simp only [Act.put, List.setIfInBounds_toArray, List.set_cons_zero, List.set_cons_succ]
                  refine tk 20 { dst := some 63, op := .unOp .not 4 (.tmp 62), type := 4, pos := "law.go:120", after := #[{ on := 19, ground := .data }, { on := 16, ground := .guard }], guard := some (16, true) } _ ?_
                  try simp only [Act.put, List.setIfInBounds_toArray, List.set_cons_zero, List.set_cons_succ]
                  refine tk 21 { dst := some 64, op := .pick (.tmp 59) (.tmp 63) (.const (.bool false)), type := 4, pos := "law.go:120", after := #[{ on := 16, ground := .data }, { on := 20, ground := .data }], guard := none } _ ?_
                  try simp only [Act.put, List.setIfInBounds_toArray, List.set_cons_zero, List.set_cons_succ]
                  refine tk 22 { dst := some 65, op := .move (.tmp 64), type := 4, pos := "law.go:120", after := #[{ on := 21, ground := .data }, { on := 19, ground := .chain }], guard := none } _ ?_
                  try simp only [Act.put, List.setIfInBounds_toArray, List.set_cons_zero, List.set_cons_succ]
                  refine tu 23 { dst := some 66, op := .move (.tmp 2), type := 22, pos := "law.go:120", after := #[{ on := 22, ground := .guard }], guard := some (22, true) } ?_
                  try simp only [Act.put, List.setIfInBounds_toArray, List.set_cons_zero, List.set_cons_succ]
                  refine tu 24 { dst := some 67, op := .move (.tmp 10), type := 3, pos := "law.go:120", after := #[{ on := 22, ground := .guard }], guard := some (22, true) } ?_
                  try simp only [Act.put, List.setIfInBounds_toArray, List.set_cons_zero, List.set_cons_succ]
                  refine tu 25 { dst := some 68, op := .call { callee := .value (.func 23), args := #[.tmp 66, .tmp 67], argTypes := #[22, 3] }, type := 3, pos := "law.go:120", after := #[{ on := 23, ground := .data }, { on := 24, ground := .data }, { on := 22, ground := .chain }, { on := 22, ground := .guard }], guard := some (22, true) } ?_
                  try simp only [Act.put, List.setIfInBounds_toArray, List.set_cons_zero, List.set_cons_succ]
                  refine tu 26 { dst := some 69, op := .move (.tmp 2), type := 22, pos := "law.go:120", after := #[{ on := 22, ground := .guard }], guard := some (22, true) } ?_
                  try simp only [Act.put, List.setIfInBounds_toArray, List.set_cons_zero, List.set_cons_succ]
                  refine tu 27 { dst := some 70, op := .move (.tmp 11), type := 3, pos := "law.go:120", after := #[{ on := 22, ground := .guard }], guard := some (22, true) } ?_
                  try simp only [Act.put, List.setIfInBounds_toArray, List.set_cons_zero, List.set_cons_succ]
                  refine tu 28 { dst := some 71, op := .call { callee := .value (.func 23), args := #[.tmp 69, .tmp 70], argTypes := #[22, 3] }, type := 3, pos := "law.go:120", after := #[{ on := 26, ground := .data }, { on := 27, ground := .data }, { on := 25, ground := .chain }, { on := 22, ground := .guard }], guard := some (22, true) } ?_
                  try simp only [Act.put, List.setIfInBounds_toArray, List.set_cons_zero, List.set_cons_succ]
                  refine tu 29 { dst := some 72, op := .binOp .gtr 3 (.tmp 68) (.tmp 71) 3, type := 4, pos := "law.go:120", after := #[{ on := 25, ground := .data }, { on := 28, ground := .data }, { on := 22, ground := .guard }], guard := some (22, true) } ?_
                  try simp only [Act.put, List.setIfInBounds_toArray, List.set_cons_zero, List.set_cons_succ]
                  refine tu 30 { dst := some 73, op := .move (.tmp 72), type := 4, pos := "law.go:120", after := #[{ on := 29, ground := .data }, { on := 28, ground := .chain }, { on := 22, ground := .guard }], guard := some (22, true) } ?_
                  try simp only [Act.put, List.setIfInBounds_toArray, List.set_cons_zero, List.set_cons_succ]
                  refine tu 31 { dst := some 74, op := .move (.tmp 2), type := 22, pos := "law.go:120", after := #[{ on := 30, ground := .guard }], guard := some (30, false) } ?_
                  try simp only [Act.put, List.setIfInBounds_toArray, List.set_cons_zero, List.set_cons_succ]
                  refine tu 32 { dst := some 75, op := .move (.tmp 10), type := 3, pos := "law.go:120", after := #[{ on := 30, ground := .guard }], guard := some (30, false) } ?_
                  try simp only [Act.put, List.setIfInBounds_toArray, List.set_cons_zero, List.set_cons_succ]
                  refine tu 33 { dst := some 76, op := .call { callee := .value (.func 23), args := #[.tmp 74, .tmp 75], argTypes := #[22, 3] }, type := 3, pos := "law.go:120", after := #[{ on := 31, ground := .data }, { on := 32, ground := .data }, { on := 30, ground := .chain }, { on := 30, ground := .guard }], guard := some (30, false) } ?_
                  try simp only [Act.put, List.setIfInBounds_toArray, List.set_cons_zero, List.set_cons_succ]
                  refine tu 34 { dst := some 77, op := .move (.tmp 2), type := 22, pos := "law.go:120", after := #[{ on := 30, ground := .guard }], guard := some (30, false) } ?_
                  try simp only [Act.put, List.setIfInBounds_toArray, List.set_cons_zero, List.set_cons_succ]
                  refine tu 35 { dst := some 78, op := .move (.tmp 11), type := 3, pos := "law.go:120", after := #[{ on := 30, ground := .guard }], guard := some (30, false) } ?_
                  try simp only [Act.put, List.setIfInBounds_toArray, List.set_cons_zero, List.set_cons_succ]
                  refine tu 36 { dst := some 79, op := .call { callee := .value (.func 23), args := #[.tmp 77, .tmp 78], argTypes := #[22, 3] }, type := 3, pos := "law.go:120", after := #[{ on := 34, ground := .data }, { on := 35, ground := .data }, { on := 33, ground := .chain }, { on := 30, ground := .guard }], guard := some (30, false) } ?_
                  try simp only [Act.put, List.setIfInBounds_toArray, List.set_cons_zero, List.set_cons_succ]
                  refine tu 37 { dst := some 80, op := .binOp .eql 3 (.tmp 76) (.tmp 79) 3, type := 4, pos := "law.go:120", after := #[{ on := 33, ground := .data }, { on := 36, ground := .data }, { on := 30, ground := .guard }], guard := some (30, false) } ?_
                  try simp only [Act.put, List.setIfInBounds_toArray, List.set_cons_zero, List.set_cons_succ]
                  refine tu 38 { dst := some 81, op := .move (.tmp 80), type := 4, pos := "law.go:120", after := #[{ on := 37, ground := .data }, { on := 36, ground := .chain }, { on := 30, ground := .guard }], guard := some (30, false) } ?_
                  try simp only [Act.put, List.setIfInBounds_toArray, List.set_cons_zero, List.set_cons_succ]
                  refine tu 39 { dst := some 82, op := .move (.tmp 10), type := 3, pos := "law.go:120", after := #[{ on := 38, ground := .guard }], guard := some (38, true) } ?_
                  try simp only [Act.put, List.setIfInBounds_toArray, List.set_cons_zero, List.set_cons_succ]
                  refine tu 40 { dst := some 83, op := .move (.tmp 11), type := 3, pos := "law.go:120", after := #[{ on := 38, ground := .guard }], guard := some (38, true) } ?_
                  try simp only [Act.put, List.setIfInBounds_toArray, List.set_cons_zero, List.set_cons_succ]
                  refine tu 41 { dst := some 84, op := .binOp .gtr 3 (.tmp 82) (.tmp 83) 3, type := 4, pos := "law.go:120", after := #[{ on := 39, ground := .data }, { on := 40, ground := .data }, { on := 38, ground := .guard }], guard := some (38, true) } ?_
                  try simp only [Act.put, List.setIfInBounds_toArray, List.set_cons_zero, List.set_cons_succ]
                  refine tu 42 { dst := some 85, op := .pick (.tmp 81) (.tmp 84) (.const (.bool false)), type := 4, pos := "law.go:120", after := #[{ on := 38, ground := .data }, { on := 41, ground := .data }, { on := 30, ground := .guard }], guard := some (30, false) } ?_
                  try simp only [Act.put, List.setIfInBounds_toArray, List.set_cons_zero, List.set_cons_succ]
                  refine tu 43 { dst := some 86, op := .pick (.tmp 73) (.const (.bool true)) (.tmp 85), type := 4, pos := "law.go:120", after := #[{ on := 30, ground := .data }, { on := 42, ground := .data }, { on := 22, ground := .guard }], guard := some (22, true) } ?_
                  try simp only [Act.put, List.setIfInBounds_toArray, List.set_cons_zero, List.set_cons_succ]
                  refine tk 44 { dst := some 87, op := .pick (.tmp 65) (.tmp 86) (.const (.bool false)), type := 4, pos := "law.go:120", after := #[{ on := 22, ground := .data }, { on := 43, ground := .data }], guard := none } _ ?_
                  try simp only [Act.put, List.setIfInBounds_toArray, List.set_cons_zero, List.set_cons_succ]
                  refine wpAnyH_done (by kernel_rfl) ?_ _
                  go_wp2_with fail
                  clear wi wj li lj e1 e2
                  go_round
                  case rel => exact ⟨j + 1, by omega, by go_num, hBs.drew⟩
                  case measure => simp [intOf]; omega
            · have g0 : (x == x2) = false := by rw [beq_eq_false_iff_ne]; exact gx
              refine wp_region_held_drew (S := fun wq => wq.cell? ⟨b, o + i, none⟩ = some (.int .i64 x) ∧ wq.cell? ⟨b, o + j, none⟩ = some (.int .i64 x2)) (by kernel_rfl) ⟨hcx, hcx2⟩ (fun hHeld => ?_)
              refine tk 0 { dst := some 43, op := .move (.tmp 0), type := 22, pos := "law.go:120", after := #[], guard := none } _ ?_
              try simp only [Act.put, List.setIfInBounds_toArray, List.set_cons_zero, List.set_cons_succ]
              refine tk 1 { dst := some 44, op := .move (.tmp 10), type := 3, pos := "law.go:120", after := #[], guard := none } _ ?_
              try simp only [Act.put, List.setIfInBounds_toArray, List.set_cons_zero, List.set_cons_succ]
              refine tk 2 { dst := some 45, op := .binOp .sub 3 (.tmp 44) (.const (.int .i64 1)) 3, type := 3, pos := "law.go:120", after := #[{ on := 1, ground := .data }], guard := none } _ ?_
              try simp only [Act.put, List.setIfInBounds_toArray, List.set_cons_zero, List.set_cons_succ]
              refine tk 3 { dst := some 46, op := .indexAddr 22 (.tmp 43) (.tmp 45), type := 0, pos := "law.go:120", after := #[{ on := 0, ground := .data }, { on := 2, ground := .data }], guard := none } _ ?_
              try simp only [Act.put, List.setIfInBounds_toArray, List.set_cons_zero, List.set_cons_succ]
              refine tk 4 { dst := some 47, op := .load 3 (.tmp 46), type := 3, pos := "law.go:120", after := #[{ on := 3, ground := .data }], guard := none } _ ?_
              try simp only [Act.put, List.setIfInBounds_toArray, List.set_cons_zero, List.set_cons_succ]
              refine tk 5 { dst := some 48, op := .move (.tmp 0), type := 22, pos := "law.go:120", after := #[], guard := none } _ ?_
              try simp only [Act.put, List.setIfInBounds_toArray, List.set_cons_zero, List.set_cons_succ]
              refine tk 6 { dst := some 49, op := .move (.tmp 11), type := 3, pos := "law.go:120", after := #[], guard := none } _ ?_
              try simp only [Act.put, List.setIfInBounds_toArray, List.set_cons_zero, List.set_cons_succ]
              refine tk 7 { dst := some 50, op := .binOp .sub 3 (.tmp 49) (.const (.int .i64 1)) 3, type := 3, pos := "law.go:120", after := #[{ on := 6, ground := .data }], guard := none } _ ?_
              try simp only [Act.put, List.setIfInBounds_toArray, List.set_cons_zero, List.set_cons_succ]
              refine tk 8 { dst := some 51, op := .indexAddr 22 (.tmp 48) (.tmp 50), type := 0, pos := "law.go:120", after := #[{ on := 5, ground := .data }, { on := 7, ground := .data }], guard := none } _ ?_
              try simp only [Act.put, List.setIfInBounds_toArray, List.set_cons_zero, List.set_cons_succ]
              refine tk 9 { dst := some 52, op := .load 3 (.tmp 51), type := 3, pos := "law.go:120", after := #[{ on := 8, ground := .data }], guard := none } _ ?_
              try simp only [Act.put, List.setIfInBounds_toArray, List.set_cons_zero, List.set_cons_succ]
              refine tk 10 { dst := some 53, op := .binOp .eql 3 (.tmp 47) (.tmp 52) 3, type := 4, pos := "law.go:120", after := #[{ on := 4, ground := .data }, { on := 9, ground := .data }], guard := none } _ ?_
              try simp only [Act.put, List.setIfInBounds_toArray, List.set_cons_zero, List.set_cons_succ]
              refine tk 11 { dst := some 54, op := .move (.tmp 53), type := 4, pos := "law.go:120", after := #[{ on := 10, ground := .data }], guard := none } _ ?_
              try simp only [Act.put, List.setIfInBounds_toArray, List.set_cons_zero, List.set_cons_succ]
              refine tu 12 { dst := some 55, op := .move (.tmp 9), type := 28, pos := "law.go:120", after := #[{ on := 11, ground := .guard }], guard := some (11, true) } ?_
              try simp only [Act.put, List.setIfInBounds_toArray, List.set_cons_zero, List.set_cons_succ]
              refine tu 13 { dst := some 56, op := .move (.tmp 10), type := 3, pos := "law.go:120", after := #[{ on := 11, ground := .guard }], guard := some (11, true) } ?_
              try simp only [Act.put, List.setIfInBounds_toArray, List.set_cons_zero, List.set_cons_succ]
              refine tu 14 { dst := some 57, op := .call { callee := .value (.func 17), args := #[.tmp 55, .tmp 56], argTypes := #[28, 3] }, type := 4, pos := "law.go:120", after := #[{ on := 12, ground := .data }, { on := 13, ground := .data }, { on := 11, ground := .chain }, { on := 11, ground := .guard }], guard := some (11, true) } ?_
              try simp only [Act.put, List.setIfInBounds_toArray, List.set_cons_zero, List.set_cons_succ]
              refine tk 15 { dst := some 58, op := .pick (.tmp 54) (.tmp 57) (.const (.bool false)), type := 4, pos := "law.go:120", after := #[{ on := 11, ground := .data }, { on := 14, ground := .data }], guard := none } _ ?_
              try simp only [Act.put, List.setIfInBounds_toArray, List.set_cons_zero, List.set_cons_succ]
              refine tk 16 { dst := some 59, op := .move (.tmp 58), type := 4, pos := "law.go:120", after := #[{ on := 15, ground := .data }, { on := 14, ground := .chain }], guard := none } _ ?_
              try simp only [Act.put, List.setIfInBounds_toArray, List.set_cons_zero, List.set_cons_succ]
              refine tu 17 { dst := some 60, op := .move (.tmp 9), type := 28, pos := "law.go:120", after := #[{ on := 16, ground := .guard }], guard := some (16, true) } ?_
              try simp only [Act.put, List.setIfInBounds_toArray, List.set_cons_zero, List.set_cons_succ]
              refine tu 18 { dst := some 61, op := .move (.tmp 11), type := 3, pos := "law.go:120", after := #[{ on := 16, ground := .guard }], guard := some (16, true) } ?_
              try simp only [Act.put, List.setIfInBounds_toArray, List.set_cons_zero, List.set_cons_succ]
              refine tu 19 { dst := some 62, op := .call { callee := .value (.func 17), args := #[.tmp 60, .tmp 61], argTypes := #[28, 3] }, type := 4, pos := "law.go:120", after := #[{ on := 17, ground := .data }, { on := 18, ground := .data }, { on := 16, ground := .chain }, { on := 16, ground := .guard }], guard := some (16, true) } ?_
              try simp only [Act.put, List.setIfInBounds_toArray, List.set_cons_zero, List.set_cons_succ]
              refine tu 20 { dst := some 63, op := .unOp .not 4 (.tmp 62), type := 4, pos := "law.go:120", after := #[{ on := 19, ground := .data }, { on := 16, ground := .guard }], guard := some (16, true) } ?_
              try simp only [Act.put, List.setIfInBounds_toArray, List.set_cons_zero, List.set_cons_succ]
              refine tk 21 { dst := some 64, op := .pick (.tmp 59) (.tmp 63) (.const (.bool false)), type := 4, pos := "law.go:120", after := #[{ on := 16, ground := .data }, { on := 20, ground := .data }], guard := none } _ ?_
              try simp only [Act.put, List.setIfInBounds_toArray, List.set_cons_zero, List.set_cons_succ]
              refine tk 22 { dst := some 65, op := .move (.tmp 64), type := 4, pos := "law.go:120", after := #[{ on := 21, ground := .data }, { on := 19, ground := .chain }], guard := none } _ ?_
              try simp only [Act.put, List.setIfInBounds_toArray, List.set_cons_zero, List.set_cons_succ]
              refine tu 23 { dst := some 66, op := .move (.tmp 2), type := 22, pos := "law.go:120", after := #[{ on := 22, ground := .guard }], guard := some (22, true) } ?_
              try simp only [Act.put, List.setIfInBounds_toArray, List.set_cons_zero, List.set_cons_succ]
              refine tu 24 { dst := some 67, op := .move (.tmp 10), type := 3, pos := "law.go:120", after := #[{ on := 22, ground := .guard }], guard := some (22, true) } ?_
              try simp only [Act.put, List.setIfInBounds_toArray, List.set_cons_zero, List.set_cons_succ]
              refine tu 25 { dst := some 68, op := .call { callee := .value (.func 23), args := #[.tmp 66, .tmp 67], argTypes := #[22, 3] }, type := 3, pos := "law.go:120", after := #[{ on := 23, ground := .data }, { on := 24, ground := .data }, { on := 22, ground := .chain }, { on := 22, ground := .guard }], guard := some (22, true) } ?_
              try simp only [Act.put, List.setIfInBounds_toArray, List.set_cons_zero, List.set_cons_succ]
              refine tu 26 { dst := some 69, op := .move (.tmp 2), type := 22, pos := "law.go:120", after := #[{ on := 22, ground := .guard }], guard := some (22, true) } ?_
              try simp only [Act.put, List.setIfInBounds_toArray, List.set_cons_zero, List.set_cons_succ]
              refine tu 27 { dst := some 70, op := .move (.tmp 11), type := 3, pos := "law.go:120", after := #[{ on := 22, ground := .guard }], guard := some (22, true) } ?_
              try simp only [Act.put, List.setIfInBounds_toArray, List.set_cons_zero, List.set_cons_succ]
              refine tu 28 { dst := some 71, op := .call { callee := .value (.func 23), args := #[.tmp 69, .tmp 70], argTypes := #[22, 3] }, type := 3, pos := "law.go:120", after := #[{ on := 26, ground := .data }, { on := 27, ground := .data }, { on := 25, ground := .chain }, { on := 22, ground := .guard }], guard := some (22, true) } ?_
              try simp only [Act.put, List.setIfInBounds_toArray, List.set_cons_zero, List.set_cons_succ]
              refine tu 29 { dst := some 72, op := .binOp .gtr 3 (.tmp 68) (.tmp 71) 3, type := 4, pos := "law.go:120", after := #[{ on := 25, ground := .data }, { on := 28, ground := .data }, { on := 22, ground := .guard }], guard := some (22, true) } ?_
              try simp only [Act.put, List.setIfInBounds_toArray, List.set_cons_zero, List.set_cons_succ]
              refine tu 30 { dst := some 73, op := .move (.tmp 72), type := 4, pos := "law.go:120", after := #[{ on := 29, ground := .data }, { on := 28, ground := .chain }, { on := 22, ground := .guard }], guard := some (22, true) } ?_
              try simp only [Act.put, List.setIfInBounds_toArray, List.set_cons_zero, List.set_cons_succ]
              refine tu 31 { dst := some 74, op := .move (.tmp 2), type := 22, pos := "law.go:120", after := #[{ on := 30, ground := .guard }], guard := some (30, false) } ?_
              try simp only [Act.put, List.setIfInBounds_toArray, List.set_cons_zero, List.set_cons_succ]
              refine tu 32 { dst := some 75, op := .move (.tmp 10), type := 3, pos := "law.go:120", after := #[{ on := 30, ground := .guard }], guard := some (30, false) } ?_
              try simp only [Act.put, List.setIfInBounds_toArray, List.set_cons_zero, List.set_cons_succ]
              refine tu 33 { dst := some 76, op := .call { callee := .value (.func 23), args := #[.tmp 74, .tmp 75], argTypes := #[22, 3] }, type := 3, pos := "law.go:120", after := #[{ on := 31, ground := .data }, { on := 32, ground := .data }, { on := 30, ground := .chain }, { on := 30, ground := .guard }], guard := some (30, false) } ?_
              try simp only [Act.put, List.setIfInBounds_toArray, List.set_cons_zero, List.set_cons_succ]
              refine tu 34 { dst := some 77, op := .move (.tmp 2), type := 22, pos := "law.go:120", after := #[{ on := 30, ground := .guard }], guard := some (30, false) } ?_
              try simp only [Act.put, List.setIfInBounds_toArray, List.set_cons_zero, List.set_cons_succ]
              refine tu 35 { dst := some 78, op := .move (.tmp 11), type := 3, pos := "law.go:120", after := #[{ on := 30, ground := .guard }], guard := some (30, false) } ?_
              try simp only [Act.put, List.setIfInBounds_toArray, List.set_cons_zero, List.set_cons_succ]
              refine tu 36 { dst := some 79, op := .call { callee := .value (.func 23), args := #[.tmp 77, .tmp 78], argTypes := #[22, 3] }, type := 3, pos := "law.go:120", after := #[{ on := 34, ground := .data }, { on := 35, ground := .data }, { on := 33, ground := .chain }, { on := 30, ground := .guard }], guard := some (30, false) } ?_
              try simp only [Act.put, List.setIfInBounds_toArray, List.set_cons_zero, List.set_cons_succ]
              refine tu 37 { dst := some 80, op := .binOp .eql 3 (.tmp 76) (.tmp 79) 3, type := 4, pos := "law.go:120", after := #[{ on := 33, ground := .data }, { on := 36, ground := .data }, { on := 30, ground := .guard }], guard := some (30, false) } ?_
              try simp only [Act.put, List.setIfInBounds_toArray, List.set_cons_zero, List.set_cons_succ]
              refine tu 38 { dst := some 81, op := .move (.tmp 80), type := 4, pos := "law.go:120", after := #[{ on := 37, ground := .data }, { on := 36, ground := .chain }, { on := 30, ground := .guard }], guard := some (30, false) } ?_
              try simp only [Act.put, List.setIfInBounds_toArray, List.set_cons_zero, List.set_cons_succ]
              refine tu 39 { dst := some 82, op := .move (.tmp 10), type := 3, pos := "law.go:120", after := #[{ on := 38, ground := .guard }], guard := some (38, true) } ?_
              try simp only [Act.put, List.setIfInBounds_toArray, List.set_cons_zero, List.set_cons_succ]
              refine tu 40 { dst := some 83, op := .move (.tmp 11), type := 3, pos := "law.go:120", after := #[{ on := 38, ground := .guard }], guard := some (38, true) } ?_
              try simp only [Act.put, List.setIfInBounds_toArray, List.set_cons_zero, List.set_cons_succ]
              refine tu 41 { dst := some 84, op := .binOp .gtr 3 (.tmp 82) (.tmp 83) 3, type := 4, pos := "law.go:120", after := #[{ on := 39, ground := .data }, { on := 40, ground := .data }, { on := 38, ground := .guard }], guard := some (38, true) } ?_
              try simp only [Act.put, List.setIfInBounds_toArray, List.set_cons_zero, List.set_cons_succ]
              refine tu 42 { dst := some 85, op := .pick (.tmp 81) (.tmp 84) (.const (.bool false)), type := 4, pos := "law.go:120", after := #[{ on := 38, ground := .data }, { on := 41, ground := .data }, { on := 30, ground := .guard }], guard := some (30, false) } ?_
              try simp only [Act.put, List.setIfInBounds_toArray, List.set_cons_zero, List.set_cons_succ]
              refine tu 43 { dst := some 86, op := .pick (.tmp 73) (.const (.bool true)) (.tmp 85), type := 4, pos := "law.go:120", after := #[{ on := 30, ground := .data }, { on := 42, ground := .data }, { on := 22, ground := .guard }], guard := some (22, true) } ?_
              try simp only [Act.put, List.setIfInBounds_toArray, List.set_cons_zero, List.set_cons_succ]
              refine tk 44 { dst := some 87, op := .pick (.tmp 65) (.tmp 86) (.const (.bool false)), type := 4, pos := "law.go:120", after := #[{ on := 22, ground := .data }, { on := 43, ground := .data }], guard := none } _ ?_
              try simp only [Act.put, List.setIfInBounds_toArray, List.set_cons_zero, List.set_cons_succ]
              refine wpAnyH_done (by kernel_rfl) ?_ _
              go_wp2_with fail
              clear wi wj li lj e1 e2
              go_round
              case rel => exact ⟨j + 1, by omega, by go_num, hBs.drew⟩
              case measure => simp [intOf]; omega
          · obtain rfl : j = n := by omega
            obtain rfl := HP.out
            go_wp2_with fail
            go_round
            case rel => exact ⟨i + 1, by omega, by go_num, hBs⟩
            case measure => simp [intOf]; omega
      · obtain rfl : i = n := by omega
        go_wp2_with fail
        go_ret
        exact ⟨rfl, hBr⟩
  · have hne : (e1 != 0) = true := by rw [bne_iff_ne]; exact he
    clear HBAL HINV HOK
    go_wp2_with fail
    go_ret
    exact ⟨rfl, B0.out⟩
end Go.Proofs.YtfcljdpjjabhjaaDoor.law11
