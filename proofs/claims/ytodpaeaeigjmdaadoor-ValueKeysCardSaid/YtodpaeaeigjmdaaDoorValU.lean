/- What take of the program's own package value comes to, kind by kind. Conditions: at most 2^40 bytes. -/
import Derived.Test.YtodpaeaeigjmdaaDoorValT
namespace Go.Proofs.YtodpaeaeigjmdaaDoor.val
open Go Go.RowKit Go.Proofs.YtodpaeaeigjmdaaDoor.kit Go.Proofs.YtodpaeaeigjmdaaDoor.nums Go.Proofs.YtodpaeaeigjmdaaDoor.st Go.Proofs.YtodpaeaeigjmdaaDoor.va Go.Proofs.YtodpaeaeigjmdaaDoor.bytes Go.Proofs.YtodpaeaeigjmdaaDoor.ints Go.Proofs.YtodpaeaeigjmdaaDoor.ref7
set_option linter.unusedVariables false


theorem take_nil (FI FT : Value) (A : Option Addr) (c : Nat) (w : World) : Calls Tryd.prog 40 #[.slice A 0 c, FI, FT] w (RetV w (zeroV, 0, 2)) := by
  have HB : Below w.heap.size w (w.alloc (.cells #[.int .i64 0, .int .i64 0, .string { data := #[] }] 24)) := (Below.refl _ _).alloc (Nat.le_refl _) _
  have k0 : Blk 24 (w.alloc (.cells #[.int .i64 0, .int .i64 0, .string { data := #[] }] 24)) w.heap.size [.int .i64 0, .int .i64 0, .string { data := #[] }] := heap_alloc_new w _
  go_enter Tryd.func40, Tryd.ntmps40
  go_upto_region 1 with (fail)
  generalize (w.alloc (.cells #[.int .i64 0, .int .i64 0, .string { data := #[] }] 24)) = w1 at *
  have e0 := k0.cell 0
  have e1 := k0.cell 1
  have e2 := k0.cell 2
  have ef := fun i => k0.frozen i
  simp only [List.getElem?_cons_zero, List.getElem?_cons_succ] at e0 e1 e2
  go_wp2_with fail
  have r3 := put3 k0 (.int .i64 0) (.int .i64 0) (.string { data := #[] })
  have hBf := below3 HB (.int .i64 0) (.int .i64 0) (.string { data := #[] })
  generalize (((w1.setCell ⟨w.heap.size, 0, none⟩ (.int .i64 0)).setCell ⟨w.heap.size, 1, none⟩ (.int .i64 0)).setCell ⟨w.heap.size, 2, none⟩ (.string { data := #[] })) = wf at *
  have r0 := r3.cell 0
  have r1 := r3.cell 1
  have r2 := r3.cell 2
  simp only [List.getElem?_cons_zero, List.getElem?_cons_succ] at r0 r1 r2
  (try simp only [Exit.inBlock, Exit.then])
  show bodyPost Tryd.prog Tryd.f40 _ Exit.ret _ wf
  refine bodyPost_ret (by simp [results, Tryd.results40, go_sem, r0, r1, r2]; try rfl) rfl ?_
  exact ⟨rfl, hBf⟩

set_option maxRecDepth 10000 in
set_option maxHeartbeats 2000000 in
theorem take_null (FI FT : Value) (b o n c : Nat) (r : List Int) (w : World) (B : Nat) (hR : Rd w B (some ⟨b, o, none⟩) n (0 :: r)) (hB : B ≤ w.heap.size) (hnc : n ≤ c) :
    Calls Tryd.prog 40 #[.slice (some ⟨b, o, none⟩) n c, FI, FT] w (RetV w (zeroV, 1, 0)) := by
  have hn : 1 ≤ n := by rw [← hR.len]; simp
  have hx : w.cell? ⟨b, o, none⟩ = some (.int .u8 0) := by
    obtain ⟨b', o', e', hbl, hc⟩ := hR.2 (by omega)
    simp only [Option.some.injEq, Addr.mk.injEq, and_true] at e'
    obtain ⟨rfl, rfl⟩ := e'
    have := hc 0 (by omega)
    simpa using this
  have hblt : b < w.heap.size := by obtain ⟨b', o', e', hbl, hc⟩ := hR.2 (by omega); simp only [Option.some.injEq, Addr.mk.injEq, and_true] at e'; omega
  have HB : Hid (Below w.heap.size w (w.alloc (.cells #[.int .i64 0, .int .i64 0, .string { data := #[] }] 24))) := (Below.refl _ _).alloc (Nat.le_refl _) _
  have k0 : Blk 24 (w.alloc (.cells #[.int .i64 0, .int .i64 0, .string { data := #[] }] 24)) w.heap.size [.int .i64 0, .int .i64 0, .string { data := #[] }] := heap_alloc_new w _
  have hR1 := hR.alloc hB (.cells #[.int .i64 0, .int .i64 0, .string { data := #[] }] 24)
  have hx1 : (w.alloc (.cells #[.int .i64 0, .int .i64 0, .string { data := #[] }] 24)).cell? ⟨b, o, none⟩ = some (.int .u8 0) := (HB.out.cell (p := ⟨b, o, none⟩) hblt).trans hx
  clear hx hR
  go_enter Tryd.func40, Tryd.ntmps40
  go_upto_region 1 with (fail)
  generalize (w.alloc (.cells #[.int .i64 0, .int .i64 0, .string { data := #[] }] 24)) = w1 at *
  have d0 := k0.cell 0
  have d1 := k0.cell 1
  have d2 := k0.cell 2
  have df := fun i => k0.frozen i
  simp only [List.getElem?_cons_zero, List.getElem?_cons_succ] at d0 d1 d2
  go_upto_region 4 with (fail)
  have hK2 : Blk 24 (w1.setCell ⟨w.heap.size, 0, none⟩ (.int .i64 0)) w.heap.size [.int .i64 0, .int .i64 0, .string { data := #[] }] := k0.set_ 0 _
  have hB2 : Below w.heap.size w (w1.setCell ⟨w.heap.size, 0, none⟩ (.int .i64 0)) := HB.out.setCell (p := ⟨w.heap.size, 0, none⟩) (Nat.le_refl _) _
  have hR2 := hR1.below ((Below.refl B w1).setCell (p := ⟨w.heap.size, 0, none⟩) hB (.int .i64 0))
  clear hx1 d0 d1 d2 df k0 hR1 HB
  generalize (w1.setCell ⟨w.heap.size, 0, none⟩ (.int .i64 0)) = w2 at *
  have hs2 := hB2.size
  have hK2l := hK2.lt
  have d0 := hK2.cell 0
  simp only [List.getElem?_cons_zero] at d0
  have hR2 := hR2.more (show B ≤ w2.heap.size by omega)
  go_wp2_with (with_reducible refine wpList_slice_l rfl (.tmp 19) (.const (.int .i64 1)) 22 rfl 5 Tryd.underlying22 info5 (some ⟨b, o, none⟩) n c w2.heap.size (0 :: r) rfl hR2 .i64 _ 1 rfl rfl hn hnc ?_)
  intro A2 c2 hR2' hc2 _
  have hR3 : Rd w2 w2.heap.size A2 (n - 1) r := hR2'
  clear hR2 hR2'
  have e0 := hK2.cell 0
  have e1 := hK2.cell 1
  have e2 := hK2.cell 2
  have ef := fun i => hK2.frozen i
  simp only [List.getElem?_cons_zero, List.getElem?_cons_succ] at e0 e1 e2
  go_wp2_with fail
  have r3 := put3 hK2 (.int .i64 0) (.int .i64 0) (.string { data := #[] })
  have hBf := below3 hB2 (.int .i64 0) (.int .i64 0) (.string { data := #[] })
  generalize (((w2.setCell ⟨w.heap.size, 0, none⟩ (.int .i64 0)).setCell ⟨w.heap.size, 1, none⟩ (.int .i64 0)).setCell ⟨w.heap.size, 2, none⟩ (.string { data := #[] })) = wf at *
  have r0 := r3.cell 0
  have r1 := r3.cell 1
  have r2 := r3.cell 2
  simp only [List.getElem?_cons_zero, List.getElem?_cons_succ] at r0 r1 r2
  (try simp only [Exit.inBlock, Exit.then])
  show bodyPost Tryd.prog Tryd.f40 _ Exit.ret _ wf
  refine bodyPost_ret (by simp [results, Tryd.results40, go_sem, r0, r1, r2]; try rfl) rfl ?_
  exact ⟨rfl, hBf⟩

set_option maxRecDepth 10000 in
set_option maxHeartbeats 2000000 in
theorem take_other (FI FT : Value) (b o n c : Nat) (x : Int) (r : List Int) (w : World) (B : Nat) (hR : Rd w B (some ⟨b, o, none⟩) n (x :: r)) (hB : B ≤ w.heap.size) (hnc : n ≤ c) (hx0 : 4 ≤ x) (hx1 : x ≤ 255) :
    Calls Tryd.prog 40 #[.slice (some ⟨b, o, none⟩) n c, FI, FT] w (RetV w (zeroV, 0, 9)) := by
  have hn : 1 ≤ n := by rw [← hR.len]; simp
  have hx : w.cell? ⟨b, o, none⟩ = some (.int .u8 x) := by
    obtain ⟨b', o', e', hbl, hc⟩ := hR.2 (by omega)
    simp only [Option.some.injEq, Addr.mk.injEq, and_true] at e'
    obtain ⟨rfl, rfl⟩ := e'
    have := hc 0 (by omega)
    simpa using this
  have hblt : b < w.heap.size := by obtain ⟨b', o', e', hbl, hc⟩ := hR.2 (by omega); simp only [Option.some.injEq, Addr.mk.injEq, and_true] at e'; omega
  have HB : Hid (Below w.heap.size w (w.alloc (.cells #[.int .i64 0, .int .i64 0, .string { data := #[] }] 24))) := (Below.refl _ _).alloc (Nat.le_refl _) _
  have k0 : Blk 24 (w.alloc (.cells #[.int .i64 0, .int .i64 0, .string { data := #[] }] 24)) w.heap.size [.int .i64 0, .int .i64 0, .string { data := #[] }] := heap_alloc_new w _
  have hR1 := hR.alloc hB (.cells #[.int .i64 0, .int .i64 0, .string { data := #[] }] 24)
  have hxc : (w.alloc (.cells #[.int .i64 0, .int .i64 0, .string { data := #[] }] 24)).cell? ⟨b, o, none⟩ = some (.int .u8 x) := (HB.out.cell (p := ⟨b, o, none⟩) hblt).trans hx
  clear hx hR
  go_enter Tryd.func40, Tryd.ntmps40
  go_upto_region 1 with (fail)
  generalize (w.alloc (.cells #[.int .i64 0, .int .i64 0, .string { data := #[] }] 24)) = w1 at *
  have d0 := k0.cell 0
  have d1 := k0.cell 1
  have d2 := k0.cell 2
  have df := fun i => k0.frozen i
  simp only [List.getElem?_cons_zero, List.getElem?_cons_succ] at d0 d1 d2
  go_upto_region 4 with (fail)
  have hK2 : Blk 24 (w1.setCell ⟨w.heap.size, 0, none⟩ (.int .i64 x)) w.heap.size [.int .i64 x, .int .i64 0, .string { data := #[] }] := k0.set_ 0 _
  have hB2 : Below w.heap.size w (w1.setCell ⟨w.heap.size, 0, none⟩ (.int .i64 x)) := HB.out.setCell (p := ⟨w.heap.size, 0, none⟩) (Nat.le_refl _) _
  have hR2 := hR1.below ((Below.refl B w1).setCell (p := ⟨w.heap.size, 0, none⟩) hB (.int .i64 x))
  clear hxc d0 d1 d2 df k0 hR1 HB
  generalize (w1.setCell ⟨w.heap.size, 0, none⟩ (.int .i64 x)) = w2 at *
  have hs2 := hB2.size
  have hK2l := hK2.lt
  have d0 := hK2.cell 0
  simp only [List.getElem?_cons_zero] at d0
  have hR2 := hR2.more (show B ≤ w2.heap.size by omega)
  go_wp2_with (with_reducible refine wpList_slice_l rfl (.tmp 19) (.const (.int .i64 1)) 22 rfl 5 Tryd.underlying22 info5 (some ⟨b, o, none⟩) n c w2.heap.size (x :: r) rfl hR2 .i64 _ 1 rfl rfl hn hnc ?_)
  intro A2 c2 hR2' hc2 _
  have hR3 : Rd w2 w2.heap.size A2 (n - 1) r := hR2'
  clear hR2 hR2'
  have g0 : (x == 0) = false := by simp; omega
  have g1 : (x == 1) = false := by simp; omega
  have g2 : (x == 2) = false := by simp; omega
  have g3 : (x == 3) = false := by simp; omega
  have e0 := hK2.cell 0
  have e1 := hK2.cell 1
  have e2 := hK2.cell 2
  have ef := fun i => hK2.frozen i
  simp only [List.getElem?_cons_zero, List.getElem?_cons_succ] at e0 e1 e2
  go_wp2_with fail
  have r3 := put3 hK2 (.int .i64 0) (.int .i64 0) (.string { data := #[] })
  have hBf := below3 hB2 (.int .i64 0) (.int .i64 0) (.string { data := #[] })
  generalize (((w2.setCell ⟨w.heap.size, 0, none⟩ (.int .i64 0)).setCell ⟨w.heap.size, 1, none⟩ (.int .i64 0)).setCell ⟨w.heap.size, 2, none⟩ (.string { data := #[] })) = wf at *
  have r0 := r3.cell 0
  have r1 := r3.cell 1
  have r2 := r3.cell 2
  simp only [List.getElem?_cons_zero, List.getElem?_cons_succ] at r0 r1 r2
  (try simp only [Exit.inBlock, Exit.then])
  show bodyPost Tryd.prog Tryd.f40 _ Exit.ret _ wf
  refine bodyPost_ret (by simp [results, Tryd.results40, go_sem, r0, r1, r2]; try rfl) rfl ?_
  exact ⟨rfl, hBf⟩

set_option maxRecDepth 10000 in
set_option maxHeartbeats 2000000 in
theorem take_bool (FI FT : Value) (b o n c : Nat) (v m er : Int) (r : List Int) (w : World) (B : Nat) (hR : Rd w B (some ⟨b, o, none⟩) n (1 :: r)) (hB : B ≤ w.heap.size) (hnc : n ≤ c) (res : VaL × Int × Int) (hV : Hid (res = if er = 0 then (⟨1, v, []⟩, 1 + m, 0) else (zeroV, 0, er))) (hm : 0 ≤ m ∧ m ≤ 1099511627780) (T : ∀ (A : Option Addr) (c : Nat) (wq : World), Rd wq wq.heap.size A (n - 1) r → n - 1 ≤ c → Calls Tryd.prog 65 #[.slice A (n - 1) c] wq (RetI wq v m er)) :
    Calls Tryd.prog 40 #[.slice (some ⟨b, o, none⟩) n c, FI, FT] w (RetV w res) := by
  have hn : 1 ≤ n := by rw [← hR.len]; simp
  have hx : w.cell? ⟨b, o, none⟩ = some (.int .u8 1) := by
    obtain ⟨b', o', e', hbl, hc⟩ := hR.2 (by omega)
    simp only [Option.some.injEq, Addr.mk.injEq, and_true] at e'
    obtain ⟨rfl, rfl⟩ := e'
    have := hc 0 (by omega)
    simpa using this
  have hblt : b < w.heap.size := by obtain ⟨b', o', e', hbl, hc⟩ := hR.2 (by omega); simp only [Option.some.injEq, Addr.mk.injEq, and_true] at e'; omega
  have HB : Hid (Below w.heap.size w (w.alloc (.cells #[.int .i64 0, .int .i64 0, .string { data := #[] }] 24))) := (Below.refl _ _).alloc (Nat.le_refl _) _
  have k0 : Blk 24 (w.alloc (.cells #[.int .i64 0, .int .i64 0, .string { data := #[] }] 24)) w.heap.size [.int .i64 0, .int .i64 0, .string { data := #[] }] := heap_alloc_new w _
  have hR1 := hR.alloc hB (.cells #[.int .i64 0, .int .i64 0, .string { data := #[] }] 24)
  have hx1 : (w.alloc (.cells #[.int .i64 0, .int .i64 0, .string { data := #[] }] 24)).cell? ⟨b, o, none⟩ = some (.int .u8 1) := (HB.out.cell (p := ⟨b, o, none⟩) hblt).trans hx
  clear hx hR
  go_enter Tryd.func40, Tryd.ntmps40
  go_upto_region 1 with (fail)
  generalize (w.alloc (.cells #[.int .i64 0, .int .i64 0, .string { data := #[] }] 24)) = w1 at *
  have d0 := k0.cell 0
  have d1 := k0.cell 1
  have d2 := k0.cell 2
  have df := fun i => k0.frozen i
  simp only [List.getElem?_cons_zero, List.getElem?_cons_succ] at d0 d1 d2
  go_upto_region 4 with (fail)
  have hK2 : Blk 24 (w1.setCell ⟨w.heap.size, 0, none⟩ (.int .i64 1)) w.heap.size [.int .i64 1, .int .i64 0, .string { data := #[] }] := k0.set_ 0 _
  have hB2 : Below w.heap.size w (w1.setCell ⟨w.heap.size, 0, none⟩ (.int .i64 1)) := HB.out.setCell (p := ⟨w.heap.size, 0, none⟩) (Nat.le_refl _) _
  have hR2 := hR1.below ((Below.refl B w1).setCell (p := ⟨w.heap.size, 0, none⟩) hB (.int .i64 1))
  clear hx1 d0 d1 d2 df k0 hR1 HB
  generalize (w1.setCell ⟨w.heap.size, 0, none⟩ (.int .i64 1)) = w2 at *
  have hs2 := hB2.size
  have hK2l := hK2.lt
  have d0 := hK2.cell 0
  simp only [List.getElem?_cons_zero] at d0
  have hR2 := hR2.more (show B ≤ w2.heap.size by omega)
  go_wp2_with (with_reducible refine wpList_slice_l rfl (.tmp 19) (.const (.int .i64 1)) 22 rfl 5 Tryd.underlying22 info5 (some ⟨b, o, none⟩) n c w2.heap.size (1 :: r) rfl hR2 .i64 _ 1 rfl rfl hn hnc ?_)
  intro A2 c2 hR2' hc2 _
  have hR3 : Rd w2 w2.heap.size A2 (n - 1) r := hR2'
  clear hR2 hR2'
  have T1 := Lib.hid (T A2 c2 w2 hR3 (by omega))
  clear T hR3
  go_wp2_with fail
  refine T1.out.mono ?_
  rintro e w3 ⟨rfl, hB3⟩
  have hK3 := hK2.below hB3 hK2l
  have hB13 := hB2.trans (hB3.mono hs2)
  have e0 := hK3.cell 0
  have e1 := hK3.cell 1
  have e2 := hK3.cell 2
  have ef := fun i => hK3.frozen i
  simp only [List.getElem?_cons_zero, List.getElem?_cons_succ] at e0 e1 e2
  obtain ⟨hm0, hm1⟩ := hm
  go_upto_region 14 with (fail)
  have hK4 : Blk 24 (w3.setCell ⟨w.heap.size, 1, none⟩ (.int .i64 v)) w.heap.size [.int .i64 1, .int .i64 v, .string { data := #[] }] := hK3.set_ 1 _
  have hB4 : Below w.heap.size w (w3.setCell ⟨w.heap.size, 1, none⟩ (.int .i64 v)) := hB13.setCell (p := ⟨w.heap.size, 1, none⟩) (Nat.le_refl _) _
  clear e0 e1 e2 ef hK3 hB13
  generalize (w3.setCell ⟨w.heap.size, 1, none⟩ (.int .i64 v)) = w4 at *
  have e0 := hK4.cell 0
  have e1 := hK4.cell 1
  have e2 := hK4.cell 2
  have ef := fun i => hK4.frozen i
  simp only [List.getElem?_cons_zero, List.getElem?_cons_succ] at e0 e1 e2
  by_cases he : er = 0
  · have hV2 : Hid (res = (⟨1, v, []⟩, 1 + m, 0)) := by rw [hV.out, if_pos he]; exact Lib.hid rfl
    subst he
    go_wp2_with fail
    have r3 := put3 hK4 (.int .i64 1) (.int .i64 v) (.string { data := #[] })
    have hBf := below3 hB4 (.int .i64 1) (.int .i64 v) (.string { data := #[] })
    generalize (((w4.setCell ⟨w.heap.size, 0, none⟩ (.int .i64 1)).setCell ⟨w.heap.size, 1, none⟩ (.int .i64 v)).setCell ⟨w.heap.size, 2, none⟩ (.string { data := #[] })) = wf at *
    have r0 := r3.cell 0
    have r1 := r3.cell 1
    have r2 := r3.cell 2
    simp only [List.getElem?_cons_zero, List.getElem?_cons_succ] at r0 r1 r2
    (try simp only [Exit.inBlock, Exit.then])
    show bodyPost Tryd.prog Tryd.f40 _ Exit.ret _ wf
    refine bodyPost_ret (by simp [results, Tryd.results40, go_sem, r0, r1, r2]; try rfl) rfl ?_
    exact ⟨by rw [hV2.out]; rfl, hBf⟩
  · have hV2 : Hid (res = (zeroV, 0, er)) := by rw [hV.out, if_neg he]; exact Lib.hid rfl
    have he' : (er == 0) = false := by simpa using he
    go_wp2_with fail
    have r3 := put3 hK4 (.int .i64 0) (.int .i64 0) (.string { data := #[] })
    have hBf := below3 hB4 (.int .i64 0) (.int .i64 0) (.string { data := #[] })
    generalize (((w4.setCell ⟨w.heap.size, 0, none⟩ (.int .i64 0)).setCell ⟨w.heap.size, 1, none⟩ (.int .i64 0)).setCell ⟨w.heap.size, 2, none⟩ (.string { data := #[] })) = wf at *
    have r0 := r3.cell 0
    have r1 := r3.cell 1
    have r2 := r3.cell 2
    simp only [List.getElem?_cons_zero, List.getElem?_cons_succ] at r0 r1 r2
    (try simp only [Exit.inBlock, Exit.then])
    show bodyPost Tryd.prog Tryd.f40 _ Exit.ret _ wf
    refine bodyPost_ret (by simp [results, Tryd.results40, go_sem, r0, r1, r2]; try rfl) rfl ?_
    exact ⟨by rw [hV2.out]; rfl, hBf⟩

set_option maxRecDepth 10000 in
set_option maxHeartbeats 2000000 in
theorem takeK_int (FT : Value) (b o n c : Nat) (v m er : Int) (r : List Int) (w : World) (B : Nat) (hR : Rd w B (some ⟨b, o, none⟩) n (2 :: r)) (hB : B ≤ w.heap.size) (hnc : n ≤ c) (res : VaL × Int × Int) (hV : Hid (res = if er = 0 then (⟨2, v, []⟩, 1 + m, 0) else (zeroV, 0, er))) (hm : 0 ≤ m ∧ m ≤ 1099511627780) (T : ∀ (A : Option Addr) (c : Nat) (wq : World), Rd wq wq.heap.size A (n - 1) r → n - 1 ≤ c → Calls Tryd.prog 41 #[.slice A (n - 1) c] wq (RetI wq v m er)) :
    Calls Tryd.prog 40 #[.slice (some ⟨b, o, none⟩) n c, .func (.func 41) #[] #[], FT] w (RetV w res) := by
  have hn : 1 ≤ n := by rw [← hR.len]; simp
  have hx : w.cell? ⟨b, o, none⟩ = some (.int .u8 2) := by
    obtain ⟨b', o', e', hbl, hc⟩ := hR.2 (by omega)
    simp only [Option.some.injEq, Addr.mk.injEq, and_true] at e'
    obtain ⟨rfl, rfl⟩ := e'
    have := hc 0 (by omega)
    simpa using this
  have hblt : b < w.heap.size := by obtain ⟨b', o', e', hbl, hc⟩ := hR.2 (by omega); simp only [Option.some.injEq, Addr.mk.injEq, and_true] at e'; omega
  have HB : Hid (Below w.heap.size w (w.alloc (.cells #[.int .i64 0, .int .i64 0, .string { data := #[] }] 24))) := (Below.refl _ _).alloc (Nat.le_refl _) _
  have k0 : Blk 24 (w.alloc (.cells #[.int .i64 0, .int .i64 0, .string { data := #[] }] 24)) w.heap.size [.int .i64 0, .int .i64 0, .string { data := #[] }] := heap_alloc_new w _
  have hR1 := hR.alloc hB (.cells #[.int .i64 0, .int .i64 0, .string { data := #[] }] 24)
  have hx1 : (w.alloc (.cells #[.int .i64 0, .int .i64 0, .string { data := #[] }] 24)).cell? ⟨b, o, none⟩ = some (.int .u8 2) := (HB.out.cell (p := ⟨b, o, none⟩) hblt).trans hx
  clear hx hR
  go_enter Tryd.func40, Tryd.ntmps40
  go_upto_region 1 with (fail)
  generalize (w.alloc (.cells #[.int .i64 0, .int .i64 0, .string { data := #[] }] 24)) = w1 at *
  have d0 := k0.cell 0
  have d1 := k0.cell 1
  have d2 := k0.cell 2
  have df := fun i => k0.frozen i
  simp only [List.getElem?_cons_zero, List.getElem?_cons_succ] at d0 d1 d2
  go_upto_region 4 with (fail)
  have hK2 : Blk 24 (w1.setCell ⟨w.heap.size, 0, none⟩ (.int .i64 2)) w.heap.size [.int .i64 2, .int .i64 0, .string { data := #[] }] := k0.set_ 0 _
  have hB2 : Below w.heap.size w (w1.setCell ⟨w.heap.size, 0, none⟩ (.int .i64 2)) := HB.out.setCell (p := ⟨w.heap.size, 0, none⟩) (Nat.le_refl _) _
  have hR2 := hR1.below ((Below.refl B w1).setCell (p := ⟨w.heap.size, 0, none⟩) hB (.int .i64 2))
  clear hx1 d0 d1 d2 df k0 hR1 HB
  generalize (w1.setCell ⟨w.heap.size, 0, none⟩ (.int .i64 2)) = w2 at *
  have hs2 := hB2.size
  have hK2l := hK2.lt
  have d0 := hK2.cell 0
  simp only [List.getElem?_cons_zero] at d0
  have hR2 := hR2.more (show B ≤ w2.heap.size by omega)
  go_wp2_with (with_reducible refine wpList_slice_l rfl (.tmp 19) (.const (.int .i64 1)) 22 rfl 5 Tryd.underlying22 info5 (some ⟨b, o, none⟩) n c w2.heap.size (2 :: r) rfl hR2 .i64 _ 1 rfl rfl hn hnc ?_)
  intro A2 c2 hR2' hc2 _
  have hR3 : Rd w2 w2.heap.size A2 (n - 1) r := hR2'
  clear hR2 hR2'
  have T1 := Lib.hid (T A2 c2 w2 hR3 (by omega))
  clear T hR3
  go_wp2_with fail
  refine T1.out.mono ?_
  rintro e w3 ⟨rfl, hB3⟩
  have hK3 := hK2.below hB3 hK2l
  have hB13 := hB2.trans (hB3.mono hs2)
  have e0 := hK3.cell 0
  have e1 := hK3.cell 1
  have e2 := hK3.cell 2
  have ef := fun i => hK3.frozen i
  simp only [List.getElem?_cons_zero, List.getElem?_cons_succ] at e0 e1 e2
  obtain ⟨hm0, hm1⟩ := hm
  go_upto_region 14 with (fail)
  have hK4 : Blk 24 (w3.setCell ⟨w.heap.size, 1, none⟩ (.int .i64 v)) w.heap.size [.int .i64 2, .int .i64 v, .string { data := #[] }] := hK3.set_ 1 _
  have hB4 : Below w.heap.size w (w3.setCell ⟨w.heap.size, 1, none⟩ (.int .i64 v)) := hB13.setCell (p := ⟨w.heap.size, 1, none⟩) (Nat.le_refl _) _
  clear e0 e1 e2 ef hK3 hB13
  generalize (w3.setCell ⟨w.heap.size, 1, none⟩ (.int .i64 v)) = w4 at *
  have e0 := hK4.cell 0
  have e1 := hK4.cell 1
  have e2 := hK4.cell 2
  have ef := fun i => hK4.frozen i
  simp only [List.getElem?_cons_zero, List.getElem?_cons_succ] at e0 e1 e2
  by_cases he : er = 0
  · have hV2 : Hid (res = (⟨2, v, []⟩, 1 + m, 0)) := by rw [hV.out, if_pos he]; exact Lib.hid rfl
    subst he
    go_wp2_with fail
    have r3 := put3 hK4 (.int .i64 2) (.int .i64 v) (.string { data := #[] })
    have hBf := below3 hB4 (.int .i64 2) (.int .i64 v) (.string { data := #[] })
    generalize (((w4.setCell ⟨w.heap.size, 0, none⟩ (.int .i64 2)).setCell ⟨w.heap.size, 1, none⟩ (.int .i64 v)).setCell ⟨w.heap.size, 2, none⟩ (.string { data := #[] })) = wf at *
    have r0 := r3.cell 0
    have r1 := r3.cell 1
    have r2 := r3.cell 2
    simp only [List.getElem?_cons_zero, List.getElem?_cons_succ] at r0 r1 r2
    (try simp only [Exit.inBlock, Exit.then])
    show bodyPost Tryd.prog Tryd.f40 _ Exit.ret _ wf
    refine bodyPost_ret (by simp [results, Tryd.results40, go_sem, r0, r1, r2]; try rfl) rfl ?_
    exact ⟨by rw [hV2.out]; rfl, hBf⟩
  · have hV2 : Hid (res = (zeroV, 0, er)) := by rw [hV.out, if_neg he]; exact Lib.hid rfl
    have he' : (er == 0) = false := by simpa using he
    go_wp2_with fail
    have r3 := put3 hK4 (.int .i64 0) (.int .i64 0) (.string { data := #[] })
    have hBf := below3 hB4 (.int .i64 0) (.int .i64 0) (.string { data := #[] })
    generalize (((w4.setCell ⟨w.heap.size, 0, none⟩ (.int .i64 0)).setCell ⟨w.heap.size, 1, none⟩ (.int .i64 0)).setCell ⟨w.heap.size, 2, none⟩ (.string { data := #[] })) = wf at *
    have r0 := r3.cell 0
    have r1 := r3.cell 1
    have r2 := r3.cell 2
    simp only [List.getElem?_cons_zero, List.getElem?_cons_succ] at r0 r1 r2
    (try simp only [Exit.inBlock, Exit.then])
    show bodyPost Tryd.prog Tryd.f40 _ Exit.ret _ wf
    refine bodyPost_ret (by simp [results, Tryd.results40, go_sem, r0, r1, r2]; try rfl) rfl ?_
    exact ⟨by rw [hV2.out]; rfl, hBf⟩

set_option maxRecDepth 10000 in
set_option maxHeartbeats 2000000 in
theorem takeK_text (FI : Value) (b o n c : Nat) (q : List Int) (m er : Int) (r : List Int) (w : World) (B : Nat) (hR : Rd w B (some ⟨b, o, none⟩) n (3 :: r)) (hB : B ≤ w.heap.size) (hnc : n ≤ c) (res : VaL × Int × Int) (hV : Hid (res = if er = 0 then (⟨3, 0, q⟩, 1 + m, 0) else (zeroV, 0, er))) (hm : 0 ≤ m ∧ m ≤ 1099511627780) (T : ∀ (A : Option Addr) (c : Nat) (wq : World), Rd wq wq.heap.size A (n - 1) r → n - 1 ≤ c → Calls Tryd.prog 42 #[.slice A (n - 1) c] wq (RetE wq q m er)) :
    Calls Tryd.prog 40 #[.slice (some ⟨b, o, none⟩) n c, FI, .func (.func 42) #[] #[]] w (RetV w res) := by
  have hn : 1 ≤ n := by rw [← hR.len]; simp
  have hx : w.cell? ⟨b, o, none⟩ = some (.int .u8 3) := by
    obtain ⟨b', o', e', hbl, hc⟩ := hR.2 (by omega)
    simp only [Option.some.injEq, Addr.mk.injEq, and_true] at e'
    obtain ⟨rfl, rfl⟩ := e'
    have := hc 0 (by omega)
    simpa using this
  have hblt : b < w.heap.size := by obtain ⟨b', o', e', hbl, hc⟩ := hR.2 (by omega); simp only [Option.some.injEq, Addr.mk.injEq, and_true] at e'; omega
  have HB : Hid (Below w.heap.size w (w.alloc (.cells #[.int .i64 0, .int .i64 0, .string { data := #[] }] 24))) := (Below.refl _ _).alloc (Nat.le_refl _) _
  have k0 : Blk 24 (w.alloc (.cells #[.int .i64 0, .int .i64 0, .string { data := #[] }] 24)) w.heap.size [.int .i64 0, .int .i64 0, .string { data := #[] }] := heap_alloc_new w _
  have hR1 := hR.alloc hB (.cells #[.int .i64 0, .int .i64 0, .string { data := #[] }] 24)
  have hx1 : (w.alloc (.cells #[.int .i64 0, .int .i64 0, .string { data := #[] }] 24)).cell? ⟨b, o, none⟩ = some (.int .u8 3) := (HB.out.cell (p := ⟨b, o, none⟩) hblt).trans hx
  clear hx hR
  go_enter Tryd.func40, Tryd.ntmps40
  go_upto_region 1 with (fail)
  generalize (w.alloc (.cells #[.int .i64 0, .int .i64 0, .string { data := #[] }] 24)) = w1 at *
  have d0 := k0.cell 0
  have d1 := k0.cell 1
  have d2 := k0.cell 2
  have df := fun i => k0.frozen i
  simp only [List.getElem?_cons_zero, List.getElem?_cons_succ] at d0 d1 d2
  go_upto_region 4 with (fail)
  have hK2 : Blk 24 (w1.setCell ⟨w.heap.size, 0, none⟩ (.int .i64 3)) w.heap.size [.int .i64 3, .int .i64 0, .string { data := #[] }] := k0.set_ 0 _
  have hB2 : Below w.heap.size w (w1.setCell ⟨w.heap.size, 0, none⟩ (.int .i64 3)) := HB.out.setCell (p := ⟨w.heap.size, 0, none⟩) (Nat.le_refl _) _
  have hR2 := hR1.below ((Below.refl B w1).setCell (p := ⟨w.heap.size, 0, none⟩) hB (.int .i64 3))
  clear hx1 d0 d1 d2 df k0 hR1 HB
  generalize (w1.setCell ⟨w.heap.size, 0, none⟩ (.int .i64 3)) = w2 at *
  have hs2 := hB2.size
  have hK2l := hK2.lt
  have d0 := hK2.cell 0
  simp only [List.getElem?_cons_zero] at d0
  have hR2 := hR2.more (show B ≤ w2.heap.size by omega)
  go_wp2_with (with_reducible refine wpList_slice_l rfl (.tmp 19) (.const (.int .i64 1)) 22 rfl 5 Tryd.underlying22 info5 (some ⟨b, o, none⟩) n c w2.heap.size (3 :: r) rfl hR2 .i64 _ 1 rfl rfl hn hnc ?_)
  intro A2 c2 hR2' hc2 _
  have hR3 : Rd w2 w2.heap.size A2 (n - 1) r := hR2'
  clear hR2 hR2'
  have T1 := Lib.hid (T A2 c2 w2 hR3 (by omega))
  clear T hR3
  go_wp2_with fail
  refine T1.out.mono ?_
  rintro e w3 ⟨rfl, hB3⟩
  have hK3 := hK2.below hB3 hK2l
  have hB13 := hB2.trans (hB3.mono hs2)
  have e0 := hK3.cell 0
  have e1 := hK3.cell 1
  have e2 := hK3.cell 2
  have ef := fun i => hK3.frozen i
  simp only [List.getElem?_cons_zero, List.getElem?_cons_succ] at e0 e1 e2
  obtain ⟨hm0, hm1⟩ := hm
  go_upto_region 14 with (fail)
  have hK4 : Blk 24 (w3.setCell ⟨w.heap.size, 2, none⟩ (.string (strOfNums q))) w.heap.size [.int .i64 3, .int .i64 0, .string (strOfNums q)] := hK3.set_ 2 _
  have hB4 : Below w.heap.size w (w3.setCell ⟨w.heap.size, 2, none⟩ (.string (strOfNums q))) := hB13.setCell (p := ⟨w.heap.size, 2, none⟩) (Nat.le_refl _) _
  clear e0 e1 e2 ef hK3 hB13
  generalize (w3.setCell ⟨w.heap.size, 2, none⟩ (.string (strOfNums q))) = w4 at *
  have e0 := hK4.cell 0
  have e1 := hK4.cell 1
  have e2 := hK4.cell 2
  have ef := fun i => hK4.frozen i
  simp only [List.getElem?_cons_zero, List.getElem?_cons_succ] at e0 e1 e2
  by_cases he : er = 0
  · have hV2 : Hid (res = (⟨3, 0, q⟩, 1 + m, 0)) := by rw [hV.out, if_pos he]; exact Lib.hid rfl
    subst he
    go_wp2_with fail
    have r3 := put3 hK4 (.int .i64 3) (.int .i64 0) (.string (strOfNums q))
    have hBf := below3 hB4 (.int .i64 3) (.int .i64 0) (.string (strOfNums q))
    generalize (((w4.setCell ⟨w.heap.size, 0, none⟩ (.int .i64 3)).setCell ⟨w.heap.size, 1, none⟩ (.int .i64 0)).setCell ⟨w.heap.size, 2, none⟩ (.string (strOfNums q))) = wf at *
    have r0 := r3.cell 0
    have r1 := r3.cell 1
    have r2 := r3.cell 2
    simp only [List.getElem?_cons_zero, List.getElem?_cons_succ] at r0 r1 r2
    (try simp only [Exit.inBlock, Exit.then])
    show bodyPost Tryd.prog Tryd.f40 _ Exit.ret _ wf
    refine bodyPost_ret (by simp [results, Tryd.results40, go_sem, r0, r1, r2]; try rfl) rfl ?_
    exact ⟨by rw [hV2.out]; rfl, hBf⟩
  · have hV2 : Hid (res = (zeroV, 0, er)) := by rw [hV.out, if_neg he]; exact Lib.hid rfl
    have he' : (er == 0) = false := by simpa using he
    go_wp2_with fail
    have r3 := put3 hK4 (.int .i64 0) (.int .i64 0) (.string { data := #[] })
    have hBf := below3 hB4 (.int .i64 0) (.int .i64 0) (.string { data := #[] })
    generalize (((w4.setCell ⟨w.heap.size, 0, none⟩ (.int .i64 0)).setCell ⟨w.heap.size, 1, none⟩ (.int .i64 0)).setCell ⟨w.heap.size, 2, none⟩ (.string { data := #[] })) = wf at *
    have r0 := r3.cell 0
    have r1 := r3.cell 1
    have r2 := r3.cell 2
    simp only [List.getElem?_cons_zero, List.getElem?_cons_succ] at r0 r1 r2
    (try simp only [Exit.inBlock, Exit.then])
    show bodyPost Tryd.prog Tryd.f40 _ Exit.ret _ wf
    refine bodyPost_ret (by simp [results, Tryd.results40, go_sem, r0, r1, r2]; try rfl) rfl ?_
    exact ⟨by rw [hV2.out]; rfl, hBf⟩

set_option maxRecDepth 10000 in
set_option maxHeartbeats 2000000 in
theorem takeP_int (FT : Value) (b o n c : Nat) (v m er : Int) (r : List Int) (w : World) (B : Nat) (hR : Rd w B (some ⟨b, o, none⟩) n (2 :: r)) (hB : B ≤ w.heap.size) (hnc : n ≤ c) (res : VaL × Int × Int) (hV : Hid (res = if er = 0 then (⟨2, v, []⟩, 1 + m, 0) else (zeroV, 0, er))) (hm : 0 ≤ m ∧ m ≤ 1099511627780) (T : ∀ (A : Option Addr) (c : Nat) (wq : World), Rd wq wq.heap.size A (n - 1) r → n - 1 ≤ c → Calls Tryd.prog 46 #[.slice A (n - 1) c] wq (RetI wq v m er)) :
    Calls Tryd.prog 40 #[.slice (some ⟨b, o, none⟩) n c, .func (.func 46) #[] #[], FT] w (RetV w res) := by
  have hn : 1 ≤ n := by rw [← hR.len]; simp
  have hx : w.cell? ⟨b, o, none⟩ = some (.int .u8 2) := by
    obtain ⟨b', o', e', hbl, hc⟩ := hR.2 (by omega)
    simp only [Option.some.injEq, Addr.mk.injEq, and_true] at e'
    obtain ⟨rfl, rfl⟩ := e'
    have := hc 0 (by omega)
    simpa using this
  have hblt : b < w.heap.size := by obtain ⟨b', o', e', hbl, hc⟩ := hR.2 (by omega); simp only [Option.some.injEq, Addr.mk.injEq, and_true] at e'; omega
  have HB : Hid (Below w.heap.size w (w.alloc (.cells #[.int .i64 0, .int .i64 0, .string { data := #[] }] 24))) := (Below.refl _ _).alloc (Nat.le_refl _) _
  have k0 : Blk 24 (w.alloc (.cells #[.int .i64 0, .int .i64 0, .string { data := #[] }] 24)) w.heap.size [.int .i64 0, .int .i64 0, .string { data := #[] }] := heap_alloc_new w _
  have hR1 := hR.alloc hB (.cells #[.int .i64 0, .int .i64 0, .string { data := #[] }] 24)
  have hx1 : (w.alloc (.cells #[.int .i64 0, .int .i64 0, .string { data := #[] }] 24)).cell? ⟨b, o, none⟩ = some (.int .u8 2) := (HB.out.cell (p := ⟨b, o, none⟩) hblt).trans hx
  clear hx hR
  go_enter Tryd.func40, Tryd.ntmps40
  go_upto_region 1 with (fail)
  generalize (w.alloc (.cells #[.int .i64 0, .int .i64 0, .string { data := #[] }] 24)) = w1 at *
  have d0 := k0.cell 0
  have d1 := k0.cell 1
  have d2 := k0.cell 2
  have df := fun i => k0.frozen i
  simp only [List.getElem?_cons_zero, List.getElem?_cons_succ] at d0 d1 d2
  go_upto_region 4 with (fail)
  have hK2 : Blk 24 (w1.setCell ⟨w.heap.size, 0, none⟩ (.int .i64 2)) w.heap.size [.int .i64 2, .int .i64 0, .string { data := #[] }] := k0.set_ 0 _
  have hB2 : Below w.heap.size w (w1.setCell ⟨w.heap.size, 0, none⟩ (.int .i64 2)) := HB.out.setCell (p := ⟨w.heap.size, 0, none⟩) (Nat.le_refl _) _
  have hR2 := hR1.below ((Below.refl B w1).setCell (p := ⟨w.heap.size, 0, none⟩) hB (.int .i64 2))
  clear hx1 d0 d1 d2 df k0 hR1 HB
  generalize (w1.setCell ⟨w.heap.size, 0, none⟩ (.int .i64 2)) = w2 at *
  have hs2 := hB2.size
  have hK2l := hK2.lt
  have d0 := hK2.cell 0
  simp only [List.getElem?_cons_zero] at d0
  have hR2 := hR2.more (show B ≤ w2.heap.size by omega)
  go_wp2_with (with_reducible refine wpList_slice_l rfl (.tmp 19) (.const (.int .i64 1)) 22 rfl 5 Tryd.underlying22 info5 (some ⟨b, o, none⟩) n c w2.heap.size (2 :: r) rfl hR2 .i64 _ 1 rfl rfl hn hnc ?_)
  intro A2 c2 hR2' hc2 _
  have hR3 : Rd w2 w2.heap.size A2 (n - 1) r := hR2'
  clear hR2 hR2'
  have T1 := Lib.hid (T A2 c2 w2 hR3 (by omega))
  clear T hR3
  go_wp2_with fail
  refine T1.out.mono ?_
  rintro e w3 ⟨rfl, hB3⟩
  have hK3 := hK2.below hB3 hK2l
  have hB13 := hB2.trans (hB3.mono hs2)
  have e0 := hK3.cell 0
  have e1 := hK3.cell 1
  have e2 := hK3.cell 2
  have ef := fun i => hK3.frozen i
  simp only [List.getElem?_cons_zero, List.getElem?_cons_succ] at e0 e1 e2
  obtain ⟨hm0, hm1⟩ := hm
  go_upto_region 14 with (fail)
  have hK4 : Blk 24 (w3.setCell ⟨w.heap.size, 1, none⟩ (.int .i64 v)) w.heap.size [.int .i64 2, .int .i64 v, .string { data := #[] }] := hK3.set_ 1 _
  have hB4 : Below w.heap.size w (w3.setCell ⟨w.heap.size, 1, none⟩ (.int .i64 v)) := hB13.setCell (p := ⟨w.heap.size, 1, none⟩) (Nat.le_refl _) _
  clear e0 e1 e2 ef hK3 hB13
  generalize (w3.setCell ⟨w.heap.size, 1, none⟩ (.int .i64 v)) = w4 at *
  have e0 := hK4.cell 0
  have e1 := hK4.cell 1
  have e2 := hK4.cell 2
  have ef := fun i => hK4.frozen i
  simp only [List.getElem?_cons_zero, List.getElem?_cons_succ] at e0 e1 e2
  by_cases he : er = 0
  · have hV2 : Hid (res = (⟨2, v, []⟩, 1 + m, 0)) := by rw [hV.out, if_pos he]; exact Lib.hid rfl
    subst he
    go_wp2_with fail
    have r3 := put3 hK4 (.int .i64 2) (.int .i64 v) (.string { data := #[] })
    have hBf := below3 hB4 (.int .i64 2) (.int .i64 v) (.string { data := #[] })
    generalize (((w4.setCell ⟨w.heap.size, 0, none⟩ (.int .i64 2)).setCell ⟨w.heap.size, 1, none⟩ (.int .i64 v)).setCell ⟨w.heap.size, 2, none⟩ (.string { data := #[] })) = wf at *
    have r0 := r3.cell 0
    have r1 := r3.cell 1
    have r2 := r3.cell 2
    simp only [List.getElem?_cons_zero, List.getElem?_cons_succ] at r0 r1 r2
    (try simp only [Exit.inBlock, Exit.then])
    show bodyPost Tryd.prog Tryd.f40 _ Exit.ret _ wf
    refine bodyPost_ret (by simp [results, Tryd.results40, go_sem, r0, r1, r2]; try rfl) rfl ?_
    exact ⟨by rw [hV2.out]; rfl, hBf⟩
  · have hV2 : Hid (res = (zeroV, 0, er)) := by rw [hV.out, if_neg he]; exact Lib.hid rfl
    have he' : (er == 0) = false := by simpa using he
    go_wp2_with fail
    have r3 := put3 hK4 (.int .i64 0) (.int .i64 0) (.string { data := #[] })
    have hBf := below3 hB4 (.int .i64 0) (.int .i64 0) (.string { data := #[] })
    generalize (((w4.setCell ⟨w.heap.size, 0, none⟩ (.int .i64 0)).setCell ⟨w.heap.size, 1, none⟩ (.int .i64 0)).setCell ⟨w.heap.size, 2, none⟩ (.string { data := #[] })) = wf at *
    have r0 := r3.cell 0
    have r1 := r3.cell 1
    have r2 := r3.cell 2
    simp only [List.getElem?_cons_zero, List.getElem?_cons_succ] at r0 r1 r2
    (try simp only [Exit.inBlock, Exit.then])
    show bodyPost Tryd.prog Tryd.f40 _ Exit.ret _ wf
    refine bodyPost_ret (by simp [results, Tryd.results40, go_sem, r0, r1, r2]; try rfl) rfl ?_
    exact ⟨by rw [hV2.out]; rfl, hBf⟩

set_option maxRecDepth 10000 in
set_option maxHeartbeats 2000000 in
theorem takeP_text (FI : Value) (b o n c : Nat) (q : List Int) (m er : Int) (r : List Int) (w : World) (B : Nat) (hR : Rd w B (some ⟨b, o, none⟩) n (3 :: r)) (hB : B ≤ w.heap.size) (hnc : n ≤ c) (res : VaL × Int × Int) (hV : Hid (res = if er = 0 then (⟨3, 0, q⟩, 1 + m, 0) else (zeroV, 0, er))) (hm : 0 ≤ m ∧ m ≤ 1099511627780) (T : ∀ (A : Option Addr) (c : Nat) (wq : World), Rd wq wq.heap.size A (n - 1) r → n - 1 ≤ c → Calls Tryd.prog 47 #[.slice A (n - 1) c] wq (RetE wq q m er)) :
    Calls Tryd.prog 40 #[.slice (some ⟨b, o, none⟩) n c, FI, .func (.func 47) #[] #[]] w (RetV w res) := by
  have hn : 1 ≤ n := by rw [← hR.len]; simp
  have hx : w.cell? ⟨b, o, none⟩ = some (.int .u8 3) := by
    obtain ⟨b', o', e', hbl, hc⟩ := hR.2 (by omega)
    simp only [Option.some.injEq, Addr.mk.injEq, and_true] at e'
    obtain ⟨rfl, rfl⟩ := e'
    have := hc 0 (by omega)
    simpa using this
  have hblt : b < w.heap.size := by obtain ⟨b', o', e', hbl, hc⟩ := hR.2 (by omega); simp only [Option.some.injEq, Addr.mk.injEq, and_true] at e'; omega
  have HB : Hid (Below w.heap.size w (w.alloc (.cells #[.int .i64 0, .int .i64 0, .string { data := #[] }] 24))) := (Below.refl _ _).alloc (Nat.le_refl _) _
  have k0 : Blk 24 (w.alloc (.cells #[.int .i64 0, .int .i64 0, .string { data := #[] }] 24)) w.heap.size [.int .i64 0, .int .i64 0, .string { data := #[] }] := heap_alloc_new w _
  have hR1 := hR.alloc hB (.cells #[.int .i64 0, .int .i64 0, .string { data := #[] }] 24)
  have hx1 : (w.alloc (.cells #[.int .i64 0, .int .i64 0, .string { data := #[] }] 24)).cell? ⟨b, o, none⟩ = some (.int .u8 3) := (HB.out.cell (p := ⟨b, o, none⟩) hblt).trans hx
  clear hx hR
  go_enter Tryd.func40, Tryd.ntmps40
  go_upto_region 1 with (fail)
  generalize (w.alloc (.cells #[.int .i64 0, .int .i64 0, .string { data := #[] }] 24)) = w1 at *
  have d0 := k0.cell 0
  have d1 := k0.cell 1
  have d2 := k0.cell 2
  have df := fun i => k0.frozen i
  simp only [List.getElem?_cons_zero, List.getElem?_cons_succ] at d0 d1 d2
  go_upto_region 4 with (fail)
  have hK2 : Blk 24 (w1.setCell ⟨w.heap.size, 0, none⟩ (.int .i64 3)) w.heap.size [.int .i64 3, .int .i64 0, .string { data := #[] }] := k0.set_ 0 _
  have hB2 : Below w.heap.size w (w1.setCell ⟨w.heap.size, 0, none⟩ (.int .i64 3)) := HB.out.setCell (p := ⟨w.heap.size, 0, none⟩) (Nat.le_refl _) _
  have hR2 := hR1.below ((Below.refl B w1).setCell (p := ⟨w.heap.size, 0, none⟩) hB (.int .i64 3))
  clear hx1 d0 d1 d2 df k0 hR1 HB
  generalize (w1.setCell ⟨w.heap.size, 0, none⟩ (.int .i64 3)) = w2 at *
  have hs2 := hB2.size
  have hK2l := hK2.lt
  have d0 := hK2.cell 0
  simp only [List.getElem?_cons_zero] at d0
  have hR2 := hR2.more (show B ≤ w2.heap.size by omega)
  go_wp2_with (with_reducible refine wpList_slice_l rfl (.tmp 19) (.const (.int .i64 1)) 22 rfl 5 Tryd.underlying22 info5 (some ⟨b, o, none⟩) n c w2.heap.size (3 :: r) rfl hR2 .i64 _ 1 rfl rfl hn hnc ?_)
  intro A2 c2 hR2' hc2 _
  have hR3 : Rd w2 w2.heap.size A2 (n - 1) r := hR2'
  clear hR2 hR2'
  have T1 := Lib.hid (T A2 c2 w2 hR3 (by omega))
  clear T hR3
  go_wp2_with fail
  refine T1.out.mono ?_
  rintro e w3 ⟨rfl, hB3⟩
  have hK3 := hK2.below hB3 hK2l
  have hB13 := hB2.trans (hB3.mono hs2)
  have e0 := hK3.cell 0
  have e1 := hK3.cell 1
  have e2 := hK3.cell 2
  have ef := fun i => hK3.frozen i
  simp only [List.getElem?_cons_zero, List.getElem?_cons_succ] at e0 e1 e2
  obtain ⟨hm0, hm1⟩ := hm
  go_upto_region 14 with (fail)
  have hK4 : Blk 24 (w3.setCell ⟨w.heap.size, 2, none⟩ (.string (strOfNums q))) w.heap.size [.int .i64 3, .int .i64 0, .string (strOfNums q)] := hK3.set_ 2 _
  have hB4 : Below w.heap.size w (w3.setCell ⟨w.heap.size, 2, none⟩ (.string (strOfNums q))) := hB13.setCell (p := ⟨w.heap.size, 2, none⟩) (Nat.le_refl _) _
  clear e0 e1 e2 ef hK3 hB13
  generalize (w3.setCell ⟨w.heap.size, 2, none⟩ (.string (strOfNums q))) = w4 at *
  have e0 := hK4.cell 0
  have e1 := hK4.cell 1
  have e2 := hK4.cell 2
  have ef := fun i => hK4.frozen i
  simp only [List.getElem?_cons_zero, List.getElem?_cons_succ] at e0 e1 e2
  by_cases he : er = 0
  · have hV2 : Hid (res = (⟨3, 0, q⟩, 1 + m, 0)) := by rw [hV.out, if_pos he]; exact Lib.hid rfl
    subst he
    go_wp2_with fail
    have r3 := put3 hK4 (.int .i64 3) (.int .i64 0) (.string (strOfNums q))
    have hBf := below3 hB4 (.int .i64 3) (.int .i64 0) (.string (strOfNums q))
    generalize (((w4.setCell ⟨w.heap.size, 0, none⟩ (.int .i64 3)).setCell ⟨w.heap.size, 1, none⟩ (.int .i64 0)).setCell ⟨w.heap.size, 2, none⟩ (.string (strOfNums q))) = wf at *
    have r0 := r3.cell 0
    have r1 := r3.cell 1
    have r2 := r3.cell 2
    simp only [List.getElem?_cons_zero, List.getElem?_cons_succ] at r0 r1 r2
    (try simp only [Exit.inBlock, Exit.then])
    show bodyPost Tryd.prog Tryd.f40 _ Exit.ret _ wf
    refine bodyPost_ret (by simp [results, Tryd.results40, go_sem, r0, r1, r2]; try rfl) rfl ?_
    exact ⟨by rw [hV2.out]; rfl, hBf⟩
  · have hV2 : Hid (res = (zeroV, 0, er)) := by rw [hV.out, if_neg he]; exact Lib.hid rfl
    have he' : (er == 0) = false := by simpa using he
    go_wp2_with fail
    have r3 := put3 hK4 (.int .i64 0) (.int .i64 0) (.string { data := #[] })
    have hBf := below3 hB4 (.int .i64 0) (.int .i64 0) (.string { data := #[] })
    generalize (((w4.setCell ⟨w.heap.size, 0, none⟩ (.int .i64 0)).setCell ⟨w.heap.size, 1, none⟩ (.int .i64 0)).setCell ⟨w.heap.size, 2, none⟩ (.string { data := #[] })) = wf at *
    have r0 := r3.cell 0
    have r1 := r3.cell 1
    have r2 := r3.cell 2
    simp only [List.getElem?_cons_zero, List.getElem?_cons_succ] at r0 r1 r2
    (try simp only [Exit.inBlock, Exit.then])
    show bodyPost Tryd.prog Tryd.f40 _ Exit.ret _ wf
    refine bodyPost_ret (by simp [results, Tryd.results40, go_sem, r0, r1, r2]; try rfl) rfl ?_
    exact ⟨by rw [hV2.out]; rfl, hBf⟩
end Go.Proofs.YtodpaeaeigjmdaaDoor.val
