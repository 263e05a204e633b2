/- What Plain of the program's own package value comes to. Conditions: at most 2^40 bytes. -/
import Derived.Test.YtodpaeaeigjmdaaDoorValM
namespace Go.Proofs.YtodpaeaeigjmdaaDoor.val
open Go Go.RowKit Go.Proofs.YtodpaeaeigjmdaaDoor.kit Go.Proofs.YtodpaeaeigjmdaaDoor.nums Go.Proofs.YtodpaeaeigjmdaaDoor.st Go.Proofs.YtodpaeaeigjmdaaDoor.va Go.Proofs.YtodpaeaeigjmdaaDoor.bytes Go.Proofs.YtodpaeaeigjmdaaDoor.ints Go.Proofs.YtodpaeaeigjmdaaDoor.ref7
set_option linter.unusedVariables false

set_option maxRecDepth 10000 in
set_option maxHeartbeats 2000000 in
theorem putP_no (A : Option Addr) (m c : Nat) (l : List Int) (k n : Int) (s : List Int) (w : World) (hR : Rd w w.heap.size A m l) (hmc : m ≤ c) (hb : m ≤ 1099511627775) (hs : s.length ≤ 1099511627776) (ha : (⟨k, n, s⟩ : VaL).ok) (hm : ¬ mayP ⟨k, n, s⟩) :
    Calls Tryd.prog 27 #[.slice A m c, .agg #[.int .i64 k, .int .i64 n, .string (strOfNums s)], .func (.func 30) #[] #[], .func (.func 31) #[] #[]] w (RetL 5 w (m + ([] : List Int).length) (l ++ [])) := by
  have HN := Lib.hid hR.len
  have CC := Lib.hid (fun (w1 : World) (h : Below w.heap.size w w1) => clone_any A m c l w1 (hR.on h h.size) (by omega) hmc)
  have CM := Lib.hid (fun w => may_any ⟨k, n, s⟩ ha (by show (s.length : Int) ≤ _; omega) w)
  rw [show decide (mayP ⟨k, n, s⟩) = false by simp [hm]] at CM
  unfold vaV at CM
  dsimp only at CM
  have hB0 : Below w.heap.size w (w.alloc (.cells #[.int .i64 k, .int .i64 n, .string (strOfNums s)] 24)) := (Below.refl _ _).alloc (Nat.le_refl _) _
  have k0 : Blk 24 (w.alloc (.cells #[.int .i64 k, .int .i64 n, .string (strOfNums s)] 24)) w.heap.size [.int .i64 k, .int .i64 n, .string (strOfNums s)] := heap_alloc_new w _
  clear hR
  go_enter Tryd.func27, Tryd.ntmps27
  go_upto_region 1 with (fail)
  have C1 := Lib.hid (CC.out _ hB0)
  clear CC
  generalize (w.alloc (.cells #[.int .i64 k, .int .i64 n, .string (strOfNums s)] 24)) = w1 at *
  have k0l := k0.lt
  go_wp2_with fail
  refine C1.out.mono ?_
  rintro e w2 ⟨A1, c1, rfl, hl1, hO1, hB2⟩
  have k2 := k0.below hB2 k0.lt
  have a0 := k2.cell 0
  have a1 := k2.cell 1
  have a2 := k2.cell 2
  simp only [List.getElem?_cons_zero, List.getElem?_cons_succ] at a0 a1 a2
  go_wp2_with fail
  refine (CM.out _).mono ?_
  clear CM a0 a1 a2
  rintro e w3 ⟨rfl, hB3⟩
  have hB13 := hB2.trans (hB3.mono hB2.size)
  have hs3 := hB13.size
  have k3 := k2.below hB3 k2.lt
  have hO3 := hO1.below hB3
  have a0 := k3.cell 0
  have a1 := k3.cell 1
  have a2 := k3.cell 2
  simp only [List.getElem?_cons_zero, List.getElem?_cons_succ] at a0 a1 a2
  clear C1 hO1 hB2 hB3 k2 hl1
  clear a0 a1 a2
  go_wp2_with fail
  go_ret
  exact ⟨A1, c1, rfl, by rw [List.append_nil]; exact HN.out, (by rw [List.append_nil]; exact hO3 : Own 5 _ w1.heap.size _ _).more hB0.size, hB0.trans (hB13.mono hB0.size)⟩

set_option maxRecDepth 10000 in
set_option maxHeartbeats 2000000 in
theorem putP_null (A : Option Addr) (m c : Nat) (l : List Int) (w : World) (hR : Rd w w.heap.size A m l) (hmc : m ≤ c) (hb : m ≤ 1099511627775) :
    Calls Tryd.prog 27 #[.slice A m c, .agg #[.int .i64 0, .int .i64 0, .string (strOfNums [])], .func (.func 30) #[] #[], .func (.func 31) #[] #[]] w (RetL 5 w (m + ([0] : List Int).length) (l ++ [0])) := by
  have HN := Lib.hid hR.len
  have CC := Lib.hid (fun (w1 : World) (h : Below w.heap.size w w1) => clone_any A m c l w1 (hR.on h h.size) (by omega) hmc)
  have CM := Lib.hid (fun w => may_any ⟨0, 0, []⟩ ok_null (by show (0 : Int) ≤ _; omega) w)
  rw [show decide (mayP ⟨0, 0, []⟩) = true by decide] at CM
  unfold vaV at CM
  dsimp only at CM
  have hB0 : Below w.heap.size w (w.alloc (.cells #[.int .i64 0, .int .i64 0, .string (strOfNums [])] 24)) := (Below.refl _ _).alloc (Nat.le_refl _) _
  have k0 : Blk 24 (w.alloc (.cells #[.int .i64 0, .int .i64 0, .string (strOfNums [])] 24)) w.heap.size [.int .i64 0, .int .i64 0, .string (strOfNums [])] := heap_alloc_new w _
  clear hR
  go_enter Tryd.func27, Tryd.ntmps27
  go_upto_region 1 with (fail)
  have C1 := Lib.hid (CC.out _ hB0)
  clear CC
  generalize (w.alloc (.cells #[.int .i64 0, .int .i64 0, .string (strOfNums [])] 24)) = w1 at *
  have k0l := k0.lt
  go_wp2_with fail
  refine C1.out.mono ?_
  rintro e w2 ⟨A1, c1, rfl, hl1, hO1, hB2⟩
  have k2 := k0.below hB2 k0.lt
  have a0 := k2.cell 0
  have a1 := k2.cell 1
  have a2 := k2.cell 2
  simp only [List.getElem?_cons_zero, List.getElem?_cons_succ] at a0 a1 a2
  go_wp2_with fail
  refine (CM.out _).mono ?_
  clear CM a0 a1 a2
  rintro e w3 ⟨rfl, hB3⟩
  have hB13 := hB2.trans (hB3.mono hB2.size)
  have hs3 := hB13.size
  have k3 := k2.below hB3 k2.lt
  have hO3 := hO1.below hB3
  have a0 := k3.cell 0
  have a1 := k3.cell 1
  have a2 := k3.cell 2
  simp only [List.getElem?_cons_zero, List.getElem?_cons_succ] at a0 a1 a2
  clear C1 hO1 hB2 hB3 k2 hl1
  go_wp2_with (at_builtin; with_reducible refine wpList_append_rd rfl (.tmp 16) (.tmp 20) 22 rfl w1.heap.size 5 Tryd.underlying22 info5 A1 m c1 l HN.out rfl (hO3.alloc _) _ _ 1 1 [_] rfl (Rd.one _ _ _) ?hb4 ?hbase4 ?_)
  case hb4 => omega
  case hbase4 => simp; omega
  intro A4 c4 w4 hO4 hB4 _
  have hB14 := (hB13.alloc hs3 _).trans hB4
  have hs4 := hB14.size
  have k4 : Blk 24 w4 w.heap.size _ := (k3.alloc _).below hB4 k0l
  have b0 := k4.cell 0
  have b1 := k4.cell 1
  have b2 := k4.cell 2
  simp only [List.getElem?_cons_zero, List.getElem?_cons_succ] at b0 b1 b2
  have HN4 : Hid ((l ++ [0]).length = m + 1) := by rw [List.length_append, HN.out]; exact Lib.hid rfl
  clear hO3 hB4 k3 a0 a1 a2 hs3
  go_wp2_with fail
  go_ret
  exact ⟨A4, c4, rfl, HN4.out, hO4.more hB0.size, hB0.trans (hB14.mono hB0.size)⟩

set_option maxRecDepth 10000 in
set_option maxHeartbeats 2000000 in
theorem putP_bool0 (A : Option Addr) (m c : Nat) (l : List Int) (w : World) (hR : Rd w w.heap.size A m l) (hmc : m ≤ c) (hb : m ≤ 1099511627775) :
    Calls Tryd.prog 27 #[.slice A m c, .agg #[.int .i64 1, .int .i64 0, .string (strOfNums [])], .func (.func 30) #[] #[], .func (.func 31) #[] #[]] w (RetL 5 w (m + ([1, 0] : List Int).length) (l ++ [1, 0])) := by
  have HN := Lib.hid hR.len
  have CC := Lib.hid (fun (w1 : World) (h : Below w.heap.size w w1) => clone_any A m c l w1 (hR.on h h.size) (by omega) hmc)
  have CM := Lib.hid (fun w => may_any ⟨1, 0, []⟩ ok_bool0 (by show (0 : Int) ≤ _; omega) w)
  rw [show decide (mayP ⟨1, 0, []⟩) = true by decide] at CM
  unfold vaV at CM
  dsimp only at CM
  have hB0 : Below w.heap.size w (w.alloc (.cells #[.int .i64 1, .int .i64 0, .string (strOfNums [])] 24)) := (Below.refl _ _).alloc (Nat.le_refl _) _
  have k0 : Blk 24 (w.alloc (.cells #[.int .i64 1, .int .i64 0, .string (strOfNums [])] 24)) w.heap.size [.int .i64 1, .int .i64 0, .string (strOfNums [])] := heap_alloc_new w _
  clear hR
  go_enter Tryd.func27, Tryd.ntmps27
  go_upto_region 1 with (fail)
  have C1 := Lib.hid (CC.out _ hB0)
  clear CC
  generalize (w.alloc (.cells #[.int .i64 1, .int .i64 0, .string (strOfNums [])] 24)) = w1 at *
  have k0l := k0.lt
  go_wp2_with fail
  refine C1.out.mono ?_
  rintro e w2 ⟨A1, c1, rfl, hl1, hO1, hB2⟩
  have k2 := k0.below hB2 k0.lt
  have a0 := k2.cell 0
  have a1 := k2.cell 1
  have a2 := k2.cell 2
  simp only [List.getElem?_cons_zero, List.getElem?_cons_succ] at a0 a1 a2
  go_wp2_with fail
  refine (CM.out _).mono ?_
  clear CM a0 a1 a2
  rintro e w3 ⟨rfl, hB3⟩
  have hB13 := hB2.trans (hB3.mono hB2.size)
  have hs3 := hB13.size
  have k3 := k2.below hB3 k2.lt
  have hO3 := hO1.below hB3
  have a0 := k3.cell 0
  have a1 := k3.cell 1
  have a2 := k3.cell 2
  simp only [List.getElem?_cons_zero, List.getElem?_cons_succ] at a0 a1 a2
  clear C1 hO1 hB2 hB3 k2 hl1
  go_wp2_with (at_builtin; with_reducible refine wpList_append_rd rfl (.tmp 16) (.tmp 20) 22 rfl w1.heap.size 5 Tryd.underlying22 info5 A1 m c1 l HN.out rfl (hO3.alloc _) _ _ 1 1 [_] rfl (Rd.one _ _ _) ?hb4 ?hbase4 ?_)
  case hb4 => omega
  case hbase4 => simp; omega
  intro A4 c4 w4 hO4 hB4 _
  have hB14 := (hB13.alloc hs3 _).trans hB4
  have hs4 := hB14.size
  have k4 : Blk 24 w4 w.heap.size _ := (k3.alloc _).below hB4 k0l
  have b0 := k4.cell 0
  have b1 := k4.cell 1
  have b2 := k4.cell 2
  simp only [List.getElem?_cons_zero, List.getElem?_cons_succ] at b0 b1 b2
  have HN4 : Hid ((l ++ [1]).length = m + 1) := by rw [List.length_append, HN.out]; exact Lib.hid rfl
  clear hO3 hB4 k3 a0 a1 a2 hs3
  go_wp2_with (at_builtin; with_reducible refine wpList_append_rd rfl (.tmp 26) (.tmp 30) 22 rfl w1.heap.size 5 Tryd.underlying22 info5 A4 (m + 1) c4 (l ++ [1]) HN4.out rfl (hO4.alloc _) _ _ 1 1 [_] rfl (Rd.one _ _ _) ?hb5 ?hbase5 ?_)
  case hb5 => omega
  case hbase5 => simp; omega
  intro A5 c5 w5 hO5 hB5 _
  (try rw [List.append_assoc] at hO5)
  have hB15 := (hB14.alloc hs4 _).trans hB5
  clear b0 b1 b2
  go_wp2_with fail
  go_ret
  exact ⟨A5, c5, rfl, by have := HN.out; simp at this ⊢; omega, hO5.more hB0.size, hB0.trans (hB15.mono hB0.size)⟩

set_option maxRecDepth 10000 in
set_option maxHeartbeats 2000000 in
theorem putP_bool1 (A : Option Addr) (m c : Nat) (l : List Int) (w : World) (hR : Rd w w.heap.size A m l) (hmc : m ≤ c) (hb : m ≤ 1099511627775) :
    Calls Tryd.prog 27 #[.slice A m c, .agg #[.int .i64 1, .int .i64 1, .string (strOfNums [])], .func (.func 30) #[] #[], .func (.func 31) #[] #[]] w (RetL 5 w (m + ([1, 1] : List Int).length) (l ++ [1, 1])) := by
  have HN := Lib.hid hR.len
  have CC := Lib.hid (fun (w1 : World) (h : Below w.heap.size w w1) => clone_any A m c l w1 (hR.on h h.size) (by omega) hmc)
  have CM := Lib.hid (fun w => may_any ⟨1, 1, []⟩ ok_bool1 (by show (0 : Int) ≤ _; omega) w)
  rw [show decide (mayP ⟨1, 1, []⟩) = true by decide] at CM
  unfold vaV at CM
  dsimp only at CM
  have hB0 : Below w.heap.size w (w.alloc (.cells #[.int .i64 1, .int .i64 1, .string (strOfNums [])] 24)) := (Below.refl _ _).alloc (Nat.le_refl _) _
  have k0 : Blk 24 (w.alloc (.cells #[.int .i64 1, .int .i64 1, .string (strOfNums [])] 24)) w.heap.size [.int .i64 1, .int .i64 1, .string (strOfNums [])] := heap_alloc_new w _
  clear hR
  go_enter Tryd.func27, Tryd.ntmps27
  go_upto_region 1 with (fail)
  have C1 := Lib.hid (CC.out _ hB0)
  clear CC
  generalize (w.alloc (.cells #[.int .i64 1, .int .i64 1, .string (strOfNums [])] 24)) = w1 at *
  have k0l := k0.lt
  go_wp2_with fail
  refine C1.out.mono ?_
  rintro e w2 ⟨A1, c1, rfl, hl1, hO1, hB2⟩
  have k2 := k0.below hB2 k0.lt
  have a0 := k2.cell 0
  have a1 := k2.cell 1
  have a2 := k2.cell 2
  simp only [List.getElem?_cons_zero, List.getElem?_cons_succ] at a0 a1 a2
  go_wp2_with fail
  refine (CM.out _).mono ?_
  clear CM a0 a1 a2
  rintro e w3 ⟨rfl, hB3⟩
  have hB13 := hB2.trans (hB3.mono hB2.size)
  have hs3 := hB13.size
  have k3 := k2.below hB3 k2.lt
  have hO3 := hO1.below hB3
  have a0 := k3.cell 0
  have a1 := k3.cell 1
  have a2 := k3.cell 2
  simp only [List.getElem?_cons_zero, List.getElem?_cons_succ] at a0 a1 a2
  clear C1 hO1 hB2 hB3 k2 hl1
  go_wp2_with (at_builtin; with_reducible refine wpList_append_rd rfl (.tmp 16) (.tmp 20) 22 rfl w1.heap.size 5 Tryd.underlying22 info5 A1 m c1 l HN.out rfl (hO3.alloc _) _ _ 1 1 [_] rfl (Rd.one _ _ _) ?hb4 ?hbase4 ?_)
  case hb4 => omega
  case hbase4 => simp; omega
  intro A4 c4 w4 hO4 hB4 _
  have hB14 := (hB13.alloc hs3 _).trans hB4
  have hs4 := hB14.size
  have k4 : Blk 24 w4 w.heap.size _ := (k3.alloc _).below hB4 k0l
  have b0 := k4.cell 0
  have b1 := k4.cell 1
  have b2 := k4.cell 2
  simp only [List.getElem?_cons_zero, List.getElem?_cons_succ] at b0 b1 b2
  have HN4 : Hid ((l ++ [1]).length = m + 1) := by rw [List.length_append, HN.out]; exact Lib.hid rfl
  clear hO3 hB4 k3 a0 a1 a2 hs3
  go_wp2_with (at_builtin; with_reducible refine wpList_append_rd rfl (.tmp 26) (.tmp 30) 22 rfl w1.heap.size 5 Tryd.underlying22 info5 A4 (m + 1) c4 (l ++ [1]) HN4.out rfl (hO4.alloc _) _ _ 1 1 [_] rfl (Rd.one _ _ _) ?hb5 ?hbase5 ?_)
  case hb5 => omega
  case hbase5 => simp; omega
  intro A5 c5 w5 hO5 hB5 _
  (try rw [List.append_assoc] at hO5)
  have hB15 := (hB14.alloc hs4 _).trans hB5
  clear b0 b1 b2
  go_wp2_with fail
  go_ret
  exact ⟨A5, c5, rfl, by have := HN.out; simp at this ⊢; omega, hO5.more hB0.size, hB0.trans (hB15.mono hB0.size)⟩

set_option maxRecDepth 10000 in
set_option maxHeartbeats 2000000 in
theorem putP_int (A : Option Addr) (m c : Nat) (l : List Int) (n : Int) (w : World) (hR : Rd w w.heap.size A m l) (hmc : m ≤ c) (hb : m ≤ 1099511627775) (hn : I64 n) :
    Calls Tryd.prog 27 #[.slice A m c, .agg #[.int .i64 2, .int .i64 n, .string (strOfNums [])], .func (.func 30) #[] #[], .func (.func 31) #[] #[]] w (RetL 5 w (m + ((2 :: varB (zigF n)) : List Int).length) (l ++ (2 :: varB (zigF n)))) := by
  obtain ⟨M, hM0⟩ : ∃ M, m + ((2 :: varB (zigF n)) : List Int).length = M := ⟨_, rfl⟩
  rw [hM0]
  have hM := Lib.hid hM0
  clear hM0
  have HN := Lib.hid hR.len
  have CC := Lib.hid (fun (w1 : World) (h : Below w.heap.size w w1) => clone_any A m c l w1 (hR.on h h.size) (by omega) hmc)
  have CM := Lib.hid (fun w => may_any ⟨2, n, []⟩ (ok_int n hn) (by show (0 : Int) ≤ _; omega) w)
  rw [show decide (mayP ⟨2, n, []⟩) = true by simp [mayP]] at CM
  unfold vaV at CM
  dsimp only at CM
  have hB0 : Below w.heap.size w (w.alloc (.cells #[.int .i64 2, .int .i64 n, .string (strOfNums [])] 24)) := (Below.refl _ _).alloc (Nat.le_refl _) _
  have k0 : Blk 24 (w.alloc (.cells #[.int .i64 2, .int .i64 n, .string (strOfNums [])] 24)) w.heap.size [.int .i64 2, .int .i64 n, .string (strOfNums [])] := heap_alloc_new w _
  clear hR
  go_enter Tryd.func27, Tryd.ntmps27
  go_upto_region 1 with (fail)
  have C1 := Lib.hid (CC.out _ hB0)
  clear CC
  generalize (w.alloc (.cells #[.int .i64 2, .int .i64 n, .string (strOfNums [])] 24)) = w1 at *
  have k0l := k0.lt
  go_wp2_with fail
  refine C1.out.mono ?_
  rintro e w2 ⟨A1, c1, rfl, hl1, hO1, hB2⟩
  have k2 := k0.below hB2 k0.lt
  have a0 := k2.cell 0
  have a1 := k2.cell 1
  have a2 := k2.cell 2
  simp only [List.getElem?_cons_zero, List.getElem?_cons_succ] at a0 a1 a2
  go_wp2_with fail
  refine (CM.out _).mono ?_
  clear CM a0 a1 a2
  rintro e w3 ⟨rfl, hB3⟩
  have hB13 := hB2.trans (hB3.mono hB2.size)
  have hs3 := hB13.size
  have k3 := k2.below hB3 k2.lt
  have hO3 := hO1.below hB3
  have a0 := k3.cell 0
  have a1 := k3.cell 1
  have a2 := k3.cell 2
  simp only [List.getElem?_cons_zero, List.getElem?_cons_succ] at a0 a1 a2
  clear C1 hO1 hB2 hB3 k2 hl1
  go_wp2_with (at_builtin; with_reducible refine wpList_append_rd rfl (.tmp 16) (.tmp 20) 22 rfl w1.heap.size 5 Tryd.underlying22 info5 A1 m c1 l HN.out rfl (hO3.alloc _) _ _ 1 1 [_] rfl (Rd.one _ _ _) ?hb4 ?hbase4 ?_)
  case hb4 => omega
  case hbase4 => simp; omega
  intro A4 c4 w4 hO4 hB4 _
  have hB14 := (hB13.alloc hs3 _).trans hB4
  have hs4 := hB14.size
  have k4 : Blk 24 w4 w.heap.size _ := (k3.alloc _).below hB4 k0l
  have b0 := k4.cell 0
  have b1 := k4.cell 1
  have b2 := k4.cell 2
  simp only [List.getElem?_cons_zero, List.getElem?_cons_succ] at b0 b1 b2
  have HN4 : Hid ((l ++ [2]).length = m + 1) := by rw [List.length_append, HN.out]; exact Lib.hid rfl
  clear hO3 hB4 k3 a0 a1 a2 hs3
  have P1 := Lib.hid (putZig_any A4 (m + 1) c4 (l ++ [2]) n w4 w1.heap.size hO4 HN4.out hs4 (by omega) hn)
  obtain ⟨q, hq⟩ : ∃ q, m + 1 + (varB (zigF n)).length = q := ⟨_, rfl⟩
  rw [hq] at P1
  obtain rfl : q = M := by rw [← hM.out, ← hq]; rw [List.length_cons]; omega
  clear hO4 hq hM
  go_wp2_with fail
  refine P1.out.mono ?_
  rintro e w5 ⟨A5, c5, rfl, hl5, hO5, hB5⟩
  have hB15 := hB14.trans hB5
  clear b0 b1 b2 P1
  go_wp2_with fail
  go_ret
  exact ⟨A5, c5, rfl, by rw [← hl5, List.append_assoc]; rfl, by rw [List.append_assoc] at hO5; exact hO5.more hB0.size, hB0.trans (hB15.mono hB0.size)⟩

set_option maxRecDepth 10000 in
set_option maxHeartbeats 2000000 in
theorem putP_text (A : Option Addr) (m c : Nat) (l : List Int) (s : List Int) (w : World) (hR : Rd w w.heap.size A m l) (hmc : m ≤ c) (hb : m ≤ 1099511627775) (hs : s.length ≤ 64) (hY : Byt s) :
    Calls Tryd.prog 27 #[.slice A m c, .agg #[.int .i64 3, .int .i64 0, .string (strOfNums s)], .func (.func 30) #[] #[], .func (.func 31) #[] #[]] w (RetL 5 w (m + ((3 :: (varB s.length ++ s)) : List Int).length) (l ++ (3 :: (varB s.length ++ s)))) := by
  obtain ⟨M, hM0⟩ : ∃ M, m + ((3 :: (varB s.length ++ s)) : List Int).length = M := ⟨_, rfl⟩
  rw [hM0]
  have hM := Lib.hid hM0
  clear hM0
  have HN := Lib.hid hR.len
  have CC := Lib.hid (fun (w1 : World) (h : Below w.heap.size w w1) => clone_any A m c l w1 (hR.on h h.size) (by omega) hmc)
  have CM := Lib.hid (fun w => may_any ⟨3, 0, s⟩ (ok_text s hY) (by show (s.length : Int) ≤ _; omega) w)
  rw [show decide (mayP ⟨3, 0, s⟩) = true by simp [mayP, hs]] at CM
  unfold vaV at CM
  dsimp only at CM
  have hB0 : Below w.heap.size w (w.alloc (.cells #[.int .i64 3, .int .i64 0, .string (strOfNums s)] 24)) := (Below.refl _ _).alloc (Nat.le_refl _) _
  have k0 : Blk 24 (w.alloc (.cells #[.int .i64 3, .int .i64 0, .string (strOfNums s)] 24)) w.heap.size [.int .i64 3, .int .i64 0, .string (strOfNums s)] := heap_alloc_new w _
  clear hR
  go_enter Tryd.func27, Tryd.ntmps27
  go_upto_region 1 with (fail)
  have C1 := Lib.hid (CC.out _ hB0)
  clear CC
  generalize (w.alloc (.cells #[.int .i64 3, .int .i64 0, .string (strOfNums s)] 24)) = w1 at *
  have k0l := k0.lt
  go_wp2_with fail
  refine C1.out.mono ?_
  rintro e w2 ⟨A1, c1, rfl, hl1, hO1, hB2⟩
  have k2 := k0.below hB2 k0.lt
  have a0 := k2.cell 0
  have a1 := k2.cell 1
  have a2 := k2.cell 2
  simp only [List.getElem?_cons_zero, List.getElem?_cons_succ] at a0 a1 a2
  go_wp2_with fail
  refine (CM.out _).mono ?_
  clear CM a0 a1 a2
  rintro e w3 ⟨rfl, hB3⟩
  have hB13 := hB2.trans (hB3.mono hB2.size)
  have hs3 := hB13.size
  have k3 := k2.below hB3 k2.lt
  have hO3 := hO1.below hB3
  have a0 := k3.cell 0
  have a1 := k3.cell 1
  have a2 := k3.cell 2
  simp only [List.getElem?_cons_zero, List.getElem?_cons_succ] at a0 a1 a2
  clear C1 hO1 hB2 hB3 k2 hl1
  go_wp2_with (at_builtin; with_reducible refine wpList_append_rd rfl (.tmp 16) (.tmp 20) 22 rfl w1.heap.size 5 Tryd.underlying22 info5 A1 m c1 l HN.out rfl (hO3.alloc _) _ _ 1 1 [_] rfl (Rd.one _ _ _) ?hb4 ?hbase4 ?_)
  case hb4 => omega
  case hbase4 => simp; omega
  intro A4 c4 w4 hO4 hB4 _
  have hB14 := (hB13.alloc hs3 _).trans hB4
  have hs4 := hB14.size
  have k4 : Blk 24 w4 w.heap.size _ := (k3.alloc _).below hB4 k0l
  have b0 := k4.cell 0
  have b1 := k4.cell 1
  have b2 := k4.cell 2
  simp only [List.getElem?_cons_zero, List.getElem?_cons_succ] at b0 b1 b2
  have HN4 : Hid ((l ++ [3]).length = m + 1) := by rw [List.length_append, HN.out]; exact Lib.hid rfl
  clear hO3 hB4 k3 a0 a1 a2 hs3
  have P1 := Lib.hid (putCounted_any A4 (m + 1) c4 (l ++ [3]) s w4 w1.heap.size hO4 HN4.out hs4 (by omega) hs hY)
  obtain ⟨q, hq⟩ : ∃ q, m + 1 + (varB s.length).length + s.length = q := ⟨_, rfl⟩
  rw [hq] at P1
  obtain rfl : q = M := by rw [← hM.out, ← hq]; rw [List.length_cons, List.length_append]; omega
  clear hO4 hq hM
  go_wp2_with fail
  refine P1.out.mono ?_
  rintro e w5 ⟨A5, c5, rfl, hl5, hO5, hB5⟩
  have hB15 := hB14.trans hB5
  clear b0 b1 b2 P1
  go_wp2_with fail
  go_ret
  exact ⟨A5, c5, rfl, by rw [← hl5, List.append_assoc]; rfl, by rw [List.append_assoc] at hO5; exact hO5.more hB0.size, hB0.trans (hB15.mono hB0.size)⟩

theorem putP_any (A : Option Addr) (m c : Nat) (l : List Int) (a : VaL) (w : World) (hR : Rd w w.heap.size A m l) (hmc : m ≤ c) (hb : m ≤ 1099511627775) (hs : a.s.length ≤ 1099511627776) (ha : a.ok) :
    Calls Tryd.prog 27 #[.slice A m c, vaV a, .func (.func 30) #[] #[], .func (.func 31) #[] #[]] w (RetL 5 w (m + (plainF a).length) (l ++ plainF a)) := by
  obtain ⟨k, n, s⟩ := a
  by_cases hm : mayP ⟨k, n, s⟩
  · have hF : plainF ⟨k, n, s⟩ = k :: plainT ⟨k, n, s⟩ := if_pos hm
    rw [hF]
    rcases hm with ⟨h1, h2, h3⟩ | ⟨h1, h2, h3⟩ | ⟨h1, h3⟩ | ⟨h1, h2, h3⟩
    · dsimp only at h1 h2 h3; subst h1; subst h2; subst h3
      exact putP_null A m c l w hR hmc hb
    · dsimp only at h1 h2 h3; subst h1; subst h3
      rcases h2 with rfl | rfl
      · exact putP_bool0 A m c l w hR hmc hb
      · exact putP_bool1 A m c l w hR hmc hb
    · dsimp only at h1 h3; subst h1; subst h3
      exact putP_int A m c l n w hR hmc hb ha.2.1
    · dsimp only at h1 h2 h3; subst h1; subst h2
      exact putP_text A m c l s w hR hmc hb h3 ha.2.2
  · rw [show plainF ⟨k, n, s⟩ = [] from if_neg hm]
    exact putP_no A m c l k n s w hR hmc hb hs ha hm
set_option maxRecDepth 10000 in
theorem plain_any (A : Option Addr) (m c : Nat) (l : List Int) (a : VaL) (w : World) (hR : Rd w w.heap.size A m l) (hmc : m ≤ c) (hcm : c ≤ maxLen) (hb : m ≤ 1099511627775) (hs : a.s.length ≤ 1099511627776) (ha : a.ok) :
    Calls Tryd.prog 12 #[.slice A m c, vaV a] w (RetL 5 w (m + (plainF a).length) (l ++ plainF a)) := by
  have P := Lib.hid (fun (w1 : World) (h : Below w.heap.size w w1) => putP_any A m c l a w1 (hR.on h h.size) hmc hb hs ha)
  clear hR ha
  generalize plainF a = X at *
  obtain ⟨k, n, s⟩ := a
  unfold vaV at P ⊢
  dsimp only at P hs ⊢
  have hB0 : Below w.heap.size w (w.alloc (.cells #[.int .i64 k, .int .i64 n, .string (strOfNums s)] 24)) := (Below.refl _ _).alloc (Nat.le_refl _) _
  go_enter Tryd.func12, Tryd.ntmps12
  have P1 := Lib.hid (P.out _ hB0)
  clear P
  go_wp2_with fail
  refine P1.out.mono ?_
  rintro e w2 ⟨A1, c1, rfl, hl1, hO1, hB2⟩
  go_wp2_with fail
  go_ret
  exact ⟨A1, c1, rfl, hl1, hO1.more hB0.size, hB0.trans (hB2.mono hB0.size)⟩
end Go.Proofs.YtodpaeaeigjmdaaDoor.val
