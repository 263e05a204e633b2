/- What the document's Plain (antipoderef7) comes to. Conditions: at most 2^40 bytes. -/
import Derived.Test.YtodpaeaeigjmdaaDoorRef7k
import Derived.Test.YtodpaeaeigjmdaaDoorKitC
namespace Go.Proofs.YtodpaeaeigjmdaaDoor.ref7
open Go Go.RowKit Go.Proofs.YtodpaeaeigjmdaaDoor.kit Go.Proofs.YtodpaeaeigjmdaaDoor.nums Go.Proofs.YtodpaeaeigjmdaaDoor.st Go.Proofs.YtodpaeaeigjmdaaDoor.va Go.Proofs.YtodpaeaeigjmdaaDoor.bytes Go.Proofs.YtodpaeaeigjmdaaDoor.ints
set_option linter.unusedVariables false

set_option maxHeartbeats 2000000 in
theorem plain_no (A : Option Addr) (m c : Nat) (l : List Int) (k n : Int) (s : List Int) (w : World) (hR : Rd w w.heap.size A m l) (hb : m ≤ 1099511627775) (hs : s.length ≤ 1099511627776) (hm : ¬ mayP ⟨k, n, s⟩) :
    Calls Tryd.prog 14 #[.slice A m c, vaV ⟨k, n, s⟩] w (RetL 5 w (m + ([] : List Int).length) (l ++ ([] : List Int))) := by
  have HN := Lib.hid hR.len
  have CM := Lib.hid (fun w => may_any ⟨k, n, s⟩ hs w)
  rw [show decide (mayP ⟨k, n, s⟩) = false by simp [hm]] at CM
  clear hm
  unfold vaV at CM ⊢
  dsimp only at CM ⊢
  have hB0 : Below w.heap.size w (w.alloc (.cells #[.int .i64 k, .int .i64 n, .string (strOfNums s)] 24)) := (Below.refl _ _).alloc (Nat.le_refl _) _
  have k0 : Blk 24 (w.alloc (.cells #[.int .i64 k, .int .i64 n, .string (strOfNums s)] 24)) w.heap.size [.int .i64 k, .int .i64 n, .string (strOfNums s)] := heap_alloc_new w _
  have hR1 := hR.on hB0 hB0.size
  have hz := strOfNums_size s
  go_enter Tryd.func14, Tryd.ntmps14
  go_upto_region 1 with (fail)
  generalize (w.alloc (.cells #[.int .i64 k, .int .i64 n, .string (strOfNums s)] 24)) = w1 at *
  have k0l := k0.lt
  have hR2 := hR1.alloc (Nat.le_refl _) (.cells #[] 5)
  clear hR hR1
  go_wp2_with (at_builtin; with_reducible refine wpList_append_rd rfl (.tmp 6) (.tmp 7) 22 rfl w1.heap.size 5 Tryd.underlying22 info5 _ 0 0 [] rfl rfl (Own.empty _ _ (Nat.le_refl _)) _ _ m _ _ rfl hR2 ?ha ?hbs ?_)
  case ha => omega
  case hbs => simp
  intro A1 c1 w2 hO1 hB1 _
  (try rw [Nat.zero_add, List.nil_append] at hO1)
  have hB2 := ((Below.refl _ _).alloc (Nat.le_refl _) _).trans hB1
  clear hB1 hR2
  have k2 := k0.below hB2 k0l
  have a0 := k2.cell 0
  have a1 := k2.cell 1
  have a2 := k2.cell 2
  simp only [List.getElem?_cons_zero, List.getElem?_cons_succ] at a0 a1 a2
  go_wp2_with fail
  refine (CM.out _).mono ?_
  clear CM a0 a1 a2
  rintro e w3 ⟨rfl, hB3⟩
  have hB23 := hB2.trans (hB3.mono hB2.size)
  have k3 := k0.below hB23 k0l
  have a0 := k3.cell 0
  have a1 := k3.cell 1
  have a2 := k3.cell 2
  simp only [List.getElem?_cons_zero, List.getElem?_cons_succ] at a0 a1 a2
  have hO3 := hO1.below hB3
  have hs3 := hB23.size
  clear hO1 hB3 hB2 k2 k0
  go_wp2_with fail
  go_ret
  rw [List.append_nil]
  exact ⟨A1, c1, rfl, HN.out, (hO3).more hB0.size, hB0.trans ((hB23).mono hB0.size)⟩
set_option maxHeartbeats 2000000 in
theorem plain_null (A : Option Addr) (m c : Nat) (l : List Int) (s : List Int) (w : World) (hR : Rd w w.heap.size A m l) (hb : m ≤ 1099511627775) (hs : s.length ≤ 1099511627776) (hm : s = []) :
    Calls Tryd.prog 14 #[.slice A m c, vaV ⟨0, 0, s⟩] w (RetL 5 w (m + [(0 : Int)].length) (l ++ [(0 : Int)])) := by
  have HN := Lib.hid hR.len
  have CM := Lib.hid (fun w => may_any ⟨0, 0, s⟩ hs w)
  rw [show decide (mayP ⟨0, 0, s⟩) = true by simp [mayP, hm]] at CM
  clear hm
  unfold vaV at CM ⊢
  dsimp only at CM ⊢
  have hB0 : Below w.heap.size w (w.alloc (.cells #[.int .i64 0, .int .i64 0, .string (strOfNums s)] 24)) := (Below.refl _ _).alloc (Nat.le_refl _) _
  have k0 : Blk 24 (w.alloc (.cells #[.int .i64 0, .int .i64 0, .string (strOfNums s)] 24)) w.heap.size [.int .i64 0, .int .i64 0, .string (strOfNums s)] := heap_alloc_new w _
  have hR1 := hR.on hB0 hB0.size
  have hz := strOfNums_size s
  go_enter Tryd.func14, Tryd.ntmps14
  go_upto_region 1 with (fail)
  generalize (w.alloc (.cells #[.int .i64 0, .int .i64 0, .string (strOfNums s)] 24)) = w1 at *
  have k0l := k0.lt
  have hR2 := hR1.alloc (Nat.le_refl _) (.cells #[] 5)
  clear hR hR1
  go_wp2_with (at_builtin; with_reducible refine wpList_append_rd rfl (.tmp 6) (.tmp 7) 22 rfl w1.heap.size 5 Tryd.underlying22 info5 _ 0 0 [] rfl rfl (Own.empty _ _ (Nat.le_refl _)) _ _ m _ _ rfl hR2 ?ha ?hbs ?_)
  case ha => omega
  case hbs => simp
  intro A1 c1 w2 hO1 hB1 _
  (try rw [Nat.zero_add, List.nil_append] at hO1)
  have hB2 := ((Below.refl _ _).alloc (Nat.le_refl _) _).trans hB1
  clear hB1 hR2
  have k2 := k0.below hB2 k0l
  have a0 := k2.cell 0
  have a1 := k2.cell 1
  have a2 := k2.cell 2
  simp only [List.getElem?_cons_zero, List.getElem?_cons_succ] at a0 a1 a2
  go_wp2_with fail
  refine (CM.out _).mono ?_
  clear CM a0 a1 a2
  rintro e w3 ⟨rfl, hB3⟩
  have hB23 := hB2.trans (hB3.mono hB2.size)
  have k3 := k0.below hB23 k0l
  have a0 := k3.cell 0
  have a1 := k3.cell 1
  have a2 := k3.cell 2
  simp only [List.getElem?_cons_zero, List.getElem?_cons_succ] at a0 a1 a2
  have hO3 := hO1.below hB3
  have hs3 := hB23.size
  clear hO1 hB3 hB2 k2 k0
  go_wp2_with (at_builtin; with_reducible refine wpList_append_rd rfl (.tmp 13) (.tmp 17) 22 rfl w1.heap.size 5 Tryd.underlying22 info5 A1 m c1 l HN.out rfl (hO3.alloc _) _ _ 1 1 [_] rfl (Rd.one _ _ _) ?hb ?hbase ?_)
  case hb => omega
  case hbase => simp; omega
  intro A4 c4 w4 hO4 hB4 _
  have hB24 := (hB23.alloc hs3 _).trans hB4
  have hs4 := hB24.size
  have k4 : Blk 24 w4 w.heap.size _ := (k3.alloc _).below hB4 k0l
  have b0 := k4.cell 0
  have b1 := k4.cell 1
  have b2 := k4.cell 2
  simp only [List.getElem?_cons_zero, List.getElem?_cons_succ] at b0 b1 b2
  have HN4 : Hid ((l ++ [0]).length = m + 1) := by rw [List.length_append, HN.out]; exact Lib.hid rfl
  clear hO3 hB4 k3 a0 a1 a2
  go_wp2_with fail
  go_ret
  exact ⟨A4, c4, rfl, HN4.out, (hO4).more hB0.size, hB0.trans ((hB24).mono hB0.size)⟩
set_option maxHeartbeats 2000000 in
theorem plain_bool0 (A : Option Addr) (m c : Nat) (l : List Int) (s : List Int) (w : World) (hR : Rd w w.heap.size A m l) (hb : m ≤ 1099511627775) (hs : s.length ≤ 1099511627776) (hm : s = []) :
    Calls Tryd.prog 14 #[.slice A m c, vaV ⟨1, 0, s⟩] w (RetL 5 w (m + [(1 : Int), 0].length) (l ++ [(1 : Int), 0])) := by
  have HN := Lib.hid hR.len
  have CM := Lib.hid (fun w => may_any ⟨1, 0, s⟩ hs w)
  rw [show decide (mayP ⟨1, 0, s⟩) = true by simp [mayP, hm]] at CM
  clear hm
  unfold vaV at CM ⊢
  dsimp only at CM ⊢
  have hB0 : Below w.heap.size w (w.alloc (.cells #[.int .i64 1, .int .i64 0, .string (strOfNums s)] 24)) := (Below.refl _ _).alloc (Nat.le_refl _) _
  have k0 : Blk 24 (w.alloc (.cells #[.int .i64 1, .int .i64 0, .string (strOfNums s)] 24)) w.heap.size [.int .i64 1, .int .i64 0, .string (strOfNums s)] := heap_alloc_new w _
  have hR1 := hR.on hB0 hB0.size
  have hz := strOfNums_size s
  go_enter Tryd.func14, Tryd.ntmps14
  go_upto_region 1 with (fail)
  generalize (w.alloc (.cells #[.int .i64 1, .int .i64 0, .string (strOfNums s)] 24)) = w1 at *
  have k0l := k0.lt
  have hR2 := hR1.alloc (Nat.le_refl _) (.cells #[] 5)
  clear hR hR1
  go_wp2_with (at_builtin; with_reducible refine wpList_append_rd rfl (.tmp 6) (.tmp 7) 22 rfl w1.heap.size 5 Tryd.underlying22 info5 _ 0 0 [] rfl rfl (Own.empty _ _ (Nat.le_refl _)) _ _ m _ _ rfl hR2 ?ha ?hbs ?_)
  case ha => omega
  case hbs => simp
  intro A1 c1 w2 hO1 hB1 _
  (try rw [Nat.zero_add, List.nil_append] at hO1)
  have hB2 := ((Below.refl _ _).alloc (Nat.le_refl _) _).trans hB1
  clear hB1 hR2
  have k2 := k0.below hB2 k0l
  have a0 := k2.cell 0
  have a1 := k2.cell 1
  have a2 := k2.cell 2
  simp only [List.getElem?_cons_zero, List.getElem?_cons_succ] at a0 a1 a2
  go_wp2_with fail
  refine (CM.out _).mono ?_
  clear CM a0 a1 a2
  rintro e w3 ⟨rfl, hB3⟩
  have hB23 := hB2.trans (hB3.mono hB2.size)
  have k3 := k0.below hB23 k0l
  have a0 := k3.cell 0
  have a1 := k3.cell 1
  have a2 := k3.cell 2
  simp only [List.getElem?_cons_zero, List.getElem?_cons_succ] at a0 a1 a2
  have hO3 := hO1.below hB3
  have hs3 := hB23.size
  clear hO1 hB3 hB2 k2 k0
  go_wp2_with (at_builtin; with_reducible refine wpList_append_rd rfl (.tmp 13) (.tmp 17) 22 rfl w1.heap.size 5 Tryd.underlying22 info5 A1 m c1 l HN.out rfl (hO3.alloc _) _ _ 1 1 [_] rfl (Rd.one _ _ _) ?hb ?hbase ?_)
  case hb => omega
  case hbase => simp; omega
  intro A4 c4 w4 hO4 hB4 _
  have hB24 := (hB23.alloc hs3 _).trans hB4
  have hs4 := hB24.size
  have k4 : Blk 24 w4 w.heap.size _ := (k3.alloc _).below hB4 k0l
  have b0 := k4.cell 0
  have b1 := k4.cell 1
  have b2 := k4.cell 2
  simp only [List.getElem?_cons_zero, List.getElem?_cons_succ] at b0 b1 b2
  have HN4 : Hid ((l ++ [1]).length = m + 1) := by rw [List.length_append, HN.out]; exact Lib.hid rfl
  clear hO3 hB4 k3 a0 a1 a2
  go_wp2_with (at_builtin; with_reducible refine wpList_append_rd rfl (.tmp 23) (.tmp 27) 22 rfl w1.heap.size 5 Tryd.underlying22 info5 A4 (m + 1) c4 (l ++ [1]) HN4.out rfl (hO4.alloc _) _ _ 1 1 [_] rfl (Rd.one _ _ _) ?hb5 ?hbase5 ?_)
  case hb5 => omega
  case hbase5 => simp; omega
  intro A5 c5 w5 hO5 hB5 _
  (try rw [List.append_assoc] at hO5)
  have hB25 := (hB24.alloc hs4 _).trans hB5
  go_wp2_with fail
  go_ret
  exact ⟨A5, c5, rfl, by rw [List.length_append, HN.out]; rfl, (hO5).more hB0.size, hB0.trans ((hB25).mono hB0.size)⟩
set_option maxHeartbeats 2000000 in
theorem plain_bool1 (A : Option Addr) (m c : Nat) (l : List Int) (s : List Int) (w : World) (hR : Rd w w.heap.size A m l) (hb : m ≤ 1099511627775) (hs : s.length ≤ 1099511627776) (hm : s = []) :
    Calls Tryd.prog 14 #[.slice A m c, vaV ⟨1, 1, s⟩] w (RetL 5 w (m + [(1 : Int), 1].length) (l ++ [(1 : Int), 1])) := by
  have HN := Lib.hid hR.len
  have CM := Lib.hid (fun w => may_any ⟨1, 1, s⟩ hs w)
  rw [show decide (mayP ⟨1, 1, s⟩) = true by simp [mayP, hm]] at CM
  clear hm
  unfold vaV at CM ⊢
  dsimp only at CM ⊢
  have hB0 : Below w.heap.size w (w.alloc (.cells #[.int .i64 1, .int .i64 1, .string (strOfNums s)] 24)) := (Below.refl _ _).alloc (Nat.le_refl _) _
  have k0 : Blk 24 (w.alloc (.cells #[.int .i64 1, .int .i64 1, .string (strOfNums s)] 24)) w.heap.size [.int .i64 1, .int .i64 1, .string (strOfNums s)] := heap_alloc_new w _
  have hR1 := hR.on hB0 hB0.size
  have hz := strOfNums_size s
  go_enter Tryd.func14, Tryd.ntmps14
  go_upto_region 1 with (fail)
  generalize (w.alloc (.cells #[.int .i64 1, .int .i64 1, .string (strOfNums s)] 24)) = w1 at *
  have k0l := k0.lt
  have hR2 := hR1.alloc (Nat.le_refl _) (.cells #[] 5)
  clear hR hR1
  go_wp2_with (at_builtin; with_reducible refine wpList_append_rd rfl (.tmp 6) (.tmp 7) 22 rfl w1.heap.size 5 Tryd.underlying22 info5 _ 0 0 [] rfl rfl (Own.empty _ _ (Nat.le_refl _)) _ _ m _ _ rfl hR2 ?ha ?hbs ?_)
  case ha => omega
  case hbs => simp
  intro A1 c1 w2 hO1 hB1 _
  (try rw [Nat.zero_add, List.nil_append] at hO1)
  have hB2 := ((Below.refl _ _).alloc (Nat.le_refl _) _).trans hB1
  clear hB1 hR2
  have k2 := k0.below hB2 k0l
  have a0 := k2.cell 0
  have a1 := k2.cell 1
  have a2 := k2.cell 2
  simp only [List.getElem?_cons_zero, List.getElem?_cons_succ] at a0 a1 a2
  go_wp2_with fail
  refine (CM.out _).mono ?_
  clear CM a0 a1 a2
  rintro e w3 ⟨rfl, hB3⟩
  have hB23 := hB2.trans (hB3.mono hB2.size)
  have k3 := k0.below hB23 k0l
  have a0 := k3.cell 0
  have a1 := k3.cell 1
  have a2 := k3.cell 2
  simp only [List.getElem?_cons_zero, List.getElem?_cons_succ] at a0 a1 a2
  have hO3 := hO1.below hB3
  have hs3 := hB23.size
  clear hO1 hB3 hB2 k2 k0
  go_wp2_with (at_builtin; with_reducible refine wpList_append_rd rfl (.tmp 13) (.tmp 17) 22 rfl w1.heap.size 5 Tryd.underlying22 info5 A1 m c1 l HN.out rfl (hO3.alloc _) _ _ 1 1 [_] rfl (Rd.one _ _ _) ?hb ?hbase ?_)
  case hb => omega
  case hbase => simp; omega
  intro A4 c4 w4 hO4 hB4 _
  have hB24 := (hB23.alloc hs3 _).trans hB4
  have hs4 := hB24.size
  have k4 : Blk 24 w4 w.heap.size _ := (k3.alloc _).below hB4 k0l
  have b0 := k4.cell 0
  have b1 := k4.cell 1
  have b2 := k4.cell 2
  simp only [List.getElem?_cons_zero, List.getElem?_cons_succ] at b0 b1 b2
  have HN4 : Hid ((l ++ [1]).length = m + 1) := by rw [List.length_append, HN.out]; exact Lib.hid rfl
  clear hO3 hB4 k3 a0 a1 a2
  go_wp2_with (at_builtin; with_reducible refine wpList_append_rd rfl (.tmp 23) (.tmp 27) 22 rfl w1.heap.size 5 Tryd.underlying22 info5 A4 (m + 1) c4 (l ++ [1]) HN4.out rfl (hO4.alloc _) _ _ 1 1 [_] rfl (Rd.one _ _ _) ?hb5 ?hbase5 ?_)
  case hb5 => omega
  case hbase5 => simp; omega
  intro A5 c5 w5 hO5 hB5 _
  (try rw [List.append_assoc] at hO5)
  have hB25 := (hB24.alloc hs4 _).trans hB5
  go_wp2_with fail
  go_ret
  exact ⟨A5, c5, rfl, by rw [List.length_append, HN.out]; rfl, (hO5).more hB0.size, hB0.trans ((hB25).mono hB0.size)⟩
set_option maxHeartbeats 2000000 in
theorem plain_int (A : Option Addr) (m c : Nat) (l : List Int) (n : Int) (s : List Int) (w : World) (hR : Rd w w.heap.size A m l) (hb : m ≤ 1099511627775) (hs : s.length ≤ 1099511627776) (hm : s = []) (hn : I64 n) :
    Calls Tryd.prog 14 #[.slice A m c, vaV ⟨2, n, s⟩] w (RetL 5 w (m + (2 :: varB (zigF n)).length) (l ++ (2 :: varB (zigF n)))) := by
  have HN := Lib.hid hR.len
  have CM := Lib.hid (fun w => may_any ⟨2, n, s⟩ hs w)
  rw [show decide (mayP ⟨2, n, s⟩) = true by simp [mayP, hm]] at CM
  clear hm
  unfold vaV at CM ⊢
  dsimp only at CM ⊢
  have hB0 : Below w.heap.size w (w.alloc (.cells #[.int .i64 2, .int .i64 n, .string (strOfNums s)] 24)) := (Below.refl _ _).alloc (Nat.le_refl _) _
  have k0 : Blk 24 (w.alloc (.cells #[.int .i64 2, .int .i64 n, .string (strOfNums s)] 24)) w.heap.size [.int .i64 2, .int .i64 n, .string (strOfNums s)] := heap_alloc_new w _
  have hR1 := hR.on hB0 hB0.size
  have hz := strOfNums_size s
  go_enter Tryd.func14, Tryd.ntmps14
  go_upto_region 1 with (fail)
  generalize (w.alloc (.cells #[.int .i64 2, .int .i64 n, .string (strOfNums s)] 24)) = w1 at *
  have k0l := k0.lt
  have hR2 := hR1.alloc (Nat.le_refl _) (.cells #[] 5)
  clear hR hR1
  go_wp2_with (at_builtin; with_reducible refine wpList_append_rd rfl (.tmp 6) (.tmp 7) 22 rfl w1.heap.size 5 Tryd.underlying22 info5 _ 0 0 [] rfl rfl (Own.empty _ _ (Nat.le_refl _)) _ _ m _ _ rfl hR2 ?ha ?hbs ?_)
  case ha => omega
  case hbs => simp
  intro A1 c1 w2 hO1 hB1 _
  (try rw [Nat.zero_add, List.nil_append] at hO1)
  have hB2 := ((Below.refl _ _).alloc (Nat.le_refl _) _).trans hB1
  clear hB1 hR2
  have k2 := k0.below hB2 k0l
  have a0 := k2.cell 0
  have a1 := k2.cell 1
  have a2 := k2.cell 2
  simp only [List.getElem?_cons_zero, List.getElem?_cons_succ] at a0 a1 a2
  go_wp2_with fail
  refine (CM.out _).mono ?_
  clear CM a0 a1 a2
  rintro e w3 ⟨rfl, hB3⟩
  have hB23 := hB2.trans (hB3.mono hB2.size)
  have k3 := k0.below hB23 k0l
  have a0 := k3.cell 0
  have a1 := k3.cell 1
  have a2 := k3.cell 2
  simp only [List.getElem?_cons_zero, List.getElem?_cons_succ] at a0 a1 a2
  have hO3 := hO1.below hB3
  have hs3 := hB23.size
  clear hO1 hB3 hB2 k2 k0
  go_wp2_with (at_builtin; with_reducible refine wpList_append_rd rfl (.tmp 13) (.tmp 17) 22 rfl w1.heap.size 5 Tryd.underlying22 info5 A1 m c1 l HN.out rfl (hO3.alloc _) _ _ 1 1 [_] rfl (Rd.one _ _ _) ?hb ?hbase ?_)
  case hb => omega
  case hbase => simp; omega
  intro A4 c4 w4 hO4 hB4 _
  have hB24 := (hB23.alloc hs3 _).trans hB4
  have hs4 := hB24.size
  have k4 : Blk 24 w4 w.heap.size _ := (k3.alloc _).below hB4 k0l
  have b0 := k4.cell 0
  have b1 := k4.cell 1
  have b2 := k4.cell 2
  simp only [List.getElem?_cons_zero, List.getElem?_cons_succ] at b0 b1 b2
  have HN4 : Hid ((l ++ [2]).length = m + 1) := by rw [List.length_append, HN.out]; exact Lib.hid rfl
  clear hO3 hB4 k3 a0 a1 a2
  have hz2 : 0 ≤ zigF n ∧ zigF n ≤ 18446744073709551615 := by unfold zigF; unfold I64 at hn; split <;> omega
  have O1 := Lib.hid (fun w => rzig_any n w hn.1 hn.2)
  have E1 := Lib.hid (fun (A : Option Addr) (c : Nat) (w : World) (hR : Rd w w.heap.size A (m + 1) (l ++ [2])) => rvar_any A (m + 1) c _ (zigF n) w hR (by omega) hz2.1 hz2.2)
  clear hz2
  go_wp2_with fail
  refine (O1.out _).mono ?_
  rintro e w5 ⟨rfl, rfl⟩
  go_wp2_with fail
  refine (E1.out A4 c4 _ (own_rd hO4 HN4.out).1).mono ?_
  rintro e w5 ⟨A5, c5, rfl, hl5, hO5, hB5⟩
  have hB25 := hB24.trans (hB5.mono hs4)
  have hs5 := hB25.size
  generalize hq : varB (zigF n) = q at *
  go_wp2_with fail
  go_ret
  have hO6 : Own 5 w5 w4.heap.size (.slice A5 (m + 1 + q.length) c5) (l ++ (2 :: q)) := by simpa using hO5
  first | rw [show m + (2 :: q).length = m + 1 + q.length by rw [List.length_cons]; omega] | rw [show m + (q.length + 1) = m + 1 + q.length by omega] | skip
  exact ⟨A5, c5, rfl, by simpa using hl5, hO6.more (by omega), hB0.trans (hB25.mono hB0.size)⟩
set_option maxHeartbeats 2000000 in
theorem plain_text (A : Option Addr) (m c : Nat) (l : List Int) (s : List Int) (w : World) (hR : Rd w w.heap.size A m l) (hb : m ≤ 1099511627775) (hs : s.length ≤ 1099511627776) (hm : s.length ≤ 64) (hY : Byt s) :
    Calls Tryd.prog 14 #[.slice A m c, vaV ⟨3, 0, s⟩] w (RetL 5 w (m + (3 :: (varB s.length ++ s)).length) (l ++ (3 :: (varB s.length ++ s)))) := by
  have HN := Lib.hid hR.len
  have CM := Lib.hid (fun w => may_any ⟨3, 0, s⟩ hs w)
  rw [show decide (mayP ⟨3, 0, s⟩) = true by simp [mayP, hm]] at CM
  have hm64 := hm
  clear hm
  unfold vaV at CM ⊢
  dsimp only at CM ⊢
  have hB0 : Below w.heap.size w (w.alloc (.cells #[.int .i64 3, .int .i64 0, .string (strOfNums s)] 24)) := (Below.refl _ _).alloc (Nat.le_refl _) _
  have k0 : Blk 24 (w.alloc (.cells #[.int .i64 3, .int .i64 0, .string (strOfNums s)] 24)) w.heap.size [.int .i64 3, .int .i64 0, .string (strOfNums s)] := heap_alloc_new w _
  have hR1 := hR.on hB0 hB0.size
  have hz := strOfNums_size s
  go_enter Tryd.func14, Tryd.ntmps14
  go_upto_region 1 with (fail)
  generalize (w.alloc (.cells #[.int .i64 3, .int .i64 0, .string (strOfNums s)] 24)) = w1 at *
  have k0l := k0.lt
  have hR2 := hR1.alloc (Nat.le_refl _) (.cells #[] 5)
  clear hR hR1
  go_wp2_with (at_builtin; with_reducible refine wpList_append_rd rfl (.tmp 6) (.tmp 7) 22 rfl w1.heap.size 5 Tryd.underlying22 info5 _ 0 0 [] rfl rfl (Own.empty _ _ (Nat.le_refl _)) _ _ m _ _ rfl hR2 ?ha ?hbs ?_)
  case ha => omega
  case hbs => simp
  intro A1 c1 w2 hO1 hB1 _
  (try rw [Nat.zero_add, List.nil_append] at hO1)
  have hB2 := ((Below.refl _ _).alloc (Nat.le_refl _) _).trans hB1
  clear hB1 hR2
  have k2 := k0.below hB2 k0l
  have a0 := k2.cell 0
  have a1 := k2.cell 1
  have a2 := k2.cell 2
  simp only [List.getElem?_cons_zero, List.getElem?_cons_succ] at a0 a1 a2
  go_wp2_with fail
  refine (CM.out _).mono ?_
  clear CM a0 a1 a2
  rintro e w3 ⟨rfl, hB3⟩
  have hB23 := hB2.trans (hB3.mono hB2.size)
  have k3 := k0.below hB23 k0l
  have a0 := k3.cell 0
  have a1 := k3.cell 1
  have a2 := k3.cell 2
  simp only [List.getElem?_cons_zero, List.getElem?_cons_succ] at a0 a1 a2
  have hO3 := hO1.below hB3
  have hs3 := hB23.size
  clear hO1 hB3 hB2 k2 k0
  go_wp2_with (at_builtin; with_reducible refine wpList_append_rd rfl (.tmp 13) (.tmp 17) 22 rfl w1.heap.size 5 Tryd.underlying22 info5 A1 m c1 l HN.out rfl (hO3.alloc _) _ _ 1 1 [_] rfl (Rd.one _ _ _) ?hb ?hbase ?_)
  case hb => omega
  case hbase => simp; omega
  intro A4 c4 w4 hO4 hB4 _
  have hB24 := (hB23.alloc hs3 _).trans hB4
  have hs4 := hB24.size
  have k4 : Blk 24 w4 w.heap.size _ := (k3.alloc _).below hB4 k0l
  have b0 := k4.cell 0
  have b1 := k4.cell 1
  have b2 := k4.cell 2
  simp only [List.getElem?_cons_zero, List.getElem?_cons_succ] at b0 b1 b2
  have HN4 : Hid ((l ++ [3]).length = m + 1) := by rw [List.length_append, HN.out]; exact Lib.hid rfl
  clear hO3 hB4 k3 a0 a1 a2
  have T1 := Lib.hid (fun (A S : Option Addr) (c cs : Nat) (w : World) (hR : Rd w w.heap.size A (m + 1) (l ++ [3])) (hS : Rd w w.heap.size S s.length s) => rtext_any A (m + 1) c _ S s.length cs s w hR hS (by omega) hs)
  go_wp2_with (with_reducible refine wpList_of_string rfl (.tmp 40) 9 22 5 rfl Tryd.underlying9 Tryd.underlying22 Tryd.underlying5 s s.length rfl hY hs rfl ?_)
  intro A5 c5 w5 hR5 hc5 hm5 hB5
  have hB25 := hB24.trans (hB5.mono hs4)
  have hO45 := hO4.below hB5
  have hs5 := hB25.size
  go_wp2_with fail
  refine (T1.out A4 A5 c4 c5 _ (own_rd hO45 HN4.out).1 hR5).mono ?_
  rintro e w6 ⟨A6, c6, rfl, hl6, hO6, hB6⟩
  have hB26 := hB25.trans (hB6.mono hs5)
  generalize hq : varB (s.length : Int) = q at *
  go_wp2_with fail
  go_ret
  have hO7 : Own 5 w6 w5.heap.size (.slice A6 (m + 1 + q.length + s.length) c6) (l ++ (3 :: (q ++ s))) := by simpa using hO6
  have e1 : m + (3 :: (q ++ s)).length = m + 1 + q.length + s.length := by simp; omega
  have e2 : m + (q.length + s.length + 1) = m + 1 + q.length + s.length := by omega
  have e3 : m + ((q ++ s).length + 1) = m + 1 + q.length + s.length := by simp; omega
  first | rw [e1] | rw [e2] | rw [e3] | skip
  exact ⟨A6, c6, rfl, by simpa using hl6, hO7.more (by omega), hB0.trans (hB26.mono hB0.size)⟩
theorem plain_any (A : Option Addr) (m c : Nat) (l : List Int) (a : VaL) (w : World) (hR : Rd w w.heap.size A m l) (hb : m ≤ 1099511627775) (hs : a.s.length ≤ 1099511627776) (ha : a.ok) :
    Calls Tryd.prog 14 #[.slice A m c, vaV a] w (RetL 5 w (m + (plainF a).length) (l ++ plainF a)) := by
  obtain ⟨k, n, s⟩ := a
  obtain ⟨hk, hn, hY⟩ := ha
  by_cases hm : mayP ⟨k, n, s⟩
  · have hm0 := hm
    unfold plainF
    rw [if_pos hm]
    unfold mayP at hm
    dsimp only at hk hn hY hs hm
    rcases hm with ⟨rfl, rfl, h⟩ | ⟨rfl, h, h2⟩ | ⟨rfl, h⟩ | ⟨rfl, rfl, h⟩
    · exact plain_null A m c l s w hR hb hs h
    · rcases h with rfl | rfl
      · exact plain_bool0 A m c l s w hR hb hs h2
      · exact plain_bool1 A m c l s w hR hb hs h2
    · exact plain_int A m c l n s w hR hb hs h hn
    · exact plain_text A m c l s w hR hb hs h hY
  · unfold plainF
    rw [if_neg hm]
    exact plain_no A m c l k n s w hR hb hs hm
end Go.Proofs.YtodpaeaeigjmdaaDoor.ref7
