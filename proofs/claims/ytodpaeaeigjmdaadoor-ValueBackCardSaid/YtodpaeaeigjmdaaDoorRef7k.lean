/- What the document's Key (antipoderef7) comes to. Conditions: at most 2^40 bytes. -/
import Derived.Test.YtodpaeaeigjmdaaDoorRef7
import Derived.Test.YtodpaeaeigjmdaaDoorRefW
import Derived.Test.YtodpaeaeigjmdaaDoorInts
import Derived.Deep.RegionHeld3
import Derived.Deep.Cut
namespace Go.Proofs.YtodpaeaeigjmdaaDoor.ref7
open Go Go.RowKit Go.Proofs.YtodpaeaeigjmdaaDoor.kit Go.Proofs.YtodpaeaeigjmdaaDoor.nums Go.Proofs.YtodpaeaeigjmdaaDoor.st Go.Proofs.YtodpaeaeigjmdaaDoor.va Go.Proofs.YtodpaeaeigjmdaaDoor.bytes Go.Proofs.YtodpaeaeigjmdaaDoor.ints
set_option linter.unusedVariables false

theorem Rd.two (w : World) (E : TypeId) (y z : Int) : Rd (w.alloc (.cells #[.int .u8 y, .int .u8 z] E)) (w.heap.size + 1) (some ⟨w.heap.size, 0, none⟩) 2 [y, z] := by
  refine ⟨rfl, fun _ => ⟨_, 0, rfl, by omega, fun j hj => ?_⟩⟩
  have hb : Blk E (w.alloc (.cells #[.int .u8 y, .int .u8 z] E)) w.heap.size [.int .u8 y, .int .u8 z] := heap_alloc_new w _
  rw [hb.cell]
  obtain rfl | rfl : j = 0 ∨ j = 1 := by omega
  · rfl
  · rfl
theorem own_rd {l : List Int} {A : Option Addr} {n c base : Nat} {w : World} (hO : Own 5 w base (.slice A n c) l) (hn : l.length = n) : Rd w w.heap.size A n l ∧ n ≤ c := by
  obtain ⟨A', c', hv, hc, _, hR⟩ := hO.slice
  simp only [Value.slice.injEq] at hv
  obtain ⟨rfl, rfl, rfl⟩ := hv
  exact ⟨hR, hc⟩
theorem eight_any (v : Int) (w : World) (h0 : 0 ≤ v) (h1 : v ≤ 18446744073709551615) :
    Calls Tryd.prog 32 #[.int .u64 v] w (RetL 5 w 8 (beB v 8)) := by
  have C := Lib.hid (fun w => rput_any none 0 0 [] v 8 w (Rd.nil _ _ _) (by omega) h0 h1 (by omega) (by omega))
  have HZ : Hid (v / 2 ^ (8 * 8) = 0) := Int.ediv_eq_zero_of_lt h0 (by omega)
  go_enter Tryd.func32, Tryd.ntmps32
  go_wp2_with fail
  refine (C.out _).mono ?_
  rintro e w2 (⟨_, A, c, rfl, hl, hO, hB⟩ | ⟨h, _⟩)
  · go_wp2_with fail
    go_ret
    exact ⟨A, c, rfl, hl, hO, hB⟩
  · exact absurd HZ.out h

set_option maxHeartbeats 2000000 in
theorem key_no (A : Option Addr) (m c : Nat) (l : List Int) (k n : Int) (s : List Int) (w : World) (hR : Rd w w.heap.size A m l) (hb : m ≤ 1099511627776) (hs : s.length ≤ 1099511627776) (hm : ¬ mayP ⟨k, n, s⟩) :
    Calls Tryd.prog 13 #[.slice A m c, vaV ⟨k, n, s⟩] w (RetL 5 w (m + ([] : List Int).length) (l ++ ([] : List Int))) := by
  have HN := Lib.hid hR.len
  have CM := Lib.hid (fun w => may_any ⟨k, n, s⟩ hs w)
  rw [show decide (mayP ⟨k, n, s⟩) = false by simp [hm]] at CM
  clear hm
  unfold vaV at CM ⊢
  dsimp only at CM ⊢
  have hB0 : Below w.heap.size w (w.alloc (.cells #[.int .i64 k, .int .i64 n, .string (strOfNums s)] 24)) := (Below.refl _ _).alloc (Nat.le_refl _) _
  have k0 : Blk 24 (w.alloc (.cells #[.int .i64 k, .int .i64 n, .string (strOfNums s)] 24)) w.heap.size [.int .i64 k, .int .i64 n, .string (strOfNums s)] := heap_alloc_new w _
  have hR1 := hR.on hB0 hB0.size
  have hz := strOfNums_size s
  go_enter Tryd.func13, Tryd.ntmps13
  go_upto_region 1 with (fail)
  generalize (w.alloc (.cells #[.int .i64 k, .int .i64 n, .string (strOfNums s)] 24)) = w1 at *
  have k0l := k0.lt
  have hR2 := hR1.alloc (Nat.le_refl _) (.cells #[] 5)
  clear hR hR1
  go_wp2_with (at_builtin; with_reducible refine wpList_append_rd rfl (.tmp 7) (.tmp 8) 22 rfl w1.heap.size 5 Tryd.underlying22 info5 _ 0 0 [] rfl rfl (Own.empty _ _ (Nat.le_refl _)) _ _ m _ _ rfl hR2 ?ha ?hbs ?_)
  case ha => omega
  case hbs => simp
  intro A1 c1 w2 hO1 hB1 _
  (try rw [Nat.zero_add, List.nil_append] at hO1)
  have hB2 := ((Below.refl _ _).alloc (Nat.le_refl _) _).trans hB1
  clear hB1 hR2
  have k2 := k0.below hB2 k0l
  have a0 := k2.cell 0
  have a1 := k2.cell 1
  have a2 := k2.cell 2
  simp only [List.getElem?_cons_zero, List.getElem?_cons_succ] at a0 a1 a2
  go_wp2_with fail
  refine (CM.out _).mono ?_
  clear CM a0 a1 a2
  rintro e w3 ⟨rfl, hB3⟩
  have hB23 := hB2.trans (hB3.mono hB2.size)
  have k3 := k0.below hB23 k0l
  have a0 := k3.cell 0
  have a1 := k3.cell 1
  have a2 := k3.cell 2
  simp only [List.getElem?_cons_zero, List.getElem?_cons_succ] at a0 a1 a2
  have hO3 := hO1.below hB3
  have hs3 := hB23.size
  clear hO1 hB3 hB2 k2 k0
  go_wp2_with fail
  go_ret
  rw [List.append_nil]
  exact ⟨A1, c1, rfl, HN.out, (hO3).more hB0.size, hB0.trans ((hB23).mono hB0.size)⟩
set_option maxHeartbeats 2000000 in
theorem key_null (A : Option Addr) (m c : Nat) (l : List Int) (s : List Int) (w : World) (hR : Rd w w.heap.size A m l) (hb : m ≤ 1099511627776) (hs : s.length ≤ 1099511627776) (hm : s = []) :
    Calls Tryd.prog 13 #[.slice A m c, vaV ⟨0, 0, s⟩] w (RetL 5 w (m + [(0 : Int)].length) (l ++ [(0 : Int)])) := by
  have HN := Lib.hid hR.len
  have CM := Lib.hid (fun w => may_any ⟨0, 0, s⟩ hs w)
  rw [show decide (mayP ⟨0, 0, s⟩) = true by simp [mayP, hm]] at CM
  clear hm
  unfold vaV at CM ⊢
  dsimp only at CM ⊢
  have hB0 : Below w.heap.size w (w.alloc (.cells #[.int .i64 0, .int .i64 0, .string (strOfNums s)] 24)) := (Below.refl _ _).alloc (Nat.le_refl _) _
  have k0 : Blk 24 (w.alloc (.cells #[.int .i64 0, .int .i64 0, .string (strOfNums s)] 24)) w.heap.size [.int .i64 0, .int .i64 0, .string (strOfNums s)] := heap_alloc_new w _
  have hR1 := hR.on hB0 hB0.size
  have hz := strOfNums_size s
  go_enter Tryd.func13, Tryd.ntmps13
  go_upto_region 1 with (fail)
  generalize (w.alloc (.cells #[.int .i64 0, .int .i64 0, .string (strOfNums s)] 24)) = w1 at *
  have k0l := k0.lt
  have hR2 := hR1.alloc (Nat.le_refl _) (.cells #[] 5)
  clear hR hR1
  go_wp2_with (at_builtin; with_reducible refine wpList_append_rd rfl (.tmp 7) (.tmp 8) 22 rfl w1.heap.size 5 Tryd.underlying22 info5 _ 0 0 [] rfl rfl (Own.empty _ _ (Nat.le_refl _)) _ _ m _ _ rfl hR2 ?ha ?hbs ?_)
  case ha => omega
  case hbs => simp
  intro A1 c1 w2 hO1 hB1 _
  (try rw [Nat.zero_add, List.nil_append] at hO1)
  have hB2 := ((Below.refl _ _).alloc (Nat.le_refl _) _).trans hB1
  clear hB1 hR2
  have k2 := k0.below hB2 k0l
  have a0 := k2.cell 0
  have a1 := k2.cell 1
  have a2 := k2.cell 2
  simp only [List.getElem?_cons_zero, List.getElem?_cons_succ] at a0 a1 a2
  go_wp2_with fail
  refine (CM.out _).mono ?_
  clear CM a0 a1 a2
  rintro e w3 ⟨rfl, hB3⟩
  have hB23 := hB2.trans (hB3.mono hB2.size)
  have k3 := k0.below hB23 k0l
  have a0 := k3.cell 0
  have a1 := k3.cell 1
  have a2 := k3.cell 2
  simp only [List.getElem?_cons_zero, List.getElem?_cons_succ] at a0 a1 a2
  have hO3 := hO1.below hB3
  have hs3 := hB23.size
  clear hO1 hB3 hB2 k2 k0
  go_wp2_with (at_builtin; with_reducible refine wpList_append_rd rfl (.tmp 14) (.tmp 18) 22 rfl w1.heap.size 5 Tryd.underlying22 info5 A1 m c1 l HN.out rfl (hO3.alloc _) _ _ 1 1 [_] rfl (Rd.one _ _ _) ?hb ?hbase ?_)
  case hb => omega
  case hbase => simp; omega
  intro A4 c4 w4 hO4 hB4 _
  have hB24 := (hB23.alloc hs3 _).trans hB4
  have hs4 := hB24.size
  have k4 : Blk 24 w4 w.heap.size _ := (k3.alloc _).below hB4 k0l
  have b0 := k4.cell 0
  have b1 := k4.cell 1
  have b2 := k4.cell 2
  simp only [List.getElem?_cons_zero, List.getElem?_cons_succ] at b0 b1 b2
  have HN4 : Hid ((l ++ [0]).length = m + 1) := by rw [List.length_append, HN.out]; exact Lib.hid rfl
  clear hO3 hB4 k3 a0 a1 a2
  go_wp2_with fail
  go_ret
  exact ⟨A4, c4, rfl, HN4.out, (hO4).more hB0.size, hB0.trans ((hB24).mono hB0.size)⟩
set_option maxHeartbeats 2000000 in
theorem key_bool0 (A : Option Addr) (m c : Nat) (l : List Int) (s : List Int) (w : World) (hR : Rd w w.heap.size A m l) (hb : m ≤ 1099511627776) (hs : s.length ≤ 1099511627776) (hm : s = []) :
    Calls Tryd.prog 13 #[.slice A m c, vaV ⟨1, 0, s⟩] w (RetL 5 w (m + [(1 : Int), 0].length) (l ++ [(1 : Int), 0])) := by
  have HN := Lib.hid hR.len
  have CM := Lib.hid (fun w => may_any ⟨1, 0, s⟩ hs w)
  rw [show decide (mayP ⟨1, 0, s⟩) = true by simp [mayP, hm]] at CM
  clear hm
  unfold vaV at CM ⊢
  dsimp only at CM ⊢
  have hB0 : Below w.heap.size w (w.alloc (.cells #[.int .i64 1, .int .i64 0, .string (strOfNums s)] 24)) := (Below.refl _ _).alloc (Nat.le_refl _) _
  have k0 : Blk 24 (w.alloc (.cells #[.int .i64 1, .int .i64 0, .string (strOfNums s)] 24)) w.heap.size [.int .i64 1, .int .i64 0, .string (strOfNums s)] := heap_alloc_new w _
  have hR1 := hR.on hB0 hB0.size
  have hz := strOfNums_size s
  go_enter Tryd.func13, Tryd.ntmps13
  go_upto_region 1 with (fail)
  generalize (w.alloc (.cells #[.int .i64 1, .int .i64 0, .string (strOfNums s)] 24)) = w1 at *
  have k0l := k0.lt
  have hR2 := hR1.alloc (Nat.le_refl _) (.cells #[] 5)
  clear hR hR1
  go_wp2_with (at_builtin; with_reducible refine wpList_append_rd rfl (.tmp 7) (.tmp 8) 22 rfl w1.heap.size 5 Tryd.underlying22 info5 _ 0 0 [] rfl rfl (Own.empty _ _ (Nat.le_refl _)) _ _ m _ _ rfl hR2 ?ha ?hbs ?_)
  case ha => omega
  case hbs => simp
  intro A1 c1 w2 hO1 hB1 _
  (try rw [Nat.zero_add, List.nil_append] at hO1)
  have hB2 := ((Below.refl _ _).alloc (Nat.le_refl _) _).trans hB1
  clear hB1 hR2
  have k2 := k0.below hB2 k0l
  have a0 := k2.cell 0
  have a1 := k2.cell 1
  have a2 := k2.cell 2
  simp only [List.getElem?_cons_zero, List.getElem?_cons_succ] at a0 a1 a2
  go_wp2_with fail
  refine (CM.out _).mono ?_
  clear CM a0 a1 a2
  rintro e w3 ⟨rfl, hB3⟩
  have hB23 := hB2.trans (hB3.mono hB2.size)
  have k3 := k0.below hB23 k0l
  have a0 := k3.cell 0
  have a1 := k3.cell 1
  have a2 := k3.cell 2
  simp only [List.getElem?_cons_zero, List.getElem?_cons_succ] at a0 a1 a2
  have hO3 := hO1.below hB3
  have hs3 := hB23.size
  clear hO1 hB3 hB2 k2 k0
  go_wp2_with (at_builtin; with_reducible refine wpList_append_rd rfl (.tmp 14) (.tmp 18) 22 rfl w1.heap.size 5 Tryd.underlying22 info5 A1 m c1 l HN.out rfl (hO3.alloc _) _ _ 1 1 [_] rfl (Rd.one _ _ _) ?hb ?hbase ?_)
  case hb => omega
  case hbase => simp; omega
  intro A4 c4 w4 hO4 hB4 _
  have hB24 := (hB23.alloc hs3 _).trans hB4
  have hs4 := hB24.size
  have k4 : Blk 24 w4 w.heap.size _ := (k3.alloc _).below hB4 k0l
  have b0 := k4.cell 0
  have b1 := k4.cell 1
  have b2 := k4.cell 2
  simp only [List.getElem?_cons_zero, List.getElem?_cons_succ] at b0 b1 b2
  have HN4 : Hid ((l ++ [1]).length = m + 1) := by rw [List.length_append, HN.out]; exact Lib.hid rfl
  clear hO3 hB4 k3 a0 a1 a2
  go_wp2_with (at_builtin; with_reducible refine wpList_append_rd rfl (.tmp 24) (.tmp 28) 22 rfl w1.heap.size 5 Tryd.underlying22 info5 A4 (m + 1) c4 (l ++ [1]) HN4.out rfl (hO4.alloc _) _ _ 1 1 [_] rfl (Rd.one _ _ _) ?hb5 ?hbase5 ?_)
  case hb5 => omega
  case hbase5 => simp; omega
  intro A5 c5 w5 hO5 hB5 _
  (try rw [List.append_assoc] at hO5)
  have hB25 := (hB24.alloc hs4 _).trans hB5
  go_wp2_with fail
  go_ret
  exact ⟨A5, c5, rfl, by rw [List.length_append, HN.out]; rfl, (hO5).more hB0.size, hB0.trans ((hB25).mono hB0.size)⟩
set_option maxHeartbeats 2000000 in
theorem key_bool1 (A : Option Addr) (m c : Nat) (l : List Int) (s : List Int) (w : World) (hR : Rd w w.heap.size A m l) (hb : m ≤ 1099511627776) (hs : s.length ≤ 1099511627776) (hm : s = []) :
    Calls Tryd.prog 13 #[.slice A m c, vaV ⟨1, 1, s⟩] w (RetL 5 w (m + [(1 : Int), 1].length) (l ++ [(1 : Int), 1])) := by
  have HN := Lib.hid hR.len
  have CM := Lib.hid (fun w => may_any ⟨1, 1, s⟩ hs w)
  rw [show decide (mayP ⟨1, 1, s⟩) = true by simp [mayP, hm]] at CM
  clear hm
  unfold vaV at CM ⊢
  dsimp only at CM ⊢
  have hB0 : Below w.heap.size w (w.alloc (.cells #[.int .i64 1, .int .i64 1, .string (strOfNums s)] 24)) := (Below.refl _ _).alloc (Nat.le_refl _) _
  have k0 : Blk 24 (w.alloc (.cells #[.int .i64 1, .int .i64 1, .string (strOfNums s)] 24)) w.heap.size [.int .i64 1, .int .i64 1, .string (strOfNums s)] := heap_alloc_new w _
  have hR1 := hR.on hB0 hB0.size
  have hz := strOfNums_size s
  go_enter Tryd.func13, Tryd.ntmps13
  go_upto_region 1 with (fail)
  generalize (w.alloc (.cells #[.int .i64 1, .int .i64 1, .string (strOfNums s)] 24)) = w1 at *
  have k0l := k0.lt
  have hR2 := hR1.alloc (Nat.le_refl _) (.cells #[] 5)
  clear hR hR1
  go_wp2_with (at_builtin; with_reducible refine wpList_append_rd rfl (.tmp 7) (.tmp 8) 22 rfl w1.heap.size 5 Tryd.underlying22 info5 _ 0 0 [] rfl rfl (Own.empty _ _ (Nat.le_refl _)) _ _ m _ _ rfl hR2 ?ha ?hbs ?_)
  case ha => omega
  case hbs => simp
  intro A1 c1 w2 hO1 hB1 _
  (try rw [Nat.zero_add, List.nil_append] at hO1)
  have hB2 := ((Below.refl _ _).alloc (Nat.le_refl _) _).trans hB1
  clear hB1 hR2
  have k2 := k0.below hB2 k0l
  have a0 := k2.cell 0
  have a1 := k2.cell 1
  have a2 := k2.cell 2
  simp only [List.getElem?_cons_zero, List.getElem?_cons_succ] at a0 a1 a2
  go_wp2_with fail
  refine (CM.out _).mono ?_
  clear CM a0 a1 a2
  rintro e w3 ⟨rfl, hB3⟩
  have hB23 := hB2.trans (hB3.mono hB2.size)
  have k3 := k0.below hB23 k0l
  have a0 := k3.cell 0
  have a1 := k3.cell 1
  have a2 := k3.cell 2
  simp only [List.getElem?_cons_zero, List.getElem?_cons_succ] at a0 a1 a2
  have hO3 := hO1.below hB3
  have hs3 := hB23.size
  clear hO1 hB3 hB2 k2 k0
  go_wp2_with (at_builtin; with_reducible refine wpList_append_rd rfl (.tmp 14) (.tmp 18) 22 rfl w1.heap.size 5 Tryd.underlying22 info5 A1 m c1 l HN.out rfl (hO3.alloc _) _ _ 1 1 [_] rfl (Rd.one _ _ _) ?hb ?hbase ?_)
  case hb => omega
  case hbase => simp; omega
  intro A4 c4 w4 hO4 hB4 _
  have hB24 := (hB23.alloc hs3 _).trans hB4
  have hs4 := hB24.size
  have k4 : Blk 24 w4 w.heap.size _ := (k3.alloc _).below hB4 k0l
  have b0 := k4.cell 0
  have b1 := k4.cell 1
  have b2 := k4.cell 2
  simp only [List.getElem?_cons_zero, List.getElem?_cons_succ] at b0 b1 b2
  have HN4 : Hid ((l ++ [1]).length = m + 1) := by rw [List.length_append, HN.out]; exact Lib.hid rfl
  clear hO3 hB4 k3 a0 a1 a2
  go_wp2_with (at_builtin; with_reducible refine wpList_append_rd rfl (.tmp 24) (.tmp 28) 22 rfl w1.heap.size 5 Tryd.underlying22 info5 A4 (m + 1) c4 (l ++ [1]) HN4.out rfl (hO4.alloc _) _ _ 1 1 [_] rfl (Rd.one _ _ _) ?hb5 ?hbase5 ?_)
  case hb5 => omega
  case hbase5 => simp; omega
  intro A5 c5 w5 hO5 hB5 _
  (try rw [List.append_assoc] at hO5)
  have hB25 := (hB24.alloc hs4 _).trans hB5
  go_wp2_with fail
  go_ret
  exact ⟨A5, c5, rfl, by rw [List.length_append, HN.out]; rfl, (hO5).more hB0.size, hB0.trans ((hB25).mono hB0.size)⟩
set_option maxHeartbeats 2000000 in
theorem key_int (A : Option Addr) (m c : Nat) (l : List Int) (n : Int) (s : List Int) (w : World) (hR : Rd w w.heap.size A m l) (hb : m ≤ 1099511627776) (hs : s.length ≤ 1099511627776) (hm : s = []) (hn : I64 n) :
    Calls Tryd.prog 13 #[.slice A m c, vaV ⟨2, n, s⟩] w (RetL 5 w (m + (2 :: beB (n + 9223372036854775808) 8).length) (l ++ (2 :: beB (n + 9223372036854775808) 8))) := by
  have HN := Lib.hid hR.len
  have CM := Lib.hid (fun w => may_any ⟨2, n, s⟩ hs w)
  rw [show decide (mayP ⟨2, n, s⟩) = true by simp [mayP, hm]] at CM
  clear hm
  unfold vaV at CM ⊢
  dsimp only at CM ⊢
  have hB0 : Below w.heap.size w (w.alloc (.cells #[.int .i64 2, .int .i64 n, .string (strOfNums s)] 24)) := (Below.refl _ _).alloc (Nat.le_refl _) _
  have k0 : Blk 24 (w.alloc (.cells #[.int .i64 2, .int .i64 n, .string (strOfNums s)] 24)) w.heap.size [.int .i64 2, .int .i64 n, .string (strOfNums s)] := heap_alloc_new w _
  have hR1 := hR.on hB0 hB0.size
  have hz := strOfNums_size s
  go_enter Tryd.func13, Tryd.ntmps13
  go_upto_region 1 with (fail)
  generalize (w.alloc (.cells #[.int .i64 2, .int .i64 n, .string (strOfNums s)] 24)) = w1 at *
  have k0l := k0.lt
  have hR2 := hR1.alloc (Nat.le_refl _) (.cells #[] 5)
  clear hR hR1
  go_wp2_with (at_builtin; with_reducible refine wpList_append_rd rfl (.tmp 7) (.tmp 8) 22 rfl w1.heap.size 5 Tryd.underlying22 info5 _ 0 0 [] rfl rfl (Own.empty _ _ (Nat.le_refl _)) _ _ m _ _ rfl hR2 ?ha ?hbs ?_)
  case ha => omega
  case hbs => simp
  intro A1 c1 w2 hO1 hB1 _
  (try rw [Nat.zero_add, List.nil_append] at hO1)
  have hB2 := ((Below.refl _ _).alloc (Nat.le_refl _) _).trans hB1
  clear hB1 hR2
  have k2 := k0.below hB2 k0l
  have a0 := k2.cell 0
  have a1 := k2.cell 1
  have a2 := k2.cell 2
  simp only [List.getElem?_cons_zero, List.getElem?_cons_succ] at a0 a1 a2
  go_wp2_with fail
  refine (CM.out _).mono ?_
  clear CM a0 a1 a2
  rintro e w3 ⟨rfl, hB3⟩
  have hB23 := hB2.trans (hB3.mono hB2.size)
  have k3 := k0.below hB23 k0l
  have a0 := k3.cell 0
  have a1 := k3.cell 1
  have a2 := k3.cell 2
  simp only [List.getElem?_cons_zero, List.getElem?_cons_succ] at a0 a1 a2
  have hO3 := hO1.below hB3
  have hs3 := hB23.size
  clear hO1 hB3 hB2 k2 k0
  go_wp2_with (at_builtin; with_reducible refine wpList_append_rd rfl (.tmp 14) (.tmp 18) 22 rfl w1.heap.size 5 Tryd.underlying22 info5 A1 m c1 l HN.out rfl (hO3.alloc _) _ _ 1 1 [_] rfl (Rd.one _ _ _) ?hb ?hbase ?_)
  case hb => omega
  case hbase => simp; omega
  intro A4 c4 w4 hO4 hB4 _
  have hB24 := (hB23.alloc hs3 _).trans hB4
  have hs4 := hB24.size
  have k4 : Blk 24 w4 w.heap.size _ := (k3.alloc _).below hB4 k0l
  have b0 := k4.cell 0
  have b1 := k4.cell 1
  have b2 := k4.cell 2
  simp only [List.getElem?_cons_zero, List.getElem?_cons_succ] at b0 b1 b2
  have HN4 : Hid ((l ++ [2]).length = m + 1) := by rw [List.length_append, HN.out]; exact Lib.hid rfl
  clear hO3 hB4 k3 a0 a1 a2
  have O1 := Lib.hid (fun w => rorder_any n w hn.1 hn.2)
  have E1 := Lib.hid (fun w => eight_any (n + 9223372036854775808) w (by unfold I64 at hn; omega) (by unfold I64 at hn; omega))
  go_wp2_with fail
  refine (O1.out _).mono ?_
  rintro e w5 ⟨rfl, rfl⟩
  go_wp2_with fail
  refine (E1.out _).mono ?_
  rintro e w5 ⟨A5, c5, rfl, hl5, hO5, hB5⟩
  have hR5 := (own_rd hO5 hl5).1
  have hO45 := hO4.below hB5
  have hB25 := hB24.trans (hB5.mono hs4)
  have hs5 := hB25.size
  go_wp2_with (at_builtin; with_reducible refine wpList_append_rd rfl (.tmp 32) (.tmp 36) 22 rfl w1.heap.size 5 Tryd.underlying22 info5 A4 (m + 1) c4 (l ++ [2]) HN4.out rfl hO45 _ _ 8 c5 _ rfl hR5 ?hb6 ?hbase6 ?_)
  case hb6 => omega
  case hbase6 => omega
  intro A6 c6 w6 hO6 hB6 _
  (try rw [List.append_assoc, List.singleton_append] at hO6)
  have hB26 := hB25.trans hB6
  go_wp2_with fail
  go_ret
  rw [show m + ((beB (n + 9223372036854775808) 8).length + 1) = m + 1 + 8 by rw [beB_length]]
  exact ⟨A6, c6, rfl, by rw [List.length_append, HN.out, List.length_cons, beB_length], (hO6).more hB0.size, hB0.trans ((hB26).mono hB0.size)⟩
theorem esc_snoc (l : List Int) (x : Int) : esc (l ++ [x]) = esc l ++ (if x = 0 then [0, 255] else [x]) := by
  induction l with
  | nil => by_cases h : x = 0 <;> simp [esc, h]
  | cons y l ih => by_cases h : y = 0 <;> simp [esc, h, ih]
theorem esc_take (s : List Int) (j : Nat) (hj : j < s.length) : esc (s.take (j + 1)) = esc (s.take j) ++ (if s.getD j 0 = 0 then [0, 255] else [s.getD j 0]) := by
  rw [List.take_succ_eq_append_getElem hj, esc_snoc]
  simp [List.getD, hj]
theorem esc_byt : ∀ l : List Int, Byt l → Byt (esc l)
  | [], _ => fun x hx => by cases hx
  | y :: l, h => fun x hx => by
    have h1 := h y (by simp)
    have h2 := esc_byt l (fun z hz => h z (List.mem_cons_of_mem _ hz))
    by_cases h0 : y = 0
    · simp only [esc, h0, if_true, List.mem_cons] at hx
      rcases hx with rfl | rfl | hx
      · omega
      · omega
      · exact h2 x hx
    · simp only [esc, h0, if_false, List.mem_cons] at hx
      rcases hx with rfl | hx
      · exact h1
      · exact h2 x hx
theorem str_at (s : List Int) (hY : Byt s) (j : Nat) (hj : j < s.length) : ∀ h, (((strOfNums s)[j]'h).toNat : Int) = s.getD j 0 := fun h => by
  have e : (strOfNums s)[j]'h = UInt8.ofNat (s.getD j 0).toNat := by
    have : (strOfNums s)[j]'h = (strOfNums s).data[j]'h := rfl
    rw [this]
    simp [strOfNums, List.getD, hj]
  rw [e]
  exact u8_of _ (hY.at_ j).1 (hY.at_ j).2
set_option maxHeartbeats 2000000 in
theorem key_text (A : Option Addr) (m c : Nat) (l : List Int) (s : List Int) (w : World) (hR : Rd w w.heap.size A m l) (hb : m ≤ 1099511627776) (hs : s.length ≤ 1099511627776) (hm : s.length ≤ 64) (hY : Byt s) :
    Calls Tryd.prog 13 #[.slice A m c, vaV ⟨3, 0, s⟩] w (RetL 5 w (m + (3 :: (esc s ++ [0, 1])).length) (l ++ (3 :: (esc s ++ [0, 1])))) := by
  have HN := Lib.hid hR.len
  have CM := Lib.hid (fun w => may_any ⟨3, 0, s⟩ hs w)
  rw [show decide (mayP ⟨3, 0, s⟩) = true by simp [mayP, hm]] at CM
  clear hm
  unfold vaV at CM ⊢
  dsimp only at CM ⊢
  have hB0 : Below w.heap.size w (w.alloc (.cells #[.int .i64 3, .int .i64 0, .string (strOfNums s)] 24)) := (Below.refl _ _).alloc (Nat.le_refl _) _
  have k0 : Blk 24 (w.alloc (.cells #[.int .i64 3, .int .i64 0, .string (strOfNums s)] 24)) w.heap.size [.int .i64 3, .int .i64 0, .string (strOfNums s)] := heap_alloc_new w _
  have hR1 := hR.on hB0 hB0.size
  have hz := strOfNums_size s
  go_enter Tryd.func13, Tryd.ntmps13
  go_upto_region 1 with (fail)
  generalize (w.alloc (.cells #[.int .i64 3, .int .i64 0, .string (strOfNums s)] 24)) = w1 at *
  have k0l := k0.lt
  have hR2 := hR1.alloc (Nat.le_refl _) (.cells #[] 5)
  clear hR hR1
  go_wp2_with (at_builtin; with_reducible refine wpList_append_rd rfl (.tmp 7) (.tmp 8) 22 rfl w1.heap.size 5 Tryd.underlying22 info5 _ 0 0 [] rfl rfl (Own.empty _ _ (Nat.le_refl _)) _ _ m _ _ rfl hR2 ?ha ?hbs ?_)
  case ha => omega
  case hbs => simp
  intro A1 c1 w2 hO1 hB1 _
  (try rw [Nat.zero_add, List.nil_append] at hO1)
  have hB2 := ((Below.refl _ _).alloc (Nat.le_refl _) _).trans hB1
  clear hB1 hR2
  have k2 := k0.below hB2 k0l
  have a0 := k2.cell 0
  have a1 := k2.cell 1
  have a2 := k2.cell 2
  simp only [List.getElem?_cons_zero, List.getElem?_cons_succ] at a0 a1 a2
  go_wp2_with fail
  refine (CM.out _).mono ?_
  clear CM a0 a1 a2
  rintro e w3 ⟨rfl, hB3⟩
  have hB23 := hB2.trans (hB3.mono hB2.size)
  have k3 := k0.below hB23 k0l
  have a0 := k3.cell 0
  have a1 := k3.cell 1
  have a2 := k3.cell 2
  simp only [List.getElem?_cons_zero, List.getElem?_cons_succ] at a0 a1 a2
  have hO3 := hO1.below hB3
  have hs3 := hB23.size
  clear hO1 hB3 hB2 k2 k0
  go_wp2_with (at_builtin; with_reducible refine wpList_append_rd rfl (.tmp 14) (.tmp 18) 22 rfl w1.heap.size 5 Tryd.underlying22 info5 A1 m c1 l HN.out rfl (hO3.alloc _) _ _ 1 1 [_] rfl (Rd.one _ _ _) ?hb ?hbase ?_)
  case hb => omega
  case hbase => simp; omega
  intro A4 c4 w4 hO4 hB4 _
  have hB24 := (hB23.alloc hs3 _).trans hB4
  have hs4 := hB24.size
  have k4 : Blk 24 w4 w.heap.size _ := (k3.alloc _).below hB4 k0l
  have b0 := k4.cell 0
  have b1 := k4.cell 1
  have b2 := k4.cell 2
  simp only [List.getElem?_cons_zero, List.getElem?_cons_succ] at b0 b1 b2
  have HN4 : Hid ((l ++ [3]).length = m + 1) := by rw [List.length_append, HN.out]; exact Lib.hid rfl
  clear hO3 hB4 k3 a0 a1 a2
  have HA := Lib.hid (str_at s hY)
  have HE := Lib.hid (esc_take s)
  have HK0 := Lib.hid k4
  go_wp2_with fail
  go_loopw [5, 6] (fun ov iv wr => ∃ (j q : Nat) (A' : Option Addr) (c' : Nat), j ≤ s.length ∧ iv = .int .i64 j ∧ ov = .slice A' q c' ∧ Hid ((l ++ (3 :: esc (s.take j))).length = q) ∧ q ≤ m + 1 + 2 * j ∧ Own 5 wr w1.heap.size (.slice A' q c') (l ++ (3 :: esc (s.take j))) ∧ Below w1.heap.size w1 wr ∧ Hid (Blk 24 wr w.heap.size [.int .i64 3, .int .i64 0, .string (strOfNums s)])) (fun _ iv _ => s.length - (intOf iv).toNat)
  case atStart => exact ⟨0, m + 1, A4, c4, Nat.zero_le _, rfl, rfl, HN4, by omega, hO4, hB24, HK0⟩
  case round =>
    obtain ⟨j, q, A', c', hj, rfl, rfl, hq, hqm, hO', hB', hK⟩ := hrel
    have hs' := hB'.size
    have d2 := hK.out.cell 2
    simp only [List.getElem?_cons_zero, List.getElem?_cons_succ] at d2
    by_cases hlt : j < s.length
    · have hx := HA.out j hlt
      have hE := HE.out j hlt
      have hx0 := hY.at_ j
      by_cases h0 : s.getD j 0 = 0
      · rw [h0] at hx hE hx0
        rw [if_pos rfl] at hE
        have hEH := Lib.hid hE
        clear hE h0
        go_wp2_with (at_builtin; with_reducible refine wpList_append_rd rfl (.tmp 47) (.tmp 52) 22 rfl w1.heap.size 5 Tryd.underlying22 info5 A' q c' (l ++ (3 :: esc (s.take j))) hq.out rfl (hO'.alloc _) _ _ 1 1 [_] rfl (Rd.one _ _ _) ?hb5 ?hbase5 ?_)
        case hb5 => omega
        case hbase5 => simp; omega
        intro A5 c5 w5 hO5 hB5 _
        have hB25 := (hB'.alloc hs' _).trans hB5
        have hs5 := hB25.size
        have kk := (hK.out.alloc (.cells #[.int .u8 0] 5)).below hB5 k0l
        have d5 := kk.cell 2
        simp only [List.getElem?_cons_zero, List.getElem?_cons_succ] at d5
        have hq5 : Hid ((l ++ (3 :: esc (s.take j)) ++ [0]).length = q + 1) := by rw [List.length_append, hq.out]; exact Lib.hid rfl
        have hO5' : Own 5 w5 w1.heap.size (.slice A5 (q + 1) c5) (l ++ (3 :: esc (s.take j)) ++ [0]) := by simpa using hO5
        clear hO5
        go_wp2_with (at_builtin; with_reducible refine wpList_append_rd rfl (.tmp 59) (.tmp 60) 22 rfl w1.heap.size 5 Tryd.underlying22 info5 A5 (q + 1) c5 (l ++ (3 :: esc (s.take j)) ++ [0]) hq5.out rfl (hO5'.alloc _) _ _ 1 1 [_] rfl (Rd.one _ _ _) ?hb6 ?hbase6 ?_)
        case hb6 => omega
        case hbase6 => simp; omega
        intro A6 c6 w6 hO6 hB6 _
        have hB26 := (hB25.alloc hs5 _).trans hB6
        have k6 := (kk.alloc (.cells #[.int .u8 255] 5)).below hB6 k0l
        go_wp2_with fail
        go_roundw
        case rel => exact ⟨j + 1, q + 1 + 1, A6, c6, by omega, by go_num, rfl, by rw [hEH.out]; have := hq5.out; simp at this ⊢; exact Lib.hid (by omega), by omega, by rw [hEH.out]; simpa using hO6, hB26, k6⟩
        case measure => simp [intOf]; omega
      · rw [if_neg h0] at hE
        have hEH := Lib.hid hE
        obtain ⟨x, hxx⟩ : ∃ x, s.getD j 0 = x := ⟨_, rfl⟩
        rw [hxx] at hx hx0 h0 hEH
        have h0' : (x == 0) = false := by simpa using h0
        clear hE hxx
        go_wp2_with (at_builtin; with_reducible refine wpList_append_rd rfl (.tmp 47) (.tmp 52) 22 rfl w1.heap.size 5 Tryd.underlying22 info5 A' q c' (l ++ (3 :: esc (s.take j))) hq.out rfl (hO'.alloc _) _ _ 1 1 [_] rfl (Rd.one _ _ _) ?hb7 ?hbase7 ?_)
        case hb7 => omega
        case hbase7 => simp; omega
        intro A5 c5 w5 hO5 hB5 _
        have hB25 := (hB'.alloc hs' _).trans hB5
        have hs5 := hB25.size
        have kk := (hK.out.alloc (.cells #[.int .u8 x] 5)).below hB5 k0l
        have d5 := kk.cell 2
        simp only [List.getElem?_cons_zero, List.getElem?_cons_succ] at d5
        go_wp2_with fail
        go_roundw
        case rel => exact ⟨j + 1, q + 1, A5, c5, by omega, by go_num, rfl, by rw [hEH.out]; have := hq.out; simp at this ⊢; exact Lib.hid (by omega), by omega, by rw [hEH.out]; simpa using hO5, hB25, kk⟩
        case measure => simp [intOf]; omega
    · obtain rfl : j = s.length := by omega
      have hO2 := hO'
      rw [List.take_length] at hO2
      have hq2 := hq.out
      rw [List.take_length] at hq2
      have hq3 := Lib.hid hq2
      clear hO' hq hq2
      go_wp2_with (at_builtin; with_reducible refine wpList_append_rd rfl (.tmp 62) (.tmp 63) 22 rfl w1.heap.size 5 Tryd.underlying22 info5 A' q c' (l ++ (3 :: esc s)) hq3.out rfl (hO2.alloc _) _ _ 2 2 [_, _] rfl (Rd.two _ _ _ _) ?hb8 ?hbase8 ?_)
      case hb8 => omega
      case hbase8 => simp; omega
      intro A5 c5 w5 hO5 hB5 _
      have hB25 := (hB'.alloc hs' _).trans hB5
      go_wp2_with fail
      go_ret
      have hO6 : Own 5 w5 w1.heap.size (.slice A5 (q + 2) c5) (l ++ (3 :: (esc s ++ [0, 1]))) := by simpa using hO5
      have hlen : (l ++ (3 :: (esc s ++ [0, 1]))).length = q + 2 := by have := hq3.out; simp at this ⊢; omega
      have hlen2 : m + (3 :: (esc s ++ [0, 1])).length = q + 2 := by have h1 := HN.out; rw [List.length_append] at hlen; omega
      have hlen3 : m + ((esc s ++ [0, 1]).length + 1) = q + 2 := hlen2
      first | rw [hlen2] | rw [hlen3] | skip
      exact ⟨A5, c5, rfl, hlen, hO6.more hB0.size, hB0.trans (hB25.mono hB0.size)⟩
theorem key_any (A : Option Addr) (m c : Nat) (l : List Int) (a : VaL) (w : World) (hR : Rd w w.heap.size A m l) (hb : m ≤ 1099511627776) (hs : a.s.length ≤ 1099511627776) (ha : a.ok) :
    Calls Tryd.prog 13 #[.slice A m c, vaV a] w (RetL 5 w (m + (keyF a).length) (l ++ keyF a)) := by
  obtain ⟨k, n, s⟩ := a
  obtain ⟨hk, hn, hY⟩ := ha
  by_cases hm : mayP ⟨k, n, s⟩
  · have hm0 := hm
    unfold keyF
    rw [if_pos hm]
    unfold mayP at hm
    dsimp only at hk hn hY hs hm
    rcases hm with ⟨rfl, rfl, h⟩ | ⟨rfl, h, h2⟩ | ⟨rfl, h⟩ | ⟨rfl, rfl, h⟩
    · exact key_null A m c l s w hR hb hs h
    · rcases h with rfl | rfl
      · exact key_bool0 A m c l s w hR hb hs h2
      · exact key_bool1 A m c l s w hR hb hs h2
    · exact key_int A m c l n s w hR hb hs h hn
    · exact key_text A m c l s w hR hb hs h hY
  · unfold keyF
    rw [if_neg hm]
    exact key_no A m c l k n s w hR hb hs hm
end Go.Proofs.YtodpaeaeigjmdaaDoor.ref7
