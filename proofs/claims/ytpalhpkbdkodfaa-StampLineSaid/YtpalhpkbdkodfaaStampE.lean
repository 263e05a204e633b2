/- What Less, Max, Limit, Read, Ripe, Bytes, Take of the program's own package stamp come to. Conditions: int64; at most 2^40 bytes. -/
import Derived.Test.YtpalhpkbdkodfaaRef6c
import Derived.Test.YtpalhpkbdkodfaaPut
import Derived.Test.YtpalhpkbdkodfaaGet
namespace Go.Proofs.Ytpalhpkbdkodfaa.stamp
open Go.RowKit Go.Proofs.Ytpalhpkbdkodfaa.kit Go.Proofs.Ytpalhpkbdkodfaa.nums Go.Proofs.Ytpalhpkbdkodfaa.st Go.Proofs.Ytpalhpkbdkodfaa.ref6 Go.Proofs.Ytpalhpkbdkodfaa.bytes Go.Proofs.Ytpalhpkbdkodfaa.ints
set_option linter.unusedVariables false

theorem less_any (a b : StL) (ha : a.ok) (hb : b.ok) (w : World) :
    Calls Try.prog 11 #[stV a, stV b] w fun e w' => e = .returned (.bool (lessF a b)) ∧ Below w.heap.size w w' := by
  obtain ⟨p, q⟩ := a
  obtain ⟨r, s⟩ := b
  have HB : Hid (Below w.heap.size w ((w.alloc (.cells #[.int .i64 p, .int .i64 q] 23)).alloc (.cells #[.int .i64 r, .int .i64 s] 23))) := ((Below.refl _ _).alloc (Nat.le_refl _) _).alloc (by simp) _
  unfold stV lessF
  dsimp only
  by_cases h1 : p < r
  · go_enter Try.func11, Try.ntmps11
    go_wp2_with fail
    go_ret
    exact ⟨by simp [h1], HB.out⟩
  · by_cases h2 : p = r
    · subst h2
      go_enter Try.func11, Try.ntmps11
      go_wp2_with fail
      go_ret
      exact ⟨by simp, HB.out⟩
    · have h2' : (p == r) = false := by simpa using h2
      go_enter Try.func11, Try.ntmps11
      go_wp2_with fail
      go_ret
      exact ⟨by simp [h1], HB.out⟩
theorem max_any (a b : StL) (ha : a.ok) (hb : b.ok) (w : World) :
    Calls Try.prog 13 #[stV a, stV b] w fun e w' => e = .returned (stV (maxF a b)) ∧ Below w.heap.size w w' := by
  have C := Lib.hid (fun w => less_any a b ha hb w)
  have HM := Lib.hid (show maxF a b = if lessF a b then b else a from rfl)
  obtain ⟨p, q⟩ := a
  obtain ⟨r, s⟩ := b
  unfold stV at *
  go_enter Try.func13, Try.ntmps13
  have k0 : Blk 23 (((w.alloc (.cells #[.int .i64 p, .int .i64 q] 23)).alloc (.cells #[.int .i64 r, .int .i64 s] 23)).alloc (.cells #[.int .i64 0, .int .i64 0] 23)) w.heap.size [.int .i64 p, .int .i64 q] := Blk.alloc (Blk.alloc (heap_alloc_new w _) _) _
  have k1 : Blk 23 (((w.alloc (.cells #[.int .i64 p, .int .i64 q] 23)).alloc (.cells #[.int .i64 r, .int .i64 s] 23)).alloc (.cells #[.int .i64 0, .int .i64 0] 23)) (w.heap.size + 1) [.int .i64 r, .int .i64 s] := by
    have := Blk.alloc (E := 23) (cs := [.int .i64 r, .int .i64 s]) (heap_alloc_new (w.alloc (.cells #[.int .i64 p, .int .i64 q] 23)) _) (.cells #[.int .i64 0, .int .i64 0] 23)
    simpa using this
  have k2 : Blk 23 (((w.alloc (.cells #[.int .i64 p, .int .i64 q] 23)).alloc (.cells #[.int .i64 r, .int .i64 s] 23)).alloc (.cells #[.int .i64 0, .int .i64 0] 23)) (w.heap.size + 2) [.int .i64 0, .int .i64 0] := by
    have := heap_alloc_new ((w.alloc (.cells #[.int .i64 p, .int .i64 q] 23)).alloc (.cells #[.int .i64 r, .int .i64 s] 23)) (.cells #[.int .i64 0, .int .i64 0] 23)
    simpa [Blk] using this
  have hB3 : Below w.heap.size w (((w.alloc (.cells #[.int .i64 p, .int .i64 q] 23)).alloc (.cells #[.int .i64 r, .int .i64 s] 23)).alloc (.cells #[.int .i64 0, .int .i64 0] 23)) := (((Below.refl _ _).alloc (Nat.le_refl _) _).alloc (by simp) _).alloc (by simp; omega) _
  have h0 := k0.lt
  have h1 := k1.lt
  have h2 := k2.lt
  go_wp2_with fail
  refine (C.out _).mono ?_
  clear C
  generalize (((w.alloc (.cells #[.int .i64 p, .int .i64 q] 23)).alloc (.cells #[.int .i64 r, .int .i64 s] 23)).alloc (.cells #[.int .i64 0, .int .i64 0] 23)) = w3 at *
  rintro e w4 ⟨rfl, hB4⟩
  have j0 := k0.below hB4 h0
  have j1 := k1.below hB4 h1
  have j2 := k2.below hB4 h2
  have a0 := j0.cell 0
  have a1 := j0.cell 1
  have b0 := j1.cell 0
  have b1 := j1.cell 1
  have d0 := j2.cell 0
  have d1 := j2.cell 1
  have df := fun i => j2.frozen i
  simp only [List.getElem?_cons_zero, List.getElem?_cons_succ] at a0 a1 b0 b1 d0 d1
  have hBw := hB3.trans (hB4.mono hB3.size)
  have hgs := hBw.size
  rcases hl : lessF ⟨p, q⟩ ⟨r, s⟩ with _ | _
  · rw [hl] at HM
    clear hl
    go_wp2_with fail
    have s2 : Blk 23 ((w4.setCell ⟨w.heap.size + 2, 0, none⟩ (.int .i64 p)).setCell ⟨w.heap.size + 2, 1, none⟩ (.int .i64 q)) (w.heap.size + 2) [.int .i64 p, .int .i64 q] := (j2.set_ 0 _).set_ 1 _
    have hBf : Below w.heap.size w ((w4.setCell ⟨w.heap.size + 2, 0, none⟩ (.int .i64 p)).setCell ⟨w.heap.size + 2, 1, none⟩ (.int .i64 q)) := (hBw.setCell (show w.heap.size ≤ w.heap.size + 2 by omega) _).setCell (show w.heap.size ≤ w.heap.size + 2 by omega) _
    rw [show w.heap.size + 1 + 1 = w.heap.size + 2 by omega]
    generalize ((w4.setCell ⟨w.heap.size + 2, 0, none⟩ (.int .i64 p)).setCell ⟨w.heap.size + 2, 1, none⟩ (.int .i64 q)) = wf at *
    have r0 := s2.cell 0
    have r1 := s2.cell 1
    simp only [List.getElem?_cons_zero, List.getElem?_cons_succ] at r0 r1
    (try simp only [Exit.inBlock, Exit.then])
    refine bodyPost_ret (by simp [results, Try.results13, go_sem, r0, r1]; try rfl) rfl ?_
    exact ⟨by rw [HM.out]; rfl, hBf⟩
  · rw [hl] at HM
    clear hl
    go_wp2_with fail
    have s2 : Blk 23 ((w4.setCell ⟨w.heap.size + 2, 0, none⟩ (.int .i64 r)).setCell ⟨w.heap.size + 2, 1, none⟩ (.int .i64 s)) (w.heap.size + 2) [.int .i64 r, .int .i64 s] := (j2.set_ 0 _).set_ 1 _
    have hBf : Below w.heap.size w ((w4.setCell ⟨w.heap.size + 2, 0, none⟩ (.int .i64 r)).setCell ⟨w.heap.size + 2, 1, none⟩ (.int .i64 s)) := (hBw.setCell (show w.heap.size ≤ w.heap.size + 2 by omega) _).setCell (show w.heap.size ≤ w.heap.size + 2 by omega) _
    rw [show w.heap.size + 1 + 1 = w.heap.size + 2 by omega]
    generalize ((w4.setCell ⟨w.heap.size + 2, 0, none⟩ (.int .i64 r)).setCell ⟨w.heap.size + 2, 1, none⟩ (.int .i64 s)) = wf at *
    have r0 := s2.cell 0
    have r1 := s2.cell 1
    simp only [List.getElem?_cons_zero, List.getElem?_cons_succ] at r0 r1
    (try simp only [Exit.inBlock, Exit.then])
    refine bodyPost_ret (by simp [results, Try.results13, go_sem, r0, r1]; try rfl) rfl ?_
    exact ⟨by rw [HM.out]; rfl, hBf⟩
theorem ripe_any (c o r : Int) (hc : I64 c) (ho : I64 o) (hr : I64 r) (w : World) :
    Calls Try.prog 27 #[.agg #[.int .i64 c, .int .i64 o], .int .i64 r] w fun e w' => e = .returned (.bool (decide (r ≤ c))) ∧ Below w.heap.size w w' := by
  have HB : Hid (Below w.heap.size w (w.alloc (.cells #[.int .i64 c, .int .i64 o] 45))) := (Below.refl _ _).alloc (Nat.le_refl _) _
  go_enter Try.func27, Try.ntmps27
  go_wp2_with fail
  go_ret
  exact ⟨rfl, HB.out⟩
theorem limit_any (c o : Int) (hc : I64 c) (ho : I64 o) (w : World) :
    Calls Try.prog 25 #[.agg #[.int .i64 c, .int .i64 o]] w fun e w' => e = .returned (.tuple #[.int .i64 (limF c o), .int .i64 (limE c o)]) ∧ Below w.heap.size w w' := by
  have HB : Hid (Below w.heap.size w (w.alloc (.cells #[.int .i64 c, .int .i64 o] 45))) := (Below.refl _ _).alloc (Nat.le_refl _) _
  obtain ⟨c0, c1⟩ := hc
  obtain ⟨o0, o1⟩ := ho
  by_cases hb : limBad c o
  · have H1 := Lib.hid (show limF c o = 0 from if_pos hb)
    have H2 := Lib.hid (show limE c o = 5 from if_pos hb)
    unfold limBad at hb
    by_cases h1 : c < 0
    · go_enter Try.func25, Try.ntmps25
      go_wp2_with fail
      go_ret2
      rw [H1.out, H2.out]
      exact ⟨rfl, HB.out⟩
    by_cases h2 : o < 0
    · go_enter Try.func25, Try.ntmps25
      go_wp2_with fail
      go_ret2
      rw [H1.out, H2.out]
      exact ⟨rfl, HB.out⟩
    by_cases h3 : 4611686018427387903 < c
    · go_enter Try.func25, Try.ntmps25
      go_wp2_with fail
      go_ret2
      rw [H1.out, H2.out]
      exact ⟨rfl, HB.out⟩
    have h4 : 4611686018427387903 - c < o := by omega
    go_enter Try.func25, Try.ntmps25
    go_wp2_with fail
    go_ret2
    rw [H1.out, H2.out]
    exact ⟨rfl, HB.out⟩
  · have H1 := Lib.hid (show limF c o = c + o + 1 from if_neg hb)
    have H2 := Lib.hid (show limE c o = 0 from if_neg hb)
    unfold limBad at hb
    have h1 : ¬ c < 0 := by omega
    have h2 : ¬ o < 0 := by omega
    have h3 : ¬ 4611686018427387903 < c := by omega
    have h4 : ¬ 4611686018427387903 - c < o := by omega
    go_enter Try.func25, Try.ntmps25
    go_wp2_with fail
    go_ret2
    rw [H1.out, H2.out]
    exact ⟨rfl, HB.out⟩
theorem read_any (c o r : Int) (hc : I64 c) (ho : I64 o) (hr : I64 r) (w : World) :
    Calls Try.prog 28 #[.agg #[.int .i64 c, .int .i64 o], .int .i64 r] w fun e w' => e = .returned (.agg #[.int .i64 (readF c r), .int .i64 o]) ∧ Below w.heap.size w w' := by
  have HF := Lib.hid (show readF c r = max c (min (max r 0) 1125899906842624) from rfl)
  have HB : Hid (Below w.heap.size w ((w.alloc (.cells #[.int .i64 c, .int .i64 o] 45)).alloc (.cells #[.int .i64 0, .int .i64 0] 45))) := ((Below.refl _ _).alloc (Nat.le_refl _) _).alloc (by simp) _
  go_enter Try.func28, Try.ntmps28
  go_wp2_with fail
  all_goals
    (try simp only [Exit.inBlock, Exit.then])
    refine bodyPost_ret (by simp [results, Try.results28, go_sem]; try rfl) rfl ?_
    refine ⟨?_, ((Below.refl _ _).alloc (Nat.le_refl _) _).alloc (by simp) _⟩
    rw [HF.out]
    (try simp only [List.map_cons, List.map_nil])
    congr 5
    omega
theorem bytes_any (a : StL) (ha : a.ok) (w : World) : Calls Try.prog 17 #[stV a] w (RetL 5 w 16 (stB a)) := by
  obtain ⟨p, q⟩ := a
  obtain ⟨hp, hq⟩ := ha
  simp only at hp hq
  have O1 := Lib.hid (fun w => order_any p w hp.1 hp.2)
  have O2 := Lib.hid (fun w => order_any q w hq.1 hq.2)
  have P1 := Lib.hid (fun w => put_ok none 0 0 [] (p + 9223372036854775808) 8 w (Rd.nil _ _ _) (by omega) (by unfold I64 at hp; omega) (by unfold I64 at hp; omega) (by omega) (by omega) (by unfold I64 at hp; simp; omega))
  have P2 := Lib.hid (fun (A : Option Addr) (c : Nat) (l : List Int) (w : World) (hR : Rd w w.heap.size A 8 l) => put_ok A 8 c l (q + 9223372036854775808) 8 w hR (by omega) (by unfold I64 at hq; omega) (by unfold I64 at hq; omega) (by omega) (by omega) (by unfold I64 at hq; simp; omega))
  unfold stV
  have HB : Hid (Below w.heap.size w (w.alloc (.cells #[.int .i64 p, .int .i64 q] 23))) := (Below.refl _ _).alloc (Nat.le_refl _) _
  have k0 : Hid (Blk 23 (w.alloc (.cells #[.int .i64 p, .int .i64 q] 23)) w.heap.size [.int .i64 p, .int .i64 q]) := heap_alloc_new w _
  dsimp only
  go_enter Try.func17, Try.ntmps17
  go_wp2_with fail
  refine (O1.out _).mono ?_
  rintro e w2 ⟨rfl, rfl⟩
  go_wp2_with fail
  refine (P1.out _).mono ?_
  have hwl : (w.alloc (.cells #[.int .i64 p, .int .i64 q] 23)).heap.size = w.heap.size + 1 := by simp
  have hlt : w.heap.size < (w.alloc (.cells #[.int .i64 p, .int .i64 q] 23)).heap.size := by omega
  generalize (w.alloc (.cells #[.int .i64 p, .int .i64 q] 23)) = w1 at *
  rintro e w3 ⟨A1, c1, rfl, hl1, hO1, hB1⟩
  have k1 := k0.out.below hB1 hlt
  have a0 := k1.cell 0
  have a1 := k1.cell 1
  simp only [List.getElem?_cons_zero, List.getElem?_cons_succ] at a0 a1
  go_wp2_with fail
  refine (O2.out _).mono ?_
  rintro e w2 ⟨rfl, rfl⟩
  go_wp2_with fail
  obtain ⟨A1', c1', hv1, hn1, hm1, hR1⟩ := hO1.slice
  simp only [List.nil_append, beB_length, Value.slice.injEq] at hv1 hR1
  obtain ⟨rfl, -, rfl⟩ := hv1
  refine (P2.out A1 c1 _ _ hR1).mono ?_
  rintro e w4 ⟨A2, c2, rfl, hl2, hO2, hB2⟩
  go_wp2_with fail
  go_ret
  have hs1 := hB1.size
  have hs0 := HB.out.size
  exact ⟨A2, c2, rfl, by unfold stB; rw [List.length_append, beB_length, beB_length], hO2.more (by omega), HB.out.trans ((hB1.mono hs0).trans (hB2.mono (by omega)))⟩
theorem take_any (A : Option Addr) (n c : Nat) (l : List Int) (w : World) (B : Nat) (hR : Rd w B A n l) (hB : B ≤ w.heap.size) (hY : Byt l) (hb : n ≤ 1099511627776) (hc : n ≤ c) :
    Calls Try.prog 18 #[.slice A n c] w fun e w' => e = .returned (.tuple #[stV (takeF l), .int .i64 (takeE l)]) ∧ Below w.heap.size w w' := by
  have hl := hR.len
  have HB : Hid (Below w.heap.size w (w.alloc (.cells #[.int .i64 0, .int .i64 0] 23))) := (Below.refl _ _).alloc (Nat.le_refl _) _
  by_cases h1 : n < 16
  · have HF : Hid (takeF l = ⟨0, 0⟩) := if_neg (by omega)
    have HE : Hid (takeE l = 2) := if_pos (by omega)
    clear hl
    go_enter Try.func18, Try.ntmps18
    go_wp2_with fail
    (try simp only [Exit.inBlock, Exit.then])
    refine bodyPost_ret (by simp [results, Try.results18, go_sem]; try rfl) rfl ?_
    exact ⟨by rw [HF.out, HE.out]; rfl, HB.out⟩
  · by_cases h2 : 16 < n
    · have HF : Hid (takeF l = ⟨0, 0⟩) := if_neg (by omega)
      have HE : Hid (takeE l = 3) := by
        show (if l.length < 16 then (2 : Int) else if 16 < l.length then 3 else 0) = 3
        rw [if_neg (by omega), if_pos (by omega)]
      clear hl
      go_enter Try.func18, Try.ntmps18
      go_wp2_with fail
      (try simp only [Exit.inBlock, Exit.then])
      refine bodyPost_ret (by simp [results, Try.results18, go_sem]; try rfl) rfl ?_
      exact ⟨by rw [HF.out, HE.out]; rfl, HB.out⟩
    · obtain rfl : n = 16 := by omega
      have HF : Hid (takeF l = ⟨beV (l.take 8) - 9223372036854775808, beV (l.drop 8) - 9223372036854775808⟩) := if_pos hl
      have HE : Hid (takeE l = 0) := by
        show (if l.length < 16 then (2 : Int) else if 16 < l.length then 3 else 0) = 0
        rw [if_neg (by omega), if_neg (by omega)]
      have G1 := Lib.hid (fun (wq : World) (h : Rd wq B A 16 l) => get_ok A 16 c l 0 8 wq B h hY (by omega) hc (by omega) (by omega) (by omega))
      have G2 := Lib.hid (fun (wq : World) (h : Rd wq B A 16 l) => get_ok A 16 c l 8 8 wq B h hY (by omega) hc (by omega) (by omega) (by omega))
      have t1 : (l.drop 0).take 8 = l.take 8 := by simp
      have t2 : (l.drop 8).take 8 = l.drop 8 := List.take_of_length_le (by rw [List.length_drop]; omega)
      rw [t1] at G1
      rw [t2] at G2
      have v1 := beV_lt8 (l.take 8) (hY.take 8) (by rw [List.length_take]; omega)
      have v2 := beV_lt8 (l.drop 8) (hY.drop 8) (by rw [List.length_drop]; omega)
      have B1 := Lib.hid (fun w => back_any (beV (l.take 8)) w v1.1 v1.2)
      have B2 := Lib.hid (fun w => back_any (beV (l.drop 8)) w v2.1 v2.2)
      have HR := Lib.hid hR
      generalize beV (l.take 8) = x at *
      generalize beV (l.drop 8) = y at *
      clear t1 t2 v1 v2 hl h1 h2 hR
      go_enter Try.func18, Try.ntmps18
      go_wp2_with fail
      refine (G1.out _ (HR.out.alloc hB _)).mono ?_
      rintro e w2 ⟨rfl, rfl⟩
      go_wp2_with fail
      refine (G2.out _ (HR.out.alloc hB _)).mono ?_
      rintro e w2 ⟨rfl, rfl⟩
      go_wp2_with fail
      refine (B1.out _).mono ?_
      rintro e w2 ⟨rfl, rfl⟩
      go_wp2_with fail
      refine (B2.out _).mono ?_
      rintro e w2 ⟨rfl, rfl⟩
      go_wp2_with fail
      (try simp only [Exit.inBlock, Exit.then])
      refine bodyPost_ret (by simp [results, Try.results18, go_sem]; try rfl) rfl ?_
      exact ⟨by rw [HF.out, HE.out]; rfl, (Below.refl _ _).alloc (Nat.le_refl _) _⟩
end Go.Proofs.Ytpalhpkbdkodfaa.stamp
