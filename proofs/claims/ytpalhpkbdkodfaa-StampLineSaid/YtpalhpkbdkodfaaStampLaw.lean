/- The statements' begun of stamp, StampTies, StampReads, StampLater answer true. Conditions: what the slices read as. -/
import Derived.Test.YtpalhpkbdkodfaaStampI
import Derived.Test.YtpalhpkbdkodfaaTwin
import Derived.BigQuiet
namespace Go.Proofs.Ytpalhpkbdkodfaa.law6
open Go.RowKit Go.Proofs.Ytpalhpkbdkodfaa.kit Go.Proofs.Ytpalhpkbdkodfaa.nums Go.Proofs.Ytpalhpkbdkodfaa.st Go.Proofs.Ytpalhpkbdkodfaa.ref6 Go.Proofs.Ytpalhpkbdkodfaa.bytes
set_option linter.unusedVariables false

theorem blk_one (w : World) (E : TypeId) (cs : List Value) (o : Obj) : Blk E ((w.alloc (.cells cs.toArray E)).alloc o) w.heap.size cs := Blk.alloc (heap_alloc_new w _) _
theorem blk_two (w : World) (E : TypeId) (cs : List Value) (o : Obj) : Blk E ((w.alloc o).alloc (.cells cs.toArray E)) (w.heap.size + 1) cs := by
  have := heap_alloc_new (w.alloc o) (.cells cs.toArray E)
  simpa [Blk] using this
theorem i64_of {x : Int} (h : (Lit.int .i64 x).wf = true) : I64 x := by
  simpa [I64, Lit.wf, IntKind.min, IntKind.max, IntKind.signed, IntKind.bits] using h
theorem i64_lit {x : Int} (h0 : -9223372036854775808 ≤ x) (h1 : x ≤ 9223372036854775807) : I64 x := ⟨h0, h1⟩
theorem begun_any (w : World) : Calls Try.prog 10 #[] w fun e w' => e = .returned (.bool true) ∧ Below w.heap.size w w' := by
  have C1 := Lib.hid (fun w => stamp.tie_any 1 0 0 1 (by decide) (by decide) (by decide) (by decide) w)
  have C2 := Lib.hid (fun w => stamp.limit_any 3 4 (by decide) (by decide) w)
  have C3 := Lib.hid (fun w => stamp.less_any ⟨1, 0⟩ ⟨1, 1⟩ (by decide) (by decide) w)
  rw [show tieF 1 0 0 1 = 281474976710657 by decide, show tieE 1 0 0 1 = 0 by decide] at C1
  rw [show limF 3 4 = 8 by decide, show limE 3 4 = 0 by decide] at C2
  rw [show lessF ⟨1, 0⟩ ⟨1, 1⟩ = true by decide] at C3
  unfold stV at C3
  go_enter Try.func10, Try.ntmps10
  go_wp2_with fail
  refine (C1.out _).mono ?_
  rintro e w1 ⟨rfl, hB1⟩
  go_wp2_with fail
  refine (C2.out _).mono ?_
  rintro e w2 ⟨rfl, hB2⟩
  go_wp2_with fail
  refine (C3.out _).mono ?_
  rintro e w3 ⟨rfl, hB3⟩
  go_wp2_with fail
  go_ret
  have h12 := hB1.trans (hB2.mono hB1.size)
  exact ⟨rfl, h12.trans (hB3.mono h12.size)⟩

set_option maxHeartbeats 1000000 in
theorem ties_walk (a b : TrL) (w : World) (ha : a.ok) (hb : b.ok) :
    Calls Try.prog 7 #[trV a, trV b] w fun e w' => e = .returned (.bool true) ∧ Below w.heap.size w w' := by
  obtain ⟨n, l, s, t⟩ := a
  obtain ⟨n', l', s', t'⟩ := b
  have C1 := Lib.hid (fun w => stamp.tie_any n l s t ha.1 ha.2.1 ha.2.2.1 ha.2.2.2 w)
  have C2 := Lib.hid (fun w => ref6.tie_any n l s t w)
  have C3 := Lib.hid (fun w => stamp.tie_any n' l' s' t' hb.1 hb.2.1 hb.2.2.1 hb.2.2.2 w)
  have HI : Hid (tieE n l s t = 0 → tieE n' l' s' t' = 0 → (tieF n l s t = tieF n' l' s' t' ↔ n = n' ∧ l = l' ∧ s = s' ∧ t = t')) := by
    intro h1 h2
    have b1 : ¬ tieBad n l s t := fun h => by unfold tieE at h1; rw [if_pos h] at h1; omega
    have b2 : ¬ tieBad n' l' s' t' := fun h => by unfold tieE at h2; rw [if_pos h] at h2; omega
    exact ⟨fun h => tie_inj b1 b2 h, fun ⟨h3, h4, h5, h6⟩ => by subst h3; subst h4; subst h5; subst h6; rfl⟩
  generalize tieF n l s t = x at *
  generalize tieE n l s t = e at *
  generalize tieF n' l' s' t' = z at *
  generalize tieE n' l' s' t' = g at *
  clear ha hb
  unfold trV
  dsimp only
  go_enter Try.func7, Try.ntmps7
  have k0 := Lib.hid (blk_one w 25 [.int .i64 n, .int .i64 l, .int .i64 s, .int .i64 t] (.cells #[.int .i64 n', .int .i64 l', .int .i64 s', .int .i64 t'] 25))
  have k1 := Lib.hid (blk_two w 25 [.int .i64 n', .int .i64 l', .int .i64 s', .int .i64 t'] (.cells #[.int .i64 n, .int .i64 l, .int .i64 s, .int .i64 t] 25))
  have hB0 : Hid (Below w.heap.size w ((w.alloc (.cells #[.int .i64 n, .int .i64 l, .int .i64 s, .int .i64 t] 25)).alloc (.cells #[.int .i64 n', .int .i64 l', .int .i64 s', .int .i64 t'] 25))) := ((Below.refl _ _).alloc (Nat.le_refl _) _).alloc (by simp) _
  go_wp2_with fail
  refine (begun_any _).mono ?_
  generalize ((w.alloc (.cells #[.int .i64 n, .int .i64 l, .int .i64 s, .int .i64 t] 25)).alloc (.cells #[.int .i64 n', .int .i64 l', .int .i64 s', .int .i64 t'] 25)) = w0 at *
  rintro e' w1 ⟨rfl, hB1⟩
  have j0 := k0.out.below hB1 k0.out.lt
  have j1 := k1.out.below hB1 k1.out.lt
  have a0 := j0.cell 0
  have a1 := j0.cell 1
  have a2 := j0.cell 2
  have a3 := j0.cell 3
  simp only [List.getElem?_cons_zero, List.getElem?_cons_succ] at a0 a1 a2 a3
  go_wp2_with fail
  refine (C1.out _).mono ?_
  rintro e' w2 ⟨rfl, hB2⟩
  have i0 := j0.below hB2 j0.lt
  have i1 := j1.below hB2 j1.lt
  clear a0 a1 a2 a3
  have a0 := i0.cell 0
  have a1 := i0.cell 1
  have a2 := i0.cell 2
  have a3 := i0.cell 3
  have b0 := i1.cell 0
  have b1 := i1.cell 1
  have b2 := i1.cell 2
  have b3 := i1.cell 3
  simp only [List.getElem?_cons_zero, List.getElem?_cons_succ] at a0 a1 a2 a3 b0 b1 b2 b3
  go_wp2_with fail
  refine (C2.out _).mono ?_
  rintro e' w3 ⟨rfl, rfl⟩
  go_wp2_with fail
  refine (C3.out _).mono ?_
  rintro e' w4 ⟨rfl, hB4⟩
  clear a0 a1 a2 a3 b0 b1 b2 b3
  have m0 := i0.below hB4 i0.lt
  have m1 := i1.below hB4 i1.lt
  have a0 := m0.cell 0
  have a1 := m0.cell 1
  have a2 := m0.cell 2
  have a3 := m0.cell 3
  have b0 := m1.cell 0
  have b1 := m1.cell 1
  have b2 := m1.cell 2
  have b3 := m1.cell 3
  simp only [List.getElem?_cons_zero, List.getElem?_cons_succ] at a0 a1 a2 a3 b0 b1 b2 b3
  have hB12 := hB1.trans (hB2.mono hB1.size)
  have hBf := Lib.hid (hB0.out.trans ((hB12.trans (hB4.mono hB12.size)).mono hB0.out.size))
  clear C1 C2 C3 k0 k1 j0 j1 i0 i1 m0 m1 hB0 hB1 hB2 hB4 hB12
  by_cases he : e = 0
  · subst he
    by_cases hg : g = 0
    · subst hg
      have HJ := Lib.hid (HI.out rfl rfl)
      clear HI
      by_cases hx : x = z
      · obtain ⟨rfl, rfl, rfl, rfl⟩ := HJ.out.1 hx
        subst hx
        go_wp2_with fail
        go_ret
        exact ⟨rfl, hBf.out⟩
      · have hne := mt HJ.out.2 hx
        have hx2 : (x == z) = false := by simpa using hx
        have HN := Lib.hid hne
        clear hne
        go_wp2_with fail
        all_goals first | (refine absurd ⟨?_, ?_, ?_, ?_⟩ HN.out <;> assumption) | (go_ret; exact ⟨rfl, hBf.out⟩)
    · have hg2 : (g != 0) = true := by simpa using hg
      go_wp2_with fail
      go_ret
      exact ⟨rfl, hBf.out⟩
  · have he2 : (e != 0) = true := by simpa using he
    go_wp2_with fail
    go_ret
    exact ⟨rfl, hBf.out⟩

theorem st_eq (a b : StL) (h : stV a = stV b) : a = b := by
  obtain ⟨p, q⟩ := a
  obtain ⟨r, s⟩ := b
  simpa [stV] using h
set_option maxHeartbeats 1000000 in
theorem reads_walk (A : Option Addr) (n c : Nat) (l : List Int) (w : World) (hR : Rd w w.heap.size A n l) (hY : Byt l) (hnc : n ≤ c) (hcm : c ≤ maxLen) :
    Calls Try.prog 6 #[.slice A n c] w fun e w' => e = .returned (.bool true) ∧ Below w.heap.size w w' := by
  have hx1 := hcm
  unfold maxLen at hx1
  go_enter Try.func6, Try.ntmps6
  go_wp2_with fail
  refine (begun_any _).mono ?_
  rintro e w1 ⟨rfl, hB1⟩
  by_cases h1 : 100 < n
  · go_wp2_with fail
    go_ret
    exact ⟨rfl, hB1⟩
  have T := Lib.hid (twin_any A n c l w1 (hR.on hB1 hB1.size) (by omega))
  have HR1 := Lib.hid (hR.on hB1 hB1.size)
  go_wp2_with fail
  refine T.out.mono ?_
  rintro e w2 ⟨rfl, hT, hB2⟩
  have hR2 := HR1.out.on hB2 hB2.size
  have hl := hR.len
  have hRt := hT.rd hl hT.lt
  have F1 := Lib.hid (fun w' (h : Below w2.heap.size w2 w') => stamp.take_any (some ⟨w1.heap.size, 0, none⟩) n (n + 3) l w' w2.heap.size (hRt.below h) h.size hY (by omega) (by omega))
  have F2 := Lib.hid (fun w' (h : Below w2.heap.size w2 w') => rtake_any A n c l w' w2.heap.size (hR2.below h) h.size hY (by omega))
  have F3 := Lib.hid (fun w' (h : Below w2.heap.size w2 w') => kept_any w1.heap.size A n c l w' w2.heap.size (hT.below h hT.lt) (hR2.below h) (by omega))
  have HB2 := Lib.hid (hB1.trans (hB2.mono hB1.size))
  obtain ⟨⟨u, v⟩, hf⟩ : ∃ x, takeF l = x := ⟨_, rfl⟩
  rw [hf] at F1 F2
  generalize takeE l = f at *
  unfold stV at *
  dsimp only at F1 F2
  clear T HR1 hR2 hl hRt hT hB1 hB2 hR hf
  go_wp2_with fail
  refine (F1.out _ (Below.refl _ _)).mono ?_
  rintro e w3 ⟨rfl, hB3⟩
  go_wp2_with fail
  refine (F2.out _ (hB3.alloc hB3.size _)).mono ?_
  have hB34 := hB3.alloc hB3.size (.cells #[.int .i64 u, .int .i64 v] 23)
  have k0 : Blk 23 (w3.alloc (.cells #[.int .i64 u, .int .i64 v] 23)) w3.heap.size [.int .i64 u, .int .i64 v] := heap_alloc_new w3 _
  have hs3 := hB3.size
  generalize (w3.alloc (.cells #[.int .i64 u, .int .i64 v] 23)) = w4 at *
  rintro e w5 ⟨rfl, hB5⟩
  have k5 := k0.below hB5 k0.lt
  have hB25 := hB34.trans (hB5.mono hB34.size)
  have k6 := k5.alloc (.cells #[.int .i64 u, .int .i64 v] 23)
  have j6 : Blk 23 (w5.alloc (.cells #[.int .i64 u, .int .i64 v] 23)) w5.heap.size [.int .i64 u, .int .i64 v] := heap_alloc_new w5 _
  have hB26 := hB25.alloc hB25.size (.cells #[.int .i64 u, .int .i64 v] 23)
  clear F1 F2 k0 k5 hB5 hB34 hB3 hB25
  go_upto_region 8 with (fail)
  generalize (w5.alloc (.cells #[.int .i64 u, .int .i64 v] 23)) = w6 at *
  have c0 := k6.cell 0
  have c1 := k6.cell 1
  have d0 := j6.cell 0
  have d1 := j6.cell 1
  simp only [List.getElem?_cons_zero, List.getElem?_cons_succ] at c0 c1 d0 d1
  have D3 := Lib.hid (F3.out _ hB26)
  have HBf := Lib.hid (HB2.out.trans (hB26.mono HB2.out.size))
  clear F3 k6 j6 HB2
  go_wp2_with fail
  refine D3.out.mono ?_
  rintro e w7 ⟨rfl, rfl⟩
  go_wp2_with fail
  go_ret
  exact ⟨rfl, HBf.out⟩
end Go.Proofs.Ytpalhpkbdkodfaa.law6
