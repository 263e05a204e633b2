/- What the document's Take (antipoderef7) comes to. Conditions: at most 2^40 bytes. -/
import Derived.Test.YtodpaeaeigjmdaaDoorRef7u
import Derived.Test.YtodpaeaeigjmdaaDoorTake
import Derived.Test.YtodpaeaeigjmdaaDoorKitS
namespace Go.Proofs.YtodpaeaeigjmdaaDoor.ref7
open Go Go.RowKit Go.Proofs.YtodpaeaeigjmdaaDoor.kit Go.Proofs.YtodpaeaeigjmdaaDoor.nums Go.Proofs.YtodpaeaeigjmdaaDoor.st Go.Proofs.YtodpaeaeigjmdaaDoor.va Go.Proofs.YtodpaeaeigjmdaaDoor.bytes Go.Proofs.YtodpaeaeigjmdaaDoor.ints
set_option linter.unusedVariables false

set_option maxRecDepth 10000 in
set_option maxHeartbeats 2000000 in
theorem take_any (A : Option Addr) (n c : Nat) (l : List Int) (w : World) (B : Nat) (hR : Rd w B A n l) (hB : B ≤ w.heap.size) (hY : Byt l) (hb : n ≤ 1099511627776) (hnc : n ≤ c) :
    Calls Tryd.prog 24 #[.slice A n c] w (RetV w (tpF l)) := by
  have hl := hR.len
  have HB : Hid (Below w.heap.size w (w.alloc (.cells #[.int .i64 0, .int .i64 0, .string { data := #[] }] 24))) := (Below.refl _ _).alloc (Nat.le_refl _) _
  obtain ⟨v, hv⟩ : ∃ v, tpF l = v := ⟨_, rfl⟩
  rw [hv]
  cases l with
  | nil =>
    obtain rfl : 0 = n := hl
    have hV : Hid (v = (zeroV, 0, 2)) := hv.symm
    clear hv
    go_enter Tryd.func24, Tryd.ntmps24
    go_wp2_with fail
    (try simp only [Exit.inBlock, Exit.then])
    refine bodyPost_ret (by simp [results, Tryd.results24, go_sem]; try rfl) rfl ?_
    exact ⟨by rw [hV.out]; rfl, (Below.refl _ _).alloc (Nat.le_refl _) _⟩
  | cons x r =>
    have hn1 : r.length + 1 = n := hl
    obtain ⟨b, o, rfl, hbB, hcell⟩ := hR.2 (by omega)
    have hx := hcell 0 (by omega)
    simp only [List.getD_cons_zero, Nat.add_zero] at hx
    have hx0 := hY x (by simp)
    have hblt : b < w.heap.size := by omega
    have hnp : 1 ≤ n := by omega
    by_cases h0 : x = 0 ∨ x = 1
    · unfold tpF at hv
      dsimp only at hv
      rw [if_pos h0] at hv
      have T := Lib.hid (fun (wq : World) (h : Below w.heap.size w wq) => takeKey_any (some ⟨b, o, none⟩) n c (x :: r) wq B (hR.below (h.mono hB)) (by have := h.size; omega) hY hb)
      rw [hv] at T
      have k0 : Hid (Blk 24 (w.alloc (.cells #[.int .i64 0, .int .i64 0, .string { data := #[] }] 24)) w.heap.size [.int .i64 0, .int .i64 0, .string { data := #[] }]) := heap_alloc_new w _
      have hs0 : w.heap.size < (w.alloc (.cells #[.int .i64 0, .int .i64 0, .string { data := #[] }] 24)).heap.size := by simp
      clear hv hR hcell hY hn1 hl
      rcases h0 with rfl | rfl
      all_goals
        go_enter Tryd.func24, Tryd.ntmps24
        go_wp2_with fail
        refine (T.out _ HB.out).mono ?_
        generalize (w.alloc (.cells #[.int .i64 0, .int .i64 0, .string { data := #[] }] 24)) = w1 at *
        rintro e wr ⟨rfl, hB2⟩
        have hK := k0.out.below hB2 hs0
        have hBr := HB.out.trans (hB2.mono HB.out.size)
        obtain ⟨⟨vk, vn, vs⟩, vl, ve⟩ := v
        unfold vaV
        dsimp only
        have d0 := hK.cell 0
        have d1 := hK.cell 1
        have d2 := hK.cell 2
        have df := fun i => hK.frozen i
        simp only [List.getElem?_cons_zero, List.getElem?_cons_succ] at d0 d1 d2
        go_wp2_with fail
        have r3 := put3 hK (.int .i64 vk) (.int .i64 vn) (.string (strOfNums vs))
        have hBf := below3 hBr (.int .i64 vk) (.int .i64 vn) (.string (strOfNums vs))
        generalize (((wr.setCell ⟨w.heap.size, 0, none⟩ (.int .i64 vk)).setCell ⟨w.heap.size, 1, none⟩ (.int .i64 vn)).setCell ⟨w.heap.size, 2, none⟩ (.string (strOfNums vs))) = wf at *
        have r0 := r3.cell 0
        have r1 := r3.cell 1
        have r2 := r3.cell 2
        simp only [List.getElem?_cons_zero, List.getElem?_cons_succ] at r0 r1 r2
        (try simp only [Exit.inBlock, Exit.then])
        show bodyPost Tryd.prog Tryd.f24 _ Exit.ret _ wf
        refine bodyPost_ret (by simp [results, Tryd.results24, go_sem, r0, r1, r2]; try rfl) rfl ?_
        exact ⟨rfl, hBf⟩
    have g0 : ¬ x = 0 := fun h => h0 (.inl h)
    have g1 : ¬ x = 1 := fun h => h0 (.inr h)
    have h0' : (x == 0) = false := by simpa using g0
    have h1' : (x == 1) = false := by simpa using g1
    have hYr : Byt r := fun z hz => hY z (List.mem_cons_of_mem _ hz)
    by_cases h2 : x = 2
    · unfold tpF at hv
      dsimp only at hv
      rw [if_neg h0, if_pos h2] at hv
      subst h2
      have hg := takeV_good hYr
      have T := Lib.hid (fun (A : Option Addr) (c : Nat) (wq : World) (h : Rd wq wq.heap.size A (n - 1) r) => rtakeVar_any A (n - 1) c r wq wq.heap.size h hYr (by omega))
      have k0 : Hid (Blk 24 (w.alloc (.cells #[.int .i64 0, .int .i64 0, .string { data := #[] }] 24)) w.heap.size [.int .i64 0, .int .i64 0, .string { data := #[] }]) := heap_alloc_new w _
      have hs0 : w.heap.size < (w.alloc (.cells #[.int .i64 0, .int .i64 0, .string { data := #[] }] 24)).heap.size := by simp
      have HR1 := Lib.hid (hR.alloc hB (.cells #[.int .i64 0, .int .i64 0, .string { data := #[] }] 24) |>.more (show B ≤ (w.alloc (.cells #[.int .i64 0, .int .i64 0, .string { data := #[] }] 24)).heap.size by omega))
      have hx1 : (w.alloc (.cells #[.int .i64 0, .int .i64 0, .string { data := #[] }] 24)).cell? ⟨b, o, none⟩ = some (.int .u8 2) := (HB.out.cell (p := ⟨b, o, none⟩) hblt).trans hx
      have hrl : Hid (r.length = n - 1) := by show r.length = n - 1; omega
      obtain ⟨u, q, e, htv⟩ : ∃ u q e, takeV r = (u, q, e) := ⟨_, _, _, rfl⟩
      rw [htv] at hv hg T
      unfold nums.Good at hg
      dsimp only at hv hg T
      have hg0 := hg.1
      have hg1 := hg.2.1
      have hg2 := hg.2.2.1
      have hg3 := hg.2.2.2.1
      have hg4 := hg.2.2.2.2
      have hq9 : q ≤ 1099511627776 := by omega
      have Z := Lib.hid (fun w => rzag_any u w hg0 hg1)
      clear hg htv hR hcell hY hl hYr hn1
      by_cases he : e = 0
      · subst he
        have hV : Hid (v = (⟨2, zagF u, []⟩, q + 1, 0)) := by rw [← hv]; exact if_neg (by simp)
        clear hv hg4
        go_enter Tryd.func24, Tryd.ntmps24
        go_upto_region 1 with (fail)
        generalize (w.alloc (.cells #[.int .i64 0, .int .i64 0, .string { data := #[] }] 24)) = w1 at *
        go_wp2_with (with_reducible refine wpList_slice_l rfl (.tmp 29) (.const (.int .i64 1)) 22 rfl 5 Tryd.underlying22 info5 (some ⟨b, o, none⟩) n c w1.heap.size (2 :: r) rfl HR1.out .i64 _ 1 rfl rfl hnp hnc ?_)
        intro A2 c2 hR2 hc2 _
        go_wp2_with fail
        refine (T.out A2 c2 _ hR2).mono ?_
        rintro e wr ⟨rfl, rfl⟩
        have hK := k0.out
        have hBr := HB.out
        have d0 := hK.cell 0
        have d1 := hK.cell 1
        have d2 := hK.cell 2
        have df := fun i => hK.frozen i
        simp only [List.getElem?_cons_zero, List.getElem?_cons_succ] at d0 d1 d2
        go_wp2_with fail
        refine (Z.out _).mono ?_
        rintro e wr ⟨rfl, rfl⟩
        go_wp2_with fail
        have r3 := put3 hK (.int .i64 2) (.int .i64 (zagF u)) (.string { data := #[] })
        have hBf := below3 hBr (.int .i64 2) (.int .i64 (zagF u)) (.string { data := #[] })
        generalize (((w1.setCell ⟨w.heap.size, 0, none⟩ (.int .i64 2)).setCell ⟨w.heap.size, 1, none⟩ (.int .i64 (zagF u))).setCell ⟨w.heap.size, 2, none⟩ (.string { data := #[] })) = wf at *
        have r0 := r3.cell 0
        have r1 := r3.cell 1
        have r2 := r3.cell 2
        simp only [List.getElem?_cons_zero, List.getElem?_cons_succ] at r0 r1 r2
        (try simp only [Exit.inBlock, Exit.then])
        show bodyPost Tryd.prog Tryd.f24 _ Exit.ret _ wf
        refine bodyPost_ret (by simp [results, Tryd.results24, go_sem, r0, r1, r2]; try rfl) rfl ?_
        exact ⟨by rw [hV.out]; rfl, hBf⟩
      · have he' : (e == 0) = false := by simpa using he
        have hV : Hid (v = (zeroV, 0, e)) := by rw [← hv]; exact if_pos he
        clear hv hg4 Z
        go_enter Tryd.func24, Tryd.ntmps24
        go_upto_region 1 with (fail)
        generalize (w.alloc (.cells #[.int .i64 0, .int .i64 0, .string { data := #[] }] 24)) = w1 at *
        go_wp2_with (with_reducible refine wpList_slice_l rfl (.tmp 29) (.const (.int .i64 1)) 22 rfl 5 Tryd.underlying22 info5 (some ⟨b, o, none⟩) n c w1.heap.size (2 :: r) rfl HR1.out .i64 _ 1 rfl rfl hnp hnc ?_)
        intro A2 c2 hR2 hc2 _
        go_wp2_with fail
        refine (T.out A2 c2 _ hR2).mono ?_
        rintro e wr ⟨rfl, rfl⟩
        have hK := k0.out
        have hBr := HB.out
        have d0 := hK.cell 0
        have d1 := hK.cell 1
        have d2 := hK.cell 2
        have df := fun i => hK.frozen i
        simp only [List.getElem?_cons_zero, List.getElem?_cons_succ] at d0 d1 d2
        go_wp2_with fail
        have r3 := put3 hK (.int .i64 0) (.int .i64 0) (.string { data := #[] })
        have hBf := below3 hBr (.int .i64 0) (.int .i64 0) (.string { data := #[] })
        generalize (((w1.setCell ⟨w.heap.size, 0, none⟩ (.int .i64 0)).setCell ⟨w.heap.size, 1, none⟩ (.int .i64 0)).setCell ⟨w.heap.size, 2, none⟩ (.string { data := #[] })) = wf at *
        have r0 := r3.cell 0
        have r1 := r3.cell 1
        have r2 := r3.cell 2
        simp only [List.getElem?_cons_zero, List.getElem?_cons_succ] at r0 r1 r2
        (try simp only [Exit.inBlock, Exit.then])
        show bodyPost Tryd.prog Tryd.f24 _ Exit.ret _ wf
        refine bodyPost_ret (by simp [results, Tryd.results24, go_sem, r0, r1, r2]; try rfl) rfl ?_
        exact ⟨by rw [hV.out]; rfl, hBf⟩
    have h2' : (x == 2) = false := by simpa using h2
    by_cases h3 : x = 3
    · unfold tpF at hv
      dsimp only at hv
      rw [if_neg h0, if_neg h2, if_pos h3] at hv
      subst h3
      have hg := takeV_good hYr
      have T := Lib.hid (fun (A : Option Addr) (c : Nat) (wq : World) (h : Rd wq wq.heap.size A (n - 1) r) (hc : n - 1 ≤ c) => rtakeText_any A (n - 1) c r wq h hYr (by omega) hc)
      have k0 : Hid (Blk 24 (w.alloc (.cells #[.int .i64 0, .int .i64 0, .string { data := #[] }] 24)) w.heap.size [.int .i64 0, .int .i64 0, .string { data := #[] }]) := heap_alloc_new w _
      have hs0 : w.heap.size < (w.alloc (.cells #[.int .i64 0, .int .i64 0, .string { data := #[] }] 24)).heap.size := by simp
      have HR1 := Lib.hid (hR.alloc hB (.cells #[.int .i64 0, .int .i64 0, .string { data := #[] }] 24) |>.more (show B ≤ (w.alloc (.cells #[.int .i64 0, .int .i64 0, .string { data := #[] }] 24)).heap.size by omega))
      have hx1 : (w.alloc (.cells #[.int .i64 0, .int .i64 0, .string { data := #[] }] 24)).cell? ⟨b, o, none⟩ = some (.int .u8 3) := (HB.out.cell (p := ⟨b, o, none⟩) hblt).trans hx
      have hte : tErr r = 0 → 0 ≤ tEnd r ∧ tEnd r ≤ n := fun h => by
        have h1 : tEnd r = (takeV r).2.1 + (takeV r).1 := by unfold tEnd; rw [if_pos h]
        unfold nums.Good at hg
        unfold tErr at h
        split at h
        · omega
        · split at h
          · omega
          · split at h
            · omega
            · omega
      unfold RetT at T
      clear hg hR hcell hY hl hYr
      generalize tErr r = er at *
      generalize tEnd r = en at *
      generalize tTxt r = q at *
      by_cases he : er = 0
      · subst he
        obtain ⟨he0, he1⟩ := hte rfl
        rw [if_neg (by simp)] at hv
        by_cases h64 : 64 < q.length
        · have hV : Hid (v = (zeroV, 0, 3)) := by rw [← hv]; exact if_pos h64
          clear hv
          go_enter Tryd.func24, Tryd.ntmps24
          go_upto_region 1 with (fail)
          generalize (w.alloc (.cells #[.int .i64 0, .int .i64 0, .string { data := #[] }] 24)) = w1 at *
          go_wp2_with (with_reducible refine wpList_slice_l rfl (.tmp 47) (.const (.int .i64 1)) 22 rfl 5 Tryd.underlying22 info5 (some ⟨b, o, none⟩) n c w1.heap.size (3 :: r) rfl HR1.out .i64 _ 1 rfl rfl hnp hnc ?_)
          intro A2 c2 hR2 hc2 _
          go_wp2_with fail
          refine (T.out A2 c2 _ hR2 (by omega)).mono ?_
          rintro e wr ⟨A3, n3, c3, rfl, hq, hO, hB2⟩
          have hK := k0.out.below hB2 hs0
          have hBr := HB.out.trans (hB2.mono HB.out.size)
          rw [hq] at h64
          have d0 := hK.cell 0
          have d1 := hK.cell 1
          have d2 := hK.cell 2
          have df := fun i => hK.frozen i
          simp only [List.getElem?_cons_zero, List.getElem?_cons_succ] at d0 d1 d2
          go_wp2_with fail
          have r3 := put3 hK (.int .i64 0) (.int .i64 0) (.string { data := #[] })
          have hBf := below3 hBr (.int .i64 0) (.int .i64 0) (.string { data := #[] })
          generalize (((wr.setCell ⟨w.heap.size, 0, none⟩ (.int .i64 0)).setCell ⟨w.heap.size, 1, none⟩ (.int .i64 0)).setCell ⟨w.heap.size, 2, none⟩ (.string { data := #[] })) = wf at *
          have r0 := r3.cell 0
          have r1 := r3.cell 1
          have r2 := r3.cell 2
          simp only [List.getElem?_cons_zero, List.getElem?_cons_succ] at r0 r1 r2
          (try simp only [Exit.inBlock, Exit.then])
          show bodyPost Tryd.prog Tryd.f24 _ Exit.ret _ wf
          refine bodyPost_ret (by simp [results, Tryd.results24, go_sem, r0, r1, r2]; try rfl) rfl ?_
          exact ⟨by rw [hV.out]; rfl, hBf⟩
        · have hV : Hid (v = (⟨3, 0, q⟩, en + 1, 0)) := by rw [← hv]; exact if_neg h64
          clear hv
          go_enter Tryd.func24, Tryd.ntmps24
          go_upto_region 1 with (fail)
          generalize (w.alloc (.cells #[.int .i64 0, .int .i64 0, .string { data := #[] }] 24)) = w1 at *
          go_wp2_with (with_reducible refine wpList_slice_l rfl (.tmp 47) (.const (.int .i64 1)) 22 rfl 5 Tryd.underlying22 info5 (some ⟨b, o, none⟩) n c w1.heap.size (3 :: r) rfl HR1.out .i64 _ 1 rfl rfl hnp hnc ?_)
          intro A2 c2 hR2 hc2 _
          go_wp2_with fail
          refine (T.out A2 c2 _ hR2 (by omega)).mono ?_
          rintro e wr ⟨A3, n3, c3, rfl, hq, hO, hB2⟩
          have hK := k0.out.below hB2 hs0
          have hBr := HB.out.trans (hB2.mono HB.out.size)
          have hcv := text_of hO hq
          rw [hq] at h64
          have d0 := hK.cell 0
          have d1 := hK.cell 1
          have d2 := hK.cell 2
          have df := fun i => hK.frozen i
          simp only [List.getElem?_cons_zero, List.getElem?_cons_succ] at d0 d1 d2
          go_wp2_with fail
          have r3 := put3 hK (.int .i64 3) (.int .i64 0) (.string (strOfNums q))
          have hBf := below3 hBr (.int .i64 3) (.int .i64 0) (.string (strOfNums q))
          generalize (((wr.setCell ⟨w.heap.size, 0, none⟩ (.int .i64 3)).setCell ⟨w.heap.size, 1, none⟩ (.int .i64 0)).setCell ⟨w.heap.size, 2, none⟩ (.string (strOfNums q))) = wf at *
          have r0 := r3.cell 0
          have r1 := r3.cell 1
          have r2 := r3.cell 2
          simp only [List.getElem?_cons_zero, List.getElem?_cons_succ] at r0 r1 r2
          (try simp only [Exit.inBlock, Exit.then])
          show bodyPost Tryd.prog Tryd.f24 _ Exit.ret _ wf
          refine bodyPost_ret (by simp [results, Tryd.results24, go_sem, r0, r1, r2]; try rfl) rfl ?_
          exact ⟨by rw [hV.out]; rfl, hBf⟩
      · have he' : (er == 0) = false := by simpa using he
        have hV : Hid (v = (zeroV, 0, er)) := by rw [← hv]; exact if_pos he
        clear hv
        go_enter Tryd.func24, Tryd.ntmps24
        go_upto_region 1 with (fail)
        generalize (w.alloc (.cells #[.int .i64 0, .int .i64 0, .string { data := #[] }] 24)) = w1 at *
        go_wp2_with (with_reducible refine wpList_slice_l rfl (.tmp 47) (.const (.int .i64 1)) 22 rfl 5 Tryd.underlying22 info5 (some ⟨b, o, none⟩) n c w1.heap.size (3 :: r) rfl HR1.out .i64 _ 1 rfl rfl hnp hnc ?_)
        intro A2 c2 hR2 hc2 _
        go_wp2_with fail
        refine (T.out A2 c2 _ hR2 (by omega)).mono ?_
        rintro e wr ⟨A3, n3, c3, rfl, hq, hO, hB2⟩
        have hK := k0.out.below hB2 hs0
        have hBr := HB.out.trans (hB2.mono HB.out.size)
        have d0 := hK.cell 0
        have d1 := hK.cell 1
        have d2 := hK.cell 2
        have df := fun i => hK.frozen i
        simp only [List.getElem?_cons_zero, List.getElem?_cons_succ] at d0 d1 d2
        go_wp2_with fail
        have r3 := put3 hK (.int .i64 0) (.int .i64 0) (.string { data := #[] })
        have hBf := below3 hBr (.int .i64 0) (.int .i64 0) (.string { data := #[] })
        generalize (((wr.setCell ⟨w.heap.size, 0, none⟩ (.int .i64 0)).setCell ⟨w.heap.size, 1, none⟩ (.int .i64 0)).setCell ⟨w.heap.size, 2, none⟩ (.string { data := #[] })) = wf at *
        have r0 := r3.cell 0
        have r1 := r3.cell 1
        have r2 := r3.cell 2
        simp only [List.getElem?_cons_zero, List.getElem?_cons_succ] at r0 r1 r2
        (try simp only [Exit.inBlock, Exit.then])
        show bodyPost Tryd.prog Tryd.f24 _ Exit.ret _ wf
        refine bodyPost_ret (by simp [results, Tryd.results24, go_sem, r0, r1, r2]; try rfl) rfl ?_
        exact ⟨by rw [hV.out]; rfl, hBf⟩
    have h3' : (x == 3) = false := by simpa using h3
    have hV0 : v = (zeroV, 0, 9) := by
      rw [← hv]
      unfold tpF
      dsimp only
      rw [if_neg h0, if_neg h2, if_neg h3]
    have hV := Lib.hid hV0
    clear hv hR hcell hY hV0
    go_enter Tryd.func24, Tryd.ntmps24
    go_wp2_with fail
    (try simp only [Exit.inBlock, Exit.then])
    refine bodyPost_ret (by simp [results, Tryd.results24, go_sem]; try rfl) rfl ?_
    exact ⟨by rw [hV.out]; rfl, (Below.refl _ _).alloc (Nat.le_refl _) _⟩
end Go.Proofs.YtodpaeaeigjmdaaDoor.ref7
