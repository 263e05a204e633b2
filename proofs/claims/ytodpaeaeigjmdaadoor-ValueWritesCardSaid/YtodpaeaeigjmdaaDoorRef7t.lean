/- What the document's takeText (antipoderef7) comes to. Conditions: at most 2^40 bytes. -/
import Derived.Test.YtodpaeaeigjmdaaDoorRef7k
namespace Go.Proofs.YtodpaeaeigjmdaaDoor.ref7
open Go Go.RowKit Go.Proofs.YtodpaeaeigjmdaaDoor.kit Go.Proofs.YtodpaeaeigjmdaaDoor.nums Go.Proofs.YtodpaeaeigjmdaaDoor.st Go.Proofs.YtodpaeaeigjmdaaDoor.va Go.Proofs.YtodpaeaeigjmdaaDoor.bytes Go.Proofs.YtodpaeaeigjmdaaDoor.ints
set_option linter.unusedVariables false

theorem put3 {E : TypeId} {w : World} {g : Nat} {x y z : Value} (hK : Blk E w g [x, y, z]) (a b c : Value) :
    Blk E (((w.setCell ⟨g, 0, none⟩ a).setCell ⟨g, 1, none⟩ b).setCell ⟨g, 2, none⟩ c) g [a, b, c] := ((hK.set_ 0 a).set_ 1 b).set_ 2 c
theorem below3 {w0 w : World} {g : Nat} (h : Below g w0 w) (a b c : Value) : Below g w0 (((w.setCell ⟨g, 0, none⟩ a).setCell ⟨g, 1, none⟩ b).setCell ⟨g, 2, none⟩ c) :=
  ((h.setCell (p := ⟨g, 0, none⟩) (Nat.le_refl _) a).setCell (p := ⟨g, 1, none⟩) (Nat.le_refl _) b).setCell (p := ⟨g, 2, none⟩) (Nat.le_refl _) c
theorem text_of {l : List Int} {A : Option Addr} {n c base : Nat} {w : World} (hO : Own 5 w base (.slice A n c) l) (hn : l.length = n) :
    (convert 22 9 (.slice A n c)).run Tryd.prog w = .ok (.string (strOfNums l)) w :=
  run_string_rd w 22 5 9 Tryd.underlying22 Tryd.underlying5 Tryd.underlying9 w.heap.size A n c l (own_rd hO hn).1
theorem drop_at (l : List Int) (j : Nat) (hj : j < l.length) : l.drop j = l.getD j 0 :: l.drop (j + 1) := by
  rw [List.drop_eq_getElem_cons hj]
  simp [List.getD, hj]
/-- What a call ends in that hands back a value, a length, an error. -/
def RetV (W : World) (r : VaL × Int × Int) (e : Ending) (w' : World) : Prop := e = .returned (.tuple #[vaV r.1, .int .i64 r.2.1, .int .i64 r.2.2]) ∧ Below W.heap.size W w'
theorem tkT_short (x : Int) (s : List Int) (i : Int) (h : x = 0) : tkT [x] s i = (zeroV, 0, 2) := by subst h; simp [tkT]
theorem tkT_end (y : Int) (r s : List Int) (i : Int) (h : y = 1) : tkT (0 :: y :: r) s i = (⟨3, 0, s⟩, i + 2, 0) := by subst h; simp [tkT]
theorem tkT_form (y : Int) (r s : List Int) (i : Int) (h : ¬ y = 1) (h2 : ¬ y = 255) : tkT (0 :: y :: r) s i = (zeroV, 0, 9) := by simp [tkT, h, h2]
theorem tkT_full0 (r s : List Int) (i : Int) (h : s.length = 64) : tkT (0 :: 255 :: r) s i = (zeroV, 0, 3) := by simp [tkT, h]
theorem tkT_more0 (r s : List Int) (i : Int) (h : ¬ s.length = 64) : tkT (0 :: 255 :: r) s i = tkT r (s ++ [0]) (i + 2) := by simp [tkT, h]
theorem tkT_full (x : Int) (r s : List Int) (i : Int) (h0 : ¬ x = 0) (h : s.length = 64) : tkT (x :: r) s i = (zeroV, 0, 3) := by unfold tkT; rw [if_neg h0, if_pos h]
theorem tkT_more (x : Int) (r s : List Int) (i : Int) (h0 : ¬ x = 0) (h : ¬ s.length = 64) : tkT (x :: r) s i = tkT r (s ++ [x]) (i + 1) := by rw [tkT.eq_def]; simp only [if_neg h0, if_neg h]

set_option maxHeartbeats 2000000 in
theorem takeText_any (A : Option Addr) (n c : Nat) (l : List Int) (w : World) (B : Nat) (hR : Rd w B A n l) (hB : B ≤ w.heap.size) (hY : Byt l) (hb : n ≤ 1099511627776) (hn1 : 1 ≤ n) :
    Calls Tryd.prog 45 #[.slice A n c] w (RetV w (tkT (l.drop 1) [] 1)) := by
  obtain ⟨b, o, rfl, hbB, hcell⟩ := hR.2 (by omega)
  have hL := Lib.hid hR.len
  have HC : Hid (∀ wq, Below w.heap.size w wq → ∀ j, j < n → wq.cell? ⟨b, o + j, none⟩ = some (.int .u8 (l.getD j 0))) := fun wq hq j hj => (hq.cell (p := ⟨b, o + j, none⟩) (show b < w.heap.size by omega)).trans (hcell j hj)
  have HD := Lib.hid (drop_at l)
  clear hcell hR
  have k0 : Hid (Blk 24 (w.alloc (.cells #[.int .i64 0, .int .i64 0, .string { data := #[] }] 24)) w.heap.size [.int .i64 0, .int .i64 0, .string { data := #[] }]) := heap_alloc_new w _
  have hB0 : Below w.heap.size w (w.alloc (.cells #[.int .i64 0, .int .i64 0, .string { data := #[] }] 24)) := (Below.refl _ _).alloc (Nat.le_refl _) _
  have hs0 : Hid ((w.alloc (.cells #[.int .i64 0, .int .i64 0, .string { data := #[] }] 24)).heap.size = w.heap.size + 1) := by simp [Hid]
  obtain ⟨r, hr⟩ : ∃ r, tkT (l.drop 1) [] 1 = r := ⟨_, rfl⟩
  rw [hr]
  go_enter Tryd.func45, Tryd.ntmps45
  go_wp2_with fail
  generalize (w.alloc (.cells #[.int .i64 0, .int .i64 0, .string { data := #[] }] 24)) = w1 at *
  go_loopw [5, 6] (fun sv iv wr => ∃ (j k : Nat) (A' : Option Addr) (c' : Nat) (q : List Int), 1 ≤ j ∧ j ≤ n ∧ iv = .int .i64 j ∧ sv = .slice A' k c' ∧ Hid (q.length = k) ∧ k ≤ 64 ∧ Own 5 wr (w.heap.size + 1) (.slice A' k c') q ∧ Below w.heap.size w wr ∧ w.heap.size < wr.heap.size ∧ Blk 24 wr w.heap.size [.int .i64 0, .int .i64 0, .string { data := #[] }] ∧ Hid (r = tkT (l.drop j) q j)) (fun _ iv _ => n - (intOf iv).toNat)
  case atStart => exact ⟨1, 0, none, 0, [], Nat.le_refl _, hn1, rfl, rfl, rfl, by omega, Own.nil _ _ _, hB0, by have := hs0.out; omega, k0.out, hr.symm⟩
  case round =>
    obtain ⟨j, k, A', c', q, hj1, hj, rfl, rfl, hq, hk, hO, hBr, hlt, hK, hT⟩ := hrel
    have d0 := hK.cell 0
    have d1 := hK.cell 1
    have d2 := hK.cell 2
    have df := fun i => hK.frozen i
    simp only [List.getElem?_cons_zero, List.getElem?_cons_succ] at d0 d1 d2
    by_cases hjn : j < n
    · have hx := HC.out wr hBr j hjn
      have hD := HD.out j (by rw [hL.out]; exact hjn)
      rw [hD] at hT
      have hx0 := hY.at_ j
      by_cases h0 : l.getD j 0 = 0
      · have HX := Lib.hid (fun wq h => HC.out wq h j hjn)
        rw [h0] at hx hx0 hT HX
        clear h0 hD
        by_cases hj2 : j + 1 = n
        · have hV : Hid (r = (zeroV, 0, 2)) := by
            rw [hT.out, List.drop_of_length_le (by rw [hL.out]; omega)]
            exact tkT_short 0 q j rfl
          have hje : ((j : Int) + 1 == n) = true := by simp; omega
          go_wp2_with fail
          have r3 := put3 hK (.int .i64 0) (.int .i64 0) (.string { data := #[] })
          have hBf := below3 hBr (.int .i64 0) (.int .i64 0) (.string { data := #[] })
          generalize (((wr.setCell ⟨w.heap.size, 0, none⟩ (.int .i64 0)).setCell ⟨w.heap.size, 1, none⟩ (.int .i64 0)).setCell ⟨w.heap.size, 2, none⟩ (.string { data := #[] })) = wf at *
          have r0 := r3.cell 0
          have r1 := r3.cell 1
          have r2 := r3.cell 2
          simp only [List.getElem?_cons_zero, List.getElem?_cons_succ] at r0 r1 r2
          (try simp only [Exit.inBlock, Exit.then])
          show bodyPost Tryd.prog Tryd.f45 _ Exit.ret _ wf
          refine bodyPost_ret (by simp [results, Tryd.results45, go_sem, r0, r1, r2]; try rfl) rfl ?_
          exact ⟨by rw [hV.out]; rfl, hBf⟩
        · have hje : ((j : Int) + 1 == n) = false := by simp; omega
          have hy := HC.out wr hBr (j + 1) (by omega)
          have hD := HD.out (j + 1) (by rw [hL.out]; omega)
          rw [hD] at hT
          have hy0 := hY.at_ (j + 1)
          generalize l.getD (j + 1) 0 = y at *
          by_cases hy1 : y = 1
          · have hV : Hid (r = (⟨3, 0, q⟩, (j : Int) + 2, 0)) := hT.out.trans (tkT_end y _ q j hy1)
            have hcv := text_of hO hq.out
            subst hy1
            clear hD hT
            go_wp2_with fail
            have r3 := put3 hK (.int .i64 3) (.int .i64 0) (.string (strOfNums q))
            have hBf := below3 hBr (.int .i64 3) (.int .i64 0) (.string (strOfNums q))
            generalize (((wr.setCell ⟨w.heap.size, 0, none⟩ (.int .i64 3)).setCell ⟨w.heap.size, 1, none⟩ (.int .i64 0)).setCell ⟨w.heap.size, 2, none⟩ (.string (strOfNums q))) = wf at *
            have r0 := r3.cell 0
            have r1 := r3.cell 1
            have r2 := r3.cell 2
            simp only [List.getElem?_cons_zero, List.getElem?_cons_succ] at r0 r1 r2
            (try simp only [Exit.inBlock, Exit.then])
            show bodyPost Tryd.prog Tryd.f45 _ Exit.ret _ wf
            refine bodyPost_ret (by simp [results, Tryd.results45, go_sem, r0, r1, r2]; try rfl) rfl ?_
            exact ⟨by rw [hV.out]; rfl, hBf⟩
          · have hy1' : (y == 1) = false := by simpa using hy1
            by_cases hy2 : y = 255
            · subst hy2
              clear hy1 hy1' hD
              by_cases hk64 : k = 64
              · subst hk64
                have hV : Hid (r = (zeroV, 0, 3)) := hT.out.trans (tkT_full0 _ q j hq.out)
                clear hT
                go_wp2_with fail
                have r3 := put3 hK (.int .i64 0) (.int .i64 0) (.string { data := #[] })
                have hBf := below3 hBr (.int .i64 0) (.int .i64 0) (.string { data := #[] })
                generalize (((wr.setCell ⟨w.heap.size, 0, none⟩ (.int .i64 0)).setCell ⟨w.heap.size, 1, none⟩ (.int .i64 0)).setCell ⟨w.heap.size, 2, none⟩ (.string { data := #[] })) = wf at *
                have r0 := r3.cell 0
                have r1 := r3.cell 1
                have r2 := r3.cell 2
                simp only [List.getElem?_cons_zero, List.getElem?_cons_succ] at r0 r1 r2
                (try simp only [Exit.inBlock, Exit.then])
                show bodyPost Tryd.prog Tryd.f45 _ Exit.ret _ wf
                refine bodyPost_ret (by simp [results, Tryd.results45, go_sem, r0, r1, r2]; try rfl) rfl ?_
                exact ⟨by rw [hV.out]; rfl, hBf⟩
              · have hkb : ((k : Int) == 64) = false := by simp; omega
                have hT2 := Lib.hid (hT.out.trans (tkT_more0 _ q j (by rw [hq.out]; exact hk64)))
                clear hT
                go_wp2_with (at_builtin; with_reducible refine wpList_append_rd rfl (.tmp 46) (.tmp 51) 22 rfl (w.heap.size + 1) 5 Tryd.underlying22 info5 A' k c' q hq.out rfl (hO.alloc _) _ _ 1 1 [_] rfl (Rd.one _ _ _) ?hb1 ?hbase1 ?_)
                case hb1 => omega
                case hbase1 => simp; omega
                intro A5 c5 w5 hO5 hB5 _
                have hB5' : Below (w.heap.size + 1) wr w5 := ((Below.refl _ _).alloc (by omega) _).trans hB5
                have hBr5 := hBr.trans (hB5'.mono (by omega))
                have hK5 := hK.below hB5' (by omega)
                have hs5 := hB5'.size
                have hx5 := HX.out w5 hBr5
                go_wp2_with fail
                go_roundw
                case rel => exact ⟨j + 2, k + 1, A5, c5, q ++ [0], by omega, by omega, by go_num, rfl, by rw [List.length_append, hq.out]; exact Lib.hid rfl, by omega, hO5, hBr5, by omega, hK5, by have := hT2.out; simpa using Lib.hid this⟩
                case measure => simp [intOf]; omega
            · have hy2' : (y == 255) = false := by simpa using hy2
              have hV : Hid (r = (zeroV, 0, 9)) := hT.out.trans (tkT_form y _ q j hy1 hy2)
              clear hD hT
              go_wp2_with fail
              have r3 := put3 hK (.int .i64 0) (.int .i64 0) (.string { data := #[] })
              have hBf := below3 hBr (.int .i64 0) (.int .i64 0) (.string { data := #[] })
              generalize (((wr.setCell ⟨w.heap.size, 0, none⟩ (.int .i64 0)).setCell ⟨w.heap.size, 1, none⟩ (.int .i64 0)).setCell ⟨w.heap.size, 2, none⟩ (.string { data := #[] })) = wf at *
              have r0 := r3.cell 0
              have r1 := r3.cell 1
              have r2 := r3.cell 2
              simp only [List.getElem?_cons_zero, List.getElem?_cons_succ] at r0 r1 r2
              (try simp only [Exit.inBlock, Exit.then])
              show bodyPost Tryd.prog Tryd.f45 _ Exit.ret _ wf
              refine bodyPost_ret (by simp [results, Tryd.results45, go_sem, r0, r1, r2]; try rfl) rfl ?_
              exact ⟨by rw [hV.out]; rfl, hBf⟩
      · have h0' : (l.getD j 0 == 0) = false := by simpa using h0
        have HX := Lib.hid (fun wq h => HC.out wq h j hjn)
        obtain ⟨x, hxx⟩ : ∃ x, l.getD j 0 = x := ⟨_, rfl⟩
        rw [hxx] at hx hx0 h0 h0' hT HX
        by_cases hk64 : k = 64
        · subst hk64
          have hV : Hid (r = (zeroV, 0, 3)) := hT.out.trans (tkT_full x _ q j h0 hq.out)
          clear hD hT hxx
          go_wp2_with fail
          have r3 := put3 hK (.int .i64 0) (.int .i64 0) (.string { data := #[] })
          have hBf := below3 hBr (.int .i64 0) (.int .i64 0) (.string { data := #[] })
          generalize (((wr.setCell ⟨w.heap.size, 0, none⟩ (.int .i64 0)).setCell ⟨w.heap.size, 1, none⟩ (.int .i64 0)).setCell ⟨w.heap.size, 2, none⟩ (.string { data := #[] })) = wf at *
          have r0 := r3.cell 0
          have r1 := r3.cell 1
          have r2 := r3.cell 2
          simp only [List.getElem?_cons_zero, List.getElem?_cons_succ] at r0 r1 r2
          (try simp only [Exit.inBlock, Exit.then])
          show bodyPost Tryd.prog Tryd.f45 _ Exit.ret _ wf
          refine bodyPost_ret (by simp [results, Tryd.results45, go_sem, r0, r1, r2]; try rfl) rfl ?_
          exact ⟨by rw [hV.out]; rfl, hBf⟩
        · have hkb : ((k : Int) == 64) = false := by simp; omega
          have hT2 := Lib.hid (hT.out.trans (tkT_more x _ q j h0 (by rw [hq.out]; exact hk64)))
          clear hD hT hxx
          go_wp2_with (at_builtin; with_reducible refine wpList_append_rd rfl (.tmp 46) (.tmp 51) 22 rfl (w.heap.size + 1) 5 Tryd.underlying22 info5 A' k c' q hq.out rfl (hO.alloc _) _ _ 1 1 [_] rfl (Rd.one _ _ _) ?hb2 ?hbase2 ?_)
          case hb2 => omega
          case hbase2 => simp; omega
          intro A5 c5 w5 hO5 hB5 _
          have hB5' : Below (w.heap.size + 1) wr w5 := ((Below.refl _ _).alloc (by omega) _).trans hB5
          have hBr5 := hBr.trans (hB5'.mono (by omega))
          have hK5 := hK.below hB5' (by omega)
          have hs5 := hB5'.size
          have hx5 := HX.out w5 hBr5
          go_wp2_with fail
          go_roundw
          case rel => exact ⟨j + 1, k + 1, A5, c5, q ++ [x], by omega, by omega, by go_num, rfl, by rw [List.length_append, hq.out]; exact Lib.hid rfl, by omega, hO5, hBr5, by omega, hK5, by have := hT2.out; simpa using Lib.hid this⟩
          case measure => simp [intOf]; omega
    · obtain rfl : j = n := by omega
      have hV : Hid (r = (zeroV, 0, 2)) := by
        rw [hT.out, List.drop_of_length_le (by rw [hL.out]; omega)]
        exact Lib.hid rfl
      go_wp2_with fail
      have r3 := put3 hK (.int .i64 0) (.int .i64 0) (.string { data := #[] })
      have hBf := below3 hBr (.int .i64 0) (.int .i64 0) (.string { data := #[] })
      generalize (((wr.setCell ⟨w.heap.size, 0, none⟩ (.int .i64 0)).setCell ⟨w.heap.size, 1, none⟩ (.int .i64 0)).setCell ⟨w.heap.size, 2, none⟩ (.string { data := #[] })) = wf at *
      have r0 := r3.cell 0
      have r1 := r3.cell 1
      have r2 := r3.cell 2
      simp only [List.getElem?_cons_zero, List.getElem?_cons_succ] at r0 r1 r2
      (try simp only [Exit.inBlock, Exit.then])
      show bodyPost Tryd.prog Tryd.f45 _ Exit.ret _ wf
      refine bodyPost_ret (by simp [results, Tryd.results45, go_sem, r0, r1, r2]; try rfl) rfl ?_
      exact ⟨by rw [hV.out]; rfl, hBf⟩
end Go.Proofs.YtodpaeaeigjmdaaDoor.ref7
