/- What Show of the program's own package value comes to, by strconv.FormatInt and strings.ReplaceAll. Conditions: the library's variables hold what they are laid as. -/
import Derived.Test.YtodpaeaeigjmdaaDoorValM
import Derived.Test.YtodpaeaeigjmdaaDoorLibW
import Derived.Test.YtodpaeaeigjmdaaDoorRef7s
namespace Go.Proofs.YtodpaeaeigjmdaaDoor.val
open Go Go.RowKit Go.Proofs.YtodpaeaeigjmdaaDoor.kit Go.Proofs.YtodpaeaeigjmdaaDoor.nums Go.Proofs.YtodpaeaeigjmdaaDoor.st Go.Proofs.YtodpaeaeigjmdaaDoor.va Go.Proofs.YtodpaeaeigjmdaaDoor.bytes Go.Proofs.YtodpaeaeigjmdaaDoor.ints Go.Proofs.YtodpaeaeigjmdaaDoor.ref7 Go.Proofs.YtodpaeaeigjmdaaDoor.libw
set_option linter.unusedVariables false

set_option maxRecDepth 10000 in
set_option maxHeartbeats 2000000 in
theorem show_any (a : VaL) (ha : a.ok) (hs : a.s.length ≤ 1099511627776) (w : World) (hw : LibW w) :
    Calls Tryd.prog 18 #[vaV a] w fun e w' => e = .returned (.string (strOfNums (showF a))) ∧ Below w.heap.size w w' := by
  have CM := Lib.hid (fun w => may_any a ha (by omega) w)
  obtain ⟨k, n, s⟩ := a
  obtain ⟨hk, hn, hY⟩ := ha
  dsimp only at hk hn hY hs
  have hB0 : Hid (Below w.heap.size w (w.alloc (.cells #[.int .i64 k, .int .i64 n, .string (strOfNums s)] 24))) := (Below.refl _ _).alloc (Nat.le_refl _) _
  have k0 : Hid (Blk 24 (w.alloc (.cells #[.int .i64 k, .int .i64 n, .string (strOfNums s)] 24)) w.heap.size [.int .i64 k, .int .i64 n, .string (strOfNums s)]) := heap_alloc_new w _
  have hs0 : w.heap.size < (w.alloc (.cells #[.int .i64 k, .int .i64 n, .string (strOfNums s)] 24)).heap.size := by simp
  have L1 := Lib.hid (hw.on hB0.out)
  obtain ⟨v, hv⟩ : ∃ v, showF ⟨k, n, s⟩ = v := ⟨_, rfl⟩
  rw [hv]
  unfold showF at hv
  unfold vaV at CM ⊢
  dsimp only at CM hv ⊢
  by_cases hm : mayP ⟨k, n, s⟩
  · rw [if_pos hm] at hv
    rw [show decide (mayP ⟨k, n, s⟩) = true by simp [hm]] at CM
    have hv := Lib.hid hv
    have hm := Lib.hid hm
    have F := Lib.hid (fun (wr : World) (h : Below w.heap.size w wr) => fmt_any n hn wr (hw.on h))
    have R := Lib.hid (fun (hs : s.length ≤ 64) (wr : World) (h : Below w.heap.size w wr) => repl_any s hY hs wr (hw.on h))
    clear hw L1
    go_enter Tryd.func18, Tryd.ntmps18
    go_wp2_with fail
    refine (CM.out _).mono ?_
    generalize (w.alloc (.cells #[.int .i64 k, .int .i64 n, .string (strOfNums s)] 24)) = w1 at *
    rintro e wr ⟨rfl, hB2⟩
    have hK := k0.out.below hB2 hs0
    have hBr := hB0.out.trans (hB2.mono hB0.out.size)
    have d0 := hK.cell 0
    have d1 := hK.cell 1
    have d2 := hK.cell 2
    simp only [List.getElem?_cons_zero, List.getElem?_cons_succ] at d0 d1 d2
    clear CM
    by_cases h0 : k = 0
    · have e : Hid (v = [78, 85, 76, 76]) := by rw [← hv.out, if_pos h0]; exact Lib.hid rfl
      subst h0
      go_wp2_with fail
      go_ret
      exact ⟨by rw [e.out]; rfl, hBr⟩
    have h0' : (k == 0) = false := by simpa using h0
    by_cases h1 : k = 1
    · by_cases hn1 : n = 1
      · have e : Hid (v = [84, 82, 85, 69]) := by rw [← hv.out, if_neg h0, if_pos h1, if_pos hn1]; exact Lib.hid rfl
        subst h1 hn1
        go_wp2_with fail
        go_ret
        exact ⟨by rw [e.out]; rfl, hBr⟩
      · have e : Hid (v = [70, 65, 76, 83, 69]) := by rw [← hv.out, if_neg h0, if_pos h1, if_neg hn1]; exact Lib.hid rfl
        have hn1' : (n == 1) = false := by simpa using hn1
        subst h1
        go_wp2_with fail
        go_ret
        exact ⟨by rw [e.out]; rfl, hBr⟩
    have h1' : (k == 1) = false := by simpa using h1
    by_cases h2 : k = 2
    · have e : Hid (v = digF n) := by rw [← hv.out, if_neg h0, if_neg h1, if_pos h2]; exact Lib.hid rfl
      have F1 := Lib.hid (F.out wr hBr)
      subst h2
      clear F R
      go_wp2_with fail
      refine F1.out.mono ?_
      rintro e wf ⟨rfl, hBf⟩
      go_wp2_with fail
      go_ret
      exact ⟨by rw [e.out]; rfl, hBr.trans (hBf.mono hBr.size)⟩
    have h2' : (k == 2) = false := by simpa using h2
    have h3 : k = 3 ∧ s.length ≤ 64 := by
      rcases hm.out with ⟨h, _⟩ | ⟨h, _⟩ | ⟨h, _⟩ | ⟨h, _, hl⟩
      · exact absurd h h0
      · exact absurd h h1
      · exact absurd h h2
      · exact ⟨h, hl⟩
    obtain ⟨h3, hl⟩ := h3
    have e : Hid (v = 39 :: (quo s ++ [39])) := by rw [← hv.out, if_neg h0, if_neg h1, if_neg h2]; exact Lib.hid rfl
    have R1 := Lib.hid (R.out hl wr hBr)
    have hql := quo_len s
    have hsz := strOfNums_size (quo s)
    have hadd1 := Lib.hid (fun wx => run_string_add_sum (P := Tryd.prog) wx ⟨#[39]⟩ (strOfNums (quo s)) (by rw [hsz]; show 1 + (quo s).length ≤ _; omega))
    have hadd2 := Lib.hid (fun wx => run_string_add_sum (P := Tryd.prog) wx (⟨#[39]⟩ ++ strOfNums (quo s)) ⟨#[39]⟩ (by rw [ByteArray.size_append, hsz]; show 1 + (quo s).length + 1 ≤ _; omega))
    have he2 : Hid (strOfNums v = (⟨#[39]⟩ : ByteArray) ++ strOfNums (quo s) ++ ⟨#[39]⟩) := by
      rw [e.out]
      show strOfNums ([39] ++ (quo s ++ [39])) = _
      rw [← str_append, ← str_append, ByteArray.append_assoc]
      exact Lib.hid rfl
    clear F R hv hm hql hsz e
    subst h3
    go_wp2_with fail
    refine R1.out.mono ?_
    generalize strOfNums (quo s) = Q at *
    rintro e wf ⟨rfl, hBf⟩
    have a1 := hadd1.out
    have a2 := hadd2.out
    go_wp2_with fail
    go_ret
    exact ⟨by rw [he2.out]; rfl, hBr.trans (hBf.mono hBr.size)⟩
  · rw [if_neg hm] at hv
    rw [show decide (mayP ⟨k, n, s⟩) = false by simp [hm]] at CM
    subst hv
    clear hm hw L1
    go_enter Tryd.func18, Tryd.ntmps18
    go_wp2_with fail
    refine (CM.out _).mono ?_
    generalize (w.alloc (.cells #[.int .i64 k, .int .i64 n, .string (strOfNums s)] 24)) = w1 at *
    rintro e wr ⟨rfl, hB2⟩
    have hBr := hB0.out.trans (hB2.mono hB0.out.size)
    go_wp2_with fail
    go_ret
    exact ⟨rfl, hBr⟩
end Go.Proofs.YtodpaeaeigjmdaaDoor.val
