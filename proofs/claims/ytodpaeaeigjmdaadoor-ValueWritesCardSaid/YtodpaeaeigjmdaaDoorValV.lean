/- What TakeKey and Take of the program's own package value come to. Conditions: at most 2^40 bytes. -/
import Derived.Test.YtodpaeaeigjmdaaDoorValU
namespace Go.Proofs.YtodpaeaeigjmdaaDoor.val
open Go Go.RowKit Go.Proofs.YtodpaeaeigjmdaaDoor.kit Go.Proofs.YtodpaeaeigjmdaaDoor.nums Go.Proofs.YtodpaeaeigjmdaaDoor.st Go.Proofs.YtodpaeaeigjmdaaDoor.va Go.Proofs.YtodpaeaeigjmdaaDoor.bytes Go.Proofs.YtodpaeaeigjmdaaDoor.ints Go.Proofs.YtodpaeaeigjmdaaDoor.ref7
set_option linter.unusedVariables false

theorem takeK_some (b o n c : Nat) (x : Int) (r : List Int) (w : World) (B : Nat) (hR : Rd w B (some ⟨b, o, none⟩) n (x :: r)) (hB : B ≤ w.heap.size) (hY : Byt (x :: r)) (hb : n ≤ 1099511627776) (hnc : n ≤ c) :
    Calls Tryd.prog 40 #[.slice (some ⟨b, o, none⟩) n c, .func (.func 41) #[] #[], .func (.func 42) #[] #[]] w (RetV w (tkF (x :: r))) := by
  have hl : r.length + 1 = n := hR.len
  have hx := hY x (by simp)
  have hYr : Byt r := fun z hz => hY z (List.mem_cons_of_mem _ hz)
  by_cases h0 : x = 0
  · subst h0
    exact take_null _ _ b o n c r w B hR hB hnc
  by_cases h1 : x = 1
  · subst h1
    cases r with
    | nil =>
      obtain rfl : n = 1 := by simpa using hl.symm
      exact take_bool _ _ b o 1 c 0 0 2 [] w B hR hB hnc (zeroV, 0, 2) rfl ⟨by omega, by omega⟩ (fun A c wq _ _ => takeBool_nil c A wq)
    | cons y r' =>
      have hy := hYr y (by simp)
      have e : tkF (1 :: y :: r') = if 1 < y then (zeroV, 0, 9) else (⟨1, y, []⟩, 2, 0) := rfl
      rw [e]
      refine take_bool _ _ b o n c (if 1 < y then 0 else y) (if 1 < y then 0 else 1) (if 1 < y then 9 else 0) (y :: r') w B hR hB hnc _ ?_ ?_ (fun A c wq h _ => takeBool_any (n - 1) c A y r' wq h hy (by omega))
      · by_cases h : 1 < y
        · simp only [if_pos h]; exact rfl
        · simp only [if_neg h]; exact rfl
      · by_cases h : 1 < y
        · simp only [if_pos h]; exact ⟨by omega, by omega⟩
        · simp only [if_neg h]; exact ⟨by omega, by omega⟩
  by_cases h2 : x = 2
  · subst h2
    have e : tkF (2 :: r) = if r.length < 8 then (zeroV, 0, 2) else (⟨2, beV (r.take 8) - 9223372036854775808, []⟩, 9, 0) := rfl
    rw [e]
    by_cases h8 : r.length < 8
    · rw [if_pos h8]
      exact takeK_int _ b o n c (0 - 9223372036854775808) 8 2 r w B hR hB hnc _ rfl ⟨by omega, by omega⟩ (fun A c wq h _ => takeOrder_short A (n - 1) c wq (by omega))
    · rw [if_neg h8]
      exact takeK_int _ b o n c (beV (r.take 8) - 9223372036854775808) 8 0 r w B hR hB hnc _ rfl ⟨by omega, by omega⟩ (fun A c wq h hc => takeOrder_any A (n - 1) c r wq h hYr (by omega) hc (by omega))
  by_cases h3 : x = 3
  · subst h3
    have e : tkF (3 :: r) = tkT r [] 1 := rfl
    rw [e]
    have hle := tkT_le r [] 0 (by omega)
    refine takeK_text _ b o n c (tkT r [] 0).1.s (tkT r [] 0).2.1 (tkT r [] 0).2.2 r w B hR hB hnc _ ?_ ⟨hle.1, by omega⟩ (fun A c wq h _ => takeEscaped_any A (n - 1) c r wq h hYr (by omega))
    rcases tkT_out r [] 0 with ⟨q, m, h⟩ | ⟨er, he, h⟩
    · have g0 := h 0
      have g1 := h 1
      simp only [Int.add_zero, Int.zero_add] at g0 g1
      rw [g0, g1]
      simp [Hid, Int.add_comm]
    · rw [h 0, h 1]
      simp [Hid, he]
  · have e : tkF (x :: r) = (zeroV, 0, 9) := by unfold tkF; dsimp only; rw [if_neg h0, if_neg h1, if_neg h2, if_neg h3]
    rw [e]
    exact take_other _ _ b o n c x r w B hR hB hnc (by omega) hx.2
theorem takeK_all (A : Option Addr) (n c : Nat) (l : List Int) (w : World) (B : Nat) (hR : Rd w B A n l) (hB : B ≤ w.heap.size) (hY : Byt l) (hb : n ≤ 1099511627776) (hnc : n ≤ c) :
    Calls Tryd.prog 40 #[.slice A n c, .func (.func 41) #[] #[], .func (.func 42) #[] #[]] w (RetV w (tkF l)) := by
  cases l with
  | nil =>
    obtain rfl : 0 = n := hR.len
    exact take_nil _ _ A c w
  | cons x r =>
    have hl : r.length + 1 = n := hR.len
    obtain ⟨b, o, rfl, _⟩ := hR.2 (by omega)
    exact takeK_some b o n c x r w B hR hB hY hb hnc
set_option maxRecDepth 10000 in
theorem takeKey_any (A : Option Addr) (n c : Nat) (l : List Int) (w : World) (B : Nat) (hR : Rd w B A n l) (hB : B ≤ w.heap.size) (hY : Byt l) (hb : n ≤ 1099511627776) (hnc : n ≤ c) :
    Calls Tryd.prog 21 #[.slice A n c] w (RetV w (tkF l)) := by
  have HB : Hid (Below w.heap.size w (w.alloc (.cells #[.int .i64 0, .int .i64 0, .string { data := #[] }] 24))) := (Below.refl _ _).alloc (Nat.le_refl _) _
  have k0 : Blk 24 (w.alloc (.cells #[.int .i64 0, .int .i64 0, .string { data := #[] }] 24)) w.heap.size [.int .i64 0, .int .i64 0, .string { data := #[] }] := heap_alloc_new w _
  have T := Lib.hid (takeK_all A n c l _ w.heap.size ((hR.more hB).below HB.out) HB.out.size hY hb hnc)
  clear hR hY
  generalize tkF l = v at *
  go_enter Tryd.func21, Tryd.ntmps21
  go_upto_region 1 with (fail)
  generalize (w.alloc (.cells #[.int .i64 0, .int .i64 0, .string { data := #[] }] 24)) = w1 at *
  go_wp2_with fail
  refine T.out.mono ?_
  have k0l := k0.lt
  rintro e wr ⟨rfl, hB2⟩
  have hK := k0.below hB2 k0l
  have hBr := HB.out.trans (hB2.mono HB.out.size)
  obtain ⟨⟨vk, vn, vs⟩, vl, ve⟩ := v
  unfold vaV
  dsimp only
  have d0 := hK.cell 0
  have d1 := hK.cell 1
  have d2 := hK.cell 2
  have df := fun i => hK.frozen i
  simp only [List.getElem?_cons_zero, List.getElem?_cons_succ] at d0 d1 d2
  go_wp2_with fail
  have r3 := put3 hK (.int .i64 vk) (.int .i64 vn) (.string (strOfNums vs))
  have hBf := below3 hBr (.int .i64 vk) (.int .i64 vn) (.string (strOfNums vs))
  generalize (((wr.setCell ⟨w.heap.size, 0, none⟩ (.int .i64 vk)).setCell ⟨w.heap.size, 1, none⟩ (.int .i64 vn)).setCell ⟨w.heap.size, 2, none⟩ (.string (strOfNums vs))) = wf at *
  have r0 := r3.cell 0
  have r1 := r3.cell 1
  have r2 := r3.cell 2
  simp only [List.getElem?_cons_zero, List.getElem?_cons_succ] at r0 r1 r2
  (try simp only [Exit.inBlock, Exit.then])
  show bodyPost Tryd.prog Tryd.f21 _ Exit.ret _ wf
  refine bodyPost_ret (by simp [results, Tryd.results21, go_sem, r0, r1, r2]; try rfl) rfl ?_
  exact ⟨rfl, hBf⟩

theorem takeP_some (b o n c : Nat) (x : Int) (r : List Int) (w : World) (B : Nat) (hR : Rd w B (some ⟨b, o, none⟩) n (x :: r)) (hB : B ≤ w.heap.size) (hY : Byt (x :: r)) (hb : n ≤ 1099511627776) (hnc : n ≤ c) :
    Calls Tryd.prog 40 #[.slice (some ⟨b, o, none⟩) n c, .func (.func 46) #[] #[], .func (.func 47) #[] #[]] w (RetV w (tpF (x :: r))) := by
  have hl : r.length + 1 = n := hR.len
  have hx := hY x (by simp)
  have hYr : Byt r := fun z hz => hY z (List.mem_cons_of_mem _ hz)
  by_cases h0 : x = 0
  · subst h0
    exact take_null _ _ b o n c r w B hR hB hnc
  by_cases h1 : x = 1
  · subst h1
    cases r with
    | nil =>
      obtain rfl : n = 1 := by simpa using hl.symm
      exact take_bool _ _ b o 1 c 0 0 2 [] w B hR hB hnc (zeroV, 0, 2) rfl ⟨by omega, by omega⟩ (fun A c wq _ _ => takeBool_nil c A wq)
    | cons y r' =>
      have hy := hYr y (by simp)
      have e : tpF (1 :: y :: r') = if 1 < y then (zeroV, 0, 9) else (⟨1, y, []⟩, 2, 0) := rfl
      rw [e]
      refine take_bool _ _ b o n c (if 1 < y then 0 else y) (if 1 < y then 0 else 1) (if 1 < y then 9 else 0) (y :: r') w B hR hB hnc _ ?_ ?_ (fun A c wq h _ => takeBool_any (n - 1) c A y r' wq h hy (by omega))
      · by_cases h : 1 < y
        · simp only [if_pos h]; exact rfl
        · simp only [if_neg h]; exact rfl
      · by_cases h : 1 < y
        · simp only [if_pos h]; exact ⟨by omega, by omega⟩
        · simp only [if_neg h]; exact ⟨by omega, by omega⟩
  by_cases h2 : x = 2
  · subst h2
    have e : tpF (2 :: r) = if (takeV r).2.2 ≠ 0 then (zeroV, 0, (takeV r).2.2) else (⟨2, zagF (takeV r).1, []⟩, (takeV r).2.1 + 1, 0) := rfl
    rw [e]
    have hg := takeV_good hYr
    unfold nums.Good at hg
    refine takeP_int _ b o n c (zagF (takeV r).1) (takeV r).2.1 (takeV r).2.2 r w B hR hB hnc _ ?_ ⟨hg.2.2.1, by omega⟩ (fun A c wq h _ => takeZig_any A (n - 1) c r wq h hYr (by omega))
    by_cases he : (takeV r).2.2 = 0
    · rw [if_neg (by simpa using he), if_pos he, show (takeV r).2.1 + 1 = 1 + (takeV r).2.1 by omega]; exact rfl
    · rw [if_pos he, if_neg he]; exact rfl
  by_cases h3 : x = 3
  · subst h3
    have e : tpF (3 :: r) = if tErr r ≠ 0 then (zeroV, 0, tErr r) else if 64 < (tTxt r).length then (zeroV, 0, 3) else (⟨3, 0, tTxt r⟩, tEnd r + 1, 0) := rfl
    rw [e]
    have hg := takeV_good hYr
    unfold nums.Good at hg
    have hte : 0 ≤ tEnd r ∧ tEnd r ≤ n := by
      unfold tEnd
      by_cases h : tErr r = 0
      · rw [if_pos h]
        have h2 : ¬ (r.length : Int) < (takeV r).2.1 + (takeV r).1 := fun hlt => by
          unfold tErr at h
          by_cases ha : (takeV r).2.2 ≠ 0
          · rw [if_pos ha] at h; exact ha h
          · rw [if_neg ha] at h
            by_cases hb' : 1048576 < (takeV r).1
            · rw [if_pos hb'] at h; exact absurd h (by decide)
            · rw [if_neg hb', if_pos hlt] at h; exact absurd h (by decide)
        omega
      · rw [if_neg h]; omega
    refine takeP_text _ b o n c (tTxt r) (tEnd r) (if tErr r ≠ 0 then tErr r else if 64 < (tTxt r).length then 3 else 0) r w B hR hB hnc _ ?_ ⟨hte.1, by omega⟩ (fun A c wq h hc => takeCounted_any A (n - 1) c r wq h hYr (by omega) hc)
    by_cases he : tErr r = 0
    · by_cases h64 : 64 < (tTxt r).length
      · simp [he, h64, Hid]
      · simp [he, h64, Hid, Int.add_comm]
    · simp [he, Hid]
  · have e : tpF (x :: r) = (zeroV, 0, 9) := by unfold tpF; dsimp only; rw [if_neg (by omega), if_neg h2, if_neg h3]
    rw [e]
    exact take_other _ _ b o n c x r w B hR hB hnc (by omega) hx.2
theorem takeP_all (A : Option Addr) (n c : Nat) (l : List Int) (w : World) (B : Nat) (hR : Rd w B A n l) (hB : B ≤ w.heap.size) (hY : Byt l) (hb : n ≤ 1099511627776) (hnc : n ≤ c) :
    Calls Tryd.prog 40 #[.slice A n c, .func (.func 46) #[] #[], .func (.func 47) #[] #[]] w (RetV w (tpF l)) := by
  cases l with
  | nil =>
    obtain rfl : 0 = n := hR.len
    exact take_nil _ _ A c w
  | cons x r =>
    have hl : r.length + 1 = n := hR.len
    obtain ⟨b, o, rfl, _⟩ := hR.2 (by omega)
    exact takeP_some b o n c x r w B hR hB hY hb hnc
set_option maxRecDepth 10000 in
theorem take_any (A : Option Addr) (n c : Nat) (l : List Int) (w : World) (B : Nat) (hR : Rd w B A n l) (hB : B ≤ w.heap.size) (hY : Byt l) (hb : n ≤ 1099511627776) (hnc : n ≤ c) :
    Calls Tryd.prog 23 #[.slice A n c] w (RetV w (tpF l)) := by
  have HB : Hid (Below w.heap.size w (w.alloc (.cells #[.int .i64 0, .int .i64 0, .string { data := #[] }] 24))) := (Below.refl _ _).alloc (Nat.le_refl _) _
  have k0 : Blk 24 (w.alloc (.cells #[.int .i64 0, .int .i64 0, .string { data := #[] }] 24)) w.heap.size [.int .i64 0, .int .i64 0, .string { data := #[] }] := heap_alloc_new w _
  have T := Lib.hid (takeP_all A n c l _ w.heap.size ((hR.more hB).below HB.out) HB.out.size hY hb hnc)
  clear hR hY
  generalize tpF l = v at *
  go_enter Tryd.func23, Tryd.ntmps23
  go_upto_region 1 with (fail)
  generalize (w.alloc (.cells #[.int .i64 0, .int .i64 0, .string { data := #[] }] 24)) = w1 at *
  go_wp2_with fail
  refine T.out.mono ?_
  have k0l := k0.lt
  rintro e wr ⟨rfl, hB2⟩
  have hK := k0.below hB2 k0l
  have hBr := HB.out.trans (hB2.mono HB.out.size)
  obtain ⟨⟨vk, vn, vs⟩, vl, ve⟩ := v
  unfold vaV
  dsimp only
  have d0 := hK.cell 0
  have d1 := hK.cell 1
  have d2 := hK.cell 2
  have df := fun i => hK.frozen i
  simp only [List.getElem?_cons_zero, List.getElem?_cons_succ] at d0 d1 d2
  go_wp2_with fail
  have r3 := put3 hK (.int .i64 vk) (.int .i64 vn) (.string (strOfNums vs))
  have hBf := below3 hBr (.int .i64 vk) (.int .i64 vn) (.string (strOfNums vs))
  generalize (((wr.setCell ⟨w.heap.size, 0, none⟩ (.int .i64 vk)).setCell ⟨w.heap.size, 1, none⟩ (.int .i64 vn)).setCell ⟨w.heap.size, 2, none⟩ (.string (strOfNums vs))) = wf at *
  have r0 := r3.cell 0
  have r1 := r3.cell 1
  have r2 := r3.cell 2
  simp only [List.getElem?_cons_zero, List.getElem?_cons_succ] at r0 r1 r2
  (try simp only [Exit.inBlock, Exit.then])
  show bodyPost Tryd.prog Tryd.f23 _ Exit.ret _ wf
  refine bodyPost_ret (by simp [results, Tryd.results23, go_sem, r0, r1, r2]; try rfl) rfl ?_
  exact ⟨rfl, hBf⟩
end Go.Proofs.YtodpaeaeigjmdaaDoor.val
