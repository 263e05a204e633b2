/- What the document's stamps (antipoderef6) come to: Less, Max, LessTry, Tie, Limit, Read. Conditions: numbers in range. -/
import Derived.Test.YtpalhpkbdkodfaaProg
import Derived.Test.YtpalhpkbdkodfaaKit
import Derived.Test.YtpalhpkbdkodfaaSt
import Derived.Outline
import Derived.Handy
import Derived.BigQuiet
import Derived.Deep.Cut
namespace Go.Proofs.Ytpalhpkbdkodfaa.ref6
open Go.RowKit Go.Proofs.Ytpalhpkbdkodfaa.kit Go.Proofs.Ytpalhpkbdkodfaa.nums Go.Proofs.Ytpalhpkbdkodfaa.st
set_option linter.unusedVariables false

def stV (a : StL) : Value := .agg #[.int .i64 a.wall, .int .i64 a.tie]
def trV (a : TrL) : Value := .agg #[.int .i64 a.node, .int .i64 a.life, .int .i64 a.seq, .int .i64 a.att]
theorem less_any (a b : StL) (w : World) :
    Calls Try.prog 12 #[stV a, stV b] w fun e w' => e = .returned (.bool (lessF a b)) ∧ Below w.heap.size w w' := by
  obtain ⟨p, q⟩ := a
  obtain ⟨r, s⟩ := b
  have HB : Hid (Below w.heap.size w ((w.alloc (.cells #[.int .i64 p, .int .i64 q] 23)).alloc (.cells #[.int .i64 r, .int .i64 s] 23))) := ((Below.refl _ _).alloc (Nat.le_refl _) _).alloc (by simp) _
  unfold stV lessF
  dsimp only
  by_cases h1 : p < r
  · go_enter Try.func12, Try.ntmps12
    go_wp2_with fail
    go_ret
    exact ⟨by simp [h1], HB.out⟩
  · by_cases h2 : p = r
    · subst h2
      go_enter Try.func12, Try.ntmps12
      go_wp2_with fail
      go_ret
      exact ⟨by simp, HB.out⟩
    · have h2' : (p == r) = false := by simpa using h2
      go_enter Try.func12, Try.ntmps12
      go_wp2_with fail
      go_ret
      exact ⟨by simp [h1], HB.out⟩
theorem max_any (a b : StL) (w : World) :
    Calls Try.prog 14 #[stV a, stV b] w fun e w' => e = .returned (stV (maxF a b)) ∧ Below w.heap.size w w' := by
  have C := Lib.hid (fun w => less_any a b w)
  have HM := Lib.hid (show maxF a b = if lessF a b then b else a from rfl)
  obtain ⟨p, q⟩ := a
  obtain ⟨r, s⟩ := b
  unfold stV at *
  go_enter Try.func14, Try.ntmps14
  have k0 : Blk 23 (((w.alloc (.cells #[.int .i64 p, .int .i64 q] 23)).alloc (.cells #[.int .i64 r, .int .i64 s] 23)).alloc (.cells #[.int .i64 0, .int .i64 0] 23)) w.heap.size [.int .i64 p, .int .i64 q] := Blk.alloc (Blk.alloc (heap_alloc_new w _) _) _
  have k1 : Blk 23 (((w.alloc (.cells #[.int .i64 p, .int .i64 q] 23)).alloc (.cells #[.int .i64 r, .int .i64 s] 23)).alloc (.cells #[.int .i64 0, .int .i64 0] 23)) (w.heap.size + 1) [.int .i64 r, .int .i64 s] := by
    have := Blk.alloc (E := 23) (cs := [.int .i64 r, .int .i64 s]) (heap_alloc_new (w.alloc (.cells #[.int .i64 p, .int .i64 q] 23)) _) (.cells #[.int .i64 0, .int .i64 0] 23)
    simpa using this
  have k2 : Blk 23 (((w.alloc (.cells #[.int .i64 p, .int .i64 q] 23)).alloc (.cells #[.int .i64 r, .int .i64 s] 23)).alloc (.cells #[.int .i64 0, .int .i64 0] 23)) (w.heap.size + 2) [.int .i64 0, .int .i64 0] := by
    have := heap_alloc_new ((w.alloc (.cells #[.int .i64 p, .int .i64 q] 23)).alloc (.cells #[.int .i64 r, .int .i64 s] 23)) (.cells #[.int .i64 0, .int .i64 0] 23)
    simpa [Blk] using this
  have hB3 : Below w.heap.size w (((w.alloc (.cells #[.int .i64 p, .int .i64 q] 23)).alloc (.cells #[.int .i64 r, .int .i64 s] 23)).alloc (.cells #[.int .i64 0, .int .i64 0] 23)) := (((Below.refl _ _).alloc (Nat.le_refl _) _).alloc (by simp) _).alloc (by simp; omega) _
  have h0 := k0.lt
  have h1 := k1.lt
  have h2 := k2.lt
  go_wp2_with fail
  refine (C.out _).mono ?_
  clear C
  generalize (((w.alloc (.cells #[.int .i64 p, .int .i64 q] 23)).alloc (.cells #[.int .i64 r, .int .i64 s] 23)).alloc (.cells #[.int .i64 0, .int .i64 0] 23)) = w3 at *
  rintro e w4 ⟨rfl, hB4⟩
  have j0 := k0.below hB4 h0
  have j1 := k1.below hB4 h1
  have j2 := k2.below hB4 h2
  have a0 := j0.cell 0
  have a1 := j0.cell 1
  have b0 := j1.cell 0
  have b1 := j1.cell 1
  have d0 := j2.cell 0
  have d1 := j2.cell 1
  have df := fun i => j2.frozen i
  simp only [List.getElem?_cons_zero, List.getElem?_cons_succ] at a0 a1 b0 b1 d0 d1
  have hBw := hB3.trans (hB4.mono hB3.size)
  have hgs := hBw.size
  rcases hl : lessF ⟨p, q⟩ ⟨r, s⟩ with _ | _
  · rw [hl] at HM
    clear hl
    go_wp2_with fail
    have s2 : Blk 23 ((w4.setCell ⟨w.heap.size + 2, 0, none⟩ (.int .i64 p)).setCell ⟨w.heap.size + 2, 1, none⟩ (.int .i64 q)) (w.heap.size + 2) [.int .i64 p, .int .i64 q] := (j2.set_ 0 _).set_ 1 _
    have hBf : Below w.heap.size w ((w4.setCell ⟨w.heap.size + 2, 0, none⟩ (.int .i64 p)).setCell ⟨w.heap.size + 2, 1, none⟩ (.int .i64 q)) := (hBw.setCell (show w.heap.size ≤ w.heap.size + 2 by omega) _).setCell (show w.heap.size ≤ w.heap.size + 2 by omega) _
    rw [show w.heap.size + 1 + 1 = w.heap.size + 2 by omega]
    generalize ((w4.setCell ⟨w.heap.size + 2, 0, none⟩ (.int .i64 p)).setCell ⟨w.heap.size + 2, 1, none⟩ (.int .i64 q)) = wf at *
    have r0 := s2.cell 0
    have r1 := s2.cell 1
    simp only [List.getElem?_cons_zero, List.getElem?_cons_succ] at r0 r1
    (try simp only [Exit.inBlock, Exit.then])
    refine bodyPost_ret (by simp [results, Try.results14, go_sem, r0, r1]; try rfl) rfl ?_
    exact ⟨by rw [HM.out]; rfl, hBf⟩
  · rw [hl] at HM
    clear hl
    go_wp2_with fail
    have s2 : Blk 23 ((w4.setCell ⟨w.heap.size + 2, 0, none⟩ (.int .i64 r)).setCell ⟨w.heap.size + 2, 1, none⟩ (.int .i64 s)) (w.heap.size + 2) [.int .i64 r, .int .i64 s] := (j2.set_ 0 _).set_ 1 _
    have hBf : Below w.heap.size w ((w4.setCell ⟨w.heap.size + 2, 0, none⟩ (.int .i64 r)).setCell ⟨w.heap.size + 2, 1, none⟩ (.int .i64 s)) := (hBw.setCell (show w.heap.size ≤ w.heap.size + 2 by omega) _).setCell (show w.heap.size ≤ w.heap.size + 2 by omega) _
    rw [show w.heap.size + 1 + 1 = w.heap.size + 2 by omega]
    generalize ((w4.setCell ⟨w.heap.size + 2, 0, none⟩ (.int .i64 r)).setCell ⟨w.heap.size + 2, 1, none⟩ (.int .i64 s)) = wf at *
    have r0 := s2.cell 0
    have r1 := s2.cell 1
    simp only [List.getElem?_cons_zero, List.getElem?_cons_succ] at r0 r1
    (try simp only [Exit.inBlock, Exit.then])
    refine bodyPost_ret (by simp [results, Try.results14, go_sem, r0, r1]; try rfl) rfl ?_
    exact ⟨by rw [HM.out]; rfl, hBf⟩
end Go.Proofs.Ytpalhpkbdkodfaa.ref6
