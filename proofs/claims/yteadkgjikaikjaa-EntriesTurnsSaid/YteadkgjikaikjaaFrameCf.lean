/- How configurations, joints, and slices of configurations, that come in read, in the words of the kit (stage 10). No condition. -/
import Derived.Test.YteadkgjikaikjaaFrameV
import Derived.Test.YteadkgjikaikjaaKitCf
namespace Go.Proofs.Yteadkgjikaikjaa.frame
open Go Go.ChangeShapes Go.WideShapes Go.ChangeAt Go.RowKit Go.Proofs.Yteadkgjikaikjaa.kit Go.Proofs.Yteadkgjikaikjaa.nums Go.Proofs.Yteadkgjikaikjaa.cf
set_option linter.unusedVariables false

theorem long3 {α : Type} (l : List α) (h : l.length = 3) : ∃ a0 a1 a2, l = [a0, a1, a2] := by
  match l, h with
  | [a0, a1, a2], _ => exact ⟨a0, a1, a2, rfl⟩
theorem long5 {α : Type} (l : List α) (h : l.length = 5) : ∃ a0 a1 a2 a3 a4, l = [a0, a1, a2, a3, a4] := by
  match l, h with
  | [a0, a1, a2, a3, a4], _ => exact ⟨a0, a1, a2, a3, a4, rfl⟩
theorem long11 {α : Type} (l : List α) (h : l.length = 11) : ∃ a0 a1 a2 a3 a4 a5 a6 a7 a8 a9 a10, l = [a0, a1, a2, a3, a4, a5, a6, a7, a8, a9, a10] := by
  match l, h with
  | [a0, a1, a2, a3, a4, a5, a6, a7, a8, a9, a10], _ => exact ⟨a0, a1, a2, a3, a4, a5, a6, a7, a8, a9, a10, rfl⟩
theorem boolc_of_trod {H : Type} {enc : TypeId × Value → H} {W : World} {n : Nat} {v : Value} {y : DataW H × List MemPlace} (h : DataW.trod enc Try.prog W 0 (fun _ => true) true n 4 [v] = some y) : ∃ z, v = .bool z := by
  obtain ⟨z, h1, _⟩ := DataW.trod_bool Try.underlying4 h
  simp at h1
  exact ⟨z, h1⟩
theorem intc_of_trod {H : Type} {enc : TypeId × Value → H} {W : World} {n : Nat} {v : Value} {y : DataW H × List MemPlace} (h : DataW.trod enc Try.prog W 0 (fun _ => true) true n 3 [v] = some y) : ∃ z, v = .int .i64 z ∧ In64 z := by
  obtain ⟨z, h1, _, hw⟩ := DataW.trod_int Try.underlying3 h
  simp at h1
  exact ⟨z, h1, by unfold In64; simpa [Lit.wf, IntKind.min, IntKind.max, IntKind.signed, IntKind.bits] using hw⟩
theorem setc_of_trod {H : Type} {enc : TypeId × Value → H} {W : World} {n : Nat} {v : Value} {y : DataW H × List MemPlace} (h : DataW.trod enc Try.prog W 0 (fun _ => true) true n 23 [v] = some y) : ∃ z : Nat, v = .int .u16 (z : Int) ∧ z < 65536 := by
  obtain ⟨z, h1, _, hw⟩ := DataW.trod_int Try.underlying23 h
  simp at h1
  have hb : 0 ≤ z ∧ z ≤ 65535 := by simpa [Lit.wf, IntKind.min, IntKind.max, IntKind.signed, IntKind.bits] using hw
  exact ⟨z.toNat, by rw [h1]; congr 1; omega, by omega⟩
set_option maxRecDepth 100000 in
theorem cf_of_cells {H : Type} {enc : TypeId × Value → H} {W : World} {n : Nat} {cs : List Value} {y : DataW H × List MemPlace} (h : DataW.trod enc Try.prog W 0 (fun _ => true) true n 25 cs = some y) : ∃ c : CfL, cs = cfC c ∧ c.ok := by
  obtain ⟨xs, m, _, _, hl, hxl, hF⟩ := DataW.trod_struct Try.underlying25 h
  have hc : Try.prog.cellsOf 25 = 5 := by kernel_rfl
  rw [hc] at hl
  obtain ⟨c0, c1, c2, c3, c4, rfl⟩ := long5 cs hl
  obtain ⟨y0, y1, y2, y3, y4, rfl⟩ := long5 xs hxl
  have k0 : Try.prog.cellsOf 23 = 1 := by kernel_rfl
  have f0 : DataW.trod enc Try.prog W 0 (fun _ => true) true m 23 [c0] = some y0 := by have h := hF 0 { name := "Voters", type := 23, offset := 0, embedded := false, tag := "", pkgPath := "", byteOffset := 0 } rfl; dsimp only at h; rw [k0] at h; exact h
  have k1 : Try.prog.cellsOf 23 = 1 := by kernel_rfl
  have f1 : DataW.trod enc Try.prog W 0 (fun _ => true) true m 23 [c1] = some y1 := by have h := hF 1 { name := "Witnesses", type := 23, offset := 1, embedded := false, tag := "", pkgPath := "", byteOffset := 2 } rfl; dsimp only at h; rw [k1] at h; exact h
  have k2 : Try.prog.cellsOf 23 = 1 := by kernel_rfl
  have f2 : DataW.trod enc Try.prog W 0 (fun _ => true) true m 23 [c2] = some y2 := by have h := hF 2 { name := "Learners", type := 23, offset := 2, embedded := false, tag := "", pkgPath := "", byteOffset := 4 } rfl; dsimp only at h; rw [k2] at h; exact h
  have k3 : Try.prog.cellsOf 3 = 1 := by kernel_rfl
  have f3 : DataW.trod enc Try.prog W 0 (fun _ => true) true m 3 [c3] = some y3 := by have h := hF 3 { name := "Elect", type := 3, offset := 3, embedded := false, tag := "", pkgPath := "", byteOffset := 8 } rfl; dsimp only at h; rw [k3] at h; exact h
  have k4 : Try.prog.cellsOf 3 = 1 := by kernel_rfl
  have f4 : DataW.trod enc Try.prog W 0 (fun _ => true) true m 3 [c4] = some y4 := by have h := hF 4 { name := "Commit", type := 3, offset := 4, embedded := false, tag := "", pkgPath := "", byteOffset := 16 } rfl; dsimp only at h; rw [k4] at h; exact h
  obtain ⟨z0, rfl, b0⟩ := setc_of_trod f0
  obtain ⟨z1, rfl, b1⟩ := setc_of_trod f1
  obtain ⟨z2, rfl, b2⟩ := setc_of_trod f2
  obtain ⟨z3, rfl, b3⟩ := intc_of_trod f3
  obtain ⟨z4, rfl, b4⟩ := intc_of_trod f4
  exact ⟨⟨z0, z1, z2, z3, z4⟩, rfl, b0, b1, b2, b3, b4⟩
set_option maxRecDepth 100000 in
theorem jt_of_cells {H : Type} {enc : TypeId × Value → H} {W : World} {n : Nat} {cs : List Value} {y : DataW H × List MemPlace} (h : DataW.trod enc Try.prog W 0 (fun _ => true) true n 27 cs = some y) : ∃ j : JtL, cs = jtC j ∧ j.ok := by
  obtain ⟨xs, m, _, _, hl, hxl, hF⟩ := DataW.trod_struct Try.underlying27 h
  have hc : Try.prog.cellsOf 27 = 11 := by kernel_rfl
  rw [hc] at hl
  obtain ⟨c0, c1, c2, c3, c4, c5, c6, c7, c8, c9, c10, rfl⟩ := long11 cs hl
  obtain ⟨y0, y1, y2, rfl⟩ := long3 xs hxl
  have k0 : Try.prog.cellsOf 25 = 5 := by kernel_rfl
  have f0 : DataW.trod enc Try.prog W 0 (fun _ => true) true m 25 [c0, c1, c2, c3, c4] = some y0 := by have h := hF 0 { name := "Old", type := 25, offset := 0, embedded := false, tag := "", pkgPath := "", byteOffset := 0 } rfl; dsimp only at h; rw [k0] at h; exact h
  have k1 : Try.prog.cellsOf 25 = 5 := by kernel_rfl
  have f1 : DataW.trod enc Try.prog W 0 (fun _ => true) true m 25 [c5, c6, c7, c8, c9] = some y1 := by have h := hF 1 { name := "New", type := 25, offset := 5, embedded := false, tag := "", pkgPath := "", byteOffset := 24 } rfl; dsimp only at h; rw [k1] at h; exact h
  have k2 : Try.prog.cellsOf 4 = 1 := by kernel_rfl
  have f2 : DataW.trod enc Try.prog W 0 (fun _ => true) true m 4 [c10] = some y2 := by have h := hF 2 { name := "Two", type := 4, offset := 10, embedded := false, tag := "", pkgPath := "", byteOffset := 48 } rfl; dsimp only at h; rw [k2] at h; exact h
  obtain ⟨a, e0, o0⟩ := cf_of_cells f0
  obtain ⟨b, e1, o1⟩ := cf_of_cells f1
  obtain ⟨z2, rfl⟩ := boolc_of_trod f2
  simp only [cfC, List.cons.injEq, and_true] at e0 e1
  obtain ⟨rfl, rfl, rfl, rfl, rfl⟩ := e0
  obtain ⟨rfl, rfl, rfl, rfl, rfl⟩ := e1
  exact ⟨⟨a, b, z2⟩, rfl, o0, o1⟩
theorem cf_of_trod {H : Type} {enc : TypeId × Value → H} {W : World} {cs : Array Value} {d : DataW H} {p : List MemPlace} (h : DataW.Trod enc Try.prog W 0 (fun _ => true) true 25 (.agg cs) d p) : ∃ c : CfL, cs = (cfC c).toArray ∧ c.ok := by
  obtain ⟨fuel, hf⟩ := h
  simp only [Value.cells] at hf
  obtain ⟨c, h1, h2⟩ := cf_of_cells hf
  exact ⟨c, by apply Array.toList_inj.1; rw [h1], h2⟩
theorem jt_of_trod {H : Type} {enc : TypeId × Value → H} {W : World} {cs : Array Value} {d : DataW H} {p : List MemPlace} (h : DataW.Trod enc Try.prog W 0 (fun _ => true) true 27 (.agg cs) d p) : ∃ j : JtL, cs = (jtC j).toArray ∧ j.ok := by
  obtain ⟨fuel, hf⟩ := h
  simp only [Value.cells] at hf
  obtain ⟨c, h1, h2⟩ := jt_of_cells hf
  exact ⟨c, by apply Array.toList_inj.1; rw [h1], h2⟩
end Go.Proofs.Yteadkgjikaikjaa.frame
