/- How entries, slices of entries, and logs, that come in read, in the words of the kit (stage 12). No condition. -/
import Derived.Test.YteadkgjikaikjaaFrameCf
import Derived.Test.YteadkgjikaikjaaKitLg
namespace Go.Proofs.Yteadkgjikaikjaa.frame
open Go Go.ChangeShapes Go.WideShapes Go.ChangeAt Go.RowKit Go.Proofs.Yteadkgjikaikjaa.kit Go.Proofs.Yteadkgjikaikjaa.nums Go.Proofs.Yteadkgjikaikjaa.cf Go.Proofs.Yteadkgjikaikjaa.lg
set_option linter.unusedVariables false

theorem long4 {α : Type} (l : List α) (h : l.length = 4) : ∃ a0 a1 a2 a3, l = [a0, a1, a2, a3] := by
  match l, h with
  | [a0, a1, a2, a3], _ => exact ⟨a0, a1, a2, a3, rfl⟩
theorem long14 {α : Type} (l : List α) (h : l.length = 14) : ∃ a0 a1 a2 a3 a4 a5 a6 a7 a8 a9 a10 a11 a12 a13, l = [a0, a1, a2, a3, a4, a5, a6, a7, a8, a9, a10, a11, a12, a13] := by
  match l, h with
  | [a0, a1, a2, a3, a4, a5, a6, a7, a8, a9, a10, a11, a12, a13], _ => exact ⟨a0, a1, a2, a3, a4, a5, a6, a7, a8, a9, a10, a11, a12, a13, rfl⟩
theorem textc_of_trod {H : Type} {enc : TypeId × Value → H} {W : World} {n : Nat} {v : Value} {y : DataW H × List MemPlace} (h : DataW.trod enc Try.prog W 0 (fun _ => true) true n 9 [v] = some y) : ∃ z, v = .string z := by
  obtain ⟨T, h2, _, hsz⟩ := DataW.trod_string Try.underlying9 h
  simp at h2
  exact ⟨T, h2⟩
set_option maxRecDepth 100000 in
theorem en_of_cells {H : Type} {enc : TypeId × Value → H} {W : World} {n : Nat} {cs : List Value} {y : DataW H × List MemPlace} (h : DataW.trod enc Try.prog W 0 (fun _ => true) true n 37 cs = some y) : ∃ x : EnL, cs = enC x := by
  obtain ⟨xs, m, _, _, hl, hxl, hF⟩ := DataW.trod_struct Try.underlying37 h
  have hc : Try.prog.cellsOf 37 = 14 := by kernel_rfl
  rw [hc] at hl
  obtain ⟨c0, c1, c2, c3, c4, c5, c6, c7, c8, c9, c10, c11, c12, c13, rfl⟩ := long14 cs hl
  obtain ⟨y0, y1, y2, y3, rfl⟩ := long4 xs hxl
  have ki : Try.prog.cellsOf 3 = 1 := by kernel_rfl
  have kt : Try.prog.cellsOf 9 = 1 := by kernel_rfl
  have kj : Try.prog.cellsOf 27 = 11 := by kernel_rfl
  have f0 : DataW.trod enc Try.prog W 0 (fun _ => true) true m 3 [c0] = some y0 := by have h := hF 0 { name := "Term", type := 3, offset := 0, embedded := false, tag := "", pkgPath := "", byteOffset := 0 } rfl; dsimp only at h; rw [ki] at h; exact h
  have f1 : DataW.trod enc Try.prog W 0 (fun _ => true) true m 3 [c1] = some y1 := by have h := hF 1 { name := "Kind", type := 3, offset := 1, embedded := false, tag := "", pkgPath := "", byteOffset := 8 } rfl; dsimp only at h; rw [ki] at h; exact h
  have f2 : DataW.trod enc Try.prog W 0 (fun _ => true) true m 9 [c2] = some y2 := by have h := hF 2 { name := "Data", type := 9, offset := 2, embedded := false, tag := "", pkgPath := "", byteOffset := 16 } rfl; dsimp only at h; rw [kt] at h; exact h
  have f3 : DataW.trod enc Try.prog W 0 (fun _ => true) true m 27 [c3, c4, c5, c6, c7, c8, c9, c10, c11, c12, c13] = some y3 := by have h := hF 3 { name := "Conf", type := 27, offset := 3, embedded := false, tag := "", pkgPath := "", byteOffset := 32 } rfl; dsimp only at h; rw [kj] at h; exact h
  obtain ⟨z0, rfl, _⟩ := intc_of_trod f0
  obtain ⟨z1, rfl, _⟩ := intc_of_trod f1
  obtain ⟨z2, rfl⟩ := textc_of_trod f2
  obtain ⟨j, e, _⟩ := jt_of_cells f3
  refine ⟨⟨z0, z1, z2, j⟩, ?_⟩
  show _ = .int .i64 z0 :: .int .i64 z1 :: .string z2 :: jtC j
  rw [← e]
theorem en_of_trod {H : Type} {enc : TypeId × Value → H} {W : World} {cs : Array Value} {d : DataW H} {p : List MemPlace} (h : DataW.Trod enc Try.prog W 0 (fun _ => true) true 37 (.agg cs) d p) : ∃ x : EnL, Value.agg cs = enV x := by
  obtain ⟨fuel, hf⟩ := h
  simp only [Value.cells] at hf
  obtain ⟨x, h1⟩ := en_of_cells hf
  refine ⟨x, ?_⟩
  unfold enV
  congr 1
  apply Array.toList_inj.1; rw [h1]; rfl
set_option maxRecDepth 100000 in
theorem rde_of_trod {H : Type} {enc : TypeId × Value → H} {W : World} {A : Option Addr} {len cap : Nat} {d : DataW H} {p : List MemPlace}
    (h : DataW.Trod enc Try.prog W 0 (fun _ => true) true 28 (.slice A len cap) d p) : ∃ xs : List EnL, RdE W W.heap.size A len xs ∧ len ≤ cap ∧ cap ≤ maxLen := by
  obtain ⟨fuel, hf⟩ := h
  rcases DataW.trod_slice Try.underlying28 hf with ⟨hcs, _⟩ | ⟨a, l, c, elems, rest, n, _, hcs, _, _, hl, hm, hlen, hel, _⟩
  · simp [Value.cells] at hcs
    obtain ⟨rfl, rfl, rfl⟩ := hcs
    exact ⟨[], RdE.nil _ _ _, Nat.le_refl _, by unfold maxLen; omega⟩
  · simp [Value.cells] at hcs
    obtain ⟨rfl, rfl, rfl⟩ := hcs
    have hc : Try.prog.cellsOf 37 = 14 := by kernel_rfl
    have each : ∀ i, i < len → ∃ x : EnL, (∃ c1 : List Value, c1.length = 14 ∧ (∀ j, j < 14 → W.cell? ((a.add (i * 14)).add j) = c1[j]?) ∧ c1 = enC x) ∧ True := fun i hi => by
      have hE := hel i hi
      rw [hc] at hE
      have hy : elems[i]? = some elems[i] := List.getElem?_eq_getElem (by omega)
      rw [hy, Option.bind_eq_some_iff] at hE
      obtain ⟨c1, hc1, hy1⟩ := hE
      obtain ⟨_, h6, hcell⟩ := World.cells?_some hc1
      obtain ⟨x, hx⟩ := en_of_cells hy1
      exact ⟨x, ⟨c1, h6, fun j hj => hcell j (by omega), hx⟩, trivial⟩
    obtain ⟨L, hL, hP⟩ := gather len each
    refine ⟨L, ⟨hL, fun hp => ?_⟩, hl, hm⟩
    obtain ⟨x0, ⟨c0, hc0, h0, _⟩, _⟩ := each 0 hp
    have h00 := h0 0 (by omega)
    rw [List.getElem?_eq_getElem (by omega)] at h00
    obtain ⟨b, o, spot⟩ := a
    have hspot : spot = none := by simpa [Addr.add] using World.cell?_spot h00
    subst hspot
    refine ⟨b, o, rfl, World.block_lt_of_cell? W (a := ⟨b, o, none⟩) (by simpa [Addr.add] using h00), fun j x hx => ?_⟩
    obtain ⟨c1, hc1, hcell, hf⟩ := (hP j x hx).1
    have hAt : At W b (o + j * 14) c1 := fun q u hu => by
      have hq : q < 14 := by have := (List.getElem?_eq_some_iff.1 hu).1; omega
      have := hcell q hq
      simp only [Addr.add_lit] at this
      rw [this]; exact hu
    rw [hf] at hAt
    exact hAt
theorem esl_of_trod {H : Type} {enc : TypeId × Value → H} {W : World} {v : Value} {n : Nat} {y : DataW H × List MemPlace}
    (h : DataW.trod enc Try.prog W 0 (fun _ => true) true n 28 [v] = some y) : ∃ A len cap xs, v = .slice A len cap ∧ RdE W W.heap.size A len xs ∧ len ≤ cap ∧ cap ≤ maxLen := by
  have key : ∀ (A : Option Addr) (len cap : Nat), v = .slice A len cap → ∃ A len cap xs, v = .slice A len cap ∧ RdE W W.heap.size A len xs ∧ len ≤ cap ∧ cap ≤ maxLen := fun A len cap e => by
    subst e
    obtain ⟨l, hR, h1, h2⟩ := rde_of_trod (d := y.1) (p := y.2) (A := A) (len := len) (cap := cap) ⟨n, h⟩
    exact ⟨A, len, cap, l, rfl, hR, h1, h2⟩
  rcases DataW.trod_slice Try.underlying28 h with ⟨hcs, _⟩ | ⟨a, l, c, elems, rest, n, _, hcs, _⟩
  · simp at hcs; exact key _ _ _ hcs
  · simp at hcs; exact key _ _ _ hcs
set_option maxRecDepth 100000 in
theorem lg_of_cells {H : Type} {enc : TypeId × Value → H} {W : World} {n : Nat} {cs : List Value} {y : DataW H × List MemPlace} (h : DataW.trod enc Try.prog W 0 (fun _ => true) true n 30 cs = some y) : ∃ (L : LgL) (A : Option Addr) (len cap : Nat), cs = lgC L (.slice A len cap) ∧ RdE W W.heap.size A len L.es ∧ len ≤ cap ∧ cap ≤ maxLen := by
  obtain ⟨xs, m, _, _, hl, hxl, hF⟩ := DataW.trod_struct Try.underlying30 h
  have hc : Try.prog.cellsOf 30 = 14 := by kernel_rfl
  rw [hc] at hl
  obtain ⟨c0, c1, c2, c3, c4, c5, c6, c7, c8, c9, c10, c11, c12, c13, rfl⟩ := long14 cs hl
  obtain ⟨y0, y1, y2, y3, rfl⟩ := long4 xs hxl
  have ki : Try.prog.cellsOf 3 = 1 := by kernel_rfl
  have ks : Try.prog.cellsOf 28 = 1 := by kernel_rfl
  have kj : Try.prog.cellsOf 27 = 11 := by kernel_rfl
  have f0 : DataW.trod enc Try.prog W 0 (fun _ => true) true m 3 [c0] = some y0 := by have h := hF 0 { name := "Base", type := 3, offset := 0, embedded := false, tag := "", pkgPath := "", byteOffset := 0 } rfl; dsimp only at h; rw [ki] at h; exact h
  have f1 : DataW.trod enc Try.prog W 0 (fun _ => true) true m 3 [c1] = some y1 := by have h := hF 1 { name := "BaseTerm", type := 3, offset := 1, embedded := false, tag := "", pkgPath := "", byteOffset := 8 } rfl; dsimp only at h; rw [ki] at h; exact h
  have f2 : DataW.trod enc Try.prog W 0 (fun _ => true) true m 27 [c2, c3, c4, c5, c6, c7, c8, c9, c10, c11, c12] = some y2 := by have h := hF 2 { name := "Conf", type := 27, offset := 2, embedded := false, tag := "", pkgPath := "", byteOffset := 16 } rfl; dsimp only at h; rw [kj] at h; exact h
  have f3 : DataW.trod enc Try.prog W 0 (fun _ => true) true m 28 [c13] = some y3 := by have h := hF 3 { name := "Entries", type := 28, offset := 13, embedded := false, tag := "", pkgPath := "", byteOffset := 72 } rfl; dsimp only at h; rw [ks] at h; exact h
  obtain ⟨z0, rfl, _⟩ := intc_of_trod f0
  obtain ⟨z1, rfl, _⟩ := intc_of_trod f1
  obtain ⟨j, e, _⟩ := jt_of_cells f2
  obtain ⟨A, len, cap, es, rfl, hR, h1, h2⟩ := esl_of_trod f3
  refine ⟨⟨z0, z1, j, es⟩, A, len, cap, ?_, hR, h1, h2⟩
  show _ = .int .i64 z0 :: .int .i64 z1 :: (jtC j ++ [.slice A len cap])
  rw [← e]; rfl
theorem lg_of_trod {H : Type} {enc : TypeId × Value → H} {W : World} {cs : Array Value} {d : DataW H} {p : List MemPlace} (h : DataW.Trod enc Try.prog W 0 (fun _ => true) true 30 (.agg cs) d p) : ∃ (L : LgL) (A : Option Addr) (len cap : Nat), Value.agg cs = lgV L (.slice A len cap) ∧ RdE W W.heap.size A len L.es ∧ len ≤ cap ∧ cap ≤ maxLen := by
  obtain ⟨fuel, hf⟩ := h
  simp only [Value.cells] at hf
  obtain ⟨L, A, len, cap, h1, h2⟩ := lg_of_cells hf
  refine ⟨L, A, len, cap, ?_, h2⟩
  unfold lgV
  congr 1
  apply Array.toList_inj.1; rw [h1]; rfl
end Go.Proofs.Yteadkgjikaikjaa.frame
