/- How the structs, and the slices of structs, that come in read, in the words of the kit (stage 8). No condition. -/
import Derived.Test.YtlkhmpfdajefiaaJoin0
import Derived.Test.YtlkhmpfdajefiaaJoin1
namespace Go.Proofs.Ytlkhmpfdajefiaa.frame
open Go Go.ChangeShapes Go.WideShapes Go.ChangeAt Go.RowKit Go.Proofs.Ytlkhmpfdajefiaa.kit Go.Proofs.Ytlkhmpfdajefiaa.nums Go.Proofs.Ytlkhmpfdajefiaa.st Go.Proofs.Ytlkhmpfdajefiaa.mv
set_option linter.unusedVariables false

theorem len2 {α : Type} (l : List α) (h : l.length = 2) : ∃ a0 a1, l = [a0, a1] := by
  match l, h with
  | [a0, a1], _ => exact ⟨a0, a1, rfl⟩
theorem len3 {α : Type} (l : List α) (h : l.length = 3) : ∃ a0 a1 a2, l = [a0, a1, a2] := by
  match l, h with
  | [a0, a1, a2], _ => exact ⟨a0, a1, a2, rfl⟩
theorem len4 {α : Type} (l : List α) (h : l.length = 4) : ∃ a0 a1 a2 a3, l = [a0, a1, a2, a3] := by
  match l, h with
  | [a0, a1, a2, a3], _ => exact ⟨a0, a1, a2, a3, rfl⟩
theorem len5 {α : Type} (l : List α) (h : l.length = 5) : ∃ a0 a1 a2 a3 a4, l = [a0, a1, a2, a3, a4] := by
  match l, h with
  | [a0, a1, a2, a3, a4], _ => exact ⟨a0, a1, a2, a3, a4, rfl⟩
theorem len9 {α : Type} (l : List α) (h : l.length = 9) : ∃ a0 a1 a2 a3 a4 a5 a6 a7 a8, l = [a0, a1, a2, a3, a4, a5, a6, a7, a8] := by
  match l, h with
  | [a0, a1, a2, a3, a4, a5, a6, a7, a8], _ => exact ⟨a0, a1, a2, a3, a4, a5, a6, a7, a8, rfl⟩
theorem len12 {α : Type} (l : List α) (h : l.length = 12) : ∃ a0 a1 a2 a3 a4 a5 a6 a7 a8 a9 a10 a11, l = [a0, a1, a2, a3, a4, a5, a6, a7, a8, a9, a10, a11] := by
  match l, h with
  | [a0, a1, a2, a3, a4, a5, a6, a7, a8, a9, a10, a11], _ => exact ⟨a0, a1, a2, a3, a4, a5, a6, a7, a8, a9, a10, a11, rfl⟩
theorem len14 {α : Type} (l : List α) (h : l.length = 14) : ∃ a0 a1 a2 a3 a4 a5 a6 a7 a8 a9 a10 a11 a12 a13, l = [a0, a1, a2, a3, a4, a5, a6, a7, a8, a9, a10, a11, a12, a13] := by
  match l, h with
  | [a0, a1, a2, a3, a4, a5, a6, a7, a8, a9, a10, a11, a12, a13], _ => exact ⟨a0, a1, a2, a3, a4, a5, a6, a7, a8, a9, a10, a11, a12, a13, rfl⟩
theorem boolm_of_trod {H : Type} {enc : TypeId × Value → H} {W : World} {n : Nat} {v : Value} {y : DataW H × List MemPlace} (h : DataW.trod enc Try.prog W 0 (fun _ => true) true n 4 [v] = some y) : ∃ z, v = .bool z := by
  obtain ⟨z, h1, _⟩ := DataW.trod_bool Try.underlying4 h
  simp at h1
  exact ⟨z, h1⟩
theorem textm_of_trod {H : Type} {enc : TypeId × Value → H} {W : World} {n : Nat} {v : Value} {y : DataW H × List MemPlace} (h : DataW.trod enc Try.prog W 0 (fun _ => true) true n 9 [v] = some y) : ∃ z, v = .string z := by
  obtain ⟨T, h2, _, hsz⟩ := DataW.trod_string Try.underlying9 h
  simp at h2
  exact ⟨T, h2⟩
set_option maxRecDepth 100000 in
theorem st_of_cells {H : Type} {enc : TypeId × Value → H} {W : World} {n : Nat} {cs : List Value} {y : DataW H × List MemPlace} (h : DataW.trod enc Try.prog W 0 (fun _ => true) true n 24 cs = some y) : ∃ a : StL, cs = stC a := by
  obtain ⟨xs, m, _, _, hl, hxl, hF⟩ := DataW.trod_struct Try.underlying24 h
  have hc : Try.prog.cellsOf 24 = 2 := by kernel_rfl
  rw [hc] at hl
  obtain ⟨c0, c1, rfl⟩ := len2 cs hl
  obtain ⟨y0, y1, rfl⟩ := len2 xs hxl
  have k0 : Try.prog.cellsOf 2 = 1 := by kernel_rfl
  have f0 : DataW.trod enc Try.prog W 0 (fun _ => true) true m 2 [c0] = some y0 := by have h := hF 0 { name := "Wall", type := 2, offset := 0, embedded := false, tag := "", pkgPath := "", byteOffset := 0 } rfl; dsimp only at h; rw [k0] at h; exact h
  have k1 : Try.prog.cellsOf 2 = 1 := by kernel_rfl
  have f1 : DataW.trod enc Try.prog W 0 (fun _ => true) true m 2 [c1] = some y1 := by have h := hF 1 { name := "Tie", type := 2, offset := 1, embedded := false, tag := "", pkgPath := "", byteOffset := 8 } rfl; dsimp only at h; rw [k1] at h; exact h
  obtain ⟨z0, rfl, _⟩ := num_of_trod Try.underlying2 f0
  obtain ⟨z1, rfl, _⟩ := num_of_trod Try.underlying2 f1
  exact ⟨⟨z0, z1⟩, rfl⟩
set_option maxRecDepth 100000 in
theorem tr_of_cells {H : Type} {enc : TypeId × Value → H} {W : World} {n : Nat} {cs : List Value} {y : DataW H × List MemPlace} (h : DataW.trod enc Try.prog W 0 (fun _ => true) true n 28 cs = some y) : ∃ a : TrL, cs = trC a := by
  obtain ⟨xs, m, _, _, hl, hxl, hF⟩ := DataW.trod_struct Try.underlying28 h
  have hc : Try.prog.cellsOf 28 = 4 := by kernel_rfl
  rw [hc] at hl
  obtain ⟨c0, c1, c2, c3, rfl⟩ := len4 cs hl
  obtain ⟨y0, y1, y2, y3, rfl⟩ := len4 xs hxl
  have k0 : Try.prog.cellsOf 3 = 1 := by kernel_rfl
  have f0 : DataW.trod enc Try.prog W 0 (fun _ => true) true m 3 [c0] = some y0 := by have h := hF 0 { name := "Node", type := 3, offset := 0, embedded := false, tag := "", pkgPath := "", byteOffset := 0 } rfl; dsimp only at h; rw [k0] at h; exact h
  have k1 : Try.prog.cellsOf 3 = 1 := by kernel_rfl
  have f1 : DataW.trod enc Try.prog W 0 (fun _ => true) true m 3 [c1] = some y1 := by have h := hF 1 { name := "Life", type := 3, offset := 1, embedded := false, tag := "", pkgPath := "", byteOffset := 8 } rfl; dsimp only at h; rw [k1] at h; exact h
  have k2 : Try.prog.cellsOf 3 = 1 := by kernel_rfl
  have f2 : DataW.trod enc Try.prog W 0 (fun _ => true) true m 3 [c2] = some y2 := by have h := hF 2 { name := "Seq", type := 3, offset := 2, embedded := false, tag := "", pkgPath := "", byteOffset := 16 } rfl; dsimp only at h; rw [k2] at h; exact h
  have k3 : Try.prog.cellsOf 3 = 1 := by kernel_rfl
  have f3 : DataW.trod enc Try.prog W 0 (fun _ => true) true m 3 [c3] = some y3 := by have h := hF 3 { name := "Attempt", type := 3, offset := 3, embedded := false, tag := "", pkgPath := "", byteOffset := 24 } rfl; dsimp only at h; rw [k3] at h; exact h
  obtain ⟨z0, rfl, _⟩ := num_of_trod Try.underlying3 f0
  obtain ⟨z1, rfl, _⟩ := num_of_trod Try.underlying3 f1
  obtain ⟨z2, rfl, _⟩ := num_of_trod Try.underlying3 f2
  obtain ⟨z3, rfl, _⟩ := num_of_trod Try.underlying3 f3
  exact ⟨⟨z0, z1, z2, z3⟩, rfl⟩
set_option maxRecDepth 100000 in
theorem wr_of_cells {H : Type} {enc : TypeId × Value → H} {W : World} {n : Nat} {cs : List Value} {y : DataW H × List MemPlace} (h : DataW.trod enc Try.prog W 0 (fun _ => true) true n 36 cs = some y) : ∃ k d x, cs = [.string k, .bool d, .string x] := by
  obtain ⟨xs, m, _, _, hl, hxl, hF⟩ := DataW.trod_struct Try.underlying36 h
  have hc : Try.prog.cellsOf 36 = 3 := by kernel_rfl
  rw [hc] at hl
  obtain ⟨c0, c1, c2, rfl⟩ := len3 cs hl
  obtain ⟨y0, y1, y2, rfl⟩ := len3 xs hxl
  have k0 : Try.prog.cellsOf 9 = 1 := by kernel_rfl
  have f0 : DataW.trod enc Try.prog W 0 (fun _ => true) true m 9 [c0] = some y0 := by have h := hF 0 { name := "Key", type := 9, offset := 0, embedded := false, tag := "", pkgPath := "", byteOffset := 0 } rfl; dsimp only at h; rw [k0] at h; exact h
  have k1 : Try.prog.cellsOf 4 = 1 := by kernel_rfl
  have f1 : DataW.trod enc Try.prog W 0 (fun _ => true) true m 4 [c1] = some y1 := by have h := hF 1 { name := "Drop", type := 4, offset := 1, embedded := false, tag := "", pkgPath := "", byteOffset := 16 } rfl; dsimp only at h; rw [k1] at h; exact h
  have k2 : Try.prog.cellsOf 9 = 1 := by kernel_rfl
  have f2 : DataW.trod enc Try.prog W 0 (fun _ => true) true m 9 [c2] = some y2 := by have h := hF 2 { name := "Data", type := 9, offset := 2, embedded := false, tag := "", pkgPath := "", byteOffset := 24 } rfl; dsimp only at h; rw [k2] at h; exact h
  obtain ⟨z0, rfl⟩ := textm_of_trod f0
  obtain ⟨z1, rfl⟩ := boolm_of_trod f1
  obtain ⟨z2, rfl⟩ := textm_of_trod f2
  exact ⟨z0, z1, z2, rfl⟩
set_option maxRecDepth 100000 in
theorem sp_of_cells {H : Type} {enc : TypeId × Value → H} {W : World} {n : Nat} {cs : List Value} {y : DataW H × List MemPlace} (h : DataW.trod enc Try.prog W 0 (fun _ => true) true n 26 cs = some y) : ∃ a b, cs = [.string a, .string b] := by
  obtain ⟨xs, m, _, _, hl, hxl, hF⟩ := DataW.trod_struct Try.underlying26 h
  have hc : Try.prog.cellsOf 26 = 2 := by kernel_rfl
  rw [hc] at hl
  obtain ⟨c0, c1, rfl⟩ := len2 cs hl
  obtain ⟨y0, y1, rfl⟩ := len2 xs hxl
  have k0 : Try.prog.cellsOf 9 = 1 := by kernel_rfl
  have f0 : DataW.trod enc Try.prog W 0 (fun _ => true) true m 9 [c0] = some y0 := by have h := hF 0 { name := "Lo", type := 9, offset := 0, embedded := false, tag := "", pkgPath := "", byteOffset := 0 } rfl; dsimp only at h; rw [k0] at h; exact h
  have k1 : Try.prog.cellsOf 9 = 1 := by kernel_rfl
  have f1 : DataW.trod enc Try.prog W 0 (fun _ => true) true m 9 [c1] = some y1 := by have h := hF 1 { name := "Hi", type := 9, offset := 1, embedded := false, tag := "", pkgPath := "", byteOffset := 16 } rfl; dsimp only at h; rw [k1] at h; exact h
  obtain ⟨z0, rfl⟩ := textm_of_trod f0
  obtain ⟨z1, rfl⟩ := textm_of_trod f1
  exact ⟨z0, z1, rfl⟩
set_option maxRecDepth 100000 in
theorem lk_of_cells {H : Type} {enc : TypeId × Value → H} {W : World} {n : Nat} {cs : List Value} {y : DataW H × List MemPlace} (h : DataW.trod enc Try.prog W 0 (fun _ => true) true n 38 cs = some y) : ∃ l : LockL, cs = lockC l := by
  obtain ⟨xs, m, _, _, hl, hxl, hF⟩ := DataW.trod_struct Try.underlying38 h
  have hc : Try.prog.cellsOf 38 = 9 := by kernel_rfl
  rw [hc] at hl
  obtain ⟨c0, c1, c2, c3, c4, c5, c6, c7, c8, rfl⟩ := len9 cs hl
  obtain ⟨y0, y1, y2, y3, y4, rfl⟩ := len5 xs hxl
  have k0 : Try.prog.cellsOf 28 = 4 := by kernel_rfl
  have f0 : DataW.trod enc Try.prog W 0 (fun _ => true) true m 28 [c0, c1, c2, c3] = some y0 := by have h := hF 0 { name := "By", type := 28, offset := 0, embedded := false, tag := "", pkgPath := "", byteOffset := 0 } rfl; dsimp only at h; rw [k0] at h; exact h
  have k1 : Try.prog.cellsOf 3 = 1 := by kernel_rfl
  have f1 : DataW.trod enc Try.prog W 0 (fun _ => true) true m 3 [c4] = some y1 := by have h := hF 1 { name := "Home", type := 3, offset := 4, embedded := false, tag := "", pkgPath := "", byteOffset := 32 } rfl; dsimp only at h; rw [k1] at h; exact h
  have k2 : Try.prog.cellsOf 24 = 2 := by kernel_rfl
  have f2 : DataW.trod enc Try.prog W 0 (fun _ => true) true m 24 [c5, c6] = some y2 := by have h := hF 2 { name := "At", type := 24, offset := 5, embedded := false, tag := "", pkgPath := "", byteOffset := 40 } rfl; dsimp only at h; rw [k2] at h; exact h
  have k3 : Try.prog.cellsOf 4 = 1 := by kernel_rfl
  have f3 : DataW.trod enc Try.prog W 0 (fun _ => true) true m 4 [c7] = some y3 := by have h := hF 3 { name := "Drop", type := 4, offset := 7, embedded := false, tag := "", pkgPath := "", byteOffset := 56 } rfl; dsimp only at h; rw [k3] at h; exact h
  have k4 : Try.prog.cellsOf 9 = 1 := by kernel_rfl
  have f4 : DataW.trod enc Try.prog W 0 (fun _ => true) true m 9 [c8] = some y4 := by have h := hF 4 { name := "Data", type := 9, offset := 8, embedded := false, tag := "", pkgPath := "", byteOffset := 64 } rfl; dsimp only at h; rw [k4] at h; exact h
  obtain ⟨a, e0⟩ := tr_of_cells f0
  obtain ⟨z1, rfl, _⟩ := num_of_trod Try.underlying3 f1
  obtain ⟨s, e2⟩ := st_of_cells f2
  obtain ⟨z3, rfl⟩ := boolm_of_trod f3
  obtain ⟨z4, rfl⟩ := textm_of_trod f4
  simp only [trC, List.cons.injEq, and_true] at e0
  simp only [stC, List.cons.injEq, and_true] at e2
  obtain ⟨rfl, rfl, rfl, rfl⟩ := e0
  obtain ⟨rfl, rfl⟩ := e2
  exact ⟨⟨a, z1, s, z3, z4⟩, rfl⟩
set_option maxRecDepth 100000 in
theorem ve_of_cells {H : Type} {enc : TypeId × Value → H} {W : World} {n : Nat} {cs : List Value} {y : DataW H × List MemPlace} (h : DataW.trod enc Try.prog W 0 (fun _ => true) true n 47 cs = some y) : ∃ v : VerL, cs = verC v := by
  obtain ⟨xs, m, _, _, hl, hxl, hF⟩ := DataW.trod_struct Try.underlying47 h
  have hc : Try.prog.cellsOf 47 = 4 := by kernel_rfl
  rw [hc] at hl
  obtain ⟨c0, c1, c2, c3, rfl⟩ := len4 cs hl
  obtain ⟨y0, y1, y2, rfl⟩ := len3 xs hxl
  have k0 : Try.prog.cellsOf 24 = 2 := by kernel_rfl
  have f0 : DataW.trod enc Try.prog W 0 (fun _ => true) true m 24 [c0, c1] = some y0 := by have h := hF 0 { name := "At", type := 24, offset := 0, embedded := false, tag := "", pkgPath := "", byteOffset := 0 } rfl; dsimp only at h; rw [k0] at h; exact h
  have k1 : Try.prog.cellsOf 4 = 1 := by kernel_rfl
  have f1 : DataW.trod enc Try.prog W 0 (fun _ => true) true m 4 [c2] = some y1 := by have h := hF 1 { name := "Drop", type := 4, offset := 2, embedded := false, tag := "", pkgPath := "", byteOffset := 16 } rfl; dsimp only at h; rw [k1] at h; exact h
  have k2 : Try.prog.cellsOf 9 = 1 := by kernel_rfl
  have f2 : DataW.trod enc Try.prog W 0 (fun _ => true) true m 9 [c3] = some y2 := by have h := hF 2 { name := "Data", type := 9, offset := 3, embedded := false, tag := "", pkgPath := "", byteOffset := 24 } rfl; dsimp only at h; rw [k2] at h; exact h
  obtain ⟨s, e0⟩ := st_of_cells f0
  obtain ⟨z1, rfl⟩ := boolm_of_trod f1
  obtain ⟨z2, rfl⟩ := textm_of_trod f2
  simp only [stC, List.cons.injEq, and_true] at e0
  obtain ⟨rfl, rfl⟩ := e0
  exact ⟨⟨s, z1, z2⟩, rfl⟩
set_option maxRecDepth 100000 in
theorem op_of_cells {H : Type} {enc : TypeId × Value → H} {W : World} {n : Nat} {cs : List Value} {y : DataW H × List MemPlace} (h : DataW.trod enc Try.prog W 0 (fun _ => true) true n 40 cs = some y) : ∃ x : OpM, cs = opC x := by
  obtain ⟨xs, m, _, _, hl, hxl, hF⟩ := DataW.trod_struct Try.underlying40 h
  have hc : Try.prog.cellsOf 40 = 14 := by kernel_rfl
  rw [hc] at hl
  obtain ⟨c0, c1, c2, c3, c4, c5, c6, c7, c8, c9, c10, c11, c12, c13, rfl⟩ := len14 cs hl
  obtain ⟨y0, y1, y2, y3, rfl⟩ := len4 xs hxl
  have k0 : Try.prog.cellsOf 3 = 1 := by kernel_rfl
  have f0 : DataW.trod enc Try.prog W 0 (fun _ => true) true m 3 [c0] = some y0 := by have h := hF 0 { name := "Kind", type := 3, offset := 0, embedded := false, tag := "", pkgPath := "", byteOffset := 0 } rfl; dsimp only at h; rw [k0] at h; exact h
  have k1 : Try.prog.cellsOf 36 = 3 := by kernel_rfl
  have f1 : DataW.trod enc Try.prog W 0 (fun _ => true) true m 36 [c1, c2, c3] = some y1 := by have h := hF 1 { name := "W", type := 36, offset := 1, embedded := false, tag := "", pkgPath := "", byteOffset := 8 } rfl; dsimp only at h; rw [k1] at h; exact h
  have k2 : Try.prog.cellsOf 38 = 9 := by kernel_rfl
  have f2 : DataW.trod enc Try.prog W 0 (fun _ => true) true m 38 [c4, c5, c6, c7, c8, c9, c10, c11, c12] = some y2 := by have h := hF 2 { name := "L", type := 38, offset := 4, embedded := false, tag := "", pkgPath := "", byteOffset := 48 } rfl; dsimp only at h; rw [k2] at h; exact h
  have k3 : Try.prog.cellsOf 4 = 1 := by kernel_rfl
  have f3 : DataW.trod enc Try.prog W 0 (fun _ => true) true m 4 [c13] = some y3 := by have h := hF 3 { name := "Yes", type := 4, offset := 13, embedded := false, tag := "", pkgPath := "", byteOffset := 128 } rfl; dsimp only at h; rw [k3] at h; exact h
  obtain ⟨z0, rfl, _⟩ := num_of_trod Try.underlying3 f0
  obtain ⟨k, d, x, e1⟩ := wr_of_cells f1
  obtain ⟨l, e2⟩ := lk_of_cells f2
  obtain ⟨z3, rfl⟩ := boolm_of_trod f3
  simp only [List.cons.injEq, and_true] at e1
  simp only [lockC, List.cons.injEq, and_true] at e2
  obtain ⟨rfl, rfl, rfl⟩ := e1
  obtain ⟨rfl, rfl, rfl, rfl, rfl, rfl, rfl, rfl, rfl⟩ := e2
  exact ⟨⟨z0, k, d, x, l, z3⟩, rfl⟩
set_option maxRecDepth 100000 in
theorem rdvs_of_trod {H : Type} {enc : TypeId × Value → H} {W : World} {A : Option Addr} {len cap : Nat} {d : DataW H} {p : List MemPlace}
    (h : DataW.Trod enc Try.prog W 0 (fun _ => true) true 43 (.slice A len cap) d p) : ∃ xs : List VerL, RdVs W W.heap.size A len xs ∧ len ≤ cap ∧ cap ≤ maxLen := by
  obtain ⟨fuel, hf⟩ := h
  rcases DataW.trod_slice Try.underlying43 hf with ⟨hcs, _⟩ | ⟨a, l, c, elems, rest, n, _, hcs, _, _, hl, hm, hlen, hel, _⟩
  · simp [Value.cells] at hcs
    obtain ⟨rfl, rfl, rfl⟩ := hcs
    exact ⟨[], ⟨rfl, fun h => absurd h (by omega)⟩, Nat.le_refl _, by unfold maxLen; omega⟩
  · simp [Value.cells] at hcs
    obtain ⟨rfl, rfl, rfl⟩ := hcs
    have hc : Try.prog.cellsOf 47 = 4 := by kernel_rfl
    have each : ∀ i, i < len → ∃ x : VerL, (∃ c1 : List Value, c1.length = 4 ∧ (∀ j, j < 4 → W.cell? ((a.add (i * 4)).add j) = c1[j]?) ∧ c1 = verC x) ∧ True := fun i hi => by
      have hE := hel i hi
      rw [hc] at hE
      have hy : elems[i]? = some elems[i] := List.getElem?_eq_getElem (by omega)
      rw [hy, Option.bind_eq_some_iff] at hE
      obtain ⟨c1, hc1, hy1⟩ := hE
      obtain ⟨_, h6, hcell⟩ := World.cells?_some hc1
      obtain ⟨x, hx⟩ := ve_of_cells hy1
      exact ⟨x, ⟨c1, h6, fun j hj => hcell j (by omega), hx⟩, trivial⟩
    obtain ⟨L, hL, hP⟩ := gather len each
    refine ⟨L, ⟨hL, fun hp => ?_⟩, hl, hm⟩
    obtain ⟨x0, ⟨c0, hc0, h0, _⟩, _⟩ := each 0 hp
    have h00 := h0 0 (by omega)
    rw [List.getElem?_eq_getElem (by omega)] at h00
    obtain ⟨b, o, spot⟩ := a
    have hspot : spot = none := by simpa [Addr.add] using World.cell?_spot h00
    subst hspot
    refine ⟨b, o, rfl, World.block_lt_of_cell? W (a := ⟨b, o, none⟩) (by simpa [Addr.add] using h00), fun j x hx => ?_⟩
    obtain ⟨c1, hc1, hcell, hf⟩ := (hP j x hx).1
    have hAt : At W b (o + j * 4) c1 := fun q u hu => by
      have hq : q < 4 := by have := (List.getElem?_eq_some_iff.1 hu).1; omega
      have := hcell q hq
      simp only [Addr.add_lit] at this
      rw [this]; exact hu
    rw [hf] at hAt
    exact hAt
theorem slvs_of_trod {H : Type} {enc : TypeId × Value → H} {W : World} {v : Value} {n : Nat} {y : DataW H × List MemPlace}
    (h : DataW.trod enc Try.prog W 0 (fun _ => true) true n 43 [v] = some y) : ∃ vs : List VerL, SlVs W W.heap.size v vs := by
  have key : ∀ (A : Option Addr) (len cap : Nat), v = .slice A len cap → ∃ vs : List VerL, SlVs W W.heap.size v vs := fun A len cap e => by
    subst e
    obtain ⟨L, hR, h1, h2⟩ := rdvs_of_trod (d := y.1) (p := y.2) (A := A) (len := len) (cap := cap) ⟨n, h⟩
    obtain rfl : L.length = len := hR.1
    exact ⟨L, A, cap, rfl, h1, h2, hR⟩
  rcases DataW.trod_slice Try.underlying43 h with ⟨hcs, _⟩ | ⟨a, l, c, elems, rest, n, _, hcs, _⟩
  · simp at hcs; exact key _ _ _ hcs
  · simp at hcs; exact key _ _ _ hcs
set_option maxRecDepth 100000 in
theorem ce_of_cells {H : Type} {enc : TypeId × Value → H} {W : World} {n : Nat} {cs : List Value} {y : DataW H × List MemPlace} (h : DataW.trod enc Try.prog W 0 (fun _ => true) true n 45 cs = some y) : ∃ x : CellL, ∃ sv, cs = cellC x sv ∧ SlVs W W.heap.size sv x.vers := by
  obtain ⟨xs, m, _, _, hl, hxl, hF⟩ := DataW.trod_struct Try.underlying45 h
  have hc : Try.prog.cellsOf 45 = 12 := by kernel_rfl
  rw [hc] at hl
  obtain ⟨c0, c1, c2, c3, c4, c5, c6, c7, c8, c9, c10, c11, rfl⟩ := len12 cs hl
  obtain ⟨y0, y1, y2, y3, rfl⟩ := len4 xs hxl
  have k0 : Try.prog.cellsOf 9 = 1 := by kernel_rfl
  have f0 : DataW.trod enc Try.prog W 0 (fun _ => true) true m 9 [c0] = some y0 := by have h := hF 0 { name := "Key", type := 9, offset := 0, embedded := false, tag := "", pkgPath := "", byteOffset := 0 } rfl; dsimp only at h; rw [k0] at h; exact h
  have k1 : Try.prog.cellsOf 43 = 1 := by kernel_rfl
  have f1 : DataW.trod enc Try.prog W 0 (fun _ => true) true m 43 [c1] = some y1 := by have h := hF 1 { name := "Versions", type := 43, offset := 1, embedded := false, tag := "", pkgPath := "", byteOffset := 16 } rfl; dsimp only at h; rw [k1] at h; exact h
  have k2 : Try.prog.cellsOf 4 = 1 := by kernel_rfl
  have f2 : DataW.trod enc Try.prog W 0 (fun _ => true) true m 4 [c2] = some y2 := by have h := hF 2 { name := "Locked", type := 4, offset := 2, embedded := false, tag := "", pkgPath := "", byteOffset := 40 } rfl; dsimp only at h; rw [k2] at h; exact h
  have k3 : Try.prog.cellsOf 38 = 9 := by kernel_rfl
  have f3 : DataW.trod enc Try.prog W 0 (fun _ => true) true m 38 [c3, c4, c5, c6, c7, c8, c9, c10, c11] = some y3 := by have h := hF 3 { name := "Lock", type := 38, offset := 3, embedded := false, tag := "", pkgPath := "", byteOffset := 48 } rfl; dsimp only at h; rw [k3] at h; exact h
  obtain ⟨z0, rfl⟩ := textm_of_trod f0
  obtain ⟨vs, hvs⟩ := slvs_of_trod f1
  obtain ⟨z2, rfl⟩ := boolm_of_trod f2
  obtain ⟨l, e3⟩ := lk_of_cells f3
  simp only [lockC, List.cons.injEq, and_true] at e3
  obtain ⟨rfl, rfl, rfl, rfl, rfl, rfl, rfl, rfl, rfl⟩ := e3
  exact ⟨⟨z0, vs, z2, l⟩, c1, rfl, hvs⟩
set_option maxRecDepth 100000 in
theorem rdopm_of_trod {H : Type} {enc : TypeId × Value → H} {W : World} {A : Option Addr} {len cap : Nat} {d : DataW H} {p : List MemPlace}
    (h : DataW.Trod enc Try.prog W 0 (fun _ => true) true 22 (.slice A len cap) d p) : ∃ xs : List OpM, RdOpM W W.heap.size A len xs ∧ len ≤ cap ∧ cap ≤ maxLen := by
  obtain ⟨fuel, hf⟩ := h
  rcases DataW.trod_slice Try.underlying22 hf with ⟨hcs, _⟩ | ⟨a, l, c, elems, rest, n, _, hcs, _, _, hl, hm, hlen, hel, _⟩
  · simp [Value.cells] at hcs
    obtain ⟨rfl, rfl, rfl⟩ := hcs
    exact ⟨[], ⟨rfl, fun h => absurd h (by omega)⟩, Nat.le_refl _, by unfold maxLen; omega⟩
  · simp [Value.cells] at hcs
    obtain ⟨rfl, rfl, rfl⟩ := hcs
    have hc : Try.prog.cellsOf 40 = 14 := by kernel_rfl
    have each : ∀ i, i < len → ∃ x : OpM, (∃ c1 : List Value, c1.length = 14 ∧ (∀ j, j < 14 → W.cell? ((a.add (i * 14)).add j) = c1[j]?) ∧ c1 = opC x) ∧ True := fun i hi => by
      have hE := hel i hi
      rw [hc] at hE
      have hy : elems[i]? = some elems[i] := List.getElem?_eq_getElem (by omega)
      rw [hy, Option.bind_eq_some_iff] at hE
      obtain ⟨c1, hc1, hy1⟩ := hE
      obtain ⟨_, h6, hcell⟩ := World.cells?_some hc1
      obtain ⟨x, hx⟩ := op_of_cells hy1
      exact ⟨x, ⟨c1, h6, fun j hj => hcell j (by omega), hx⟩, trivial⟩
    obtain ⟨L, hL, hP⟩ := gather len each
    refine ⟨L, ⟨hL, fun hp => ?_⟩, hl, hm⟩
    obtain ⟨x0, ⟨c0, hc0, h0, _⟩, _⟩ := each 0 hp
    have h00 := h0 0 (by omega)
    rw [List.getElem?_eq_getElem (by omega)] at h00
    obtain ⟨b, o, spot⟩ := a
    have hspot : spot = none := by simpa [Addr.add] using World.cell?_spot h00
    subst hspot
    refine ⟨b, o, rfl, World.block_lt_of_cell? W (a := ⟨b, o, none⟩) (by simpa [Addr.add] using h00), fun j x hx => ?_⟩
    obtain ⟨c1, hc1, hcell, hf⟩ := (hP j x hx).1
    have hAt : At W b (o + j * 14) c1 := fun q u hu => by
      have hq : q < 14 := by have := (List.getElem?_eq_some_iff.1 hu).1; omega
      have := hcell q hq
      simp only [Addr.add_lit] at this
      rw [this]; exact hu
    rw [hf] at hAt
    exact hAt
set_option maxRecDepth 100000 in
theorem rdcm_of_trod {H : Type} {enc : TypeId × Value → H} {W : World} {A : Option Addr} {len cap : Nat} {d : DataW H} {p : List MemPlace}
    (h : DataW.Trod enc Try.prog W 0 (fun _ => true) true 31 (.slice A len cap) d p) : ∃ xs : List CellL, RdC W W.heap.size A len xs ∧ len ≤ cap ∧ cap ≤ maxLen := by
  obtain ⟨fuel, hf⟩ := h
  rcases DataW.trod_slice Try.underlying31 hf with ⟨hcs, _⟩ | ⟨a, l, c, elems, rest, n, _, hcs, _, _, hl, hm, hlen, hel, _⟩
  · simp [Value.cells] at hcs
    obtain ⟨rfl, rfl, rfl⟩ := hcs
    exact ⟨[], ⟨rfl, fun h => absurd h (by omega)⟩, Nat.le_refl _, by unfold maxLen; omega⟩
  · simp [Value.cells] at hcs
    obtain ⟨rfl, rfl, rfl⟩ := hcs
    have hc : Try.prog.cellsOf 45 = 12 := by kernel_rfl
    have each : ∀ i, i < len → ∃ x : CellL, (∃ c1 : List Value, c1.length = 12 ∧ (∀ j, j < 12 → W.cell? ((a.add (i * 12)).add j) = c1[j]?) ∧ ∃ sv, c1 = cellC x sv ∧ SlVs W W.heap.size sv x.vers) ∧ True := fun i hi => by
      have hE := hel i hi
      rw [hc] at hE
      have hy : elems[i]? = some elems[i] := List.getElem?_eq_getElem (by omega)
      rw [hy, Option.bind_eq_some_iff] at hE
      obtain ⟨c1, hc1, hy1⟩ := hE
      obtain ⟨_, h6, hcell⟩ := World.cells?_some hc1
      obtain ⟨x, hx⟩ := ce_of_cells hy1
      exact ⟨x, ⟨c1, h6, fun j hj => hcell j (by omega), hx⟩, trivial⟩
    obtain ⟨L, hL, hP⟩ := gather len each
    refine ⟨L, ⟨hL, fun hp => ?_⟩, hl, hm⟩
    obtain ⟨x0, ⟨c0, hc0, h0, _⟩, _⟩ := each 0 hp
    have h00 := h0 0 (by omega)
    rw [List.getElem?_eq_getElem (by omega)] at h00
    obtain ⟨b, o, spot⟩ := a
    have hspot : spot = none := by simpa [Addr.add] using World.cell?_spot h00
    subst hspot
    refine ⟨b, o, rfl, World.block_lt_of_cell? W (a := ⟨b, o, none⟩) (by simpa [Addr.add] using h00), fun j x hx => ?_⟩
    obtain ⟨c1, hc1, hcell, hf⟩ := (hP j x hx).1
    have hAt : At W b (o + j * 12) c1 := fun q u hu => by
      have hq : q < 12 := by have := (List.getElem?_eq_some_iff.1 hu).1; omega
      have := hcell q hq
      simp only [Addr.add_lit] at this
      rw [this]; exact hu
    obtain ⟨sv, hf1, hf2⟩ := hf
    rw [hf1] at hAt
    exact ⟨sv, hAt, hf2⟩
theorem stm_of_trod {H : Type} {enc : TypeId × Value → H} {W : World} {cs : Array Value} {d : DataW H} {p : List MemPlace}
    (h : DataW.Trod enc Try.prog W 0 (fun _ => true) true 24 (.agg cs) d p) : ∃ a : StL, cs = #[.int .i64 a.wall, .int .i64 a.tie] := by
  obtain ⟨fuel, hf⟩ := h
  simp only [Value.cells] at hf
  obtain ⟨a, e⟩ := st_of_cells hf
  exact ⟨a, by apply Array.toList_inj.1; first | (rw [e]; done) | (rw [e]; rfl)⟩
theorem trm_of_trod {H : Type} {enc : TypeId × Value → H} {W : World} {cs : Array Value} {d : DataW H} {p : List MemPlace}
    (h : DataW.Trod enc Try.prog W 0 (fun _ => true) true 28 (.agg cs) d p) : ∃ a : TrL, cs = #[.int .i64 a.node, .int .i64 a.life, .int .i64 a.seq, .int .i64 a.att] := by
  obtain ⟨fuel, hf⟩ := h
  simp only [Value.cells] at hf
  obtain ⟨a, e⟩ := tr_of_cells hf
  exact ⟨a, by apply Array.toList_inj.1; first | (rw [e]; done) | (rw [e]; rfl)⟩
theorem wrm_of_trod {H : Type} {enc : TypeId × Value → H} {W : World} {cs : Array Value} {d : DataW H} {p : List MemPlace}
    (h : DataW.Trod enc Try.prog W 0 (fun _ => true) true 36 (.agg cs) d p) : ∃ k d x, cs = #[.string k, .bool d, .string x] := by
  obtain ⟨fuel, hf⟩ := h
  simp only [Value.cells] at hf
  obtain ⟨k, d, x, e⟩ := wr_of_cells hf
  exact ⟨k, d, x, by apply Array.toList_inj.1; first | (rw [e]; done) | (rw [e]; rfl)⟩
theorem spm_of_trod {H : Type} {enc : TypeId × Value → H} {W : World} {cs : Array Value} {d : DataW H} {p : List MemPlace}
    (h : DataW.Trod enc Try.prog W 0 (fun _ => true) true 26 (.agg cs) d p) : ∃ a b, cs = #[.string a, .string b] := by
  obtain ⟨fuel, hf⟩ := h
  simp only [Value.cells] at hf
  obtain ⟨a, b, e⟩ := sp_of_cells hf
  exact ⟨a, b, by apply Array.toList_inj.1; first | (rw [e]; done) | (rw [e]; rfl)⟩
theorem lkm_of_trod {H : Type} {enc : TypeId × Value → H} {W : World} {cs : Array Value} {d : DataW H} {p : List MemPlace}
    (h : DataW.Trod enc Try.prog W 0 (fun _ => true) true 38 (.agg cs) d p) : ∃ l : LockL, cs = #[.int .i64 l.by_.node, .int .i64 l.by_.life, .int .i64 l.by_.seq, .int .i64 l.by_.att, .int .i64 l.home, .int .i64 l.at_.wall, .int .i64 l.at_.tie, .bool l.drop, .string l.data] := by
  obtain ⟨fuel, hf⟩ := h
  simp only [Value.cells] at hf
  obtain ⟨l, e⟩ := lk_of_cells hf
  exact ⟨l, by apply Array.toList_inj.1; first | (rw [e]; done) | (rw [e]; rfl)⟩
theorem opm_of_trod {H : Type} {enc : TypeId × Value → H} {W : World} {cs : Array Value} {d : DataW H} {p : List MemPlace}
    (h : DataW.Trod enc Try.prog W 0 (fun _ => true) true 40 (.agg cs) d p) : ∃ x : OpM, cs = #[.int .i64 x.kind, .string x.key, .bool x.drop, .string x.data, .int .i64 x.lk.by_.node, .int .i64 x.lk.by_.life, .int .i64 x.lk.by_.seq, .int .i64 x.lk.by_.att, .int .i64 x.lk.home, .int .i64 x.lk.at_.wall, .int .i64 x.lk.at_.tie, .bool x.lk.drop, .string x.lk.data, .bool x.yes] := by
  obtain ⟨fuel, hf⟩ := h
  simp only [Value.cells] at hf
  obtain ⟨x, e⟩ := op_of_cells hf
  exact ⟨x, by apply Array.toList_inj.1; first | (rw [e]; done) | (rw [e]; rfl)⟩
end Go.Proofs.Ytlkhmpfdajefiaa.frame
