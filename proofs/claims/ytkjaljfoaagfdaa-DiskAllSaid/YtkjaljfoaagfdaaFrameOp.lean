/- How a slice of operations on a disk that comes in reads, in the words of the kit. No condition. -/
import Derived.Test.YtkjaljfoaagfdaaFrameV
import Derived.Test.YtkjaljfoaagfdaaKitOp
namespace Go.Proofs.Ytkjaljfoaagfdaa.frame
open Go.ChangeShapes Go.WideShapes Go.ChangeAt Go.RowKit Go.Proofs.Ytkjaljfoaagfdaa.kit Go.Proofs.Ytkjaljfoaagfdaa.nums

theorem i64_of_trod {H : Type} {enc : TypeId × Value → H} {W : World} {n : Nat} {v : Value} {y : DataW H × List MemPlace}
    (h : DataW.trod enc Try.prog W 0 (fun _ => true) true n 3 [v] = some y) : ∃ z, v = .int .i64 z ∧ I64 z := by
  obtain ⟨z, h1, _, hw⟩ := DataW.trod_int Try.underlying3 h
  simp at h1
  exact ⟨z, h1, by unfold I64; simpa [Lit.wf, IntKind.min, IntKind.max, IntKind.signed, IntKind.bits] using hw⟩
theorem keep_of_trod {H : Type} {enc : TypeId × Value → H} {W : World} {v : Value} {n : Nat} {y : DataW H × List MemPlace}
    (h : DataW.trod enc Try.prog W 0 (fun _ => true) true n 31 [v] = some y) : ∃ zs : List Int, (∃ A c, v = .slice A zs.length c ∧ zs.length ≤ c ∧ c ≤ maxLen ∧ RdV W W.heap.size A zs.length (zs.map (Value.int .i64))) ∧ ∀ z ∈ zs, I64 z := by
  have key : ∀ (A : Option Addr) (len cap : Nat), v = .slice A len cap → ∃ zs : List Int, (∃ A c, v = .slice A zs.length c ∧ zs.length ≤ c ∧ c ≤ maxLen ∧ RdV W W.heap.size A zs.length (zs.map (Value.int .i64))) ∧ ∀ z ∈ zs, I64 z := fun A len cap e => by
    subst e
    obtain ⟨zs, hR, hz, h1, h2⟩ := rdi_of_trod (d := y.1) (p := y.2) (A := A) (len := len) (cap := cap) ⟨n, h⟩
    have hl : zs.length = len := by have := hR.1; rwa [List.length_map] at this
    subst hl
    exact ⟨zs, ⟨A, cap, rfl, h1, h2, hR⟩, hz⟩
  rcases open_ints Try.underlying31 Try.underlying3 (by kernel_rfl) h with ⟨hcs, _⟩ | ⟨x, l, c, zs, hcs, _⟩
  · simp at hcs; exact key _ _ _ hcs
  · simp at hcs; exact key _ _ _ hcs
theorem five {α : Type} (l : List α) (h : l.length = 5) : ∃ a b c d e, l = [a, b, c, d, e] := by
  match l, h with
  | [a, b, c, d, e], _ => exact ⟨a, b, c, d, e, rfl⟩
theorem rdops_of_trod {H : Type} {enc : TypeId × Value → H} {W : World} {A : Option Addr} {len cap : Nat} {d : DataW H} {p : List MemPlace}
    (h : DataW.Trod enc Try.prog W 0 (fun _ => true) true 22 (.slice A len cap) d p) : ∃ os : List OpL, RdOp W W.heap.size A len os ∧ (∀ x ∈ os, OpOk x) ∧ len ≤ cap ∧ cap ≤ maxLen := by
  obtain ⟨fuel, hf⟩ := h
  rcases DataW.trod_slice Try.underlying22 hf with ⟨hcs, _⟩ | ⟨a, l, c, elems, rest, n, _, hcs, _, _, hl, hm, hlen, hel, _⟩
  · simp [Value.cells] at hcs
    obtain ⟨rfl, rfl, rfl⟩ := hcs
    exact ⟨[], ⟨rfl, fun h => absurd h (by omega)⟩, fun z hz => (by cases hz), Nat.le_refl _, by unfold maxLen; omega⟩
  · simp [Value.cells] at hcs
    obtain ⟨rfl, rfl, rfl⟩ := hcs
    have hc : Try.prog.cellsOf 33 = 5 := by kernel_rfl
    have each : ∀ i, i < len → ∃ x : OpL, (W.cell? ((a.add (i * 5)).add 0) = some (.int .i64 x.kind) ∧ W.cell? ((a.add (i * 5)).add 1) = some (.int .i64 x.f) ∧ W.cell? ((a.add (i * 5)).add 2) = some (.int .i64 x.n) ∧ ∃ v3 v4, W.cell? ((a.add (i * 5)).add 3) = some v3 ∧ W.cell? ((a.add (i * 5)).add 4) = some v4 ∧ OpV W W.heap.size x v3 v4) ∧ OpOk x := fun i hi => by
      have hE := hel i hi
      rw [hc] at hE
      have hy : elems[i]? = some elems[i] := List.getElem?_eq_getElem (by omega)
      rw [hy, Option.bind_eq_some_iff] at hE
      obtain ⟨c1, hc1, hy1⟩ := hE
      obtain ⟨_, h5, hcell⟩ := World.cells?_some hc1
      obtain ⟨c0, c1', c2, c3, c4, rfl⟩ := five c1 h5
      obtain ⟨xs, m, _, _, _, hxl, hF⟩ := DataW.trod_struct Try.underlying33 hy1
      obtain ⟨y0, y1, y2, y3, y4, rfl⟩ := five xs hxl
      have k3 : Try.prog.cellsOf 3 = 1 := by kernel_rfl
      have kb : Try.prog.cellsOf 30 = 1 := by kernel_rfl
      have kk : Try.prog.cellsOf 31 = 1 := by kernel_rfl
      have f0 : DataW.trod enc Try.prog W 0 (fun _ => true) true m 3 [c0] = some y0 := by have h := hF 0 { name := "Kind", type := 3, offset := 0, embedded := false, tag := "", pkgPath := "", byteOffset := 0 } rfl; dsimp only at h; rw [k3] at h; exact h
      have f1 : DataW.trod enc Try.prog W 0 (fun _ => true) true m 3 [c1'] = some y1 := by have h := hF 1 { name := "F", type := 3, offset := 1, embedded := false, tag := "", pkgPath := "", byteOffset := 8 } rfl; dsimp only at h; rw [k3] at h; exact h
      have f2 : DataW.trod enc Try.prog W 0 (fun _ => true) true m 3 [c2] = some y2 := by have h := hF 2 { name := "N", type := 3, offset := 2, embedded := false, tag := "", pkgPath := "", byteOffset := 16 } rfl; dsimp only at h; rw [k3] at h; exact h
      have f3 : DataW.trod enc Try.prog W 0 (fun _ => true) true m 30 [c3] = some y3 := by have h := hF 3 { name := "B", type := 30, offset := 3, embedded := false, tag := "", pkgPath := "", byteOffset := 24 } rfl; dsimp only at h; rw [kb] at h; exact h
      have f4 : DataW.trod enc Try.prog W 0 (fun _ => true) true m 31 [c4] = some y4 := by have h := hF 4 { name := "Keep", type := 31, offset := 4, embedded := false, tag := "", pkgPath := "", byteOffset := 48 } rfl; dsimp only at h; rw [kk] at h; exact h
      obtain ⟨z0, rfl, i0⟩ := i64_of_trod f0
      obtain ⟨z1, rfl, i1⟩ := i64_of_trod f1
      obtain ⟨z2, rfl, i2⟩ := i64_of_trod f2
      obtain ⟨m3, hs3, hy3⟩ := sl_of_trod f3
      obtain ⟨zs, hk, hz⟩ := keep_of_trod f4
      exact ⟨⟨z0, z1, z2, m3, zs⟩, ⟨hcell 0 (by omega), hcell 1 (by omega), hcell 2 (by omega), c3, c4, hcell 3 (by omega), hcell 4 (by omega), hs3, hk⟩, ⟨i0, i1, i2, hy3, hz⟩⟩
    obtain ⟨L, hL, hP⟩ := gather len each
    refine ⟨L, ⟨hL, fun hp => ?_⟩, fun x hx => ?_, hl, hm⟩
    · obtain ⟨x0, h0, _⟩ := each 0 hp
      have h00 := h0.1
      obtain ⟨b, o, spot⟩ := a
      have hspot : spot = none := by simpa [Addr.add] using World.cell?_spot h00
      subst hspot
      refine ⟨b, o, rfl, World.block_lt_of_cell? W (a := ⟨b, o, none⟩) (u := .int .i64 x0.kind) (by simpa [Addr.add] using h00), fun j x hx => ?_⟩
      have h1 := (hP j x hx).1
      simp only [Addr.add_lit, Nat.add_zero] at h1
      exact h1
    · obtain ⟨j, hj⟩ := List.getElem?_of_mem hx
      exact (hP j x hj).2
end Go.Proofs.Ytkjaljfoaagfdaa.frame
