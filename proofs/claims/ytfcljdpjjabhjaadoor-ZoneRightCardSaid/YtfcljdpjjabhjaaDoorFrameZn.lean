/- How a zone that comes in reads, in the words of the kit (stage 11). No condition. -/
import Derived.Test.YtfcljdpjjabhjaaDoorFrameCf
import Derived.Test.YtfcljdpjjabhjaaDoorKitZn
namespace Go.Proofs.YtfcljdpjjabhjaaDoor.frame
open Go Go.ChangeShapes Go.WideShapes Go.ChangeAt Go.RowKit Go.Proofs.YtfcljdpjjabhjaaDoor.kit Go.Proofs.YtfcljdpjjabhjaaDoor.nums Go.Proofs.YtfcljdpjjabhjaaDoor.cf Go.Proofs.YtfcljdpjjabhjaaDoor.zn Go.Proofs.YtfcljdpjjabhjaaDoor.ref9
set_option linter.unusedVariables false

theorem long6 {α : Type} (l : List α) (h : l.length = 6) : ∃ a0 a1 a2 a3 a4 a5, l = [a0, a1, a2, a3, a4, a5] := by
  match l, h with
  | [a0, a1, a2, a3, a4, a5], _ => exact ⟨a0, a1, a2, a3, a4, a5, rfl⟩
theorem isl_of_trod {H : Type} {enc : TypeId × Value → H} {W : World} {v : Value} {n : Nat} {y : DataW H × List MemPlace}
    (h : DataW.trod enc Tryd.prog W 0 (fun _ => true) true n 22 [v] = some y) : ∃ A len cap l, v = .slice A len cap ∧ RdV W W.heap.size A len (i64s l) := by
  have key : ∀ (A : Option Addr) (len cap : Nat), v = .slice A len cap → ∃ A len cap l, v = .slice A len cap ∧ RdV W W.heap.size A len (i64s l) := fun A len cap e => by
    subst e
    obtain ⟨l, hR, _⟩ := rdi_of_trod (d := y.1) (p := y.2) (A := A) (len := len) (cap := cap) ⟨n, h⟩
    exact ⟨A, len, cap, l, rfl, hR⟩
  rcases open_ints Tryd.underlying22 Tryd.underlying3 (by kernel_rfl) h with ⟨hcs, _⟩ | ⟨x, l, c, zs, hcs, _⟩
  · simp at hcs; exact key _ _ _ hcs
  · simp at hcs; exact key _ _ _ hcs
set_option maxRecDepth 100000 in
theorem zn_of_cells {H : Type} {enc : TypeId × Value → H} {W : World} {n : Nat} {cs : List Value} {y : DataW H × List MemPlace} (h : DataW.trod enc Tryd.prog W 0 (fun _ => true) true n 24 cs = some y) : ∃ (a : ZnA) (z : ZnL), cs = [.slice a.a1 a.n1 a.c1, .slice a.a2 a.n2 a.c2, .slice a.a3 a.n3 a.c3, .int .i64 z.e, .int .i64 z.k, .int .i64 z.s] ∧ RdZ0 W W.heap.size a z := by
  obtain ⟨xs, m, _, _, hl, hxl, hF⟩ := DataW.trod_struct Tryd.underlying24 h
  have hc : Tryd.prog.cellsOf 24 = 6 := by kernel_rfl
  rw [hc] at hl
  obtain ⟨c0, c1, c2, c3, c4, c5, rfl⟩ := long6 cs hl
  obtain ⟨y0, y1, y2, y3, y4, y5, rfl⟩ := long6 xs hxl
  have ks : Tryd.prog.cellsOf 22 = 1 := by kernel_rfl
  have ki : Tryd.prog.cellsOf 3 = 1 := by kernel_rfl
  have f0 : DataW.trod enc Tryd.prog W 0 (fun _ => true) true m 22 [c0] = some y0 := by have h := hF 0 { name := "Voters", type := 22, offset := 0, embedded := false, tag := "", pkgPath := "", byteOffset := 0 } rfl; dsimp only at h; rw [ks] at h; exact h
  have f1 : DataW.trod enc Tryd.prog W 0 (fun _ => true) true m 22 [c1] = some y1 := by have h := hF 1 { name := "Witnesses", type := 22, offset := 1, embedded := false, tag := "", pkgPath := "", byteOffset := 24 } rfl; dsimp only at h; rw [ks] at h; exact h
  have f2 : DataW.trod enc Tryd.prog W 0 (fun _ => true) true m 22 [c2] = some y2 := by have h := hF 2 { name := "Learners", type := 22, offset := 2, embedded := false, tag := "", pkgPath := "", byteOffset := 48 } rfl; dsimp only at h; rw [ks] at h; exact h
  have f3 : DataW.trod enc Tryd.prog W 0 (fun _ => true) true m 3 [c3] = some y3 := by have h := hF 3 { name := "Elect", type := 3, offset := 3, embedded := false, tag := "", pkgPath := "", byteOffset := 72 } rfl; dsimp only at h; rw [ki] at h; exact h
  have f4 : DataW.trod enc Tryd.prog W 0 (fun _ => true) true m 3 [c4] = some y4 := by have h := hF 4 { name := "Commit", type := 3, offset := 4, embedded := false, tag := "", pkgPath := "", byteOffset := 80 } rfl; dsimp only at h; rw [ki] at h; exact h
  have f5 : DataW.trod enc Tryd.prog W 0 (fun _ => true) true m 3 [c5] = some y5 := by have h := hF 5 { name := "Survive", type := 3, offset := 5, embedded := false, tag := "", pkgPath := "", byteOffset := 88 } rfl; dsimp only at h; rw [ki] at h; exact h
  obtain ⟨A1, n1, k1, l1, rfl, r1⟩ := isl_of_trod f0
  obtain ⟨A2, n2, k2, l2, rfl, r2⟩ := isl_of_trod f1
  obtain ⟨A3, n3, k3, l3, rfl, r3⟩ := isl_of_trod f2
  obtain ⟨z3, rfl, _⟩ := intc_of_trod f3
  obtain ⟨z4, rfl, _⟩ := intc_of_trod f4
  obtain ⟨z5, rfl, _⟩ := intc_of_trod f5
  exact ⟨⟨A1, n1, k1, A2, n2, k2, A3, n3, k3⟩, ⟨l1, l2, l3, z3, z4, z5⟩, rfl, r1, r2, r3⟩
theorem zn_of_trod {H : Type} {enc : TypeId × Value → H} {W : World} {cs : Array Value} {d : DataW H} {p : List MemPlace} (h : DataW.Trod enc Tryd.prog W 0 (fun _ => true) true 24 (.agg cs) d p) : ∃ (a : ZnA) (z : ZnL), Value.agg cs = znV a z ∧ RdZ0 W W.heap.size a z := by
  obtain ⟨fuel, hf⟩ := h
  simp only [Value.cells] at hf
  obtain ⟨a, z, h1, h2⟩ := zn_of_cells hf
  refine ⟨a, z, ?_, h2⟩
  unfold znV
  congr 1
  apply Array.toList_inj.1; rw [h1]
end Go.Proofs.YtfcljdpjjabhjaaDoor.frame
