/- How configurations, joints, and slices of configurations, that come in read, in the words of the kit (stage 10). No condition. -/
import Derived.Test.YtfcljdpjjabhjaaDoorFrameV
import Derived.Test.YtfcljdpjjabhjaaDoorKitCf
namespace Go.Proofs.YtfcljdpjjabhjaaDoor.frame
open Go Go.ChangeShapes Go.WideShapes Go.ChangeAt Go.RowKit Go.Proofs.YtfcljdpjjabhjaaDoor.kit Go.Proofs.YtfcljdpjjabhjaaDoor.nums Go.Proofs.YtfcljdpjjabhjaaDoor.cf
set_option linter.unusedVariables false

theorem long3 {α : Type} (l : List α) (h : l.length = 3) : ∃ a0 a1 a2, l = [a0, a1, a2] := by
  match l, h with
  | [a0, a1, a2], _ => exact ⟨a0, a1, a2, rfl⟩
theorem long5 {α : Type} (l : List α) (h : l.length = 5) : ∃ a0 a1 a2 a3 a4, l = [a0, a1, a2, a3, a4] := by
  match l, h with
  | [a0, a1, a2, a3, a4], _ => exact ⟨a0, a1, a2, a3, a4, rfl⟩
theorem long11 {α : Type} (l : List α) (h : l.length = 11) : ∃ a0 a1 a2 a3 a4 a5 a6 a7 a8 a9 a10, l = [a0, a1, a2, a3, a4, a5, a6, a7, a8, a9, a10] := by
  match l, h with
  | [a0, a1, a2, a3, a4, a5, a6, a7, a8, a9, a10], _ => exact ⟨a0, a1, a2, a3, a4, a5, a6, a7, a8, a9, a10, rfl⟩
theorem boolc_of_trod {H : Type} {enc : TypeId × Value → H} {W : World} {n : Nat} {v : Value} {y : DataW H × List MemPlace} (h : DataW.trod enc Tryd.prog W 0 (fun _ => true) true n 4 [v] = some y) : ∃ z, v = .bool z := by
  obtain ⟨z, h1, _⟩ := DataW.trod_bool Tryd.underlying4 h
  simp at h1
  exact ⟨z, h1⟩
theorem intc_of_trod {H : Type} {enc : TypeId × Value → H} {W : World} {n : Nat} {v : Value} {y : DataW H × List MemPlace} (h : DataW.trod enc Tryd.prog W 0 (fun _ => true) true n 3 [v] = some y) : ∃ z, v = .int .i64 z ∧ In64 z := by
  obtain ⟨z, h1, _, hw⟩ := DataW.trod_int Tryd.underlying3 h
  simp at h1
  exact ⟨z, h1, by unfold In64; simpa [Lit.wf, IntKind.min, IntKind.max, IntKind.signed, IntKind.bits] using hw⟩
theorem setc_of_trod {H : Type} {enc : TypeId × Value → H} {W : World} {n : Nat} {v : Value} {y : DataW H × List MemPlace} (h : DataW.trod enc Tryd.prog W 0 (fun _ => true) true n 28 [v] = some y) : ∃ z : Nat, v = .int .u16 (z : Int) ∧ z < 65536 := by
  obtain ⟨z, h1, _, hw⟩ := DataW.trod_int Tryd.underlying28 h
  simp at h1
  have hb : 0 ≤ z ∧ z ≤ 65535 := by simpa [Lit.wf, IntKind.min, IntKind.max, IntKind.signed, IntKind.bits] using hw
  exact ⟨z.toNat, by rw [h1]; congr 1; omega, by omega⟩
set_option maxRecDepth 100000 in
theorem cf_of_cells {H : Type} {enc : TypeId × Value → H} {W : World} {n : Nat} {cs : List Value} {y : DataW H × List MemPlace} (h : DataW.trod enc Tryd.prog W 0 (fun _ => true) true n 30 cs = some y) : ∃ c : CfL, cs = cfC c ∧ c.ok := by
  obtain ⟨xs, m, _, _, hl, hxl, hF⟩ := DataW.trod_struct Tryd.underlying30 h
  have hc : Tryd.prog.cellsOf 30 = 5 := by kernel_rfl
  rw [hc] at hl
  obtain ⟨c0, c1, c2, c3, c4, rfl⟩ := long5 cs hl
  obtain ⟨y0, y1, y2, y3, y4, rfl⟩ := long5 xs hxl
  have k0 : Tryd.prog.cellsOf 28 = 1 := by kernel_rfl
  have f0 : DataW.trod enc Tryd.prog W 0 (fun _ => true) true m 28 [c0] = some y0 := by have h := hF 0 { name := "Voters", type := 28, offset := 0, embedded := false, tag := "", pkgPath := "", byteOffset := 0 } rfl; dsimp only at h; rw [k0] at h; exact h
  have k1 : Tryd.prog.cellsOf 28 = 1 := by kernel_rfl
  have f1 : DataW.trod enc Tryd.prog W 0 (fun _ => true) true m 28 [c1] = some y1 := by have h := hF 1 { name := "Witnesses", type := 28, offset := 1, embedded := false, tag := "", pkgPath := "", byteOffset := 2 } rfl; dsimp only at h; rw [k1] at h; exact h
  have k2 : Tryd.prog.cellsOf 28 = 1 := by kernel_rfl
  have f2 : DataW.trod enc Tryd.prog W 0 (fun _ => true) true m 28 [c2] = some y2 := by have h := hF 2 { name := "Learners", type := 28, offset := 2, embedded := false, tag := "", pkgPath := "", byteOffset := 4 } rfl; dsimp only at h; rw [k2] at h; exact h
  have k3 : Tryd.prog.cellsOf 3 = 1 := by kernel_rfl
  have f3 : DataW.trod enc Tryd.prog W 0 (fun _ => true) true m 3 [c3] = some y3 := by have h := hF 3 { name := "Elect", type := 3, offset := 3, embedded := false, tag := "", pkgPath := "", byteOffset := 8 } rfl; dsimp only at h; rw [k3] at h; exact h
  have k4 : Tryd.prog.cellsOf 3 = 1 := by kernel_rfl
  have f4 : DataW.trod enc Tryd.prog W 0 (fun _ => true) true m 3 [c4] = some y4 := by have h := hF 4 { name := "Commit", type := 3, offset := 4, embedded := false, tag := "", pkgPath := "", byteOffset := 16 } rfl; dsimp only at h; rw [k4] at h; exact h
  obtain ⟨z0, rfl, b0⟩ := setc_of_trod f0
  obtain ⟨z1, rfl, b1⟩ := setc_of_trod f1
  obtain ⟨z2, rfl, b2⟩ := setc_of_trod f2
  obtain ⟨z3, rfl, b3⟩ := intc_of_trod f3
  obtain ⟨z4, rfl, b4⟩ := intc_of_trod f4
  exact ⟨⟨z0, z1, z2, z3, z4⟩, rfl, b0, b1, b2, b3, b4⟩
set_option maxRecDepth 100000 in
theorem jt_of_cells {H : Type} {enc : TypeId × Value → H} {W : World} {n : Nat} {cs : List Value} {y : DataW H × List MemPlace} (h : DataW.trod enc Tryd.prog W 0 (fun _ => true) true n 43 cs = some y) : ∃ j : JtL, cs = jtC j ∧ j.ok := by
  obtain ⟨xs, m, _, _, hl, hxl, hF⟩ := DataW.trod_struct Tryd.underlying43 h
  have hc : Tryd.prog.cellsOf 43 = 11 := by kernel_rfl
  rw [hc] at hl
  obtain ⟨c0, c1, c2, c3, c4, c5, c6, c7, c8, c9, c10, rfl⟩ := long11 cs hl
  obtain ⟨y0, y1, y2, rfl⟩ := long3 xs hxl
  have k0 : Tryd.prog.cellsOf 30 = 5 := by kernel_rfl
  have f0 : DataW.trod enc Tryd.prog W 0 (fun _ => true) true m 30 [c0, c1, c2, c3, c4] = some y0 := by have h := hF 0 { name := "Old", type := 30, offset := 0, embedded := false, tag := "", pkgPath := "", byteOffset := 0 } rfl; dsimp only at h; rw [k0] at h; exact h
  have k1 : Tryd.prog.cellsOf 30 = 5 := by kernel_rfl
  have f1 : DataW.trod enc Tryd.prog W 0 (fun _ => true) true m 30 [c5, c6, c7, c8, c9] = some y1 := by have h := hF 1 { name := "New", type := 30, offset := 5, embedded := false, tag := "", pkgPath := "", byteOffset := 24 } rfl; dsimp only at h; rw [k1] at h; exact h
  have k2 : Tryd.prog.cellsOf 4 = 1 := by kernel_rfl
  have f2 : DataW.trod enc Tryd.prog W 0 (fun _ => true) true m 4 [c10] = some y2 := by have h := hF 2 { name := "Two", type := 4, offset := 10, embedded := false, tag := "", pkgPath := "", byteOffset := 48 } rfl; dsimp only at h; rw [k2] at h; exact h
  obtain ⟨a, e0, o0⟩ := cf_of_cells f0
  obtain ⟨b, e1, o1⟩ := cf_of_cells f1
  obtain ⟨z2, rfl⟩ := boolc_of_trod f2
  simp only [cfC, List.cons.injEq, and_true] at e0 e1
  obtain ⟨rfl, rfl, rfl, rfl, rfl⟩ := e0
  obtain ⟨rfl, rfl, rfl, rfl, rfl⟩ := e1
  exact ⟨⟨a, b, z2⟩, rfl, o0, o1⟩
theorem cf_of_trod {H : Type} {enc : TypeId × Value → H} {W : World} {cs : Array Value} {d : DataW H} {p : List MemPlace} (h : DataW.Trod enc Tryd.prog W 0 (fun _ => true) true 30 (.agg cs) d p) : ∃ c : CfL, cs = (cfC c).toArray ∧ c.ok := by
  obtain ⟨fuel, hf⟩ := h
  simp only [Value.cells] at hf
  obtain ⟨c, h1, h2⟩ := cf_of_cells hf
  exact ⟨c, by apply Array.toList_inj.1; rw [h1], h2⟩
theorem jt_of_trod {H : Type} {enc : TypeId × Value → H} {W : World} {cs : Array Value} {d : DataW H} {p : List MemPlace} (h : DataW.Trod enc Tryd.prog W 0 (fun _ => true) true 43 (.agg cs) d p) : ∃ j : JtL, cs = (jtC j).toArray ∧ j.ok := by
  obtain ⟨fuel, hf⟩ := h
  simp only [Value.cells] at hf
  obtain ⟨c, h1, h2⟩ := jt_of_cells hf
  exact ⟨c, by apply Array.toList_inj.1; rw [h1], h2⟩
set_option maxRecDepth 100000 in
theorem rdcf_of_trod {H : Type} {enc : TypeId × Value → H} {W : World} {A : Option Addr} {len cap : Nat} {d : DataW H} {p : List MemPlace}
    (h : DataW.Trod enc Tryd.prog W 0 (fun _ => true) true 63 (.slice A len cap) d p) : ∃ xs : List CfL, RdCf W W.heap.size A len xs ∧ len ≤ cap ∧ cap ≤ maxLen := by
  obtain ⟨fuel, hf⟩ := h
  rcases DataW.trod_slice Tryd.underlying63 hf with ⟨hcs, _⟩ | ⟨a, l, c, elems, rest, n, _, hcs, _, _, hl, hm, hlen, hel, _⟩
  · simp [Value.cells] at hcs
    obtain ⟨rfl, rfl, rfl⟩ := hcs
    exact ⟨[], ⟨rfl, fun h => absurd h (by omega)⟩, Nat.le_refl _, by unfold maxLen; omega⟩
  · simp [Value.cells] at hcs
    obtain ⟨rfl, rfl, rfl⟩ := hcs
    have hc : Tryd.prog.cellsOf 30 = 5 := by kernel_rfl
    have each : ∀ i, i < len → ∃ x : CfL, (∃ c1 : List Value, c1.length = 5 ∧ (∀ j, j < 5 → W.cell? ((a.add (i * 5)).add j) = c1[j]?) ∧ c1 = cfC x ∧ x.ok) ∧ True := fun i hi => by
      have hE := hel i hi
      rw [hc] at hE
      have hy : elems[i]? = some elems[i] := List.getElem?_eq_getElem (by omega)
      rw [hy, Option.bind_eq_some_iff] at hE
      obtain ⟨c1, hc1, hy1⟩ := hE
      obtain ⟨_, h6, hcell⟩ := World.cells?_some hc1
      obtain ⟨x, hx⟩ := cf_of_cells hy1
      exact ⟨x, ⟨c1, h6, fun j hj => hcell j (by omega), hx⟩, trivial⟩
    obtain ⟨L, hL, hP⟩ := gather len each
    refine ⟨L, ⟨hL, fun hp => ?_⟩, hl, hm⟩
    obtain ⟨x0, ⟨c0, hc0, h0, _⟩, _⟩ := each 0 hp
    have h00 := h0 0 (by omega)
    rw [List.getElem?_eq_getElem (by omega)] at h00
    obtain ⟨b, o, spot⟩ := a
    have hspot : spot = none := by simpa [Addr.add] using World.cell?_spot h00
    subst hspot
    refine ⟨b, o, rfl, World.block_lt_of_cell? W (a := ⟨b, o, none⟩) (by simpa [Addr.add] using h00), fun j x hx => ?_⟩
    obtain ⟨c1, hc1, hcell, hf, hok⟩ := (hP j x hx).1
    have hAt : At W b (o + j * 5) c1 := fun q u hu => by
      have hq : q < 5 := by have := (List.getElem?_eq_some_iff.1 hu).1; omega
      have := hcell q hq
      simp only [Addr.add_lit] at this
      rw [this]; exact hu
    rw [hf] at hAt
    exact ⟨hAt, hok⟩
end Go.Proofs.YtfcljdpjjabhjaaDoor.frame
