/- How cores, messages, slices of messages that come in read, in the words of the kit (stage 13). No condition. -/
import Derived.Test.YtegnfkbmlalkeaaGreatSpJ1
import Derived.Test.YtegnfkbmlalkeaaGreatSpJ4
set_option linter.unusedVariables false
set_option maxHeartbeats 16000000
set_option maxRecDepth 10000
namespace Go.Proofs.YtegnfkbmlalkeaaGreat.frame
open Go Go.ChangeShapes Go.WideShapes Go.ChangeAt Go.RowKit kit nums cf lg cr
theorem long10 {α : Type} (l : List α) (h : l.length = 10) : ∃ a0 a1 a2 a3 a4 a5 a6 a7 a8 a9, l = [a0, a1, a2, a3, a4, a5, a6, a7, a8, a9] := by
 match l, h with
 | [a0, a1, a2, a3, a4, a5, a6, a7, a8, a9], _ => exact ⟨a0, a1, a2, a3, a4, a5, a6, a7, a8, a9, rfl⟩
theorem long45 {α : Type} (l : List α) (h : l.length = 45) : ∃ a0 a1 a2 a3 a4 a5 a6 a7 a8 a9 a10 a11 a12 a13 a14 a15 a16 a17 a18 a19 a20 a21 a22 a23 a24 a25 a26 a27 a28 a29 a30 a31 a32 a33 a34 a35 a36 a37 a38 a39 a40 a41 a42 a43 a44, l = [a0, a1, a2, a3, a4, a5, a6, a7, a8, a9, a10, a11, a12, a13, a14, a15, a16, a17, a18, a19, a20, a21, a22, a23, a24, a25, a26, a27, a28, a29, a30, a31, a32, a33, a34, a35, a36, a37, a38, a39, a40, a41, a42, a43, a44] := by
 rcases l with _ | ⟨a0, l⟩
 · exact absurd h (by simp)
 replace h : l.length = 44 := by simpa using h
 rcases l with _ | ⟨a1, l⟩
 · exact absurd h (by simp)
 replace h : l.length = 43 := by simpa using h
 rcases l with _ | ⟨a2, l⟩
 · exact absurd h (by simp)
 replace h : l.length = 42 := by simpa using h
 rcases l with _ | ⟨a3, l⟩
 · exact absurd h (by simp)
 replace h : l.length = 41 := by simpa using h
 rcases l with _ | ⟨a4, l⟩
 · exact absurd h (by simp)
 replace h : l.length = 40 := by simpa using h
 rcases l with _ | ⟨a5, l⟩
 · exact absurd h (by simp)
 replace h : l.length = 39 := by simpa using h
 rcases l with _ | ⟨a6, l⟩
 · exact absurd h (by simp)
 replace h : l.length = 38 := by simpa using h
 rcases l with _ | ⟨a7, l⟩
 · exact absurd h (by simp)
 replace h : l.length = 37 := by simpa using h
 rcases l with _ | ⟨a8, l⟩
 · exact absurd h (by simp)
 replace h : l.length = 36 := by simpa using h
 rcases l with _ | ⟨a9, l⟩
 · exact absurd h (by simp)
 replace h : l.length = 35 := by simpa using h
 rcases l with _ | ⟨a10, l⟩
 · exact absurd h (by simp)
 replace h : l.length = 34 := by simpa using h
 rcases l with _ | ⟨a11, l⟩
 · exact absurd h (by simp)
 replace h : l.length = 33 := by simpa using h
 rcases l with _ | ⟨a12, l⟩
 · exact absurd h (by simp)
 replace h : l.length = 32 := by simpa using h
 rcases l with _ | ⟨a13, l⟩
 · exact absurd h (by simp)
 replace h : l.length = 31 := by simpa using h
 rcases l with _ | ⟨a14, l⟩
 · exact absurd h (by simp)
 replace h : l.length = 30 := by simpa using h
 rcases l with _ | ⟨a15, l⟩
 · exact absurd h (by simp)
 replace h : l.length = 29 := by simpa using h
 rcases l with _ | ⟨a16, l⟩
 · exact absurd h (by simp)
 replace h : l.length = 28 := by simpa using h
 rcases l with _ | ⟨a17, l⟩
 · exact absurd h (by simp)
 replace h : l.length = 27 := by simpa using h
 rcases l with _ | ⟨a18, l⟩
 · exact absurd h (by simp)
 replace h : l.length = 26 := by simpa using h
 rcases l with _ | ⟨a19, l⟩
 · exact absurd h (by simp)
 replace h : l.length = 25 := by simpa using h
 rcases l with _ | ⟨a20, l⟩
 · exact absurd h (by simp)
 replace h : l.length = 24 := by simpa using h
 rcases l with _ | ⟨a21, l⟩
 · exact absurd h (by simp)
 replace h : l.length = 23 := by simpa using h
 rcases l with _ | ⟨a22, l⟩
 · exact absurd h (by simp)
 replace h : l.length = 22 := by simpa using h
 rcases l with _ | ⟨a23, l⟩
 · exact absurd h (by simp)
 replace h : l.length = 21 := by simpa using h
 rcases l with _ | ⟨a24, l⟩
 · exact absurd h (by simp)
 replace h : l.length = 20 := by simpa using h
 rcases l with _ | ⟨a25, l⟩
 · exact absurd h (by simp)
 replace h : l.length = 19 := by simpa using h
 rcases l with _ | ⟨a26, l⟩
 · exact absurd h (by simp)
 replace h : l.length = 18 := by simpa using h
 rcases l with _ | ⟨a27, l⟩
 · exact absurd h (by simp)
 replace h : l.length = 17 := by simpa using h
 rcases l with _ | ⟨a28, l⟩
 · exact absurd h (by simp)
 replace h : l.length = 16 := by simpa using h
 rcases l with _ | ⟨a29, l⟩
 · exact absurd h (by simp)
 replace h : l.length = 15 := by simpa using h
 rcases l with _ | ⟨a30, l⟩
 · exact absurd h (by simp)
 replace h : l.length = 14 := by simpa using h
 rcases l with _ | ⟨a31, l⟩
 · exact absurd h (by simp)
 replace h : l.length = 13 := by simpa using h
 rcases l with _ | ⟨a32, l⟩
 · exact absurd h (by simp)
 replace h : l.length = 12 := by simpa using h
 rcases l with _ | ⟨a33, l⟩
 · exact absurd h (by simp)
 replace h : l.length = 11 := by simpa using h
 rcases l with _ | ⟨a34, l⟩
 · exact absurd h (by simp)
 replace h : l.length = 10 := by simpa using h
 rcases l with _ | ⟨a35, l⟩
 · exact absurd h (by simp)
 replace h : l.length = 9 := by simpa using h
 rcases l with _ | ⟨a36, l⟩
 · exact absurd h (by simp)
 replace h : l.length = 8 := by simpa using h
 rcases l with _ | ⟨a37, l⟩
 · exact absurd h (by simp)
 replace h : l.length = 7 := by simpa using h
 rcases l with _ | ⟨a38, l⟩
 · exact absurd h (by simp)
 replace h : l.length = 6 := by simpa using h
 rcases l with _ | ⟨a39, l⟩
 · exact absurd h (by simp)
 replace h : l.length = 5 := by simpa using h
 rcases l with _ | ⟨a40, l⟩
 · exact absurd h (by simp)
 replace h : l.length = 4 := by simpa using h
 rcases l with _ | ⟨a41, l⟩
 · exact absurd h (by simp)
 replace h : l.length = 3 := by simpa using h
 rcases l with _ | ⟨a42, l⟩
 · exact absurd h (by simp)
 replace h : l.length = 2 := by simpa using h
 rcases l with _ | ⟨a43, l⟩
 · exact absurd h (by simp)
 replace h : l.length = 1 := by simpa using h
 rcases l with _ | ⟨a44, l⟩
 · exact absurd h (by simp)
 replace h : l.length = 0 := by simpa using h
 obtain rfl : l = [] := List.length_eq_zero_iff.1 h
 exact ⟨a0, a1, a2, a3, a4, a5, a6, a7, a8, a9, a10, a11, a12, a13, a14, a15, a16, a17, a18, a19, a20, a21, a22, a23, a24, a25, a26, a27, a28, a29, a30, a31, a32, a33, a34, a35, a36, a37, a38, a39, a40, a41, a42, a43, a44, rfl⟩
theorem enk_of_cells {H : Type} {enc : TypeId × Value → H} {W : World} {n : Nat} {cs : List Value} {y : DataW H × List MemPlace} (h : DataW.trod enc Tryz.prog W 0 (fun _ => true) true n 52 cs = some y) : ∃ x : EnL, cs = enC x ∧ x.j.ok := by
 obtain ⟨xs, m, _, _, hl, hxl, hF⟩ := DataW.trod_struct Tryz.underlying52 h
 have hc : Tryz.prog.cellsOf 52 = 14 := by kernel_rfl
 rw [hc] at hl
 obtain ⟨c0, c1, c2, c3, c4, c5, c6, c7, c8, c9, c10, c11, c12, c13, rfl⟩ := long14 cs hl
 obtain ⟨y0, y1, y2, y3, rfl⟩ := long4 xs hxl
 have ki : Tryz.prog.cellsOf 3 = 1 := by kernel_rfl
 have kt : Tryz.prog.cellsOf 9 = 1 := by kernel_rfl
 have kj : Tryz.prog.cellsOf 27 = 11 := by kernel_rfl
 have f0 : DataW.trod enc Tryz.prog W 0 (fun _ => true) true m 3 [c0] = some y0 := by have h := hF 0 { name := "Term", type := 3, offset := 0, embedded := false, tag := "", pkgPath := "", byteOffset := 0 } rfl; dsimp only at h; rw [ki] at h; exact h
 have f1 : DataW.trod enc Tryz.prog W 0 (fun _ => true) true m 3 [c1] = some y1 := by have h := hF 1 { name := "Kind", type := 3, offset := 1, embedded := false, tag := "", pkgPath := "", byteOffset := 8 } rfl; dsimp only at h; rw [ki] at h; exact h
 have f2 : DataW.trod enc Tryz.prog W 0 (fun _ => true) true m 9 [c2] = some y2 := by have h := hF 2 { name := "Data", type := 9, offset := 2, embedded := false, tag := "", pkgPath := "", byteOffset := 16 } rfl; dsimp only at h; rw [kt] at h; exact h
 have f3 : DataW.trod enc Tryz.prog W 0 (fun _ => true) true m 27 [c3, c4, c5, c6, c7, c8, c9, c10, c11, c12, c13] = some y3 := by have h := hF 3 { name := "Conf", type := 27, offset := 3, embedded := false, tag := "", pkgPath := "", byteOffset := 32 } rfl; dsimp only at h; rw [kj] at h; exact h
 obtain ⟨z0, rfl, _⟩ := intc_of_trod f0
 obtain ⟨z1, rfl, _⟩ := intc_of_trod f1
 obtain ⟨z2, rfl⟩ := textc_of_trod f2
 obtain ⟨j, e, hj⟩ := jt_of_cells f3
 refine ⟨⟨z0, z1, z2, j⟩, ?_, hj⟩
 show _ = .int .i64 z0 :: .int .i64 z1 :: .string z2 :: jtC j
 rw [← e]
theorem enk_of_trod {H : Type} {enc : TypeId × Value → H} {W : World} {cs : Array Value} {d : DataW H} {p : List MemPlace} (h : DataW.Trod enc Tryz.prog W 0 (fun _ => true) true 52 (.agg cs) d p) : ∃ x : EnL, Value.agg cs = enV x ∧ x.j.ok := by
 obtain ⟨fuel, hf⟩ := h
 simp only [Value.cells] at hf
 obtain ⟨x, h1, h2⟩ := enk_of_cells hf
 refine ⟨x, ?_, h2⟩
 unfold enV
 congr 1
 apply Array.toList_inj.1; rw [h1]; rfl
theorem rdek_of_trod {H : Type} {enc : TypeId × Value → H} {W : World} {A : Option Addr} {len cap : Nat} {d : DataW H} {p : List MemPlace}
  (h : DataW.Trod enc Tryz.prog W 0 (fun _ => true) true 28 (.slice A len cap) d p) : ∃ xs : List EnL, RdE W W.heap.size A len xs ∧ len ≤ cap ∧ cap ≤ maxLen ∧ ∀ x ∈ xs, x.j.ok := by
 obtain ⟨fuel, hf⟩ := h
 rcases DataW.trod_slice Tryz.underlying28 hf with ⟨hcs, _⟩ | ⟨a, l, c, elems, rest, n, _, hcs, _, _, hl, hm, hlen, hel, _⟩
 ·
  simp [Value.cells] at hcs
  obtain ⟨rfl, rfl, rfl⟩ := hcs
  exact ⟨[], RdE.nil _ _ _, Nat.le_refl _, by unfold maxLen; omega, fun x hx => by cases hx⟩
 ·
  simp [Value.cells] at hcs
  obtain ⟨rfl, rfl, rfl⟩ := hcs
  have hc : Tryz.prog.cellsOf 52 = 14 := by kernel_rfl
  have each : ∀ i, i < len → ∃ x : EnL, (∃ c1 : List Value, c1.length = 14 ∧ (∀ j, j < 14 → W.cell? ((a.add (i * 14)).add j) = c1[j]?) ∧ c1 = enC x) ∧ x.j.ok := fun i hi => by
   have hE := hel i hi
   rw [hc] at hE
   have hy : elems[i]? = some elems[i] := List.getElem?_eq_getElem (by omega)
   rw [hy, Option.bind_eq_some_iff] at hE
   obtain ⟨c1, hc1, hy1⟩ := hE
   obtain ⟨_, h6, hcell⟩ := World.cells?_some hc1
   obtain ⟨x, hx, hj⟩ := enk_of_cells hy1
   exact ⟨x, ⟨c1, h6, fun j hj => hcell j (by omega), hx⟩, hj⟩
  obtain ⟨L, hL, hP⟩ := gather len each
  refine ⟨L, ⟨hL, fun hp => ?_⟩, hl, hm, fun x hx => ?_⟩
  ·
   obtain ⟨x0, ⟨c0, hc0, h0, _⟩, _⟩ := each 0 hp
   have h00 := h0 0 (by omega)
   rw [List.getElem?_eq_getElem (by omega)] at h00
   obtain ⟨b, o, spot⟩ := a
   have hspot : spot = none := by simpa [Addr.add] using World.cell?_spot h00
   subst hspot
   refine ⟨b, o, rfl, World.block_lt_of_cell? W (a := ⟨b, o, none⟩) (by simpa [Addr.add] using h00), fun j x hx => ?_⟩
   obtain ⟨c1, hc1, hcell, hf⟩ := (hP j x hx).1
   have hAt : At W b (o + j * 14) c1 := fun q u hu => by
    have hq : q < 14 := by have := (List.getElem?_eq_some_iff.1 hu).1; omega
    have := hcell q hq
    simp only [Addr.add_lit] at this
    rw [this]; exact hu
   rw [hf] at hAt
   exact hAt
  ·
   obtain ⟨j, hj, e⟩ := List.mem_iff_getElem.1 hx
   exact (hP j x (by rw [List.getElem?_eq_getElem hj, e])).2
theorem eslk_of_trod {H : Type} {enc : TypeId × Value → H} {W : World} {v : Value} {n : Nat} {y : DataW H × List MemPlace}
  (h : DataW.trod enc Tryz.prog W 0 (fun _ => true) true n 28 [v] = some y) : ∃ A len cap xs, v = .slice A len cap ∧ RdE W W.heap.size A len xs ∧ len ≤ cap ∧ cap ≤ maxLen ∧ ∀ x ∈ xs, x.j.ok := by
 have key : ∀ (A : Option Addr) (len cap : Nat), v = .slice A len cap → ∃ A len cap xs, v = .slice A len cap ∧ RdE W W.heap.size A len xs ∧ len ≤ cap ∧ cap ≤ maxLen ∧ ∀ x ∈ xs, x.j.ok := fun A len cap e => by
  subst e
  obtain ⟨l, hR, h1, h2, h3⟩ := rdek_of_trod (d := y.1) (p := y.2) (A := A) (len := len) (cap := cap) ⟨n, h⟩
  exact ⟨A, len, cap, l, rfl, hR, h1, h2, h3⟩
 rcases DataW.trod_slice Tryz.underlying28 h with ⟨hcs, _⟩ | ⟨a, l, c, elems, rest, n, _, hcs, _⟩
 · simp at hcs; exact key _ _ _ hcs
 · simp at hcs; exact key _ _ _ hcs
theorem lgk_of_cells {H : Type} {enc : TypeId × Value → H} {W : World} {n : Nat} {cs : List Value} {y : DataW H × List MemPlace} (h : DataW.trod enc Tryz.prog W 0 (fun _ => true) true n 30 cs = some y) : ∃ (L : LgL) (A : Option Addr) (len cap : Nat), cs = lgC L (.slice A len cap) ∧ RdE W W.heap.size A len L.es ∧ len ≤ cap ∧ cap ≤ maxLen ∧ L.j.ok ∧ ∀ x ∈ L.es, x.j.ok := by
 obtain ⟨xs, m, _, _, hl, hxl, hF⟩ := DataW.trod_struct Tryz.underlying30 h
 have hc : Tryz.prog.cellsOf 30 = 14 := by kernel_rfl
 rw [hc] at hl
 obtain ⟨c0, c1, c2, c3, c4, c5, c6, c7, c8, c9, c10, c11, c12, c13, rfl⟩ := long14 cs hl
 obtain ⟨y0, y1, y2, y3, rfl⟩ := long4 xs hxl
 have ki : Tryz.prog.cellsOf 3 = 1 := by kernel_rfl
 have kj : Tryz.prog.cellsOf 27 = 11 := by kernel_rfl
 have ks : Tryz.prog.cellsOf 28 = 1 := by kernel_rfl
 have f0 : DataW.trod enc Tryz.prog W 0 (fun _ => true) true m 3 [c0] = some y0 := by have h := hF 0 { name := "Base", type := 3, offset := 0, embedded := false, tag := "", pkgPath := "", byteOffset := 0 } rfl; dsimp only at h; rw [ki] at h; exact h
 have f1 : DataW.trod enc Tryz.prog W 0 (fun _ => true) true m 3 [c1] = some y1 := by have h := hF 1 { name := "BaseTerm", type := 3, offset := 1, embedded := false, tag := "", pkgPath := "", byteOffset := 8 } rfl; dsimp only at h; rw [ki] at h; exact h
 have f2 : DataW.trod enc Tryz.prog W 0 (fun _ => true) true m 27 [c2, c3, c4, c5, c6, c7, c8, c9, c10, c11, c12] = some y2 := by have h := hF 2 { name := "Conf", type := 27, offset := 2, embedded := false, tag := "", pkgPath := "", byteOffset := 16 } rfl; dsimp only at h; rw [kj] at h; exact h
 have f3 : DataW.trod enc Tryz.prog W 0 (fun _ => true) true m 28 [c13] = some y3 := by have h := hF 3 { name := "Entries", type := 28, offset := 13, embedded := false, tag := "", pkgPath := "", byteOffset := 72 } rfl; dsimp only at h; rw [ks] at h; exact h
 obtain ⟨z0, rfl, _⟩ := intc_of_trod f0
 obtain ⟨z1, rfl, _⟩ := intc_of_trod f1
 obtain ⟨j, e, hj⟩ := jt_of_cells f2
 obtain ⟨A, len, cap, es, rfl, hR, h1, h2, h3⟩ := eslk_of_trod f3
 refine ⟨⟨z0, z1, j, es⟩, A, len, cap, ?_, hR, h1, h2, hj, h3⟩
 show _ = .int .i64 z0 :: .int .i64 z1 :: (jtC j ++ [.slice A len cap])
 rw [← e]; rfl
theorem a10_of_cells {H : Type} {enc : TypeId × Value → H} {W : World} {n : Nat} {cs : List Value} {y : DataW H × List MemPlace} (h : DataW.trod enc Tryz.prog W 0 (fun _ => true) true n 31 cs = some y) : ∃ f : Nat → Int, cs = a10C f := by
 obtain ⟨xs, m, _, _, hl, hxl, hF⟩ := DataW.trod_array Tryz.underlying31 h
 have hc : Tryz.prog.cellsOf 31 = 10 := by kernel_rfl
 have ki : Tryz.prog.cellsOf 3 = 1 := by kernel_rfl
 rw [hc] at hl
 obtain ⟨c0, c1, c2, c3, c4, c5, c6, c7, c8, c9, rfl⟩ := long10 cs hl
 obtain ⟨y0, y1, y2, y3, y4, y5, y6, y7, y8, y9, rfl⟩ := long10 xs hxl
 have f0 : DataW.trod enc Tryz.prog W 0 (fun _ => true) true m 3 [c0] = some y0 := by have h := hF 0 (by omega); rw [ki] at h; exact h
 have f1 : DataW.trod enc Tryz.prog W 0 (fun _ => true) true m 3 [c1] = some y1 := by have h := hF 1 (by omega); rw [ki] at h; exact h
 have f2 : DataW.trod enc Tryz.prog W 0 (fun _ => true) true m 3 [c2] = some y2 := by have h := hF 2 (by omega); rw [ki] at h; exact h
 have f3 : DataW.trod enc Tryz.prog W 0 (fun _ => true) true m 3 [c3] = some y3 := by have h := hF 3 (by omega); rw [ki] at h; exact h
 have f4 : DataW.trod enc Tryz.prog W 0 (fun _ => true) true m 3 [c4] = some y4 := by have h := hF 4 (by omega); rw [ki] at h; exact h
 have f5 : DataW.trod enc Tryz.prog W 0 (fun _ => true) true m 3 [c5] = some y5 := by have h := hF 5 (by omega); rw [ki] at h; exact h
 have f6 : DataW.trod enc Tryz.prog W 0 (fun _ => true) true m 3 [c6] = some y6 := by have h := hF 6 (by omega); rw [ki] at h; exact h
 have f7 : DataW.trod enc Tryz.prog W 0 (fun _ => true) true m 3 [c7] = some y7 := by have h := hF 7 (by omega); rw [ki] at h; exact h
 have f8 : DataW.trod enc Tryz.prog W 0 (fun _ => true) true m 3 [c8] = some y8 := by have h := hF 8 (by omega); rw [ki] at h; exact h
 have f9 : DataW.trod enc Tryz.prog W 0 (fun _ => true) true m 3 [c9] = some y9 := by have h := hF 9 (by omega); rw [ki] at h; exact h
 obtain ⟨z0, rfl, _⟩ := intc_of_trod f0
 obtain ⟨z1, rfl, _⟩ := intc_of_trod f1
 obtain ⟨z2, rfl, _⟩ := intc_of_trod f2
 obtain ⟨z3, rfl, _⟩ := intc_of_trod f3
 obtain ⟨z4, rfl, _⟩ := intc_of_trod f4
 obtain ⟨z5, rfl, _⟩ := intc_of_trod f5
 obtain ⟨z6, rfl, _⟩ := intc_of_trod f6
 obtain ⟨z7, rfl, _⟩ := intc_of_trod f7
 obtain ⟨z8, rfl, _⟩ := intc_of_trod f8
 obtain ⟨z9, rfl, _⟩ := intc_of_trod f9
 exact ⟨fun i => [z0, z1, z2, z3, z4, z5, z6, z7, z8, z9].getD i 0, rfl⟩
theorem crk_of_cells {H : Type} {enc : TypeId × Value → H} {W : World} {n : Nat} {cs : List Value} {y : DataW H × List MemPlace} (h : DataW.trod enc Tryz.prog W 0 (fun _ => true) true n 33 cs = some y) : ∃ (c : CoL) (A : Option Addr) (len cap : Nat), cs = crC c (.slice A len cap) ∧ RdE W W.heap.size A len c.lg.es ∧ len ≤ cap ∧ cap ≤ maxLen ∧ c.lg.j.ok ∧ (∀ x ∈ c.lg.es, x.j.ok) ∧ c.vs < 65536 ∧ c.he < 65536 := by
 obtain ⟨xs, m, _, _, hl, hxl, hF⟩ := DataW.trod_struct Tryz.underlying33 h
 have hc : Tryz.prog.cellsOf 33 = 45 := by kernel_rfl
 rw [hc] at hl
 obtain ⟨c0, c1, c2, c3, c4, c5, c6, c7, c8, c9, c10, c11, c12, c13, c14, c15, c16, c17, c18, c19, c20, c21, c22, c23, c24, c25, c26, c27, c28, c29, c30, c31, c32, c33, c34, c35, c36, c37, c38, c39, c40, c41, c42, c43, c44, rfl⟩ := long45 cs hl
 obtain ⟨y0, y1, y2, y3, y4, y5, y6, y7, y8, y9, y10, y11, y12, y13, rfl⟩ := long14 xs hxl
 have ki : Tryz.prog.cellsOf 3 = 1 := by kernel_rfl
 have kl : Tryz.prog.cellsOf 30 = 14 := by kernel_rfl
 have kt : Tryz.prog.cellsOf 9 = 1 := by kernel_rfl
 have ku : Tryz.prog.cellsOf 23 = 1 := by kernel_rfl
 have ka : Tryz.prog.cellsOf 31 = 10 := by kernel_rfl
 have f0 : DataW.trod enc Tryz.prog W 0 (fun _ => true) true m 3 [c0] = some y0 := by have h := hF 0 { name := "ID", type := 3, offset := 0, embedded := false, tag := "", pkgPath := "", byteOffset := 0 } rfl; dsimp only at h; rw [ki] at h; exact h
 have f1 : DataW.trod enc Tryz.prog W 0 (fun _ => true) true m 3 [c1] = some y1 := by have h := hF 1 { name := "Role", type := 3, offset := 1, embedded := false, tag := "", pkgPath := "", byteOffset := 8 } rfl; dsimp only at h; rw [ki] at h; exact h
 have f2 : DataW.trod enc Tryz.prog W 0 (fun _ => true) true m 3 [c2] = some y2 := by have h := hF 2 { name := "Term", type := 3, offset := 2, embedded := false, tag := "", pkgPath := "", byteOffset := 16 } rfl; dsimp only at h; rw [ki] at h; exact h
 have f3 : DataW.trod enc Tryz.prog W 0 (fun _ => true) true m 3 [c3] = some y3 := by have h := hF 3 { name := "Vote", type := 3, offset := 3, embedded := false, tag := "", pkgPath := "", byteOffset := 24 } rfl; dsimp only at h; rw [ki] at h; exact h
 have f4 : DataW.trod enc Tryz.prog W 0 (fun _ => true) true m 3 [c4] = some y4 := by have h := hF 4 { name := "Lead", type := 3, offset := 4, embedded := false, tag := "", pkgPath := "", byteOffset := 32 } rfl; dsimp only at h; rw [ki] at h; exact h
 have f5 : DataW.trod enc Tryz.prog W 0 (fun _ => true) true m 3 [c5] = some y5 := by have h := hF 5 { name := "Wait", type := 3, offset := 5, embedded := false, tag := "", pkgPath := "", byteOffset := 40 } rfl; dsimp only at h; rw [ki] at h; exact h
 have f6 : DataW.trod enc Tryz.prog W 0 (fun _ => true) true m 3 [c6] = some y6 := by have h := hF 6 { name := "Commit", type := 3, offset := 6, embedded := false, tag := "", pkgPath := "", byteOffset := 48 } rfl; dsimp only at h; rw [ki] at h; exact h
 have f7 : DataW.trod enc Tryz.prog W 0 (fun _ => true) true m 3 [c7] = some y7 := by have h := hF 7 { name := "Safe", type := 3, offset := 7, embedded := false, tag := "", pkgPath := "", byteOffset := 56 } rfl; dsimp only at h; rw [ki] at h; exact h
 have f8 : DataW.trod enc Tryz.prog W 0 (fun _ => true) true m 30 [c8, c9, c10, c11, c12, c13, c14, c15, c16, c17, c18, c19, c20, c21] = some y8 := by have h := hF 8 { name := "Log", type := 30, offset := 8, embedded := false, tag := "", pkgPath := "", byteOffset := 64 } rfl; dsimp only at h; rw [kl] at h; exact h
 have f9 : DataW.trod enc Tryz.prog W 0 (fun _ => true) true m 9 [c22] = some y9 := by have h := hF 9 { name := "Snap", type := 9, offset := 22, embedded := false, tag := "", pkgPath := "", byteOffset := 160 } rfl; dsimp only at h; rw [kt] at h; exact h
 have f10 : DataW.trod enc Tryz.prog W 0 (fun _ => true) true m 23 [c23] = some y10 := by have h := hF 10 { name := "Votes", type := 23, offset := 23, embedded := false, tag := "", pkgPath := "", byteOffset := 176 } rfl; dsimp only at h; rw [ku] at h; exact h
 have f11 : DataW.trod enc Tryz.prog W 0 (fun _ => true) true m 23 [c24] = some y11 := by have h := hF 11 { name := "Heard", type := 23, offset := 24, embedded := false, tag := "", pkgPath := "", byteOffset := 178 } rfl; dsimp only at h; rw [ku] at h; exact h
 have f12 : DataW.trod enc Tryz.prog W 0 (fun _ => true) true m 31 [c25, c26, c27, c28, c29, c30, c31, c32, c33, c34] = some y12 := by have h := hF 12 { name := "Next", type := 31, offset := 25, embedded := false, tag := "", pkgPath := "", byteOffset := 184 } rfl; dsimp only at h; rw [ka] at h; exact h
 have f13 : DataW.trod enc Tryz.prog W 0 (fun _ => true) true m 31 [c35, c36, c37, c38, c39, c40, c41, c42, c43, c44] = some y13 := by have h := hF 13 { name := "Match", type := 31, offset := 35, embedded := false, tag := "", pkgPath := "", byteOffset := 264 } rfl; dsimp only at h; rw [ka] at h; exact h
 obtain ⟨z0, rfl, _⟩ := intc_of_trod f0
 obtain ⟨z1, rfl, _⟩ := intc_of_trod f1
 obtain ⟨z2, rfl, _⟩ := intc_of_trod f2
 obtain ⟨z3, rfl, _⟩ := intc_of_trod f3
 obtain ⟨z4, rfl, _⟩ := intc_of_trod f4
 obtain ⟨z5, rfl, _⟩ := intc_of_trod f5
 obtain ⟨z6, rfl, _⟩ := intc_of_trod f6
 obtain ⟨z7, rfl, _⟩ := intc_of_trod f7
 obtain ⟨L, A, len, cap, eL, hR, h1, h2, hj, h3⟩ := lgk_of_cells f8
 obtain ⟨sn, rfl⟩ := textc_of_trod f9
 obtain ⟨vs, rfl, hv⟩ := setc_of_trod f10
 obtain ⟨he, rfl, hh⟩ := setc_of_trod f11
 obtain ⟨nx, e1⟩ := a10_of_cells f12
 obtain ⟨mt, e2⟩ := a10_of_cells f13
 refine ⟨⟨z0, z1, z2, z3, z4, z5, z6, z7, L, sn, vs, he, nx, mt⟩, A, len, cap, ?_, hR, h1, h2, hj, h3, hv, hh⟩
 show _ = .int .i64 z0 :: .int .i64 z1 :: .int .i64 z2 :: .int .i64 z3 :: .int .i64 z4 :: .int .i64 z5 :: .int .i64 z6 :: .int .i64 z7 :: (lgC L (.slice A len cap) ++ (.string sn :: .int .u16 (vs : Int) :: .int .u16 (he : Int) :: (a10C nx ++ a10C mt)))
 rw [← eL, ← e1, ← e2]; rfl
theorem crk_of_trod {H : Type} {enc : TypeId × Value → H} {W : World} {cs : Array Value} {d : DataW H} {p : List MemPlace} (h : DataW.Trod enc Tryz.prog W 0 (fun _ => true) true 33 (.agg cs) d p) : ∃ (c : CoL) (A : Option Addr) (len cap : Nat), Value.agg cs = crV c (.slice A len cap) ∧ RdE W W.heap.size A len c.lg.es ∧ len ≤ cap ∧ cap ≤ maxLen ∧ c.lg.j.ok ∧ (∀ x ∈ c.lg.es, x.j.ok) ∧ c.vs < 65536 ∧ c.he < 65536 := by
 obtain ⟨fuel, hf⟩ := h
 simp only [Value.cells] at hf
 obtain ⟨c, A, len, cap, h1, h2⟩ := crk_of_cells hf
 refine ⟨c, A, len, cap, ?_, h2⟩
 unfold crV
 congr 1
 apply Array.toList_inj.1; rw [h1]
end Go.Proofs.YtegnfkbmlalkeaaGreat.frame
