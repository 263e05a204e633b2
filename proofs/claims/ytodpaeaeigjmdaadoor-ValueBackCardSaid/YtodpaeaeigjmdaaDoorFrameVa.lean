/- How values of rows that come in read, in the words of the kit. No condition. -/
import Derived.Test.YtodpaeaeigjmdaaDoorFrameV
import Derived.Test.YtodpaeaeigjmdaaDoorRef7
import Derived.Test.YtodpaeaeigjmdaaDoorKitV
namespace Go.Proofs.YtodpaeaeigjmdaaDoor.frame
open Go.ChangeShapes Go.WideShapes Go.ChangeAt Go.RowKit Go.Proofs.YtodpaeaeigjmdaaDoor.kit Go.Proofs.YtodpaeaeigjmdaaDoor.nums Go.Proofs.YtodpaeaeigjmdaaDoor.st Go.Proofs.YtodpaeaeigjmdaaDoor.va Go.Proofs.YtodpaeaeigjmdaaDoor.ref7
set_option linter.unusedVariables false

theorem int_of_trod {H : Type} {enc : TypeId × Value → H} {W : World} {n : Nat} {t : TypeId} {v : Value} {y : DataW H × List MemPlace} (ht : Tryd.prog.underlying t = some (.int .i64))
    (h : DataW.trod enc Tryd.prog W 0 (fun _ => true) true n t [v] = some y) : ∃ z, v = .int .i64 z ∧ I64 z := by
  obtain ⟨z, h1, _, hw⟩ := DataW.trod_int ht h
  simp at h1
  exact ⟨z, h1, by unfold I64; simpa [Lit.wf, IntKind.min, IntKind.max, IntKind.signed, IntKind.bits] using hw⟩
/-- Every text is one of bytes. -/
theorem bytes_of (T : ByteArray) : ∃ s : List Int, T = strOfNums s ∧ Byt s := by
  refine ⟨T.data.toList.map (fun u => (u.toNat : Int)), ?_, fun x hx => ?_⟩
  · apply ByteArray.ext
    apply Array.ext'
    simp [strOfNums, Function.comp_def]
  · obtain ⟨u, _, rfl⟩ := List.mem_map.1 hx
    have := u.toNat_lt
    omega
theorem three_of {α : Type} (l : List α) (h : l.length = 3) : ∃ a b c, l = [a, b, c] := by
  match l, h with
  | [a, b, c], _ => exact ⟨a, b, c, rfl⟩
theorem va_of_trod {H : Type} {enc : TypeId × Value → H} {W : World} {cs : Array Value} {d : DataW H} {p : List MemPlace}
    (h : DataW.Trod enc Tryd.prog W 0 (fun _ => true) true 24 (.agg cs) d p) : ∃ a : VaL, cs = #[.int .i64 a.kind, .int .i64 a.n, .string (strOfNums a.s)] ∧ a.ok ∧ (a.s.length : Int) ≤ 9223372036854775807 := by
  obtain ⟨fuel, hf⟩ := h
  simp only [Value.cells] at hf
  obtain ⟨xs, m, _, _, hl, hxl, hF⟩ := DataW.trod_struct Tryd.underlying24 hf
  have hc : Tryd.prog.cellsOf 24 = 3 := by kernel_rfl
  have k : Tryd.prog.cellsOf 2 = 1 := by kernel_rfl
  have ki : Tryd.prog.cellsOf 3 = 1 := by kernel_rfl
  have ks : Tryd.prog.cellsOf 9 = 1 := by kernel_rfl
  rw [hc] at hl
  obtain ⟨c0, c1, c2, hcs⟩ := three_of cs.toList hl
  obtain ⟨y0, y1, y2, rfl⟩ := three_of xs hxl
  rw [hcs] at hF
  have f0 : DataW.trod enc Tryd.prog W 0 (fun _ => true) true m 3 [c0] = some y0 := by have h := hF 0 { name := "Kind", type := 3, offset := 0, embedded := false, tag := "", pkgPath := "", byteOffset := 0 } rfl; dsimp only at h; rw [ki] at h; exact h
  have f1 : DataW.trod enc Tryd.prog W 0 (fun _ => true) true m 2 [c1] = some y1 := by have h := hF 1 { name := "N", type := 2, offset := 1, embedded := false, tag := "", pkgPath := "", byteOffset := 8 } rfl; dsimp only at h; rw [k] at h; exact h
  have f2 : DataW.trod enc Tryd.prog W 0 (fun _ => true) true m 9 [c2] = some y2 := by have h := hF 2 { name := "S", type := 9, offset := 2, embedded := false, tag := "", pkgPath := "", byteOffset := 16 } rfl; dsimp only at h; rw [ks] at h; exact h
  obtain ⟨z0, rfl, i0⟩ := int_of_trod Tryd.underlying3 f0
  obtain ⟨z1, rfl, i1⟩ := int_of_trod Tryd.underlying2 f1
  obtain ⟨T, h2, _, hsz⟩ := DataW.trod_string Tryd.underlying9 f2
  simp at h2
  subst h2
  obtain ⟨s, rfl, hY⟩ := bytes_of T
  rw [strOfNums_size] at hsz
  unfold maxLen at hsz
  exact ⟨⟨z0, z1, s⟩, by apply Array.toList_inj.1; rw [hcs], ⟨i0, i1, hY⟩, by dsimp only; omega⟩
end Go.Proofs.YtodpaeaeigjmdaaDoor.frame
