/- How a slice of ints, and a slice of slices of bytes, that comes in reads, in the words of the kit. No condition. -/
import Derived.Test.YtcjaffdjhbhhaaaFrame
import Derived.Test.YtcjaffdjhbhhaaaKitV
namespace Go.Proofs.Ytcjaffdjhbhhaaa.frame
open Go.ChangeShapes Go.WideShapes Go.ChangeAt Go.RowKit Go.Proofs.Ytcjaffdjhbhhaaa.kit Go.Proofs.Ytcjaffdjhbhhaaa.nums

theorem gather {α : Type} {P : Nat → α → Prop} : ∀ n : Nat, (∀ i, i < n → ∃ x, P i x) → ∃ L : List α, L.length = n ∧ ∀ i x, L[i]? = some x → P i x
  | 0, _ => ⟨[], rfl, fun i x h => by simp at h⟩
  | n + 1, h => by
    obtain ⟨L, hl, hL⟩ := gather n (fun i hi => h i (by omega))
    obtain ⟨x, hx⟩ := h n (by omega)
    refine ⟨L ++ [x], by simp [hl], fun i y hy => ?_⟩
    by_cases hi : i < n
    · rw [List.getElem?_append_left (by omega)] at hy; exact hL i y hy
    · have hi2 : i < (L ++ [x]).length := (List.getElem?_eq_some_iff.1 hy).1
      simp [hl] at hi2
      obtain rfl : i = n := by omega
      rw [List.getElem?_append_right (by omega), hl, Nat.sub_self] at hy
      simp at hy
      subst hy; exact hx

theorem rdi_of_trod {H : Type} {enc : TypeId × Value → H} {W : World} {A : Option Addr} {len cap : Nat} {d : DataW H} {p : List MemPlace}
    (h : DataW.Trod enc Try.prog W 0 (fun _ => true) true 37 (.slice A len cap) d p) : ∃ zs : List Int, RdV W W.heap.size A len (zs.map (Value.int .i64)) ∧ (∀ z ∈ zs, -9223372036854775808 ≤ z ∧ z ≤ 9223372036854775807) ∧ len ≤ cap ∧ cap ≤ maxLen := by
  obtain ⟨fuel, hf⟩ := h
  rcases open_ints Try.underlying37 Try.underlying3 (by kernel_rfl) hf with ⟨hcs, _⟩ | ⟨x, l, c, zs, hcs, _, hl, hm, hz, _, hcell, hwz⟩
  · simp [Value.cells] at hcs
    obtain ⟨rfl, rfl, rfl⟩ := hcs
    exact ⟨[], RdV.nil _ _ _, fun z hz => (by cases hz), Nat.le_refl _, by unfold maxLen; omega⟩
  · simp [Value.cells] at hcs
    obtain ⟨rfl, rfl, rfl⟩ := hcs
    have hz' : zs.length = cap := by simpa using hz
    refine ⟨zs.take len, ⟨by rw [List.length_map, List.length_take]; omega, fun hp => ?_⟩, fun n hn => ?_, hl, hm⟩
    · have h0 := hcell 0 (by omega)
      obtain ⟨b, o, spot⟩ := x
      have hspot : spot = none := by simpa [Addr.add] using World.cell?_spot h0
      subst hspot
      refine ⟨b, o, rfl, World.block_lt_of_cell? W (a := ⟨b, o, none⟩) (u := .int .i64 (zs.getD 0 0)) (by simpa [Addr.add] using h0), fun j hj => ?_⟩
      have hj' := hcell j (by omega)
      rw [Addr.add_lit] at hj'
      rw [hj', List.getElem?_map, List.getElem?_take, if_pos hj]
      simp [List.getD, show j < zs.length by omega]
    · have := hwz n (List.mem_of_mem_take hn)
      simpa [Lit.wf, IntKind.min, IntKind.max, IntKind.signed, IntKind.bits] using this

theorem sl_of_trod {H : Type} {enc : TypeId × Value → H} {W : World} {v : Value} {n : Nat} {y : DataW H × List MemPlace}
    (h : DataW.trod enc Try.prog W 0 (fun _ => true) true n 22 [v] = some y) : ∃ l, Sl W W.heap.size v l ∧ Byt l := by
  have key : ∀ (A : Option Addr) (len cap : Nat), v = .slice A len cap → ∃ l, Sl W W.heap.size v l ∧ Byt l := fun A len cap e => by
    subst e
    obtain ⟨l, hR, hY, h1, h2⟩ := rd_of_trod (d := y.1) (p := y.2) (A := A) (len := len) (cap := cap) ⟨n, h⟩
    obtain rfl : len = l.length := hR.len.symm
    exact ⟨l, ⟨A, cap, rfl, h1, h2, hR⟩, hY⟩
  rcases open_ints Try.underlying22 Try.underlying5 (by kernel_rfl) h with ⟨hcs, _⟩ | ⟨x, l, c, zs, hcs, _⟩
  · simp at hcs; exact key _ _ _ hcs
  · simp at hcs; exact key _ _ _ hcs

theorem rds_of_trod {H : Type} {enc : TypeId × Value → H} {W : World} {A : Option Addr} {len cap : Nat} {d : DataW H} {p : List MemPlace}
    (h : DataW.Trod enc Try.prog W 0 (fun _ => true) true 32 (.slice A len cap) d p) : ∃ L : List (List Int), RdS W W.heap.size A len L ∧ (∀ l ∈ L, Byt l) ∧ len ≤ cap ∧ cap ≤ maxLen := by
  obtain ⟨fuel, hf⟩ := h
  rcases DataW.trod_slice Try.underlying32 hf with ⟨hcs, _⟩ | ⟨a, l, c, elems, rest, n, _, hcs, _, _, hl, hm, hlen, hel, _⟩
  · simp [Value.cells] at hcs
    obtain ⟨rfl, rfl, rfl⟩ := hcs
    exact ⟨[], RdS.nil _ _ _, fun z hz => (by cases hz), Nat.le_refl _, by unfold maxLen; omega⟩
  · simp [Value.cells] at hcs
    obtain ⟨rfl, rfl, rfl⟩ := hcs
    have hc : Try.prog.cellsOf 22 = 1 := by kernel_rfl
    have each : ∀ i, i < len → ∃ x : Value × List Int, W.cell? (a.add i) = some x.1 ∧ Sl W W.heap.size x.1 x.2 ∧ Byt x.2 := fun i hi => by
      have hE := hel i hi
      rw [hc, Nat.mul_one] at hE
      have hy : elems[i]? = some elems[i] := List.getElem?_eq_getElem (by omega)
      rw [hy, Option.bind_eq_some_iff] at hE
      obtain ⟨c1, hc1, hy1⟩ := hE
      obtain ⟨v, rfl⟩ : ∃ v, c1 = [v] := by
        have h1 : c1.length = 1 := (World.cells?_some hc1).2.1
        exact List.length_eq_one_iff.1 h1
      obtain ⟨m, h1, h2⟩ := sl_of_trod hy1
      exact ⟨(v, m), cell_of_cells?_one hc1, h1, h2⟩
    obtain ⟨L, hL, hP⟩ := gather len each
    refine ⟨L.map Prod.snd, ⟨L.map Prod.fst, ⟨by simp [hL], fun hp => ?_⟩, by simp [hL], fun j x m hx hm => ?_⟩, fun m hm => ?_, hl, hm⟩
    · obtain ⟨v0, h0, _⟩ := each 0 hp
      obtain ⟨b, o, spot⟩ := a
      have hspot : spot = none := by simpa [Addr.add] using World.cell?_spot h0
      subst hspot
      refine ⟨b, o, rfl, World.block_lt_of_cell? W (a := ⟨b, o, none⟩) (u := v0.1) (by simpa [Addr.add] using h0), fun j hj => ?_⟩
      have hx : L[j]? = some L[j] := List.getElem?_eq_getElem (by omega)
      have hj' := (hP j _ hx).1
      rw [Addr.add_lit] at hj'
      rw [hj', List.getElem?_map, hx]; rfl
    · rw [List.getElem?_map] at hx hm
      cases hy : L[j]? with
      | none => rw [hy] at hx; cases hx
      | some y =>
        rw [hy] at hx hm
        simp at hx hm
        subst hx; subst hm
        exact (hP j y hy).2.1
    · obtain ⟨y, hy, rfl⟩ := List.mem_map.1 hm
      obtain ⟨j, hj⟩ := List.getElem?_of_mem hy
      exact (hP j y hj).2.2
end Go.Proofs.Ytcjaffdjhbhhaaa.frame
